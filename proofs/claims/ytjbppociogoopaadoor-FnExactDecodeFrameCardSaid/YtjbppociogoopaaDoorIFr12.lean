/-
  What impl.DecodeFrame returns, at a byte.
-/
import Derived.Test.YtjbppociogoopaaDoorIFr11
namespace Go.Proofs.YtjbppociogoopaaDoor
open Go.RowKit Go.Deep Go.Proofs.YtjbppociogoopaaDoor.Num

set_option maxRecDepth 100000 in
set_option maxHeartbeats 600000 in
/-- impl.DecodeFrame, at a byte -/
theorem idecf_at (s : ByteArray) (a : Nat) (w : World) (hs : s.size ≤ 1048576) (ha : a < s.size) (hF : Forms w) :
    Calls Tryd.prog 13 #[.string s, .int .i64 a] w (FrP a (decF (s.data.toList.drop a)) w) := by
  have h3 : s.data.toList.length = s.size := by simp
  have hd : decide ((a : Int) < 0) = false := decide_eq_false (by omega)
  have hd2 : decide ((s.size : Int) ≤ (a : Int)) = false := decide_eq_false (by omega)
  have hcl : s[a].toNat < 256 := s[a].toNat_lt
  have HE := Lib.hid (decF_fields s.data.toList a s[a] (s.data.toList.drop (a + 1)) (drop_at s a ha))
  have HKD := Lib.hid (fun W => ikind s[a].toNat hcl W)
  have HCL := Lib.hid hcl
  clear hcl
  have HL := Lib.hid (fieldsK_len (kinT s[a].toNat))
  have HIN := Lib.hid (fieldsK_in (kinT s[a].toNat))
  have HK := Lib.hid (iflds (kinT s[a].toNat))
  have HRF : Hid (∀ (g : Nat) (F : Fr) (p : Nat) (W : World), Forms W → p ≤ s.size → BoxF W g F → ∀ i, 0 ≤ i ∧ i ≤ 7 → Calls Tryd.prog 50 #[.pointer (some ⟨g, 0, none⟩), .int .i64 i, .int .u8 (s[a].toNat : Int), .string s, .int .i64 p] W (RdW (rdK s[a].toNat s.data.toList i F p) g W)) := Lib.hid fun g F p W h1 h2 h3 i hi => irf g F s[a].toNat HCL.out s p W h1 hs h2 h3 i hi
  have HF := Lib.hid hF
  obtain ⟨a1, ha1⟩ : ∃ a1, a + 1 = a1 := ⟨_, rfl⟩
  have wr1 : wrap64 ((a : Int) + 1) = (a1 : Int) := by unfold wrap64; omega
  have h1s : a1 ≤ s.size := by omega
  have HA := Lib.hid ha1
  rw [ha1] at HE
  have H0 := Lib.hid (HeldS.start w { fr0 with kind := kinT s[a].toNat })
  clear hF ha1
  go_enter Tryd.func13, Tryd.ntmps13
  go_wp2_with fail
  refine (HKD.out _).mono ?_
  rintro e w0 ⟨rfl, rfl⟩
  generalize s[a].toNat = c at *
  generalize kinT c = k at *
  go_upto_region 6 with fail
  clear wr1
  go_wp2_with fail
  refine (HK.out _).mono ?_
  rintro e w2 ⟨⟨A, cap, rfl, hfl⟩, hb2⟩
  have H2 := Lib.hid (H0.out.next hb2)
  obtain ⟨K, hgK, hfl2⟩ : ∃ K, w.heap.size + 1 < K ∧ Flds w2 K A (fieldsK k) := ⟨_, H0.out.2.1.lt, hfl⟩
  have HFL := Lib.hid hfl2
  clear hfl hfl2 hb2 H0 HK HKD
  generalize fieldsK k = L at *
  have hlen := HL.out
  go_wp2
  go_loopw [35, 9] (fun x n wr => ∃ (j p : Nat) (F : Fr), j ≤ L.length ∧ x = .int .i64 j ∧ n = .int .i64 p ∧ a1 ≤ p ∧ p ≤ s.size ∧ HeldS w w.heap.size (w.heap.size + 1) F wr ∧ Flds wr K A L ∧ rdAll c s.data.toList L { fr0 with kind := k } a1 = rdAll c s.data.toList (L.drop j) F p) (fun x _ _ => L.length - (intOf x).toNat)
  case atStart => exact ⟨0, a1, _, Nat.zero_le _, rfl, by rw [← HA.out]; go_num, Nat.le_refl _, h1s, H2.out, HFL.out, by rw [List.drop_zero]⟩
  case round =>
    obtain ⟨j, p, F, hj, rfl, rfl, hpa, hps, hh, hfl, hrd⟩ := hrel
    have H := Lib.hid hh
    have HL1 := Lib.hid hfl
    have HR := Lib.hid hrd
    clear hh hfl hrd H2 HFL
    by_cases hlt : j < L.length
    · obtain ⟨g, rfl, _, _, hc⟩ := HL1.out.nums j hlt
      have hx := HIN.out L[j] (List.getElem_mem hlt)
      have HD : Hid (rdAll c s.data.toList (L.drop j) F p = match rdK c s.data.toList L[j] F p with | none => none | some (g', p') => rdAll c s.data.toList (L.drop (j + 1)) g' p') := Lib.hid (by rw [List.drop_eq_getElem_cons hlt]; rfl)
      generalize L[j] = y at *
      have HC := Lib.hid (HRF.out (w.heap.size + 1) F p wr (HF.out.keep (Nat.le_refl _) H.out.2.2.1) hps H.out.2.1 y hx)
      clear hx
      cases hq : rdK c s.data.toList y F p with
      | none =>
        have HN : Hid (decF (s.data.toList.drop a) = none) := Lib.hid (by rw [HE.out, HR.out, HD.out, hq])
        rw [hq] at HC
        clear hq HD HE
        go_wp2_with fail
        refine HC.out.mono ?_
        rintro e w3 ⟨⟨n, rfl⟩, hg3⟩
        have hne := H.out.ne
        have HZ : Hid (BoxF w3 w.heap.size fr0) := Lib.hid ((hg3.block _ H.out.1.lt (fun e => hne (Option.some.inj e).symm)).trans H.out.1)
        have HB3 : Hid (Below w.heap.size w w3) := Lib.hid (H.out.2.2.1.grown hg3 H.out.2.2.1.size (fun i hi => by have := Option.some.inj hi; omega))
        obtain ⟨r0, r1, r2, r3, r4, r5, r6, r7, r8⟩ := HZ.out.cells
        have rz := HZ.out.free
        clear hg3 hc hne
        go_wp2
        (try simp only [Exit.inBlock, Exit.then])
        refine bodyPost_ret (results_frame rfl _ _ w.heap.size _ _ _ _ rfl (HZ.out.all fr0) Tryd.underlying25 rfl (by kernel_rfl)) rfl ?_
        exact ⟨by rw [HN.out]; rfl, setAll_below HB3.out (Nat.le_refl _) fr0⟩
      | some Fp =>
        obtain ⟨F', p'⟩ := Fp
        have hpp := rdK_place hq (by rw [h3]; exact hps)
        rw [h3] at hpp
        have HR2 : Hid (rdAll c s.data.toList L { fr0 with kind := k } a1 = rdAll c s.data.toList (L.drop (j + 1)) F' p') := Lib.hid (by rw [HR.out, HD.out, hq])
        rw [hq] at HC
        clear hq HD
        go_wp2_with fail
        refine HC.out.mono ?_
        rintro e w3 ⟨⟨rfl, hb3⟩, hg3⟩
        have H3 := Lib.hid (H.out.read hg3 hb3)
        have HL3 := Lib.hid (HL1.out.read hg3 hgK)
        clear hg3 hb3 hc
        go_wp2
        go_roundw
        case rel => exact ⟨j + 1, p', F', by omega, by go_num, rfl, by omega, hpp.2, H3.out, HL3.out, HR2.out⟩
        case measure => simp [intOf]; omega
    · obtain rfl : j = L.length := by omega
      have HR2 : Hid (rdAll c s.data.toList L { fr0 with kind := k } a1 = some (F, p)) := Lib.hid (by rw [HR.out, List.drop_length]; rfl)
      have HI := Lib.hid (iisf F)
      obtain ⟨q0, q1, q2, q3, q4, q5, q6, q7, q8⟩ := H.out.2.1.cells
      by_cases hok : okF F
      · have HN : Hid (decF (s.data.toList.drop a) = some (F, p - a)) := Lib.hid (by rw [HE.out, HR2.out]; simp only; rw [if_pos hok])
        rw [decide_eq_true hok] at HI
        clear hok HE HR HR2
        go_wp2_with fail
        refine (HI.out _).mono ?_
        rintro e w3 ⟨rfl, hb3⟩
        have H3 := Lib.hid (H.out.next hb3)
        clear hb3 q0 q1 q2 q3 q4 q5 q6 q7 q8
        obtain ⟨q0, q1, q2, q3, q4, q5, q6, q7, q8⟩ := H3.out.2.1.cells
        obtain ⟨r0, r1, r2, r3, r4, r5, r6, r7, r8⟩ := H3.out.1.cells
        have rz := H3.out.1.free
        go_wp2
        refine bodyPost_ret (results_frame rfl _ _ w.heap.size _ _ _ _ rfl (H3.out.1.all F) Tryd.underlying25 rfl (by kernel_rfl)) rfl ?_
        refine ⟨?_, setAll_below H3.out.2.2.1 (Nat.le_refl _) F⟩
        rw [HN.out]
        show _ = Ending.returned (.tuple #[frV F, .int .i64 ((a + (p - a) : Nat) : Int), .bool true])
        rw [show a + (p - a) = p by have h := HA.out; omega]
        rfl
      · have HN : Hid (decF (s.data.toList.drop a) = none) := Lib.hid (by rw [HE.out, HR2.out]; simp only; rw [if_neg hok])
        rw [decide_eq_false hok] at HI
        clear hok HE HR HR2
        go_wp2_with fail
        refine (HI.out _).mono ?_
        rintro e w3 ⟨rfl, hb3⟩
        have H3 := Lib.hid (H.out.next hb3)
        clear hb3 q0 q1 q2 q3 q4 q5 q6 q7 q8
        obtain ⟨r0, r1, r2, r3, r4, r5, r6, r7, r8⟩ := H3.out.1.cells
        have rz := H3.out.1.free
        go_wp2
        refine bodyPost_ret (results_frame rfl _ _ w.heap.size _ _ _ _ rfl (H3.out.1.all fr0) Tryd.underlying25 rfl (by kernel_rfl)) rfl ?_
        exact ⟨by rw [HN.out]; rfl, setAll_below H3.out.2.2.1 (Nat.le_refl _) fr0⟩
end Go.Proofs.YtjbppociogoopaaDoor
