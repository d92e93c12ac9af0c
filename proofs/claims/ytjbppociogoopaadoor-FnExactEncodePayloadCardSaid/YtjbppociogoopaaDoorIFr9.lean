/-
  What impl.EncodeFrame and impl.FrameSize return.
-/
import Derived.Test.YtjbppociogoopaaDoorIFr8
import Derived.Test.YtjbppociogoopaaDoorBuildK
import Derived.Deep.DeepCutAuto
import Derived.Test.YtjbppociogoopaaDoorFrN3
namespace Go.Proofs.YtjbppociogoopaaDoor
open Go.RowKit Go.Deep Go.Proofs.YtjbppociogoopaaDoor.Num

theorem wrK_len (f : Fr) (i : Int) (hs : f.data.size ≤ 400) : (wrK f i).length ≤ 408 := by
  have hq : ∀ n, (encQ n).length ≤ 8 := fun n => by rw [encQ_len]; rcases qsz_cases n with h | h | h | h | h <;> omega
  unfold wrK
  have h1 := hq f.stream
  have h2 := hq f.offset
  have h3 := hq f.code
  have h4 := hq f.limit
  have h5 := hq f.final
  have h6 := hq (f.data.size : Int)
  have h7 : f.data.data.toList.length = f.data.size := by simp
  repeat' split
  all_goals first | omega | (simp only [List.length_append, List.length_nil]; omega)
theorem wrKs_len (f : Fr) (hs : f.data.size ≤ 400) (l : List Int) : (l.flatMap (wrK f)).length ≤ 408 * l.length := by
  induction l with
  | nil => simp
  | cons i l ih =>
    rw [List.flatMap_cons, List.length_append, List.length_cons]
    have := wrK_len f i hs
    omega
/-- The frame's block, a builder, and all that was there. -/
def HeldE (w : World) (f : Fr) (b : Nat) (W : World) (l : List UInt8) : Prop := BoxF W w.heap.size f ∧ Below w.heap.size w W ∧ w.heap.size < b ∧ b < W.heap.size ∧ Builds W b b l
theorem HeldE.start {w W : World} {f : Fr} (h : HeldI w f W) : HeldE w f W.heap.size (W.alloc (.cells #[.pointer none, .slice none 0 0] 60)) [] :=
  ⟨h.1.alloc _, h.2.alloc h.2.size _, h.1.lt, by simp, Builds.fresh W⟩
theorem HeldE.next {w W W1 : World} {f : Fr} {b : Nat} {l : List UInt8} (h : HeldE w f b W l) (hb : Below W.heap.size W W1) : HeldE w f b W1 l :=
  ⟨h.1.below hb h.1.lt, h.2.1.trans (hb.mono h.2.1.size), h.2.2.1, Nat.lt_of_lt_of_le h.2.2.2.1 hb.size, h.2.2.2.2.later hb⟩
theorem HeldE.write {w W W1 : World} {f : Fr} {b : Nat} {l l' : List UInt8} (h : HeldE w f b W l) (hb : Below b W W1) (hl : Builds W1 b b l') : HeldE w f b W1 l' :=
  ⟨h.1.below hb h.2.2.1, h.2.1.trans (hb.mono (Nat.le_of_lt h.2.2.1)), h.2.2.1, Nat.lt_of_lt_of_le h.2.2.2.1 hb.size, hl⟩

set_option maxRecDepth 100000 in
/-- impl.EncodeFrame, of no frame -/
theorem iencf_no (f : Fr) (w : World) (hok : ¬ okF f) :
    Calls Tryd.prog 12 #[frV f] w fun e w' => e = .returned (.string ⟨(encF f).toArray⟩) ∧ Below w.heap.size w w' := by
  have HI := Lib.hid (iisf f)
  rw [decide_eq_false hok] at HI
  rw [encF_no f hok]
  have H0 := Lib.hid (HeldI.start w f)
  obtain ⟨q0, q1, q2, q3, q4, q5, q6, q7, q8⟩ := H0.out.1.cells
  clear hok
  go_enter Tryd.func12, Tryd.ntmps12
  go_wp2_with fail
  refine (HI.out _).mono ?_
  rintro e w1 ⟨rfl, hb1⟩
  have H1 := Lib.hid (H0.out.next hb1)
  clear hb1
  go_wp2
  go_ret
  exact ⟨rfl, H1.out.2⟩

set_option maxRecDepth 100000 in
set_option maxHeartbeats 1000000 in
/-- impl.EncodeFrame, of a frame -/
theorem iencf_yes (f : Fr) (w : World) (hok : okF f) (hF : Forms w) :
    Calls Tryd.prog 12 #[frV f] w fun e w' => e = .returned (.string ⟨(encF f).toArray⟩) ∧ Below w.heap.size w w' := by
  have HI := Lib.hid (iisf f)
  rw [decide_eq_true hok] at HI
  have HE := Lib.hid (encF_fields f hok)
  have HT := Lib.hid (fun W => itype f W hok)
  obtain ⟨c, hc⟩ : ∃ c, UInt8.ofNat (typF f).toNat = c := ⟨_, rfl⟩
  have hty : typF f = (c.toNat : Int) := by
    have h := typF_in f hok.1
    rw [← hc, UInt8.toNat_ofNat']
    omega
  rw [hc] at HE
  rw [hty] at HT
  have hds : f.data.size ≤ 400 := hok.2.2.2.2.2.2.2.1
  have HWL := Lib.hid (wrKs_len f hds)
  have HW1 := Lib.hid (fun i => wrK_len f i hds)
  have HWR : Hid (∀ i, 0 ≤ i ∧ i ≤ 7 → ∀ W, Forms W → Calls Tryd.prog 47 #[frV f, .int .i64 i] W fun e w' => e = .returned (.string ⟨(wrK f i).toArray⟩) ∧ Below W.heap.size W w') := Lib.hid fun i hi W h => iwr f i W hi h hds
  have HF := Lib.hid hF
  have HK := Lib.hid (iflds f.kind)
  have hlen := fieldsK_len f.kind
  have HIN := Lib.hid (fieldsK_in f.kind)
  have H0 := Lib.hid (HeldI.start w f)
  obtain ⟨q0, q1, q2, q3, q4, q5, q6, q7, q8⟩ := H0.out.1.cells
  clear hok hF hc hty
  go_enter Tryd.func12, Tryd.ntmps12
  go_wp2_with fail
  refine (HI.out _).mono ?_
  rintro e w1 ⟨rfl, hb1⟩
  have H1 := Lib.hid (HeldE.start (H0.out.next hb1))
  clear hb1 q0 q1 q2 q3 q4 q5 q6 q7 q8 HI H0
  obtain ⟨q0, q1, q2, q3, q4, q5, q6, q7, q8⟩ := H1.out.1.cells
  go_upto_region 4 with fail
  generalize w1.heap.size = b at *
  generalize w1.alloc (.cells #[.pointer none, .slice none 0 0] 60) = w2 at *
  go_wp2_with fail
  refine (HT.out _).mono ?_
  rintro e w3 ⟨rfl, hb3⟩
  have H3 := Lib.hid (H1.out.next hb3)
  clear hb3 q0 q1 q2 q3 q4 q5 q6 q7 q8 HT H1
  go_wp2_with fail
  refine (bbyteK b b [] c w3 H3.out.2.2.2.2 (by decide) (Nat.le_of_lt H3.out.2.2.2.1)).mono ?_
  rintro e w4 ⟨⟨v4, rfl⟩, hl4, hb4, _⟩
  have H4 := Lib.hid (H3.out.write hb4 hl4)
  clear hb4 hl4 H3
  obtain ⟨q0, q1, q2, q3, q4, q5, q6, q7, q8⟩ := H4.out.1.cells
  go_wp2_with fail
  refine (HK.out _).mono ?_
  rintro e w5 ⟨⟨A, cap, rfl, hfl⟩, hb5⟩
  have H5 := Lib.hid (H4.out.next hb5)
  have HL5 := Lib.hid hfl
  have hbK : b < w4.heap.size := H4.out.2.2.2.1
  clear hb5 hfl q0 q1 q2 q3 q4 q5 q6 q7 q8 H4 HK
  generalize w4.heap.size = K at *
  generalize fieldsK f.kind = L at *
  go_wp2
  go_loopw [16] (fun x wr => ∃ j : Nat, j ≤ L.length ∧ x = .int .i64 j ∧ HeldE w f b wr (c :: (L.take j).flatMap (wrK f)) ∧ Flds wr K A L) (fun x _ => L.length - (intOf x).toNat)
  case atStart => exact ⟨0, Nat.zero_le _, rfl, H5.out, HL5.out⟩
  case round =>
    obtain ⟨j, hj, rfl, hh, hfl⟩ := hrel
    have H := Lib.hid hh
    have HL := Lib.hid hfl
    clear hh hfl H5 HL5
    by_cases hlt : j < L.length
    · obtain ⟨g, rfl, _, _, hc⟩ := HL.out.nums j hlt
      obtain ⟨q0, q1, q2, q3, q4, q5, q6, q7, q8⟩ := H.out.1.cells
      have hx := HIN.out L[j] (List.getElem_mem hlt)
      have HTK : Hid ((L.take (j + 1)).flatMap (wrK f) = (L.take j).flatMap (wrK f) ++ wrK f L[j]) := Lib.hid (by
        rw [List.take_succ_eq_append_getElem hlt, List.flatMap_append, List.flatMap_cons, List.flatMap_nil, List.append_nil])
      have hl1 := HWL.out (L.take j)
      have hl2 : (L.take j).length ≤ 4 := Nat.le_trans (List.length_take_le' _ _) hlen
      generalize L[j] = y at *
      have HC := Lib.hid (HWR.out y hx wr (HF.out.keep (Nat.le_refl _) H.out.2.1))
      have hl3 := HW1.out y
      clear hx
      generalize (L.take j).flatMap (wrK f) = acc at *
      generalize wrK f y = part at *
      go_wp2_with fail
      refine HC.out.mono ?_
      rintro e w6 ⟨rfl, hb6⟩
      have H6 := Lib.hid (H.out.next hb6)
      have HL6 := Lib.hid (HL.out.below hb6)
      clear hb6 q0 q1 q2 q3 q4 q5 q6 q7 q8 hc
      go_wp2_with fail
      refine (bwriteK b b (c :: acc) part w6 H6.out.2.2.2.2 (by simp only [List.length_cons]; omega) (Nat.le_of_lt H6.out.2.2.2.1)).mono ?_
      rintro e w7 ⟨⟨v7, rfl⟩, hl7, hb7, hs7⟩
      have H7 := Lib.hid (H6.out.write hb7 hl7)
      have HL7 := Lib.hid (HL6.out.kept hb7.size fun k hK hk hn => hs7 k hk (by omega) hn)
      clear hb7 hl7 hs7
      go_wp2
      go_roundw
      case rel => exact ⟨j + 1, by omega, by go_num, by rw [HTK.out]; exact H7.out, HL7.out⟩
      case measure => simp [intOf]; omega
    · obtain rfl : j = L.length := by omega
      go_wp2_with fail
      refine (bstring b b _ wr H.out.2.2.2.2 (Nat.le_of_lt H.out.2.2.2.1)).mono ?_
      rintro e w6 ⟨rfl, hb6⟩
      have HB := Lib.hid (H.out.2.1.trans (hb6.mono (Nat.le_of_lt H.out.2.2.1)))
      clear hb6
      go_wp2
      go_ret
      exact ⟨by rw [HE.out]; rfl, HB.out⟩
/-- impl.EncodeFrame -/
theorem iencf (f : Fr) (w : World) (hF : Forms w) :
    Calls Tryd.prog 12 #[frV f] w fun e w' => e = .returned (.string ⟨(encF f).toArray⟩) ∧ Below w.heap.size w w' := by
  by_cases hok : okF f
  · exact iencf_yes f w hok hF
  · exact iencf_no f w hok
/-- impl.FrameSize -/
theorem ifsize (f : Fr) (w : World) (hF : Forms w) :
    Calls Tryd.prog 17 #[frV f] w fun e w' => e = .returned (.int .i64 (encF f).length) ∧ Below w.heap.size w w' := by
  have HE := Lib.hid (iencf f _ (hF.alloc (.cells (frC f) 25)))
  have H0 := Lib.hid (HeldI.start w f)
  obtain ⟨q0, q1, q2, q3, q4, q5, q6, q7, q8⟩ := H0.out.1.cells
  clear hF
  go_enter Tryd.func17, Tryd.ntmps17
  go_wp2_with fail
  refine HE.out.mono ?_
  rintro e w1 ⟨rfl, hb1⟩
  have H1 := Lib.hid (H0.out.next hb1)
  clear hb1
  go_wp2
  go_ret
  exact ⟨rfl, H1.out.2⟩
end Go.Proofs.YtjbppociogoopaaDoor
