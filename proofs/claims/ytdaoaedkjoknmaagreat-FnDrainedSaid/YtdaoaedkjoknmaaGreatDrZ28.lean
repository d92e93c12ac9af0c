/-
  Contracts and lemmas for the law on draining.
-/
import Derived.Test.YtdaoaedkjoknmaaGreatDrZ0
import Derived.Test.YtdaoaedkjoknmaaGreatDrZ26
set_option maxRecDepth 1000000
set_option maxHeartbeats 8000000
namespace Go.Proofs.YtdaoaedkjoknmaaGreat
open Go.RowKit Go.Deep Go.Proofs.YtdaoaedkjoknmaaGreat.Num

theorem sissnC (s : Sn) (A1 A2 A3 A4 : Option Addr) (c1 c2 c3 c4 B : Nat) (w : World) (hB : B ≤ w.heap.size) (hr : ReadS w B A1 A2 A3 A4 s) (hn : LenS 10000000 s) (hx : inRn s.rn) (hf : fitS s) (hs : ¬ (s.st = 4 ∨ s.st = 5)) (hm : cntR (allS s) = s.rn.en ∧ cntR s.pe + cntR s.fl + cntR s.ac = s.rn.en) (hp : ¬ 0 < s.rn.en) (hg : gapR s.ac 0 = s.rn.base) :
    Calls Tryz.prog 23 #[snV s (.slice A1 s.rn.cs.length c1) (.slice A2 s.pe.length c2) (.slice A3 s.fl.length c3) (.slice A4 s.ac.length c4)] w fun e w' => e = .returned (.bool (decide (okSn s))) ∧ Below w.heap.size w w' := by
  have HH := LH (InSn.start w s A1 A2 A3 A4 c1 c2 c3 c4 29 (hr.up hB))
  have HRN : Hid (∀ W, InSn w w.heap.size s A1 A2 A3 A4 c1 c2 c3 c4 W → Calls Tryz.prog 67 #[rnV s.rn (.slice A1 s.rn.cs.length c1)] W fun e w' => e = .returned (.bool (decide (okRn s.rn))) ∧ Below W.heap.size W w') := LH fun W h => sisrn s.rn A1 c1 w.heap.size W (Nat.le_of_lt h.2.2.1) h.2.1.1 (Nat.le_trans hn.1 (by decide)) hx
  have HPE : Hid (∀ W, InSn w w.heap.size s A1 A2 A3 A4 c1 c2 c3 c4 W → Calls Tryz.prog 68 #[.slice A2 s.pe.length c2] W fun e w' => e = .returned (.bool (decide (okR (-1) s.pe))) ∧ Below W.heap.size W w') := LH fun W h => sisr s.pe A2 c2 w.heap.size W (Nat.le_of_lt h.2.2.1) h.2.1.2.1 (Nat.le_trans hn.2.1 (by decide))
  have CHPE : Hid (∀ W, InSn w w.heap.size s A1 A2 A3 A4 c1 c2 c3 c4 W → Calls Tryz.prog 71 #[.slice A2 s.pe.length c2] W fun e w' => e = .returned (.int .i64 (if okR (-1) s.pe then cntR s.pe else -1)) ∧ Below W.heap.size W w') := LH fun W h => scnt s.pe A2 c2 w.heap.size W (Nat.le_of_lt h.2.2.1) h.2.1.2.1 (Nat.le_trans hn.2.1 (by decide))
  have HFL : Hid (∀ W, InSn w w.heap.size s A1 A2 A3 A4 c1 c2 c3 c4 W → Calls Tryz.prog 68 #[.slice A3 s.fl.length c3] W fun e w' => e = .returned (.bool (decide (okR (-1) s.fl))) ∧ Below W.heap.size W w') := LH fun W h => sisr s.fl A3 c3 w.heap.size W (Nat.le_of_lt h.2.2.1) h.2.1.2.2.1 (Nat.le_trans hn.2.2.1 (by decide))
  have CHFL : Hid (∀ W, InSn w w.heap.size s A1 A2 A3 A4 c1 c2 c3 c4 W → Calls Tryz.prog 71 #[.slice A3 s.fl.length c3] W fun e w' => e = .returned (.int .i64 (if okR (-1) s.fl then cntR s.fl else -1)) ∧ Below W.heap.size W w') := LH fun W h => scnt s.fl A3 c3 w.heap.size W (Nat.le_of_lt h.2.2.1) h.2.1.2.2.1 (Nat.le_trans hn.2.2.1 (by decide))
  have HAC : Hid (∀ W, InSn w w.heap.size s A1 A2 A3 A4 c1 c2 c3 c4 W → Calls Tryz.prog 68 #[.slice A4 s.ac.length c4] W fun e w' => e = .returned (.bool (decide (okR (-1) s.ac))) ∧ Below W.heap.size W w') := LH fun W h => sisr s.ac A4 c4 w.heap.size W (Nat.le_of_lt h.2.2.1) h.2.1.2.2.2 (Nat.le_trans hn.2.2.2 (by decide))
  have CHAC : Hid (∀ W, InSn w w.heap.size s A1 A2 A3 A4 c1 c2 c3 c4 W → Calls Tryz.prog 71 #[.slice A4 s.ac.length c4] W fun e w' => e = .returned (.int .i64 (if okR (-1) s.ac then cntR s.ac else -1)) ∧ Below W.heap.size W w') := LH fun W h => scnt s.ac A4 c4 w.heap.size W (Nat.le_of_lt h.2.2.1) h.2.1.2.2.2 (Nat.le_trans hn.2.2.2 (by decide))
  have HSE : Hid (∀ W, InSn w w.heap.size s A1 A2 A3 A4 c1 c2 c3 c4 W → Calls Tryz.prog 69 #[.int .i64 s.sent, .int .i64 0, .int .i64 s.rn.en] W fun e w' => e = .returned (.bool (decide (0 ≤ s.sent ∧ s.sent ≤ s.rn.en))) ∧ Below W.heap.size W w') := LH fun W h => sinS _ _ _ W
  have HCD : Hid (∀ W, InSn w w.heap.size s A1 A2 A3 A4 c1 c2 c3 c4 W → Calls Tryz.prog 70 #[.int .i64 s.code] W fun e w' => e = .returned (.bool (decide (0 ≤ s.code ∧ s.code ≤ 4611686018427387903))) ∧ Below W.heap.size W w') := LH fun W h => squicS _ W
  have HFI : Hid (∀ W, InSn w w.heap.size s A1 A2 A3 A4 c1 c2 c3 c4 W → Calls Tryz.prog 69 #[.int .i64 s.fi, .int .i64 0, .int .i64 3] W fun e w' => e = .returned (.bool (decide (0 ≤ s.fi ∧ s.fi ≤ 3))) ∧ Below W.heap.size W w') := LH fun W h => sinS _ _ _ W
  have HGA : Hid (∀ W, InSn w w.heap.size s A1 A2 A3 A4 c1 c2 c3 c4 W → Calls Tryz.prog 63 #[.slice A4 s.ac.length c4, .int .i64 0] W fun e w' => e = .returned (.int .i64 (if okR (-1) s.ac ∧ (0 : Int) ≤ 0 then gapR s.ac 0 else -1)) ∧ Below W.heap.size W w') := LH fun W h => sgap s.ac 0 A4 c4 w.heap.size W (Nat.le_of_lt h.2.2.1) h.2.1.2.2.2 (Nat.le_trans hn.2.2.2 (by decide))
  have HST : Hid (∀ W, InSn w w.heap.size s A1 A2 A3 A4 c1 c2 c3 c4 W → Calls Tryz.prog 64 #[snV s (.slice A1 s.rn.cs.length c1) (.slice A2 s.pe.length c2) (.slice A3 s.fl.length c3) (.slice A4 s.ac.length c4)] W fun e w' => e = .returned (.int .i64 (folS s)) ∧ Below W.heap.size W w') := LH fun W h => sfol s _ _ _ _ W
  have HAD : Hid (∀ (W : World) (A : Option Addr) (c : Nat) (l : List Rg) (r : Rg), Rgs W W.heap.size A l → l.length ≤ 1000000000 → Calls Tryz.prog 35 #[.slice A l.length c, rgV r] W fun e w' => ∃ v, e = .returned v ∧ OwnR w' W.heap.size v (if okR (-1) l ∧ fineR r then addR r l else l) ∧ Below W.heap.size W w') := LH fun W A c l r h1 h2 => sadd l r A c W.heap.size W (Nat.le_refl _) h1 h2
  have HCA : Hid (∀ (W : World) (A : Option Addr) (c : Nat) (l : List Rg), Rgs W W.heap.size A l → l.length ≤ 1000000000 → Calls Tryz.prog 71 #[.slice A l.length c] W fun e w' => e = .returned (.int .i64 (if okR (-1) l then cntR l else -1)) ∧ Below W.heap.size W w') := LH fun W A c l h1 h2 => scnt l A c W.heap.size W (Nat.le_refl _) h1 h2
  have HLN := LH hn
  have HM := LH hm
  have HF9 := LH hf
  have HS9 := LH hs
  have HP := LH hp
  have HG := LH hg
  clear hr hn hx hm hf hs hp hg
  go_enter Tryz.func23, Tryz.ntmps23
  obtain ⟨a0, a1, a2, a3, a4, a5, a6, a7, a8, a9, a10, a11⟩ := HH.out.1
  go_wp2_with fail
  have HT0 := LH HF9.out.1
  rw [decide_eq_true HT0.out] at HRN
  refine (HRN.out _ HH.out).mono ?_
  rintro e w1 ⟨rfl, hb1⟩
  have HH := LH (HH.out.next hb1)
  clear hb1 a0 a1 a2 a3 a4 a5 a6 a7 a8 a9 a10 a11
  obtain ⟨a0, a1, a2, a3, a4, a5, a6, a7, a8, a9, a10, a11⟩ := HH.out.1
  clear HRN
  go_wp2_with fail
  have HT1 := LH HF9.out.2.1
  rw [decide_eq_true HT1.out] at HPE
  refine (HPE.out _ HH.out).mono ?_
  rintro e w1 ⟨rfl, hb1⟩
  have HH := LH (HH.out.next hb1)
  clear hb1 a0 a1 a2 a3 a4 a5 a6 a7 a8 a9 a10 a11
  obtain ⟨a0, a1, a2, a3, a4, a5, a6, a7, a8, a9, a10, a11⟩ := HH.out.1
  clear HPE
  go_wp2_with fail
  have HT2 := LH HF9.out.2.2.1
  rw [decide_eq_true HT2.out] at HFL
  refine (HFL.out _ HH.out).mono ?_
  rintro e w1 ⟨rfl, hb1⟩
  have HH := LH (HH.out.next hb1)
  clear hb1 a0 a1 a2 a3 a4 a5 a6 a7 a8 a9 a10 a11
  obtain ⟨a0, a1, a2, a3, a4, a5, a6, a7, a8, a9, a10, a11⟩ := HH.out.1
  clear HFL
  go_wp2_with fail
  have HT3 := LH HF9.out.2.2.2.1
  rw [decide_eq_true HT3.out] at HAC
  refine (HAC.out _ HH.out).mono ?_
  rintro e w1 ⟨rfl, hb1⟩
  have HH := LH (HH.out.next hb1)
  clear hb1 a0 a1 a2 a3 a4 a5 a6 a7 a8 a9 a10 a11
  obtain ⟨a0, a1, a2, a3, a4, a5, a6, a7, a8, a9, a10, a11⟩ := HH.out.1
  clear HAC
  go_wp2_with fail
  have HT4 := LH HF9.out.2.2.2.2.1
  rw [decide_eq_true HT4.out] at HSE
  refine (HSE.out _ HH.out).mono ?_
  rintro e w1 ⟨rfl, hb1⟩
  have HH := LH (HH.out.next hb1)
  clear hb1 a0 a1 a2 a3 a4 a5 a6 a7 a8 a9 a10 a11
  obtain ⟨a0, a1, a2, a3, a4, a5, a6, a7, a8, a9, a10, a11⟩ := HH.out.1
  clear HSE
  go_wp2_with fail
  have HT5 := LH HF9.out.2.2.2.2.2.1
  rw [decide_eq_true HT5.out] at HCD
  refine (HCD.out _ HH.out).mono ?_
  rintro e w1 ⟨rfl, hb1⟩
  have HH := LH (HH.out.next hb1)
  clear hb1 a0 a1 a2 a3 a4 a5 a6 a7 a8 a9 a10 a11
  obtain ⟨a0, a1, a2, a3, a4, a5, a6, a7, a8, a9, a10, a11⟩ := HH.out.1
  clear HCD
  go_wp2_with fail
  have HT6 := LH HF9.out.2.2.2.2.2.2
  rw [decide_eq_true HT6.out] at HFI
  refine (HFI.out _ HH.out).mono ?_
  rintro e w1 ⟨rfl, hb1⟩
  have HH := LH (HH.out.next hb1)
  clear hb1 a0 a1 a2 a3 a4 a5 a6 a7 a8 a9 a10 a11
  obtain ⟨a0, a1, a2, a3, a4, a5, a6, a7, a8, a9, a10, a11⟩ := HH.out.1
  clear HFI
  go_upto_region 3 with fail
  have HFIT : Hid (fitS s) := LH ⟨HT0.out, HT1.out, HT2.out, HT3.out, HT4.out, HT5.out, HT6.out⟩
  have t4 : (s.st == 4) = false := by simpa using fun h => HS9.out (.inl h)
  have t5 : (s.st == 5) = false := by simpa using fun h => HS9.out (.inr h)
  have HOK : Hid (okSn s ↔ sumS s ∧ endS s) := LH ⟨fun k => by have h9 := k.2; rwa [if_neg HS9.out] at h9, fun k => ⟨HFIT.out, by rw [if_neg HS9.out]; exact k⟩⟩
  go_upto_region 5 with fail
  have HRP := LH HH.out.2.1.2.1
  go_wp2
  clear a0 a1 a2 a3 a4 a5 a6 a7 a8 a9 a10 a11
  go_loopw [3, 4] (fun all i wr => ∃ (j : Nat) (A' : Option Addr) (c' : Nat) (m1 : List Rg), j ≤ s.fl.length ∧ i = .int .i64 j ∧ m1 = joinS s.pe (s.fl.take j) ∧ all = .slice A' m1.length c' ∧ Rgs wr wr.heap.size A' m1 ∧ m1.length ≤ s.pe.length + j ∧ InSn w w.heap.size s A1 A2 A3 A4 c1 c2 c3 c4 wr) (fun _ i _ => s.fl.length - (intOf i).toNat)
  case atStart => exact ⟨0, _, _, _, Nat.zero_le _, rfl, rfl, rfl, HRP.out.up (Nat.le_of_lt HH.out.2.2.1), Nat.le_refl _, HH.out⟩
  case round =>
    obtain ⟨j, A', c', m1, hj, rfl, hl', rfl, hra, hla, hh⟩ := hrel
    have HH := LH hh
    have HRA := LH hra
    have HL' := LH hl'
    have HLA := LH hla
    clear hh hra hl' hla
    obtain ⟨a0, a1, a2, a3, a4, a5, a6, a7, a8, a9, a10, a11⟩ := HH.out.1
    have hl9 : s.fl.length ≤ 10000000 := HLN.out.2.2.1
    by_cases hlt : j < s.fl.length
    · have hrx := HH.out.2.1.2.2.1 j hlt
      obtain ⟨b, off, hA, hbB, k1, k2⟩ := hrx
      subst hA
      have HTK : Hid (∀ a : List Rg, joinS a (s.fl.take (j + 1)) = if okR (-1) (joinS a (s.fl.take j)) ∧ fineR s.fl[j] then addR s.fl[j] (joinS a (s.fl.take j)) else joinS a (s.fl.take j)) := LH fun a => by
        unfold joinS
        rw [List.take_succ_eq_append_getElem hlt, List.foldl_append]
        rfl
      have HCL := LH fun (W : World) (hW : W = wr) => HAD.out W A' c' m1 s.fl[j] (by rw [hW]; exact HRA.out) (by have := HLA.out; have h5 := HLN.out; unfold LenS at h5;  omega)
      generalize s.fl[j] = x at *
      go_wp2_with fail
      refine (HCL.out _ rfl).mono ?_
      rintro e w1 ⟨v, rfl, ho, hb1⟩
      obtain ⟨A9, c9, rfl, _, hr9⟩ := ho.rgs
      have HH := LH (HH.out.next hb1)
      have HR9 := LH hr9
      have HX9 := LH ((HTK.out s.pe).trans (by rw [← HL'.out]))
      have HY9 : Hid ((if okR (-1) m1 ∧ fineR x then addR x m1 else m1).length ≤ m1.length + 1) := LH (by split; exact addR_len m1 x; exact Nat.le_succ _)
      clear ho hb1 hr9 a0 a1 a2 a3 a4 a5 a6 a7 a8 a9 a10 a11 k1 k2
      obtain ⟨a0, a1, a2, a3, a4, a5, a6, a7, a8, a9, a10, a11⟩ := HH.out.1
      go_wp2
      go_roundw
      case rel => exact ⟨j + 1, _, _, _, hlt, by go_num, HX9.out.symm, rfl, HR9.out, by have := HY9.out; have := HLA.out; omega, HH.out⟩
      case measure => simp [intOf]; omega
    · obtain rfl : j = s.fl.length := by omega
      rw [List.take_length] at HL'
      have HL1 := LH HL'.out
      have HLB1 := LH HLA.out
      have HR1 := LH HRA.out
      clear HRA HL' HLA hlt hj hl9
      go_wp2
      clear a0 a1 a2 a3 a4 a5 a6 a7 a8 a9 a10 a11
      go_loopw [3, 5] (fun all i wr => ∃ (j : Nat) (A' : Option Addr) (c' : Nat) (m2 : List Rg), j ≤ s.ac.length ∧ i = .int .i64 j ∧ m2 = joinS m1 (s.ac.take j) ∧ all = .slice A' m2.length c' ∧ Rgs wr wr.heap.size A' m2 ∧ m2.length ≤ m1.length + j ∧ InSn w w.heap.size s A1 A2 A3 A4 c1 c2 c3 c4 wr) (fun _ i _ => s.ac.length - (intOf i).toNat)
      case atStart => exact ⟨0, _, _, _, Nat.zero_le _, rfl, rfl, rfl, HR1.out, Nat.le_refl _, HH.out⟩
      case round =>
        obtain ⟨j, A', c', m2, hj, rfl, hl', rfl, hra, hla, hh⟩ := hrel
        have HH := LH hh
        have HRA := LH hra
        have HL' := LH hl'
        have HLA := LH hla
        clear hh hra hl' hla
        obtain ⟨a0, a1, a2, a3, a4, a5, a6, a7, a8, a9, a10, a11⟩ := HH.out.1
        have hl9 : s.ac.length ≤ 10000000 := HLN.out.2.2.2
        by_cases hlt : j < s.ac.length
        · have hrx := HH.out.2.1.2.2.2 j hlt
          obtain ⟨b, off, hA, hbB, k1, k2⟩ := hrx
          subst hA
          have HTK : Hid (∀ a : List Rg, joinS a (s.ac.take (j + 1)) = if okR (-1) (joinS a (s.ac.take j)) ∧ fineR s.ac[j] then addR s.ac[j] (joinS a (s.ac.take j)) else joinS a (s.ac.take j)) := LH fun a => by
            unfold joinS
            rw [List.take_succ_eq_append_getElem hlt, List.foldl_append]
            rfl
          have HCL := LH fun (W : World) (hW : W = wr) => HAD.out W A' c' m2 s.ac[j] (by rw [hW]; exact HRA.out) (by have := HLA.out; have h5 := HLN.out; unfold LenS at h5; have := HLB1.out; omega)
          generalize s.ac[j] = x at *
          go_wp2_with fail
          refine (HCL.out _ rfl).mono ?_
          rintro e w1 ⟨v, rfl, ho, hb1⟩
          obtain ⟨A9, c9, rfl, _, hr9⟩ := ho.rgs
          have HH := LH (HH.out.next hb1)
          have HR9 := LH hr9
          have HX9 := LH ((HTK.out m1).trans (by rw [← HL'.out]))
          have HY9 : Hid ((if okR (-1) m2 ∧ fineR x then addR x m2 else m2).length ≤ m2.length + 1) := LH (by split; exact addR_len m2 x; exact Nat.le_succ _)
          clear ho hb1 hr9 a0 a1 a2 a3 a4 a5 a6 a7 a8 a9 a10 a11 k1 k2
          obtain ⟨a0, a1, a2, a3, a4, a5, a6, a7, a8, a9, a10, a11⟩ := HH.out.1
          go_wp2
          go_roundw
          case rel => exact ⟨j + 1, _, _, _, hlt, by go_num, HX9.out.symm, rfl, HR9.out, by have := HY9.out; have := HLA.out; omega, HH.out⟩
          case measure => simp [intOf]; omega
        · obtain rfl : j = s.ac.length := by omega
          rw [List.take_length] at HL'
          have HALL : Hid (m2 = allS s) := LH (by unfold allS; rw [← HL1.out]; exact HL'.out)
          have HR2 := LH HRA.out
          have HLB2 : Hid (m2.length ≤ 100000000) := LH (by have := HLA.out; have := HLB1.out; have h5 := HLN.out; unfold LenS at h5; omega)
          clear HRA HL' HLA HL1 HLB1 HR1 hlt hj hl9 HRP HAD
          as_aux_lemma =>
            have HSC : Hid (∀ W, InSn w w.heap.size s A1 A2 A3 A4 c1 c2 c3 c4 W → W.cell? ⟨w.heap.size, 0, none⟩ = some (.int .i64 s.st) ∧ W.cell? ⟨w.heap.size, 1, none⟩ = some (.int .i64 s.rn.size) ∧ W.cell? ⟨w.heap.size, 2, none⟩ = some (.int .i64 s.rn.base) ∧ W.cell? ⟨w.heap.size, 3, none⟩ = some (.int .i64 s.rn.en) ∧ W.cell? ⟨w.heap.size, 4, none⟩ = some (.slice A1 s.rn.cs.length c1) ∧ W.cell? ⟨w.heap.size, 5, none⟩ = some (.slice A2 s.pe.length c2) ∧ W.cell? ⟨w.heap.size, 6, none⟩ = some (.slice A3 s.fl.length c3) ∧ W.cell? ⟨w.heap.size, 7, none⟩ = some (.slice A4 s.ac.length c4) ∧ W.cell? ⟨w.heap.size, 8, none⟩ = some (.int .i64 s.fin) ∧ W.cell? ⟨w.heap.size, 9, none⟩ = some (.int .i64 s.fi) ∧ W.cell? ⟨w.heap.size, 10, none⟩ = some (.int .i64 s.sent) ∧ W.cell? ⟨w.heap.size, 11, none⟩ = some (.int .i64 s.code)) := LH fun W h => h.1
            have hc1 : cntR s.pe ≤ 4611686018427387904 := by have := cntR_max s.pe (-1) HT1.out (by decide); omega
            have hc2 : cntR s.fl ≤ 4611686018427387904 := by have := cntR_max s.fl (-1) HT2.out (by decide); omega
            have hc3 : cntR s.ac ≤ 4611686018427387904 := by have := cntR_max s.ac (-1) HT3.out (by decide); omega
            have hc4 := cntR_nn s.pe _ HT1.out
            have hc5 := cntR_nn s.fl _ HT2.out
            have hc6 := cntR_nn s.ac _ HT3.out
            have hc7 : cntR s.pe ≤ 4611686018427387903 := cntR_top HT1.out
            obtain ⟨x1, hx1⟩ : ∃ x1, cntR s.pe = x1 := ⟨_, rfl⟩
            obtain ⟨x2, hx2⟩ : ∃ x2, cntR s.fl = x2 := ⟨_, rfl⟩
            obtain ⟨x3, hx3⟩ : ∃ x3, cntR s.ac = x3 := ⟨_, rfl⟩
            rw [if_pos HT1.out, hx1] at CHPE
            rw [if_pos HT2.out, hx2] at CHFL
            rw [if_pos HT3.out, hx3] at CHAC
            rw [if_pos ⟨HT3.out, Int.le_refl 0⟩] at HGA
            rw [hx1] at hc1 hc4 hc7
            rw [hx2] at hc2 hc5
            rw [hx3] at hc3 hc6
            have hwa : IntKind.i64.wrap (x1 + x2) = x1 + x2 := by rw [IntKind.wrap_i64]; omega
            obtain ⟨n, hn0⟩ : ∃ n, IntKind.i64.wrap (x1 + x2 + x3) = n := ⟨_, rfl⟩
            have HNE : Hid (n = s.rn.en ↔ cntR s.pe + cntR s.fl + cntR s.ac = s.rn.en) := LH (by
              have h5 := HT0.out.2.2.2.2.2.1
              have h6 : 0 ≤ s.rn.en := by have := HT0.out.2.2.1; have := HT0.out.2.2.2.1; omega
              rw [hx1, hx2, hx3, ← hn0, IntKind.wrap_i64]
              constructor <;> intro h <;> omega)
            clear hc1 hc2 hc3 hc4 hc5 hc6 hc7 hx1 hx2 hx3
            go_upto_region 14 with fail
            have HHd := LH HH.out.drew
            have HK0 := LH (HSC.out _ HHd.out)
            go_cut [3, 6] (fun va vn wx => va = .slice A' m2.length c' ∧ vn = .int .i64 n ∧ InAll w s A1 A2 A3 A4 c1 c2 c3 c4 wr.heap.size A' m2 wx)
            case first =>
              go_region_held3 (fun W => W.cell? ⟨w.heap.size, 0, none⟩ = some (.int .i64 s.st) ∧ W.cell? ⟨w.heap.size, 1, none⟩ = some (.int .i64 s.rn.size) ∧ W.cell? ⟨w.heap.size, 2, none⟩ = some (.int .i64 s.rn.base) ∧ W.cell? ⟨w.heap.size, 3, none⟩ = some (.int .i64 s.rn.en) ∧ W.cell? ⟨w.heap.size, 4, none⟩ = some (.slice A1 s.rn.cs.length c1) ∧ W.cell? ⟨w.heap.size, 5, none⟩ = some (.slice A2 s.pe.length c2) ∧ W.cell? ⟨w.heap.size, 6, none⟩ = some (.slice A3 s.fl.length c3) ∧ W.cell? ⟨w.heap.size, 7, none⟩ = some (.slice A4 s.ac.length c4) ∧ W.cell? ⟨w.heap.size, 8, none⟩ = some (.int .i64 s.fin) ∧ W.cell? ⟨w.heap.size, 9, none⟩ = some (.int .i64 s.fi) ∧ W.cell? ⟨w.heap.size, 10, none⟩ = some (.int .i64 s.sent) ∧ W.cell? ⟨w.heap.size, 11, none⟩ = some (.int .i64 s.code)) (first | with_reducible exact HK0.out | with_reducible exact HK1.out | with_reducible exact HK2.out | with_reducible exact HK3.out) (first
                | (go_at_call 71; ((with_reducible refine (CHPE.out _ HHd.out).mono ?_); rintro e wa ⟨rfl, hb1⟩; have HH1 := LH (HHd.out.next hb1); have HB1 := LH ((Below.refl wr.heap.size wr).drew.trans hb1); have HK1 := LH (HSC.out _ HH1.out); clear hb1))
                | (go_at_call 71; ((with_reducible refine (CHFL.out _ HH1.out).mono ?_); rintro e wb ⟨rfl, hb1⟩; have HH2 := LH (HH1.out.next hb1); have HB2 := LH (HB1.out.trans (hb1.mono HB1.out.size)); have HK2 := LH (HSC.out _ HH2.out); clear hb1))
                | (go_at_call 71; ((with_reducible refine (CHAC.out _ HH2.out).mono ?_); rintro e wc ⟨rfl, hb1⟩; have HH3 := LH (HH2.out.next hb1); have HB3 := LH (HB2.out.trans (hb1.mono HB2.out.size)); have HK3 := LH (HSC.out _ HH3.out); clear hb1)))
              all_goals (
                go_wp2
                go_meet
                exact ⟨rfl, rfl, HH3.out, HB3.out.size, HR2.out.below (Nat.le_refl _) HB3.out⟩)
            case rest =>
              obtain ⟨rfl, rfl, hall⟩ := hcut
              have HH := LH hall
              have HN0 := LH hn0
              clear hall hwa hn0 HHd HK0 HR2 a0 a1 a2 a3 a4 a5 a6 a7 a8 a9 a10 a11
              have HM2 : Hid (okR (-1) m2) := LH (by
                obtain ⟨k1, _⟩ := joinS_has s.fl s.pe (-1) (Int.le_refl _) HT1.out HT2.out
                rw [HALL.out]
                exact (joinS_has s.ac _ (-1) (Int.le_refl _) k1 HT3.out).1)
              have HCM : Hid (∀ W, InAll w s A1 A2 A3 A4 c1 c2 c3 c4 wr.heap.size A' m2 W → Calls Tryz.prog 71 #[.slice A' m2.length c'] W fun e w' => e = .returned (.int .i64 (cntR m2)) ∧ Below W.heap.size W w') := LH fun W h => by
                have h9 := HCA.out W A' c' m2 (h.2.2.up h.2.1) (by have := HLB2.out; omega)
                rwa [if_pos HM2.out] at h9
              have HGB : Hid (∀ W, InAll w s A1 A2 A3 A4 c1 c2 c3 c4 wr.heap.size A' m2 W → Calls Tryz.prog 63 #[.slice A4 s.ac.length c4, .int .i64 0] W fun e w' => e = .returned (.int .i64 (gapR s.ac 0)) ∧ Below W.heap.size W w') := LH fun W h => HGA.out W h.1
              clear HGA HCA CHPE CHFL CHAC HSC
              obtain ⟨a0, a1, a2, a3, a4, a5, a6, a7, a8, a9, a10, a11⟩ := HH.out.1.1
              go_upto_region 15 with fail
              clear a0 a1 a2 a3 a4 a5 a6 a7 a8 a9 a10 a11
              have u1 : (cntR m2 != s.rn.en) = false := by have h1 : cntR m2 = s.rn.en := (by rw [HALL.out]; exact HM.out.1); simpa using h1
              have u2 : (n != s.rn.en) = false := by simpa using HNE.out.2 HM.out.2
              have u5 : (gapR s.ac 0 != s.rn.base) = false := by simpa using HG.out
              have u3 : decide (0 < s.rn.en) = false := decide_eq_false (fun h => by have := HP.out; omega)
              have HH := LH (HH.out.next (Below.refl _ _).drew)
              refine wp_region_held_drew (S := (InAll w s A1 A2 A3 A4 c1 c2 c3 c4 wr.heap.size A' m2)) (by kernel_rfl) HH.out (fun hHeld => ?_)
              refine tK 0 (v := ?_) rfl hHeld ?_ ?_
              rotate_left
              · (intro wx hSx; obtain ⟨⟨a0, a1, a2, a3, a4, a5, a6, a7, a8, a9, a10, a11⟩, _⟩ : (_ ∧ _) ∧ True := ⟨hSx.1.1, trivial⟩; go_simp; (try with_reducible rfl))
              ((try dsimp only [Act.put, List.getElem_toArray, List.getElem_cons_succ, List.getElem_cons_zero]); (try simp only [List.setIfInBounds_toArray]); (try dsimp only [List.set_cons_succ, List.set_cons_zero]))
              refine tK 2 (v := ?_) rfl hHeld ?_ ?_
              rotate_left
              · (intro wx hSx; obtain ⟨⟨a0, a1, a2, a3, a4, a5, a6, a7, a8, a9, a10, a11⟩, _⟩ : (_ ∧ _) ∧ True := ⟨hSx.1.1, trivial⟩; go_simp; (try with_reducible rfl))
              ((try dsimp only [Act.put, List.getElem_toArray, List.getElem_cons_succ, List.getElem_cons_zero]); (try simp only [List.setIfInBounds_toArray]); (try dsimp only [List.set_cons_succ, List.set_cons_zero]))
              refine tK 3 (v := ?_) rfl hHeld ?_ ?_
              rotate_left
              · (intro wx hSx; obtain ⟨⟨a0, a1, a2, a3, a4, a5, a6, a7, a8, a9, a10, a11⟩, _⟩ : (_ ∧ _) ∧ True := ⟨hSx.1.1, trivial⟩; go_simp; (try with_reducible rfl))
              ((try dsimp only [Act.put, List.getElem_toArray, List.getElem_cons_succ, List.getElem_cons_zero]); (try simp only [List.setIfInBounds_toArray]); (try dsimp only [List.set_cons_succ, List.set_cons_zero]))
              refine tK 4 (v := ?_) rfl hHeld ?_ ?_
              rotate_left
              · (intro wx hSx; obtain ⟨⟨a0, a1, a2, a3, a4, a5, a6, a7, a8, a9, a10, a11⟩, _⟩ : (_ ∧ _) ∧ True := ⟨hSx.1.1, trivial⟩; go_simp; (try with_reducible rfl))
              ((try dsimp only [Act.put, List.getElem_toArray, List.getElem_cons_succ, List.getElem_cons_zero]); (try simp only [List.setIfInBounds_toArray]); (try dsimp only [List.set_cons_succ, List.set_cons_zero]))
              refine wpAnyH_ready (rs := [1]) (by kernel_rfl) (by simp) ?_
              refine AllReadyH.cons rfl (fun K hK => ?_) AllReadyH.nil
              rw [if_pos (by rfl)]
              go_simp
              refine (HCM.out _ HH.out).mono ?_
              rintro e w1 ⟨rfl, hb1⟩
              have HH := LH (HH.out.next hb1)
              (try simp only [])
              refine hK.out _ _ HH.out (fun hHeld => ?_)
              clear hb1
              clear hK K
              ((try dsimp only [Act.put, List.getElem_toArray, List.getElem_cons_succ, List.getElem_cons_zero]); (try simp only [List.setIfInBounds_toArray]); (try dsimp only [List.set_cons_succ, List.set_cons_zero]))
              refine tK 5 (v := ?_) rfl hHeld ?_ ?_
              rotate_left
              · (intro wx hSx; obtain ⟨⟨a0, a1, a2, a3, a4, a5, a6, a7, a8, a9, a10, a11⟩, _⟩ : (_ ∧ _) ∧ True := ⟨hSx.1.1, trivial⟩; go_simp; (try with_reducible rfl))
              ((try dsimp only [Act.put, List.getElem_toArray, List.getElem_cons_succ, List.getElem_cons_zero]); (try simp only [List.setIfInBounds_toArray]); (try dsimp only [List.set_cons_succ, List.set_cons_zero]))
              refine tK 6 (v := ?_) rfl hHeld ?_ ?_
              rotate_left
              · (intro wx hSx; obtain ⟨⟨a0, a1, a2, a3, a4, a5, a6, a7, a8, a9, a10, a11⟩, _⟩ : (_ ∧ _) ∧ True := ⟨hSx.1.1, trivial⟩; go_simp; (try with_reducible rfl))
              ((try dsimp only [Act.put, List.getElem_toArray, List.getElem_cons_succ, List.getElem_cons_zero]); (try simp only [List.setIfInBounds_toArray]); (try dsimp only [List.set_cons_succ, List.set_cons_zero]))
              refine tK 7 (v := ?_) rfl hHeld ?_ ?_
              rotate_left
              · (intro wx hSx; obtain ⟨⟨a0, a1, a2, a3, a4, a5, a6, a7, a8, a9, a10, a11⟩, _⟩ : (_ ∧ _) ∧ True := ⟨hSx.1.1, trivial⟩; go_simp; (try with_reducible rfl))
              ((try dsimp only [Act.put, List.getElem_toArray, List.getElem_cons_succ, List.getElem_cons_zero]); (try simp only [List.setIfInBounds_toArray]); (try dsimp only [List.set_cons_succ, List.set_cons_zero]))
              refine tK 8 (v := ?_) rfl hHeld ?_ ?_
              rotate_left
              · (intro wx hSx; obtain ⟨⟨a0, a1, a2, a3, a4, a5, a6, a7, a8, a9, a10, a11⟩, _⟩ : (_ ∧ _) ∧ True := ⟨hSx.1.1, trivial⟩; go_simp; (try with_reducible rfl))
              ((try dsimp only [Act.put, List.getElem_toArray, List.getElem_cons_succ, List.getElem_cons_zero]); (try simp only [List.setIfInBounds_toArray]); (try dsimp only [List.set_cons_succ, List.set_cons_zero]))
              refine tK 9 (v := ?_) rfl hHeld ?_ ?_
              rotate_left
              · (intro wx hSx; obtain ⟨⟨a0, a1, a2, a3, a4, a5, a6, a7, a8, a9, a10, a11⟩, _⟩ : (_ ∧ _) ∧ True := ⟨hSx.1.1, trivial⟩; go_simp; (try with_reducible rfl))
              ((try dsimp only [Act.put, List.getElem_toArray, List.getElem_cons_succ, List.getElem_cons_zero]); (try simp only [List.setIfInBounds_toArray]); (try dsimp only [List.set_cons_succ, List.set_cons_zero]))
              refine tK 10 (v := ?_) rfl hHeld ?_ ?_
              rotate_left
              · (intro wx hSx; obtain ⟨⟨a0, a1, a2, a3, a4, a5, a6, a7, a8, a9, a10, a11⟩, _⟩ : (_ ∧ _) ∧ True := ⟨hSx.1.1, trivial⟩; go_simp; (try with_reducible rfl))
              ((try dsimp only [Act.put, List.getElem_toArray, List.getElem_cons_succ, List.getElem_cons_zero]); (try simp only [List.setIfInBounds_toArray]); (try dsimp only [List.set_cons_succ, List.set_cons_zero]))
              refine tK 11 (v := ?_) rfl hHeld ?_ ?_
              rotate_left
              · (intro wx hSx; obtain ⟨⟨a0, a1, a2, a3, a4, a5, a6, a7, a8, a9, a10, a11⟩, _⟩ : (_ ∧ _) ∧ True := ⟨hSx.1.1, trivial⟩; go_simp; (try with_reducible rfl))
              ((try dsimp only [Act.put, List.getElem_toArray, List.getElem_cons_succ, List.getElem_cons_zero]); (try simp only [List.setIfInBounds_toArray]); (try dsimp only [List.set_cons_succ, List.set_cons_zero]))
              refine tK 12 (v := ?_) rfl hHeld ?_ ?_
              rotate_left
              · (intro wx hSx; obtain ⟨⟨a0, a1, a2, a3, a4, a5, a6, a7, a8, a9, a10, a11⟩, _⟩ : (_ ∧ _) ∧ True := ⟨hSx.1.1, trivial⟩; go_simp; (try with_reducible rfl))
              ((try dsimp only [Act.put, List.getElem_toArray, List.getElem_cons_succ, List.getElem_cons_zero]); (try simp only [List.setIfInBounds_toArray]); (try dsimp only [List.set_cons_succ, List.set_cons_zero]))
              refine tK 13 (v := ?_) rfl hHeld ?_ ?_
              rotate_left
              · (intro wx hSx; obtain ⟨⟨a0, a1, a2, a3, a4, a5, a6, a7, a8, a9, a10, a11⟩, _⟩ : (_ ∧ _) ∧ True := ⟨hSx.1.1, trivial⟩; go_simp; (try with_reducible rfl))
              ((try dsimp only [Act.put, List.getElem_toArray, List.getElem_cons_succ, List.getElem_cons_zero]); (try simp only [List.setIfInBounds_toArray]); (try dsimp only [List.set_cons_succ, List.set_cons_zero]))
              refine tK 14 (v := ?_) rfl hHeld ?_ ?_
              rotate_left
              · (intro wx hSx; obtain ⟨⟨a0, a1, a2, a3, a4, a5, a6, a7, a8, a9, a10, a11⟩, _⟩ : (_ ∧ _) ∧ True := ⟨hSx.1.1, trivial⟩; go_simp; (try with_reducible rfl))
              ((try dsimp only [Act.put, List.getElem_toArray, List.getElem_cons_succ, List.getElem_cons_zero]); (try simp only [List.setIfInBounds_toArray]); (try dsimp only [List.set_cons_succ, List.set_cons_zero]))
              refine tK 15 (v := ?_) rfl hHeld ?_ ?_
              rotate_left
              · (intro wx hSx; obtain ⟨⟨a0, a1, a2, a3, a4, a5, a6, a7, a8, a9, a10, a11⟩, _⟩ : (_ ∧ _) ∧ True := ⟨hSx.1.1, trivial⟩; go_simp; (try with_reducible rfl))
              ((try dsimp only [Act.put, List.getElem_toArray, List.getElem_cons_succ, List.getElem_cons_zero]); (try simp only [List.setIfInBounds_toArray]); (try dsimp only [List.set_cons_succ, List.set_cons_zero]))
              refine tK 16 (v := ?_) rfl hHeld ?_ ?_
              rotate_left
              · (intro wx hSx; obtain ⟨⟨a0, a1, a2, a3, a4, a5, a6, a7, a8, a9, a10, a11⟩, _⟩ : (_ ∧ _) ∧ True := ⟨hSx.1.1, trivial⟩; go_simp; (try with_reducible rfl))
              ((try dsimp only [Act.put, List.getElem_toArray, List.getElem_cons_succ, List.getElem_cons_zero]); (try simp only [List.setIfInBounds_toArray]); (try dsimp only [List.set_cons_succ, List.set_cons_zero]))
              refine tK 17 (v := ?_) rfl hHeld ?_ ?_
              rotate_left
              · (intro wx hSx; obtain ⟨⟨a0, a1, a2, a3, a4, a5, a6, a7, a8, a9, a10, a11⟩, _⟩ : (_ ∧ _) ∧ True := ⟨hSx.1.1, trivial⟩; go_simp; (try with_reducible rfl))
              ((try dsimp only [Act.put, List.getElem_toArray, List.getElem_cons_succ, List.getElem_cons_zero]); (try simp only [List.setIfInBounds_toArray]); (try dsimp only [List.set_cons_succ, List.set_cons_zero]))
              refine tK 18 (v := ?_) rfl hHeld ?_ ?_
              rotate_left
              · (intro wx hSx; obtain ⟨⟨a0, a1, a2, a3, a4, a5, a6, a7, a8, a9, a10, a11⟩, _⟩ : (_ ∧ _) ∧ True := ⟨hSx.1.1, trivial⟩; go_simp; (try with_reducible rfl))
              ((try dsimp only [Act.put, List.getElem_toArray, List.getElem_cons_succ, List.getElem_cons_zero]); (try simp only [List.setIfInBounds_toArray]); (try dsimp only [List.set_cons_succ, List.set_cons_zero]))
              refine tN 19 rfl hHeld ?_
              ((try dsimp only [Act.put, List.getElem_toArray, List.getElem_cons_succ, List.getElem_cons_zero]); (try simp only [List.setIfInBounds_toArray]); (try dsimp only [List.set_cons_succ, List.set_cons_zero]))
              refine tN 20 rfl hHeld ?_
              ((try dsimp only [Act.put, List.getElem_toArray, List.getElem_cons_succ, List.getElem_cons_zero]); (try simp only [List.setIfInBounds_toArray]); (try dsimp only [List.set_cons_succ, List.set_cons_zero]))
              refine tN 21 rfl hHeld ?_
              ((try dsimp only [Act.put, List.getElem_toArray, List.getElem_cons_succ, List.getElem_cons_zero]); (try simp only [List.setIfInBounds_toArray]); (try dsimp only [List.set_cons_succ, List.set_cons_zero]))
              refine tN 22 rfl hHeld ?_
              ((try dsimp only [Act.put, List.getElem_toArray, List.getElem_cons_succ, List.getElem_cons_zero]); (try simp only [List.setIfInBounds_toArray]); (try dsimp only [List.set_cons_succ, List.set_cons_zero]))
              refine tN 23 rfl hHeld ?_
              ((try dsimp only [Act.put, List.getElem_toArray, List.getElem_cons_succ, List.getElem_cons_zero]); (try simp only [List.setIfInBounds_toArray]); (try dsimp only [List.set_cons_succ, List.set_cons_zero]))
              refine tN 24 rfl hHeld ?_
              ((try dsimp only [Act.put, List.getElem_toArray, List.getElem_cons_succ, List.getElem_cons_zero]); (try simp only [List.setIfInBounds_toArray]); (try dsimp only [List.set_cons_succ, List.set_cons_zero]))
              refine tN 25 rfl hHeld ?_
              ((try dsimp only [Act.put, List.getElem_toArray, List.getElem_cons_succ, List.getElem_cons_zero]); (try simp only [List.setIfInBounds_toArray]); (try dsimp only [List.set_cons_succ, List.set_cons_zero]))
              refine tN 26 rfl hHeld ?_
              ((try dsimp only [Act.put, List.getElem_toArray, List.getElem_cons_succ, List.getElem_cons_zero]); (try simp only [List.setIfInBounds_toArray]); (try dsimp only [List.set_cons_succ, List.set_cons_zero]))
              refine tK 27 (v := ?_) rfl hHeld ?_ ?_
              rotate_left
              · (intro wx hSx; obtain ⟨⟨a0, a1, a2, a3, a4, a5, a6, a7, a8, a9, a10, a11⟩, _⟩ : (_ ∧ _) ∧ True := ⟨hSx.1.1, trivial⟩; go_simp; (try with_reducible rfl))
              ((try dsimp only [Act.put, List.getElem_toArray, List.getElem_cons_succ, List.getElem_cons_zero]); (try simp only [List.setIfInBounds_toArray]); (try dsimp only [List.set_cons_succ, List.set_cons_zero]))
              refine tK 28 (v := ?_) rfl hHeld ?_ ?_
              rotate_left
              · (intro wx hSx; obtain ⟨⟨a0, a1, a2, a3, a4, a5, a6, a7, a8, a9, a10, a11⟩, _⟩ : (_ ∧ _) ∧ True := ⟨hSx.1.1, trivial⟩; go_simp; (try with_reducible rfl))
              ((try dsimp only [Act.put, List.getElem_toArray, List.getElem_cons_succ, List.getElem_cons_zero]); (try simp only [List.setIfInBounds_toArray]); (try dsimp only [List.set_cons_succ, List.set_cons_zero]))
              refine tK 29 (v := ?_) rfl hHeld ?_ ?_
              rotate_left
              · (intro wx hSx; obtain ⟨⟨a0, a1, a2, a3, a4, a5, a6, a7, a8, a9, a10, a11⟩, _⟩ : (_ ∧ _) ∧ True := ⟨hSx.1.1, trivial⟩; go_simp; (try with_reducible rfl))
              ((try dsimp only [Act.put, List.getElem_toArray, List.getElem_cons_succ, List.getElem_cons_zero]); (try simp only [List.setIfInBounds_toArray]); (try dsimp only [List.set_cons_succ, List.set_cons_zero]))
              refine tK 30 (v := ?_) rfl hHeld ?_ ?_
              rotate_left
              · (intro wx hSx; obtain ⟨⟨a0, a1, a2, a3, a4, a5, a6, a7, a8, a9, a10, a11⟩, _⟩ : (_ ∧ _) ∧ True := ⟨hSx.1.1, trivial⟩; go_simp; (try with_reducible rfl))
              ((try dsimp only [Act.put, List.getElem_toArray, List.getElem_cons_succ, List.getElem_cons_zero]); (try simp only [List.setIfInBounds_toArray]); (try dsimp only [List.set_cons_succ, List.set_cons_zero]))
              refine tK 31 (v := ?_) rfl hHeld ?_ ?_
              rotate_left
              · (intro wx hSx; obtain ⟨⟨a0, a1, a2, a3, a4, a5, a6, a7, a8, a9, a10, a11⟩, _⟩ : (_ ∧ _) ∧ True := ⟨hSx.1.1, trivial⟩; go_simp; (try with_reducible rfl))
              ((try dsimp only [Act.put, List.getElem_toArray, List.getElem_cons_succ, List.getElem_cons_zero]); (try simp only [List.setIfInBounds_toArray]); (try dsimp only [List.set_cons_succ, List.set_cons_zero]))
              refine tK 33 (v := ?_) rfl hHeld ?_ ?_
              rotate_left
              · (intro wx hSx; obtain ⟨⟨a0, a1, a2, a3, a4, a5, a6, a7, a8, a9, a10, a11⟩, _⟩ : (_ ∧ _) ∧ True := ⟨hSx.1.1, trivial⟩; go_simp; (try with_reducible rfl))
              ((try dsimp only [Act.put, List.getElem_toArray, List.getElem_cons_succ, List.getElem_cons_zero]); (try simp only [List.setIfInBounds_toArray]); (try dsimp only [List.set_cons_succ, List.set_cons_zero]))
              refine tK 34 (v := ?_) rfl hHeld ?_ ?_
              rotate_left
              · (intro wx hSx; obtain ⟨⟨a0, a1, a2, a3, a4, a5, a6, a7, a8, a9, a10, a11⟩, _⟩ : (_ ∧ _) ∧ True := ⟨hSx.1.1, trivial⟩; go_simp; (try with_reducible rfl))
              ((try dsimp only [Act.put, List.getElem_toArray, List.getElem_cons_succ, List.getElem_cons_zero]); (try simp only [List.setIfInBounds_toArray]); (try dsimp only [List.set_cons_succ, List.set_cons_zero]))
              refine tK 35 (v := ?_) rfl hHeld ?_ ?_
              rotate_left
              · (intro wx hSx; obtain ⟨⟨a0, a1, a2, a3, a4, a5, a6, a7, a8, a9, a10, a11⟩, _⟩ : (_ ∧ _) ∧ True := ⟨hSx.1.1, trivial⟩; go_simp; (try with_reducible rfl))
              ((try dsimp only [Act.put, List.getElem_toArray, List.getElem_cons_succ, List.getElem_cons_zero]); (try simp only [List.setIfInBounds_toArray]); (try dsimp only [List.set_cons_succ, List.set_cons_zero]))
              refine wpAnyH_ready (rs := [32]) (by kernel_rfl) (by simp) ?_
              refine AllReadyH.cons rfl (fun K hK => ?_) AllReadyH.nil
              rw [if_pos (by rfl)]
              go_simp
              refine (HGB.out _ HH.out).mono ?_
              rintro e w1 ⟨rfl, hb1⟩
              have HH := LH (HH.out.next hb1)
              (try simp only [])
              refine hK.out _ _ HH.out (fun hHeld => ?_)
              clear hb1
              clear hK K
              ((try dsimp only [Act.put, List.getElem_toArray, List.getElem_cons_succ, List.getElem_cons_zero]); (try simp only [List.setIfInBounds_toArray]); (try dsimp only [List.set_cons_succ, List.set_cons_zero]))
              refine tK 36 (v := ?_) rfl hHeld ?_ ?_
              rotate_left
              · (intro wx hSx; obtain ⟨⟨a0, a1, a2, a3, a4, a5, a6, a7, a8, a9, a10, a11⟩, _⟩ : (_ ∧ _) ∧ True := ⟨hSx.1.1, trivial⟩; go_simp; (try with_reducible rfl))
              ((try dsimp only [Act.put, List.getElem_toArray, List.getElem_cons_succ, List.getElem_cons_zero]); (try simp only [List.setIfInBounds_toArray]); (try dsimp only [List.set_cons_succ, List.set_cons_zero]))
              refine tK 37 (v := ?_) rfl hHeld ?_ ?_
              rotate_left
              · (intro wx hSx; obtain ⟨⟨a0, a1, a2, a3, a4, a5, a6, a7, a8, a9, a10, a11⟩, _⟩ : (_ ∧ _) ∧ True := ⟨hSx.1.1, trivial⟩; go_simp; (try with_reducible rfl))
              ((try dsimp only [Act.put, List.getElem_toArray, List.getElem_cons_succ, List.getElem_cons_zero]); (try simp only [List.setIfInBounds_toArray]); (try dsimp only [List.set_cons_succ, List.set_cons_zero]))
              refine tK 38 (v := ?_) rfl hHeld ?_ ?_
              rotate_left
              · (intro wx hSx; obtain ⟨⟨a0, a1, a2, a3, a4, a5, a6, a7, a8, a9, a10, a11⟩, _⟩ : (_ ∧ _) ∧ True := ⟨hSx.1.1, trivial⟩; go_simp; (try with_reducible rfl))
              ((try dsimp only [Act.put, List.getElem_toArray, List.getElem_cons_succ, List.getElem_cons_zero]); (try simp only [List.setIfInBounds_toArray]); (try dsimp only [List.set_cons_succ, List.set_cons_zero]))
              refine tK 39 (v := ?_) rfl hHeld ?_ ?_
              rotate_left
              · (intro wx hSx; obtain ⟨⟨a0, a1, a2, a3, a4, a5, a6, a7, a8, a9, a10, a11⟩, _⟩ : (_ ∧ _) ∧ True := ⟨hSx.1.1, trivial⟩; go_simp; (try with_reducible rfl))
              ((try dsimp only [Act.put, List.getElem_toArray, List.getElem_cons_succ, List.getElem_cons_zero]); (try simp only [List.setIfInBounds_toArray]); (try dsimp only [List.set_cons_succ, List.set_cons_zero]))
              refine tK 40 (v := ?_) rfl hHeld ?_ ?_
              rotate_left
              · (intro wx hSx; obtain ⟨⟨a0, a1, a2, a3, a4, a5, a6, a7, a8, a9, a10, a11⟩, _⟩ : (_ ∧ _) ∧ True := ⟨hSx.1.1, trivial⟩; go_simp; (try with_reducible rfl))
              ((try dsimp only [Act.put, List.getElem_toArray, List.getElem_cons_succ, List.getElem_cons_zero]); (try simp only [List.setIfInBounds_toArray]); (try dsimp only [List.set_cons_succ, List.set_cons_zero]))
              refine tK 41 (v := ?_) rfl hHeld ?_ ?_
              rotate_left
              · (intro wx hSx; obtain ⟨⟨a0, a1, a2, a3, a4, a5, a6, a7, a8, a9, a10, a11⟩, _⟩ : (_ ∧ _) ∧ True := ⟨hSx.1.1, trivial⟩; go_simp; (try with_reducible rfl))
              ((try dsimp only [Act.put, List.getElem_toArray, List.getElem_cons_succ, List.getElem_cons_zero]); (try simp only [List.setIfInBounds_toArray]); (try dsimp only [List.set_cons_succ, List.set_cons_zero]))
              refine tK 42 (v := ?_) rfl hHeld ?_ ?_
              rotate_left
              · (intro wx hSx; obtain ⟨⟨a0, a1, a2, a3, a4, a5, a6, a7, a8, a9, a10, a11⟩, _⟩ : (_ ∧ _) ∧ True := ⟨hSx.1.1, trivial⟩; go_simp; (try with_reducible rfl))
              ((try dsimp only [Act.put, List.getElem_toArray, List.getElem_cons_succ, List.getElem_cons_zero]); (try simp only [List.setIfInBounds_toArray]); (try dsimp only [List.set_cons_succ, List.set_cons_zero]))
              refine wpAnyH_done (by kernel_rfl) ?_ _
              clear hHeld
              have HH := LH HH.out.1
              clear u1 u2 u3 u5  HCM HGB
              by_cases hc : s.code = 0
              rotate_left
              · have HV : Hid (decide (okSn s) = false) := LH (decide_eq_false (fun k => hc (HOK.out.1 k).2.2.1))
                have u6 : (s.code != 0) = true := by simpa using hc
                clear hc
                obtain ⟨a0, a1, a2, a3, a4, a5, a6, a7, a8, a9, a10, a11⟩ := HH.out.1
                go_wp2
                go_ret
                exact ⟨by rw [HV.out]; rfl, HH.out.2.2.2⟩
              have u6 : (s.code != 0) = false := by simpa using hc
              have HGO : Hid (sumS s ∧ gapR s.ac 0 = s.rn.base ∧ s.code = 0) := LH ⟨⟨HM.out.1, HM.out.2, fun h => absurd h (by have := HP.out; omega)⟩, HG.out, hc⟩
              clear hc HNE HN0 HALL HM2 HLB2
              obtain ⟨a0, a1, a2, a3, a4, a5, a6, a7, a8, a9, a10, a11⟩ := HH.out.1
              as_aux_lemma =>
                go_wp2
                clear a0 a1 a2 a3 a4 a5 a6 a7 a8 a9 a10 a11
                go_loopw [7] (fun i wr => ∃ (j : Nat), j ≤ s.fl.length ∧ i = .int .i64 j ∧ (∀ r ∈ s.fl.take j, r.2 ≤ s.sent) ∧ InSn w w.heap.size s A1 A2 A3 A4 c1 c2 c3 c4 wr) (fun i _ => s.fl.length - (intOf i).toNat)
                case atStart => exact ⟨0, Nat.zero_le _, rfl, fun r hr => (by simp at hr), HH.out⟩
                case round =>
                  obtain ⟨j, hj, rfl, hle, hh⟩ := hrel
                  have HH := LH hh
                  have HLE := LH hle
                  clear hh hle
                  obtain ⟨a0, a1, a2, a3, a4, a5, a6, a7, a8, a9, a10, a11⟩ := HH.out.1
                  have hl9 : s.fl.length ≤ 10000000 := HLN.out.2.2.1
                  by_cases hlt : j < s.fl.length
                  · have hrx := HH.out.2.1.2.2.1 j hlt
                    obtain ⟨b, off, hA, hbB, k1, k2⟩ := hrx
                    subst hA
                    have HTK : Hid (∀ r, r ∈ s.fl.take (j + 1) → r ∈ s.fl.take j ∨ r = s.fl[j]) := LH (fun z hz => by
                      rw [List.take_succ_eq_append_getElem hlt] at hz
                      rcases List.mem_append.1 hz with h | h
                      · exact .inl h
                      · exact .inr (List.mem_singleton.1 h))
                    have HME : Hid (s.fl[j] ∈ s.fl) := LH (List.getElem_mem hlt)
                    generalize s.fl[j] = x at *
                    have hj0 : (0 : Int) ≤ (j : Int) := by omega
                    have hj1 : (j : Int) < (s.fl.length : Int) := by omega
                    have HK0 : Hid ((fun W : World => W.cell? ⟨w.heap.size, 0, none⟩ = some (.int .i64 s.st) ∧ W.cell? ⟨w.heap.size, 1, none⟩ = some (.int .i64 s.rn.size) ∧ W.cell? ⟨w.heap.size, 2, none⟩ = some (.int .i64 s.rn.base) ∧ W.cell? ⟨w.heap.size, 3, none⟩ = some (.int .i64 s.rn.en) ∧ W.cell? ⟨w.heap.size, 4, none⟩ = some (.slice A1 s.rn.cs.length c1) ∧ W.cell? ⟨w.heap.size, 5, none⟩ = some (.slice A2 s.pe.length c2) ∧ W.cell? ⟨w.heap.size, 6, none⟩ = some (.slice (some ⟨b, off, none⟩) s.fl.length c3) ∧ W.cell? ⟨w.heap.size, 7, none⟩ = some (.slice A4 s.ac.length c4) ∧ W.cell? ⟨w.heap.size, 8, none⟩ = some (.int .i64 s.fin) ∧ W.cell? ⟨w.heap.size, 9, none⟩ = some (.int .i64 s.fi) ∧ W.cell? ⟨w.heap.size, 10, none⟩ = some (.int .i64 s.sent) ∧ W.cell? ⟨w.heap.size, 11, none⟩ = some (.int .i64 s.code) ∧ W.cell? ⟨b, off + j * 2 + 1, none⟩ = some (.int .i64 x.2)) wr.drew) := LH ⟨a0, a1, a2, a3, a4, a5, a6, a7, a8, a9, a10, a11, k2⟩
                    by_cases hx9 : s.sent < x.2
                    · have dx : decide (s.sent < x.2) = true := decide_eq_true hx9
                      have HV : Hid (decide (okSn s) = false) := LH (decide_eq_false (fun k => by have := (HOK.out.1 k).2.2.2.1 x HME.out; omega))
                      clear hx9
                      go_upto_region 20 with fail
                      go_region_held3 (fun W => W.cell? ⟨w.heap.size, 0, none⟩ = some (.int .i64 s.st) ∧ W.cell? ⟨w.heap.size, 1, none⟩ = some (.int .i64 s.rn.size) ∧ W.cell? ⟨w.heap.size, 2, none⟩ = some (.int .i64 s.rn.base) ∧ W.cell? ⟨w.heap.size, 3, none⟩ = some (.int .i64 s.rn.en) ∧ W.cell? ⟨w.heap.size, 4, none⟩ = some (.slice A1 s.rn.cs.length c1) ∧ W.cell? ⟨w.heap.size, 5, none⟩ = some (.slice A2 s.pe.length c2) ∧ W.cell? ⟨w.heap.size, 6, none⟩ = some (.slice (some ⟨b, off, none⟩) s.fl.length c3) ∧ W.cell? ⟨w.heap.size, 7, none⟩ = some (.slice A4 s.ac.length c4) ∧ W.cell? ⟨w.heap.size, 8, none⟩ = some (.int .i64 s.fin) ∧ W.cell? ⟨w.heap.size, 9, none⟩ = some (.int .i64 s.fi) ∧ W.cell? ⟨w.heap.size, 10, none⟩ = some (.int .i64 s.sent) ∧ W.cell? ⟨w.heap.size, 11, none⟩ = some (.int .i64 s.code) ∧ W.cell? ⟨b, off + j * 2 + 1, none⟩ = some (.int .i64 x.2)) (first | with_reducible exact HK0.out) (fail)
                      all_goals (
                        go_wp2
                        go_ret
                        exact ⟨by rw [HV.out]; rfl, HH.out.drew.2.2.2⟩)
                    · have dx : decide (s.sent < x.2) = false := decide_eq_false hx9
                      have HXL : Hid (x.2 ≤ s.sent) := LH (Int.not_lt.1 hx9)
                      clear hx9
                      go_upto_region 20 with fail
                      go_region_held3 (fun W => W.cell? ⟨w.heap.size, 0, none⟩ = some (.int .i64 s.st) ∧ W.cell? ⟨w.heap.size, 1, none⟩ = some (.int .i64 s.rn.size) ∧ W.cell? ⟨w.heap.size, 2, none⟩ = some (.int .i64 s.rn.base) ∧ W.cell? ⟨w.heap.size, 3, none⟩ = some (.int .i64 s.rn.en) ∧ W.cell? ⟨w.heap.size, 4, none⟩ = some (.slice A1 s.rn.cs.length c1) ∧ W.cell? ⟨w.heap.size, 5, none⟩ = some (.slice A2 s.pe.length c2) ∧ W.cell? ⟨w.heap.size, 6, none⟩ = some (.slice (some ⟨b, off, none⟩) s.fl.length c3) ∧ W.cell? ⟨w.heap.size, 7, none⟩ = some (.slice A4 s.ac.length c4) ∧ W.cell? ⟨w.heap.size, 8, none⟩ = some (.int .i64 s.fin) ∧ W.cell? ⟨w.heap.size, 9, none⟩ = some (.int .i64 s.fi) ∧ W.cell? ⟨w.heap.size, 10, none⟩ = some (.int .i64 s.sent) ∧ W.cell? ⟨w.heap.size, 11, none⟩ = some (.int .i64 s.code) ∧ W.cell? ⟨b, off + j * 2 + 1, none⟩ = some (.int .i64 x.2)) (first | with_reducible exact HK0.out) (fail)
                      all_goals go_wp2
                      all_goals go_roundw
                      all_goals first | exact ⟨j + 1, hlt, by go_num, fun r hr => (HTK.out r hr).elim (fun h => HLE.out r h) (fun h => by rw [h]; exact HXL.out), HH.out.drew⟩ | (simp [intOf]; omega)
                  · obtain rfl : j = s.fl.length := by omega
                    rw [List.take_length] at HLE
                    have HLF := LH HLE.out
                    clear HLE hlt hj hl9
                    as_aux_lemma =>
                      go_wp2
                      clear a0 a1 a2 a3 a4 a5 a6 a7 a8 a9 a10 a11
                      go_loopw [8] (fun i wr => ∃ (j : Nat), j ≤ s.ac.length ∧ i = .int .i64 j ∧ (∀ r ∈ s.ac.take j, r.2 ≤ s.sent) ∧ InSn w w.heap.size s A1 A2 A3 A4 c1 c2 c3 c4 wr) (fun i _ => s.ac.length - (intOf i).toNat)
                      case atStart => exact ⟨0, Nat.zero_le _, rfl, fun r hr => (by simp at hr), HH.out⟩
                      case round =>
                        obtain ⟨j, hj, rfl, hle, hh⟩ := hrel
                        have HH := LH hh
                        have HLE := LH hle
                        clear hh hle
                        obtain ⟨a0, a1, a2, a3, a4, a5, a6, a7, a8, a9, a10, a11⟩ := HH.out.1
                        have hl9 : s.ac.length ≤ 10000000 := HLN.out.2.2.2
                        by_cases hlt : j < s.ac.length
                        · have hrx := HH.out.2.1.2.2.2 j hlt
                          obtain ⟨b, off, hA, hbB, k1, k2⟩ := hrx
                          subst hA
                          have HTK : Hid (∀ r, r ∈ s.ac.take (j + 1) → r ∈ s.ac.take j ∨ r = s.ac[j]) := LH (fun z hz => by
                            rw [List.take_succ_eq_append_getElem hlt] at hz
                            rcases List.mem_append.1 hz with h | h
                            · exact .inl h
                            · exact .inr (List.mem_singleton.1 h))
                          have HME : Hid (s.ac[j] ∈ s.ac) := LH (List.getElem_mem hlt)
                          generalize s.ac[j] = x at *
                          have hj0 : (0 : Int) ≤ (j : Int) := by omega
                          have hj1 : (j : Int) < (s.ac.length : Int) := by omega
                          have HK0 : Hid ((fun W : World => W.cell? ⟨w.heap.size, 0, none⟩ = some (.int .i64 s.st) ∧ W.cell? ⟨w.heap.size, 1, none⟩ = some (.int .i64 s.rn.size) ∧ W.cell? ⟨w.heap.size, 2, none⟩ = some (.int .i64 s.rn.base) ∧ W.cell? ⟨w.heap.size, 3, none⟩ = some (.int .i64 s.rn.en) ∧ W.cell? ⟨w.heap.size, 4, none⟩ = some (.slice A1 s.rn.cs.length c1) ∧ W.cell? ⟨w.heap.size, 5, none⟩ = some (.slice A2 s.pe.length c2) ∧ W.cell? ⟨w.heap.size, 6, none⟩ = some (.slice A3 s.fl.length c3) ∧ W.cell? ⟨w.heap.size, 7, none⟩ = some (.slice (some ⟨b, off, none⟩) s.ac.length c4) ∧ W.cell? ⟨w.heap.size, 8, none⟩ = some (.int .i64 s.fin) ∧ W.cell? ⟨w.heap.size, 9, none⟩ = some (.int .i64 s.fi) ∧ W.cell? ⟨w.heap.size, 10, none⟩ = some (.int .i64 s.sent) ∧ W.cell? ⟨w.heap.size, 11, none⟩ = some (.int .i64 s.code) ∧ W.cell? ⟨b, off + j * 2 + 1, none⟩ = some (.int .i64 x.2)) wr.drew) := LH ⟨a0, a1, a2, a3, a4, a5, a6, a7, a8, a9, a10, a11, k2⟩
                          by_cases hx9 : s.sent < x.2
                          · have dx : decide (s.sent < x.2) = true := decide_eq_true hx9
                            have HV : Hid (decide (okSn s) = false) := LH (decide_eq_false (fun k => by have := (HOK.out.1 k).2.2.2.2.1 x HME.out; omega))
                            clear hx9
                            go_upto_region 25 with fail
                            go_region_held3 (fun W => W.cell? ⟨w.heap.size, 0, none⟩ = some (.int .i64 s.st) ∧ W.cell? ⟨w.heap.size, 1, none⟩ = some (.int .i64 s.rn.size) ∧ W.cell? ⟨w.heap.size, 2, none⟩ = some (.int .i64 s.rn.base) ∧ W.cell? ⟨w.heap.size, 3, none⟩ = some (.int .i64 s.rn.en) ∧ W.cell? ⟨w.heap.size, 4, none⟩ = some (.slice A1 s.rn.cs.length c1) ∧ W.cell? ⟨w.heap.size, 5, none⟩ = some (.slice A2 s.pe.length c2) ∧ W.cell? ⟨w.heap.size, 6, none⟩ = some (.slice A3 s.fl.length c3) ∧ W.cell? ⟨w.heap.size, 7, none⟩ = some (.slice (some ⟨b, off, none⟩) s.ac.length c4) ∧ W.cell? ⟨w.heap.size, 8, none⟩ = some (.int .i64 s.fin) ∧ W.cell? ⟨w.heap.size, 9, none⟩ = some (.int .i64 s.fi) ∧ W.cell? ⟨w.heap.size, 10, none⟩ = some (.int .i64 s.sent) ∧ W.cell? ⟨w.heap.size, 11, none⟩ = some (.int .i64 s.code) ∧ W.cell? ⟨b, off + j * 2 + 1, none⟩ = some (.int .i64 x.2)) (first | with_reducible exact HK0.out) (fail)
                            all_goals (
                              go_wp2
                              go_ret
                              exact ⟨by rw [HV.out]; rfl, HH.out.drew.2.2.2⟩)
                          · have dx : decide (s.sent < x.2) = false := decide_eq_false hx9
                            have HXL : Hid (x.2 ≤ s.sent) := LH (Int.not_lt.1 hx9)
                            clear hx9
                            go_upto_region 25 with fail
                            go_region_held3 (fun W => W.cell? ⟨w.heap.size, 0, none⟩ = some (.int .i64 s.st) ∧ W.cell? ⟨w.heap.size, 1, none⟩ = some (.int .i64 s.rn.size) ∧ W.cell? ⟨w.heap.size, 2, none⟩ = some (.int .i64 s.rn.base) ∧ W.cell? ⟨w.heap.size, 3, none⟩ = some (.int .i64 s.rn.en) ∧ W.cell? ⟨w.heap.size, 4, none⟩ = some (.slice A1 s.rn.cs.length c1) ∧ W.cell? ⟨w.heap.size, 5, none⟩ = some (.slice A2 s.pe.length c2) ∧ W.cell? ⟨w.heap.size, 6, none⟩ = some (.slice A3 s.fl.length c3) ∧ W.cell? ⟨w.heap.size, 7, none⟩ = some (.slice (some ⟨b, off, none⟩) s.ac.length c4) ∧ W.cell? ⟨w.heap.size, 8, none⟩ = some (.int .i64 s.fin) ∧ W.cell? ⟨w.heap.size, 9, none⟩ = some (.int .i64 s.fi) ∧ W.cell? ⟨w.heap.size, 10, none⟩ = some (.int .i64 s.sent) ∧ W.cell? ⟨w.heap.size, 11, none⟩ = some (.int .i64 s.code) ∧ W.cell? ⟨b, off + j * 2 + 1, none⟩ = some (.int .i64 x.2)) (first | with_reducible exact HK0.out) (fail)
                            all_goals go_wp2
                            all_goals go_roundw
                            all_goals first | exact ⟨j + 1, hlt, by go_num, fun r hr => (HTK.out r hr).elim (fun h => HLE.out r h) (fun h => by rw [h]; exact HXL.out), HH.out.drew⟩ | (simp [intOf]; omega)
                        · obtain rfl : j = s.ac.length := by omega
                          rw [List.take_length] at HLE
                          as_aux_lemma =>
                            have HLA9 := LH HLE.out
                            clear HLE hlt hj hl9
                            go_upto_region 27 with fail
                            go_cut [240] (fun v wx => v = .bool (decide (¬ ((s.fi = 0 ↔ s.fin = -1) ∧ (s.fin ≠ -1 → s.fin = s.rn.en)))) ∧ InSn w w.heap.size s A1 A2 A3 A4 c1 c2 c3 c4 wx)
                            case first =>
                              by_cases g0 : s.fi = 0
                              · by_cases g1 : s.fin = -1
                                · skip
                                  have HV : Hid (decide (¬ ((s.fi = 0 ↔ s.fin = -1) ∧ (s.fin ≠ -1 → s.fin = s.rn.en))) = false) := LH (decide_eq_false (by omega))
                                  have f0 : (s.fi == 0) = true := by simpa using g0
                                  have f1 : (s.fin == -1) = true := by simpa using g1
                                  have f2 : (s.fin != -1) = false := by simpa using g1
                                  clear g0 g1
                                  go_wp2
                                  go_meet
                                  exact ⟨by rw [HV.out] <;> rfl, HH.out⟩
                                · skip
                                  have HV : Hid (decide (¬ ((s.fi = 0 ↔ s.fin = -1) ∧ (s.fin ≠ -1 → s.fin = s.rn.en))) = true) := LH (decide_eq_true (by omega))
                                  have f0 : (s.fi == 0) = true := by simpa using g0
                                  have f1 : (s.fin == -1) = false := by simpa using g1
                                  have f2 : (s.fin != -1) = true := by simpa using g1
                                  clear g0 g1
                                  go_wp2
                                  go_meet
                                  exact ⟨by rw [HV.out] <;> rfl, HH.out⟩
                              · by_cases g1 : s.fin = -1
                                · skip
                                  have HV : Hid (decide (¬ ((s.fi = 0 ↔ s.fin = -1) ∧ (s.fin ≠ -1 → s.fin = s.rn.en))) = true) := LH (decide_eq_true (by omega))
                                  have f0 : (s.fi == 0) = false := by simpa using g0
                                  have f1 : (s.fin == -1) = true := by simpa using g1
                                  have f2 : (s.fin != -1) = false := by simpa using g1
                                  clear g0 g1
                                  go_wp2
                                  go_meet
                                  exact ⟨by rw [HV.out] <;> rfl, HH.out⟩
                                · by_cases g2 : s.fin = s.rn.en
                                  · skip
                                    have HV : Hid (decide (¬ ((s.fi = 0 ↔ s.fin = -1) ∧ (s.fin ≠ -1 → s.fin = s.rn.en))) = false) := LH (decide_eq_false (by omega))
                                    have f0 : (s.fi == 0) = false := by simpa using g0
                                    have f1 : (s.fin == -1) = false := by simpa using g1
                                    have f2 : (s.fin != -1) = true := by simpa using g1
                                    have f3 : (s.fin != s.rn.en) = false := by simpa using g2
                                    clear g0 g1 g2
                                    go_wp2
                                    go_meet
                                    exact ⟨by rw [HV.out] <;> rfl, HH.out⟩
                                  · skip
                                    have HV : Hid (decide (¬ ((s.fi = 0 ↔ s.fin = -1) ∧ (s.fin ≠ -1 → s.fin = s.rn.en))) = true) := LH (decide_eq_true (by omega))
                                    have f0 : (s.fi == 0) = false := by simpa using g0
                                    have f1 : (s.fin == -1) = false := by simpa using g1
                                    have f2 : (s.fin != -1) = true := by simpa using g1
                                    have f3 : (s.fin != s.rn.en) = true := by simpa using g2
                                    clear g0 g1 g2
                                    go_wp2
                                    go_meet
                                    exact ⟨by rw [HV.out] <;> rfl, HH.out⟩
                            case rest =>
                              obtain ⟨rfl, hin⟩ := hcut
                              have HH := LH hin
                              clear hin a0 a1 a2 a3 a4 a5 a6 a7 a8 a9 a10 a11
                              by_cases hg : (s.fi = 0 ↔ s.fin = -1) ∧ (s.fin ≠ -1 → s.fin = s.rn.en)
                              rotate_left
                              · have HV : Hid (decide (okSn s) = false) := LH (decide_eq_false (fun k => hg ⟨(HOK.out.1 k).2.2.2.2.2.1, (HOK.out.1 k).2.2.2.2.2.2.1⟩))
                                rw [decide_eq_true hg]
                                clear hg
                                obtain ⟨a0, a1, a2, a3, a4, a5, a6, a7, a8, a9, a10, a11⟩ := HH.out.1
                                go_wp2
                                go_ret
                                exact ⟨by rw [HV.out]; rfl, HH.out.2.2.2⟩
                              rw [decide_eq_false (fun h => h hg)]
                              have HV : Hid (decide (okSn s) = (s.st == folS s)) := LH (by
                                rw [show (s.st == folS s) = decide (s.st = folS s) from rfl]
                                exact decide_eq_decide.2 ⟨fun k => (HOK.out.1 k).2.2.2.2.2.2.2, fun k => HOK.out.2 ⟨HGO.out.1, HGO.out.2.1, HGO.out.2.2, HLF.out, HLA9.out, hg.1, hg.2, k⟩⟩)
                              clear hg
                              obtain ⟨a0, a1, a2, a3, a4, a5, a6, a7, a8, a9, a10, a11⟩ := HH.out.1
                              go_upto_region 29 with fail
                              have HHd := LH HH.out.drew
                              have HSC : Hid (∀ W, InSn w w.heap.size s A1 A2 A3 A4 c1 c2 c3 c4 W → W.cell? ⟨w.heap.size, 0, none⟩ = some (.int .i64 s.st) ∧ W.cell? ⟨w.heap.size, 1, none⟩ = some (.int .i64 s.rn.size) ∧ W.cell? ⟨w.heap.size, 2, none⟩ = some (.int .i64 s.rn.base) ∧ W.cell? ⟨w.heap.size, 3, none⟩ = some (.int .i64 s.rn.en) ∧ W.cell? ⟨w.heap.size, 4, none⟩ = some (.slice A1 s.rn.cs.length c1) ∧ W.cell? ⟨w.heap.size, 5, none⟩ = some (.slice A2 s.pe.length c2) ∧ W.cell? ⟨w.heap.size, 6, none⟩ = some (.slice A3 s.fl.length c3) ∧ W.cell? ⟨w.heap.size, 7, none⟩ = some (.slice A4 s.ac.length c4) ∧ W.cell? ⟨w.heap.size, 8, none⟩ = some (.int .i64 s.fin) ∧ W.cell? ⟨w.heap.size, 9, none⟩ = some (.int .i64 s.fi) ∧ W.cell? ⟨w.heap.size, 10, none⟩ = some (.int .i64 s.sent) ∧ W.cell? ⟨w.heap.size, 11, none⟩ = some (.int .i64 s.code)) := LH fun W h => h.1
                              have HK0 := LH (HSC.out _ HHd.out)
                              go_region_held3 (fun W => W.cell? ⟨w.heap.size, 0, none⟩ = some (.int .i64 s.st) ∧ W.cell? ⟨w.heap.size, 1, none⟩ = some (.int .i64 s.rn.size) ∧ W.cell? ⟨w.heap.size, 2, none⟩ = some (.int .i64 s.rn.base) ∧ W.cell? ⟨w.heap.size, 3, none⟩ = some (.int .i64 s.rn.en) ∧ W.cell? ⟨w.heap.size, 4, none⟩ = some (.slice A1 s.rn.cs.length c1) ∧ W.cell? ⟨w.heap.size, 5, none⟩ = some (.slice A2 s.pe.length c2) ∧ W.cell? ⟨w.heap.size, 6, none⟩ = some (.slice A3 s.fl.length c3) ∧ W.cell? ⟨w.heap.size, 7, none⟩ = some (.slice A4 s.ac.length c4) ∧ W.cell? ⟨w.heap.size, 8, none⟩ = some (.int .i64 s.fin) ∧ W.cell? ⟨w.heap.size, 9, none⟩ = some (.int .i64 s.fi) ∧ W.cell? ⟨w.heap.size, 10, none⟩ = some (.int .i64 s.sent) ∧ W.cell? ⟨w.heap.size, 11, none⟩ = some (.int .i64 s.code)) (first | with_reducible exact HK0.out | with_reducible exact HK1.out) (first | (go_at_call 64; refine (HST.out _ HHd.out).mono ?_; rintro e wa ⟨rfl, hb1⟩; have HH1 := LH (HHd.out.next hb1); have HK1 := LH (HSC.out _ HH1.out); clear hb1))
                              all_goals (
                                go_wp2
                                go_ret
                                exact ⟨by rw [HV.out] <;> rfl, HH1.out.2.2.2⟩)
end Go.Proofs.YtdaoaedkjoknmaaGreat
