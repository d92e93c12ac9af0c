/-
  What spec.IsSender returns, where it does not fit, or was reset.
-/
import Derived.Test.YtjohbfdifdjldacSnK
import Derived.Test.YtjohbfdifdjldacSRn4
import Derived.Test.YtjohbfdifdjldacSRng6
import Derived.Test.YtjohbfdifdjldacSRng5
import Derived.Test.YtjohbfdifdjldacSRng9
import Derived.Test.YtjohbfdifdjldacSCnt
import Derived.Test.YtjohbfdifdjldacSS1
import Derived.Test.YtjohbfdifdjldacSS3
import Derived.Test.YtjohbfdifdjldacSnN4
namespace Go.Proofs.Ytjohbfdifdjldac
open Go.RowKit Go.Deep Go.Proofs.Ytjohbfdifdjldac.Num

theorem cntR_max (l : List Rg) : ∀ p, okR p l → p ≤ 4611686018427387903 → cntR l ≤ 4611686018427387903 - p := by
  induction l with
  | nil => intro p _ h; show (0 : Int) ≤ _; omega
  | cons x l ih =>
    intro p h hp
    have := ih x.2 h.2.2.2 h.2.2.1
    have := h.1
    rw [cntR_cons]
    omega
theorem cntR_nn (l : List Rg) : ∀ p, okR p l → 0 ≤ cntR l := fun p h => by have := okR_len l p h; omega
theorem cntR_top {l : List Rg} (h : okR (-1) l) : cntR l ≤ 4611686018427387903 := by
  cases l with
  | nil => show (0 : Int) ≤ _; decide
  | cons x l =>
    rw [cntR_cons]
    have := cntR_max l x.2 h.2.2.2 h.2.2.1
    have := h.1
    omega
/-- The sender that came in, and a slice of ranges. -/
def InAll (w : World) (s : Sn) (A1 A2 A3 A4 : Option Addr) (c1 c2 c3 c4 K : Nat) (A' : Option Addr) (m : List Rg) (W : World) : Prop :=
  InSn w w.heap.size s A1 A2 A3 A4 c1 c2 c3 c4 W ∧ K ≤ W.heap.size ∧ Rgs W K A' m
theorem InAll.next {w : World} {s : Sn} {A1 A2 A3 A4 : Option Addr} {c1 c2 c3 c4 K : Nat} {A' : Option Addr} {m : List Rg} {W W' : World} (h : InAll w s A1 A2 A3 A4 c1 c2 c3 c4 K A' m W) (hb : Below W.heap.size W W') : InAll w s A1 A2 A3 A4 c1 c2 c3 c4 K A' m W' :=
  ⟨h.1.next hb, Nat.le_trans h.2.1 hb.size, h.2.2.below h.2.1 hb⟩
theorem rgs_at0 {W : World} {K b off : Nat} {m : List Rg} (h : Rgs W K (some ⟨b, off, none⟩) m) (h0 : 0 < m.length) : W.cell? ⟨b, off + 1, none⟩ = some (.int .i64 (highS m)) := by
  obtain ⟨b2, off2, e, _, _, k2⟩ := h 0 h0
  injection e with e
  injection e with e1 e2
  subst e1 e2
  rw [Nat.zero_mul, Nat.add_zero] at k2
  rw [k2]
  cases m with
  | nil => cases h0
  | cons x m => rfl
theorem InSn.drewN {w0 : World} {g : Nat} {s : Sn} {A1 A2 A3 A4 : Option Addr} {c1 c2 c3 c4 : Nat} {W : World} (h : InSn w0 g s A1 A2 A3 A4 c1 c2 c3 c4 W) (n : Nat) : InSn w0 g s A1 A2 A3 A4 c1 c2 c3 c4 (W.drewN n) := h.next (belowR_drewN (Below.refl _ _) n)
set_option maxRecDepth 100000 in
set_option maxHeartbeats 16000000 in
/-- spec.IsSender -/
theorem sissnD (s : Sn) (A1 A2 A3 A4 : Option Addr) (c1 c2 c3 c4 B : Nat) (w : World) (hB : B ≤ w.heap.size) (hr : ReadS w B A1 A2 A3 A4 s) (hn : LenS 10000000 s) (hx : inRn s.rn) (hm : ¬ (fitS s ∧ ¬ (s.st = 4 ∨ s.st = 5))) :
    Calls Try.prog 25 #[snV s (.slice A1 s.rn.cs.length c1) (.slice A2 s.pe.length c2) (.slice A3 s.fl.length c3) (.slice A4 s.ac.length c4)] w fun e w' => e = .returned (.bool (decide (okSn s))) ∧ Below w.heap.size w w' := by
  have HH := Lib.hid (InSn.start w s A1 A2 A3 A4 c1 c2 c3 c4 35 (hr.up hB))
  have HRN : Hid (∀ W, InSn w w.heap.size s A1 A2 A3 A4 c1 c2 c3 c4 W → Calls Try.prog 55 #[rnV s.rn (.slice A1 s.rn.cs.length c1)] W fun e w' => e = .returned (.bool (decide (okRn s.rn))) ∧ Below W.heap.size W w') := Lib.hid fun W h => sisrn s.rn A1 c1 w.heap.size W (Nat.le_of_lt h.2.2.1) h.2.1.1 (Nat.le_trans hn.1 (by decide)) hx
  have HPE : Hid (∀ W, InSn w w.heap.size s A1 A2 A3 A4 c1 c2 c3 c4 W → Calls Try.prog 56 #[.slice A2 s.pe.length c2] W fun e w' => e = .returned (.bool (decide (okR (-1) s.pe))) ∧ Below W.heap.size W w') := Lib.hid fun W h => sisr s.pe A2 c2 w.heap.size W (Nat.le_of_lt h.2.2.1) h.2.1.2.1 (Nat.le_trans hn.2.1 (by decide))
  have CHPE : Hid (∀ W, InSn w w.heap.size s A1 A2 A3 A4 c1 c2 c3 c4 W → Calls Try.prog 58 #[.slice A2 s.pe.length c2] W fun e w' => e = .returned (.int .i64 (if okR (-1) s.pe then cntR s.pe else -1)) ∧ Below W.heap.size W w') := Lib.hid fun W h => scnt s.pe A2 c2 w.heap.size W (Nat.le_of_lt h.2.2.1) h.2.1.2.1 (Nat.le_trans hn.2.1 (by decide))
  have HFL : Hid (∀ W, InSn w w.heap.size s A1 A2 A3 A4 c1 c2 c3 c4 W → Calls Try.prog 56 #[.slice A3 s.fl.length c3] W fun e w' => e = .returned (.bool (decide (okR (-1) s.fl))) ∧ Below W.heap.size W w') := Lib.hid fun W h => sisr s.fl A3 c3 w.heap.size W (Nat.le_of_lt h.2.2.1) h.2.1.2.2.1 (Nat.le_trans hn.2.2.1 (by decide))
  have CHFL : Hid (∀ W, InSn w w.heap.size s A1 A2 A3 A4 c1 c2 c3 c4 W → Calls Try.prog 58 #[.slice A3 s.fl.length c3] W fun e w' => e = .returned (.int .i64 (if okR (-1) s.fl then cntR s.fl else -1)) ∧ Below W.heap.size W w') := Lib.hid fun W h => scnt s.fl A3 c3 w.heap.size W (Nat.le_of_lt h.2.2.1) h.2.1.2.2.1 (Nat.le_trans hn.2.2.1 (by decide))
  have HAC : Hid (∀ W, InSn w w.heap.size s A1 A2 A3 A4 c1 c2 c3 c4 W → Calls Try.prog 56 #[.slice A4 s.ac.length c4] W fun e w' => e = .returned (.bool (decide (okR (-1) s.ac))) ∧ Below W.heap.size W w') := Lib.hid fun W h => sisr s.ac A4 c4 w.heap.size W (Nat.le_of_lt h.2.2.1) h.2.1.2.2.2 (Nat.le_trans hn.2.2.2 (by decide))
  have CHAC : Hid (∀ W, InSn w w.heap.size s A1 A2 A3 A4 c1 c2 c3 c4 W → Calls Try.prog 58 #[.slice A4 s.ac.length c4] W fun e w' => e = .returned (.int .i64 (if okR (-1) s.ac then cntR s.ac else -1)) ∧ Below W.heap.size W w') := Lib.hid fun W h => scnt s.ac A4 c4 w.heap.size W (Nat.le_of_lt h.2.2.1) h.2.1.2.2.2 (Nat.le_trans hn.2.2.2 (by decide))
  have HSE : Hid (∀ W, InSn w w.heap.size s A1 A2 A3 A4 c1 c2 c3 c4 W → Calls Try.prog 47 #[.int .i64 s.sent, .int .i64 0, .int .i64 s.rn.en] W fun e w' => e = .returned (.bool (decide (0 ≤ s.sent ∧ s.sent ≤ s.rn.en))) ∧ Below W.heap.size W w') := Lib.hid fun W h => sinS _ _ _ W
  have HCD : Hid (∀ W, InSn w w.heap.size s A1 A2 A3 A4 c1 c2 c3 c4 W → Calls Try.prog 57 #[.int .i64 s.code] W fun e w' => e = .returned (.bool (decide (0 ≤ s.code ∧ s.code ≤ 4611686018427387903))) ∧ Below W.heap.size W w') := Lib.hid fun W h => squicS _ W
  have HFI : Hid (∀ W, InSn w w.heap.size s A1 A2 A3 A4 c1 c2 c3 c4 W → Calls Try.prog 47 #[.int .i64 s.fi, .int .i64 0, .int .i64 3] W fun e w' => e = .returned (.bool (decide (0 ≤ s.fi ∧ s.fi ≤ 3))) ∧ Below W.heap.size W w') := Lib.hid fun W h => sinS _ _ _ W
  have HGA : Hid (∀ W, InSn w w.heap.size s A1 A2 A3 A4 c1 c2 c3 c4 W → Calls Try.prog 59 #[.slice A4 s.ac.length c4, .int .i64 0] W fun e w' => e = .returned (.int .i64 (if okR (-1) s.ac ∧ (0 : Int) ≤ 0 then gapR s.ac 0 else -1)) ∧ Below W.heap.size W w') := Lib.hid fun W h => sgap s.ac 0 A4 c4 w.heap.size W (Nat.le_of_lt h.2.2.1) h.2.1.2.2.2 (Nat.le_trans hn.2.2.2 (by decide))
  have HST : Hid (∀ W, InSn w w.heap.size s A1 A2 A3 A4 c1 c2 c3 c4 W → Calls Try.prog 31 #[snV s (.slice A1 s.rn.cs.length c1) (.slice A2 s.pe.length c2) (.slice A3 s.fl.length c3) (.slice A4 s.ac.length c4)] W fun e w' => e = .returned (.int .i64 (folS s)) ∧ Below W.heap.size W w') := Lib.hid fun W h => sfol s _ _ _ _ W
  have HAD : Hid (∀ (W : World) (A : Option Addr) (c : Nat) (l : List Rg) (r : Rg), Rgs W W.heap.size A l → l.length ≤ 1000000000 → Calls Try.prog 30 #[.slice A l.length c, rgV r] W fun e w' => ∃ v, e = .returned v ∧ OwnR w' W.heap.size v (if okR (-1) l ∧ fineR r then addR r l else l) ∧ Below W.heap.size W w') := Lib.hid fun W A c l r h1 h2 => sadd l r A c W.heap.size W (Nat.le_refl _) h1 h2
  have HCA : Hid (∀ (W : World) (A : Option Addr) (c : Nat) (l : List Rg), Rgs W W.heap.size A l → l.length ≤ 1000000000 → Calls Try.prog 58 #[.slice A l.length c] W fun e w' => e = .returned (.int .i64 (if okR (-1) l then cntR l else -1)) ∧ Below W.heap.size W w') := Lib.hid fun W A c l h1 h2 => scnt l A c W.heap.size W (Nat.le_refl _) h1 h2
  have HLN := Lib.hid hn
  have HM := Lib.hid hm
  clear hr hn hx hm
  go_enter Try.func25, Try.ntmps25
  obtain ⟨a0, a1, a2, a3, a4, a5, a6, a7, a8, a9, a10, a11⟩ := HH.out.1
  go_wp2_with fail
  by_cases h : okRn s.rn
  rotate_left
  · have HV : Hid (decide (okSn s) = false) := Lib.hid (decide_eq_false (fun k => h (k.1.1)))
    rw [decide_eq_false h] at HRN
    clear h
    refine (HRN.out _ HH.out).mono ?_
    rintro e w1 ⟨rfl, hb1⟩
    have HH := Lib.hid (HH.out.next hb1)
    clear hb1 a0 a1 a2 a3 a4 a5 a6 a7 a8 a9 a10 a11
    obtain ⟨a0, a1, a2, a3, a4, a5, a6, a7, a8, a9, a10, a11⟩ := HH.out.1
    go_wp2
    go_ret
    exact ⟨by rw [HV.out]; rfl, HH.out.2.2.2⟩
  rw [decide_eq_true h] at HRN
  have HT0 := Lib.hid h
  clear h
  refine (HRN.out _ HH.out).mono ?_
  rintro e w1 ⟨rfl, hb1⟩
  have HH := Lib.hid (HH.out.next hb1)
  clear hb1 a0 a1 a2 a3 a4 a5 a6 a7 a8 a9 a10 a11
  obtain ⟨a0, a1, a2, a3, a4, a5, a6, a7, a8, a9, a10, a11⟩ := HH.out.1
  clear HRN
  go_wp2_with fail
  by_cases h : okR (-1) s.pe
  rotate_left
  · have HV : Hid (decide (okSn s) = false) := Lib.hid (decide_eq_false (fun k => h (k.1.2.1)))
    rw [decide_eq_false h] at HPE
    clear h
    refine (HPE.out _ HH.out).mono ?_
    rintro e w1 ⟨rfl, hb1⟩
    have HH := Lib.hid (HH.out.next hb1)
    clear hb1 a0 a1 a2 a3 a4 a5 a6 a7 a8 a9 a10 a11
    obtain ⟨a0, a1, a2, a3, a4, a5, a6, a7, a8, a9, a10, a11⟩ := HH.out.1
    go_wp2
    go_ret
    exact ⟨by rw [HV.out]; rfl, HH.out.2.2.2⟩
  rw [decide_eq_true h] at HPE
  have HT1 := Lib.hid h
  clear h
  refine (HPE.out _ HH.out).mono ?_
  rintro e w1 ⟨rfl, hb1⟩
  have HH := Lib.hid (HH.out.next hb1)
  clear hb1 a0 a1 a2 a3 a4 a5 a6 a7 a8 a9 a10 a11
  obtain ⟨a0, a1, a2, a3, a4, a5, a6, a7, a8, a9, a10, a11⟩ := HH.out.1
  clear HPE
  go_wp2_with fail
  by_cases h : okR (-1) s.fl
  rotate_left
  · have HV : Hid (decide (okSn s) = false) := Lib.hid (decide_eq_false (fun k => h (k.1.2.2.1)))
    rw [decide_eq_false h] at HFL
    clear h
    refine (HFL.out _ HH.out).mono ?_
    rintro e w1 ⟨rfl, hb1⟩
    have HH := Lib.hid (HH.out.next hb1)
    clear hb1 a0 a1 a2 a3 a4 a5 a6 a7 a8 a9 a10 a11
    obtain ⟨a0, a1, a2, a3, a4, a5, a6, a7, a8, a9, a10, a11⟩ := HH.out.1
    go_wp2
    go_ret
    exact ⟨by rw [HV.out]; rfl, HH.out.2.2.2⟩
  rw [decide_eq_true h] at HFL
  have HT2 := Lib.hid h
  clear h
  refine (HFL.out _ HH.out).mono ?_
  rintro e w1 ⟨rfl, hb1⟩
  have HH := Lib.hid (HH.out.next hb1)
  clear hb1 a0 a1 a2 a3 a4 a5 a6 a7 a8 a9 a10 a11
  obtain ⟨a0, a1, a2, a3, a4, a5, a6, a7, a8, a9, a10, a11⟩ := HH.out.1
  clear HFL
  go_wp2_with fail
  by_cases h : okR (-1) s.ac
  rotate_left
  · have HV : Hid (decide (okSn s) = false) := Lib.hid (decide_eq_false (fun k => h (k.1.2.2.2.1)))
    rw [decide_eq_false h] at HAC
    clear h
    refine (HAC.out _ HH.out).mono ?_
    rintro e w1 ⟨rfl, hb1⟩
    have HH := Lib.hid (HH.out.next hb1)
    clear hb1 a0 a1 a2 a3 a4 a5 a6 a7 a8 a9 a10 a11
    obtain ⟨a0, a1, a2, a3, a4, a5, a6, a7, a8, a9, a10, a11⟩ := HH.out.1
    go_wp2
    go_ret
    exact ⟨by rw [HV.out]; rfl, HH.out.2.2.2⟩
  rw [decide_eq_true h] at HAC
  have HT3 := Lib.hid h
  clear h
  refine (HAC.out _ HH.out).mono ?_
  rintro e w1 ⟨rfl, hb1⟩
  have HH := Lib.hid (HH.out.next hb1)
  clear hb1 a0 a1 a2 a3 a4 a5 a6 a7 a8 a9 a10 a11
  obtain ⟨a0, a1, a2, a3, a4, a5, a6, a7, a8, a9, a10, a11⟩ := HH.out.1
  clear HAC
  go_wp2_with fail
  by_cases h : 0 ≤ s.sent ∧ s.sent ≤ s.rn.en
  rotate_left
  · have HV : Hid (decide (okSn s) = false) := Lib.hid (decide_eq_false (fun k => h (k.1.2.2.2.2.1)))
    rw [decide_eq_false h] at HSE
    clear h
    refine (HSE.out _ HH.out).mono ?_
    rintro e w1 ⟨rfl, hb1⟩
    have HH := Lib.hid (HH.out.next hb1)
    clear hb1 a0 a1 a2 a3 a4 a5 a6 a7 a8 a9 a10 a11
    obtain ⟨a0, a1, a2, a3, a4, a5, a6, a7, a8, a9, a10, a11⟩ := HH.out.1
    go_wp2
    go_ret
    exact ⟨by rw [HV.out]; rfl, HH.out.2.2.2⟩
  rw [decide_eq_true h] at HSE
  have HT4 := Lib.hid h
  clear h
  refine (HSE.out _ HH.out).mono ?_
  rintro e w1 ⟨rfl, hb1⟩
  have HH := Lib.hid (HH.out.next hb1)
  clear hb1 a0 a1 a2 a3 a4 a5 a6 a7 a8 a9 a10 a11
  obtain ⟨a0, a1, a2, a3, a4, a5, a6, a7, a8, a9, a10, a11⟩ := HH.out.1
  clear HSE
  go_wp2_with fail
  by_cases h : 0 ≤ s.code ∧ s.code ≤ 4611686018427387903
  rotate_left
  · have HV : Hid (decide (okSn s) = false) := Lib.hid (decide_eq_false (fun k => h (k.1.2.2.2.2.2.1)))
    rw [decide_eq_false h] at HCD
    clear h
    refine (HCD.out _ HH.out).mono ?_
    rintro e w1 ⟨rfl, hb1⟩
    have HH := Lib.hid (HH.out.next hb1)
    clear hb1 a0 a1 a2 a3 a4 a5 a6 a7 a8 a9 a10 a11
    obtain ⟨a0, a1, a2, a3, a4, a5, a6, a7, a8, a9, a10, a11⟩ := HH.out.1
    go_wp2
    go_ret
    exact ⟨by rw [HV.out]; rfl, HH.out.2.2.2⟩
  rw [decide_eq_true h] at HCD
  have HT5 := Lib.hid h
  clear h
  refine (HCD.out _ HH.out).mono ?_
  rintro e w1 ⟨rfl, hb1⟩
  have HH := Lib.hid (HH.out.next hb1)
  clear hb1 a0 a1 a2 a3 a4 a5 a6 a7 a8 a9 a10 a11
  obtain ⟨a0, a1, a2, a3, a4, a5, a6, a7, a8, a9, a10, a11⟩ := HH.out.1
  clear HCD
  go_wp2_with fail
  by_cases h : 0 ≤ s.fi ∧ s.fi ≤ 3
  rotate_left
  · have HV : Hid (decide (okSn s) = false) := Lib.hid (decide_eq_false (fun k => h (k.1.2.2.2.2.2.2)))
    rw [decide_eq_false h] at HFI
    clear h
    refine (HFI.out _ HH.out).mono ?_
    rintro e w1 ⟨rfl, hb1⟩
    have HH := Lib.hid (HH.out.next hb1)
    clear hb1 a0 a1 a2 a3 a4 a5 a6 a7 a8 a9 a10 a11
    obtain ⟨a0, a1, a2, a3, a4, a5, a6, a7, a8, a9, a10, a11⟩ := HH.out.1
    go_wp2
    go_ret
    exact ⟨by rw [HV.out]; rfl, HH.out.2.2.2⟩
  rw [decide_eq_true h] at HFI
  have HT6 := Lib.hid h
  clear h
  refine (HFI.out _ HH.out).mono ?_
  rintro e w1 ⟨rfl, hb1⟩
  have HH := Lib.hid (HH.out.next hb1)
  clear hb1 a0 a1 a2 a3 a4 a5 a6 a7 a8 a9 a10 a11
  obtain ⟨a0, a1, a2, a3, a4, a5, a6, a7, a8, a9, a10, a11⟩ := HH.out.1
  clear HFI
  go_upto_region 3 with fail
  have HFIT : Hid (fitS s) := Lib.hid ⟨HT0.out, HT1.out, HT2.out, HT3.out, HT4.out, HT5.out, HT6.out⟩
  by_cases hst : s.st = 4
  · skip
    have t4 : (s.st == 4) = true := by simpa using hst
    have HOR : Hid (s.st = 4 ∨ s.st = 5) := Lib.hid (.inl hst)
    have HRS : Hid (rstS s → okSn s) := Lib.hid (fun k => ⟨HFIT.out, by rw [if_pos (HOR.out)]; exact k⟩)
    have HRN2 : Hid (okSn s → rstS s) := Lib.hid (fun k => by have h9 := k.2; rwa [if_pos (HOR.out)] at h9)
    clear hst
    by_cases h0 : s.rn.base = s.rn.en
    rotate_left
    · have HV : Hid (decide (okSn s) = false) := Lib.hid (decide_eq_false (fun q => h0 (by have k := HRN2.out q; exact k.1)))
      have u0 : (s.rn.base == s.rn.en) = false := by simpa using h0
      clear h0
      go_wp2
      go_ret
      exact ⟨by rw [HV.out]; rfl, HH.out.2.2.2⟩
    have u0 : (s.rn.base == s.rn.en) = true := by simpa using h0
    by_cases h1 : s.pe = []
    rotate_left
    · have HV : Hid (decide (okSn s) = false) := Lib.hid (decide_eq_false (fun q => h1 (by have k := HRN2.out q; exact k.2.1)))
      have u1 : ((s.pe.length : Int) == 0) = false := by simpa using h1
      clear h0 h1
      go_wp2
      go_ret
      exact ⟨by rw [HV.out]; rfl, HH.out.2.2.2⟩
    have u1 : ((s.pe.length : Int) == 0) = true := by simpa using h1
    by_cases h2 : s.fl = []
    rotate_left
    · have HV : Hid (decide (okSn s) = false) := Lib.hid (decide_eq_false (fun q => h2 (by have k := HRN2.out q; exact k.2.2.1)))
      have u2 : ((s.fl.length : Int) == 0) = false := by simpa using h2
      clear h0 h1 h2
      go_wp2
      go_ret
      exact ⟨by rw [HV.out]; rfl, HH.out.2.2.2⟩
    have u2 : ((s.fl.length : Int) == 0) = true := by simpa using h2
    by_cases h3 : s.ac = []
    rotate_left
    · have HV : Hid (decide (okSn s) = false) := Lib.hid (decide_eq_false (fun q => h3 (by have k := HRN2.out q; exact k.2.2.2.1)))
      have u3 : ((s.ac.length : Int) == 0) = false := by simpa using h3
      clear h0 h1 h2 h3
      go_wp2
      go_ret
      exact ⟨by rw [HV.out]; rfl, HH.out.2.2.2⟩
    have u3 : ((s.ac.length : Int) == 0) = true := by simpa using h3
    by_cases h4 : s.fin = s.sent
    rotate_left
    · have HV : Hid (decide (okSn s) = false) := Lib.hid (decide_eq_false (fun q => h4 (by have k := HRN2.out q; exact k.2.2.2.2.1)))
      have u4 : (s.fin == s.sent) = false := by simpa using h4
      clear h0 h1 h2 h3 h4
      go_wp2
      go_ret
      exact ⟨by rw [HV.out]; rfl, HH.out.2.2.2⟩
    have u4 : (s.fin == s.sent) = true := by simpa using h4
    by_cases h5 : s.fi = 0
    rotate_left
    · have HV : Hid (decide (okSn s) = false) := Lib.hid (decide_eq_false (fun q => h5 (by have k := HRN2.out q; exact k.2.2.2.2.2.1)))
      have u5 : (s.fi == 0) = false := by simpa using h5
      clear h0 h1 h2 h3 h4 h5
      go_wp2
      go_ret
      exact ⟨by rw [HV.out]; rfl, HH.out.2.2.2⟩
    have u5 : (s.fi == 0) = true := by simpa using h5
    have HV : Hid (decide (okSn s) = (s.sent == s.rn.en)) := Lib.hid (by
      rw [show (s.sent == s.rn.en) = decide (s.sent = s.rn.en) from rfl]
      exact decide_eq_decide.2 ⟨fun q => (HRN2.out q).2.2.2.2.2.2, fun q => HRS.out ⟨h0, h1, h2, h3, h4, h5, q⟩⟩)
    clear h0 h1 h2 h3 h4 h5
    go_wp2
    go_ret
    exact ⟨by rw [HV.out] <;> rfl, HH.out.2.2.2⟩
  have t4 : (s.st == 4) = false := by simpa using hst
  have HN4 := Lib.hid hst
  clear hst
  by_cases hst : s.st = 5
  · skip
    have t5 : (s.st == 5) = true := by simpa using hst
    have HOR : Hid (s.st = 4 ∨ s.st = 5) := Lib.hid (.inr hst)
    have HRS : Hid (rstS s → okSn s) := Lib.hid (fun k => ⟨HFIT.out, by rw [if_pos (HOR.out)]; exact k⟩)
    have HRN2 : Hid (okSn s → rstS s) := Lib.hid (fun k => by have h9 := k.2; rwa [if_pos (HOR.out)] at h9)
    clear hst
    by_cases h0 : s.rn.base = s.rn.en
    rotate_left
    · have HV : Hid (decide (okSn s) = false) := Lib.hid (decide_eq_false (fun q => h0 (by have k := HRN2.out q; exact k.1)))
      have u0 : (s.rn.base == s.rn.en) = false := by simpa using h0
      clear h0
      go_wp2
      go_ret
      exact ⟨by rw [HV.out]; rfl, HH.out.2.2.2⟩
    have u0 : (s.rn.base == s.rn.en) = true := by simpa using h0
    by_cases h1 : s.pe = []
    rotate_left
    · have HV : Hid (decide (okSn s) = false) := Lib.hid (decide_eq_false (fun q => h1 (by have k := HRN2.out q; exact k.2.1)))
      have u1 : ((s.pe.length : Int) == 0) = false := by simpa using h1
      clear h0 h1
      go_wp2
      go_ret
      exact ⟨by rw [HV.out]; rfl, HH.out.2.2.2⟩
    have u1 : ((s.pe.length : Int) == 0) = true := by simpa using h1
    by_cases h2 : s.fl = []
    rotate_left
    · have HV : Hid (decide (okSn s) = false) := Lib.hid (decide_eq_false (fun q => h2 (by have k := HRN2.out q; exact k.2.2.1)))
      have u2 : ((s.fl.length : Int) == 0) = false := by simpa using h2
      clear h0 h1 h2
      go_wp2
      go_ret
      exact ⟨by rw [HV.out]; rfl, HH.out.2.2.2⟩
    have u2 : ((s.fl.length : Int) == 0) = true := by simpa using h2
    by_cases h3 : s.ac = []
    rotate_left
    · have HV : Hid (decide (okSn s) = false) := Lib.hid (decide_eq_false (fun q => h3 (by have k := HRN2.out q; exact k.2.2.2.1)))
      have u3 : ((s.ac.length : Int) == 0) = false := by simpa using h3
      clear h0 h1 h2 h3
      go_wp2
      go_ret
      exact ⟨by rw [HV.out]; rfl, HH.out.2.2.2⟩
    have u3 : ((s.ac.length : Int) == 0) = true := by simpa using h3
    by_cases h4 : s.fin = s.sent
    rotate_left
    · have HV : Hid (decide (okSn s) = false) := Lib.hid (decide_eq_false (fun q => h4 (by have k := HRN2.out q; exact k.2.2.2.2.1)))
      have u4 : (s.fin == s.sent) = false := by simpa using h4
      clear h0 h1 h2 h3 h4
      go_wp2
      go_ret
      exact ⟨by rw [HV.out]; rfl, HH.out.2.2.2⟩
    have u4 : (s.fin == s.sent) = true := by simpa using h4
    by_cases h5 : s.fi = 0
    rotate_left
    · have HV : Hid (decide (okSn s) = false) := Lib.hid (decide_eq_false (fun q => h5 (by have k := HRN2.out q; exact k.2.2.2.2.2.1)))
      have u5 : (s.fi == 0) = false := by simpa using h5
      clear h0 h1 h2 h3 h4 h5
      go_wp2
      go_ret
      exact ⟨by rw [HV.out]; rfl, HH.out.2.2.2⟩
    have u5 : (s.fi == 0) = true := by simpa using h5
    have HV : Hid (decide (okSn s) = (s.sent == s.rn.en)) := Lib.hid (by
      rw [show (s.sent == s.rn.en) = decide (s.sent = s.rn.en) from rfl]
      exact decide_eq_decide.2 ⟨fun q => (HRN2.out q).2.2.2.2.2.2, fun q => HRS.out ⟨h0, h1, h2, h3, h4, h5, q⟩⟩)
    clear h0 h1 h2 h3 h4 h5
    go_wp2
    go_ret
    exact ⟨by rw [HV.out] <;> rfl, HH.out.2.2.2⟩
  exact absurd ⟨HFIT.out, fun h => h.elim HN4.out (by simpa using hst)⟩ HM.out
end Go.Proofs.Ytjohbfdifdjldac
