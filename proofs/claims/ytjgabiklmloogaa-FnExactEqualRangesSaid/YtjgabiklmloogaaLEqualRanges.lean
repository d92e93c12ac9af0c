/-
  The law on EqualRanges, walked.
-/
import Derived.Test.YtjgabiklmloogaaRgAid
import Derived.Test.YtjgabiklmloogaaIEq
namespace Go.Proofs.Ytjgabiklmloogaa
open Go.RowKit Go.Deep Go.Proofs.Ytjgabiklmloogaa.Num

set_option maxRecDepth 100000 in
set_option maxHeartbeats 1600000 in
/-- The law. -/
theorem law_EqualRanges (l m : List Rg) (A A' : Option Addr) (len len' cap cap' : Nat) (w : World) (hlen : len = l.length) (hlen' : len' = m.length) (hlm : len ≤ maxLen) (hlm' : len' ≤ maxLen) (hr : Rgs w w.heap.size A l) (hr' : Rgs w w.heap.size A' m) :
    Calls Try.prog 12 #[.slice A len cap, .slice A' len' cap'] w fun e w' => e = .returned (.bool true) ∧ Below w.heap.size w w' := by
  subst hlen
  subst hlen'
  have HS := Lib.hid (szrange l.length A cap 1048576 w (by unfold maxLen at hlm; omega) (by decide))
  by_cases hb : 1048576 < l.length
  · rw [if_pos (by omega)] at HS
    clear hr hr'
    go_enter Try.func12, Try.ntmps12
    go_wp2_with fail
    refine HS.out.mono ?_
    rintro e w1 ⟨rfl, hb1⟩
    go_wp2
    go_ret
    exact ⟨rfl, hb1⟩
  · rw [if_neg (by omega)] at HS
    have hn : l.length ≤ 1048576 := by omega
    have hd : decide ((1048576 : Int) - (l.length : Int) < 0) = false := decide_eq_false (by omega)
    have HS' : Hid (∀ W, Calls Try.prog 25 #[.slice A' m.length cap', .int .i64 ((1048576 : Int) - (l.length : Int))] W fun e w' => e = .returned (.int .i64 (if (1048576 : Int) - (l.length : Int) < (m.length : Int) then -1 else (1048576 : Int) - (l.length : Int) - (m.length : Int))) ∧ Below W.heap.size W w') :=
      Lib.hid fun W => szrange m.length A' cap' ((1048576 : Int) - (l.length : Int)) W (by unfold maxLen at hlm'; omega) (by omega)
    by_cases hb2 : 1048576 < l.length + m.length
    · rw [if_pos (by omega)] at HS'
      clear hr hr' hb
      go_enter Try.func12, Try.ntmps12
      go_wp2_with fail
      refine HS.out.mono ?_
      rintro e w1 ⟨rfl, hb1⟩
      go_wp2_with fail
      refine (HS'.out _).mono ?_
      rintro e w2 ⟨rfl, hb2⟩
      have HB2 := Lib.hid (hb1.trans (hb2.mono hb1.size))
      go_wp2
      go_ret
      exact ⟨rfl, HB2.out⟩
    · rw [if_neg (by omega)] at HS'
      have hnm : l.length + m.length ≤ 1048576 := by omega
      have hn' : m.length ≤ 1048576 := by omega
      have hd' : decide ((1048576 : Int) - (l.length : Int) - (m.length : Int) < 0) = false := decide_eq_false (by omega)
      have HR := Lib.hid hr
      have HR' := Lib.hid hr'
      clear hr hr' hb hb2
      go_enter Try.func12, Try.ntmps12
      have HB0 := Lib.hid (Below.refl w.heap.size w)
      go_wp2_with fail
      refine (HS.out).mono ?_
      rintro e w1 ⟨rfl, hb⟩
      have HB1 := Lib.hid (HB0.out.trans (hb.mono HB0.out.size))
      clear HB0
      clear hb
      go_wp2_with fail
      refine (HS'.out _).mono ?_
      rintro e w2 ⟨rfl, hb⟩
      have HB2 := Lib.hid (HB1.out.trans (hb.mono HB1.out.size))
      clear HB1
      clear hb
      go_wp2_with fail
      refine (toranges l A cap w.heap.size w2 HB2.out.size (HR.out.below (Nat.le_refl _) HB2.out) hn).mono ?_
      rintro e w3 ⟨rfl, ho, hb⟩
      have HX_3 := Lib.hid ho
      clear ho
      have HB3 := Lib.hid (HB2.out.trans (hb.mono HB2.out.size))
      clear HB2
      clear hb
      go_wp2_with fail
      refine (toranges m A' cap' w.heap.size w3 HB3.out.size (HR'.out.below (Nat.le_refl _) HB3.out) hn').mono ?_
      rintro e w4 ⟨rfl, ho, hb⟩
      have HY_4 := Lib.hid ho
      clear ho
      have HX_4 := Lib.hid (HX_3.out.later hb)
      have HB4 := Lib.hid (HB3.out.trans (hb.mono HB3.out.size))
      clear HB3 HX_3
      clear hb
      go_wp2_with fail
      refine (seqr l m _ _ l.length m.length w4.heap.size w4 (Nat.le_refl _) HX_4.out.rgs HY_4.out.rgs (by omega) (by omega)).mono ?_
      rintro e w5 ⟨rfl, hb⟩
      have HX_5 := Lib.hid (HX_4.out.later hb)
      have HY_5 := Lib.hid (HY_4.out.later hb)
      have HB5 := Lib.hid (HB4.out.trans (hb.mono HB4.out.size))
      clear HB4 HX_4 HY_4
      clear hb
      clear HX_5
      clear HY_5
      go_wp2_with fail
      refine (toranges l A cap w.heap.size w5 HB5.out.size (HR.out.below (Nat.le_refl _) HB5.out) hn).mono ?_
      rintro e w6 ⟨rfl, ho, hb⟩
      have HX_6 := Lib.hid ho
      clear ho
      have HB6 := Lib.hid (HB5.out.trans (hb.mono HB5.out.size))
      clear HB5
      clear hb
      go_wp2_with fail
      refine (toranges m A' cap' w.heap.size w6 HB6.out.size (HR'.out.below (Nat.le_refl _) HB6.out) hn').mono ?_
      rintro e w7 ⟨rfl, ho, hb⟩
      have HY_7 := Lib.hid ho
      clear ho
      have HX_7 := Lib.hid (HX_6.out.later hb)
      have HB7 := Lib.hid (HB6.out.trans (hb.mono HB6.out.size))
      clear HB6 HX_6
      clear hb
      go_wp2_with fail
      refine (ieqr l m _ _ l.length m.length w7.heap.size w7 (Nat.le_refl _) HX_7.out.rgs HY_7.out.rgs (by omega) (by omega)).mono ?_
      rintro e w8 ⟨rfl, hb⟩
      have HX_8 := Lib.hid (HX_7.out.later hb)
      have HY_8 := Lib.hid (HY_7.out.later hb)
      have HB8 := Lib.hid (HB7.out.trans (hb.mono HB7.out.size))
      clear HB7 HX_7 HY_7
      clear hb
      go_wp2_with fail
      refine (toranges l A cap w.heap.size w8 HB8.out.size (HR.out.below (Nat.le_refl _) HB8.out) hn).mono ?_
      rintro e w9 ⟨rfl, ho, hb⟩
      have HZ_9 := Lib.hid ho
      clear ho
      have HX_9 := Lib.hid (HX_8.out.later hb)
      have HY_9 := Lib.hid (HY_8.out.later hb)
      have HB9 := Lib.hid (HB8.out.trans (hb.mono HB8.out.size))
      clear HB8 HX_8 HY_8
      clear hb
      go_wp2_with fail
      refine (eqranges l _ _ _ _ w9.heap.size w9 (Nat.le_refl _) HX_9.out.rgs HZ_9.out.rgs (by omega)).mono ?_
      rintro e w10 ⟨rfl, hb⟩
      have HX_10 := Lib.hid (HX_9.out.later hb)
      have HY_10 := Lib.hid (HY_9.out.later hb)
      have HZ_10 := Lib.hid (HZ_9.out.later hb)
      have HB10 := Lib.hid (HB9.out.trans (hb.mono HB9.out.size))
      clear HB9 HX_9 HY_9 HZ_9
      clear hb
      clear HX_10
      clear HZ_10
      go_wp2_with fail
      refine (toranges m A' cap' w.heap.size w10 HB10.out.size (HR'.out.below (Nat.le_refl _) HB10.out) hn').mono ?_
      rintro e w11 ⟨rfl, ho, hb⟩
      have HZ_11 := Lib.hid ho
      clear ho
      have HY_11 := Lib.hid (HY_10.out.later hb)
      have HB11 := Lib.hid (HB10.out.trans (hb.mono HB10.out.size))
      clear HB10 HY_10
      clear hb
      go_wp2_with fail
      refine (eqranges m _ _ _ _ w11.heap.size w11 (Nat.le_refl _) HY_11.out.rgs HZ_11.out.rgs (by omega)).mono ?_
      rintro e w12 ⟨rfl, hb⟩
      have HY_12 := Lib.hid (HY_11.out.later hb)
      have HZ_12 := Lib.hid (HZ_11.out.later hb)
      have HB12 := Lib.hid (HB11.out.trans (hb.mono HB11.out.size))
      clear HB11 HY_11 HZ_11
      clear hb
      go_wp2
      go_ret
      exact ⟨rfl, HB12.out⟩
end Go.Proofs.Ytjgabiklmloogaa
