/-
  The law on FormatRanges, walked, where the library's table holds what the program's text lays there.
-/
import Derived.Test.YtjgabiklmloogaaDoorIFmtRgs
import Derived.Test.YtjgabiklmloogaaDoorSFmtRgs
namespace Go.Proofs.YtjgabiklmloogaaDoor
open Go.RowKit Go.Deep Go.Proofs.YtjgabiklmloogaaDoor.Num

set_option maxRecDepth 100000 in
set_option maxHeartbeats 800000 in
/-- The law. -/
theorem law_FormatRanges (l : List Rg) (A : Option Addr) (len cap : Nat) (w : World) (hlen : len = l.length) (hlm : len ≤ maxLen) (hr : Rgs w w.heap.size A l) (hi : InR l) (hp : Pow w) :
    Calls Tryd.prog 4 #[.slice A len cap] w fun e w' => e = .returned (.bool true) ∧ Below w.heap.size w w' := by
  subst hlen
  have HS := Lib.hid (szrange l.length A cap 1048576 w (by unfold maxLen at hlm; omega) (by decide))
  by_cases hb : 1048576 < l.length
  · rw [if_pos (by omega)] at HS
    clear hr
    go_enter Tryd.func4, Tryd.ntmps4
    go_wp2_with fail
    refine HS.out.mono ?_
    rintro e w1 ⟨rfl, hb1⟩
    go_wp2
    go_ret
    exact ⟨rfl, hb1⟩
  · rw [if_neg (by omega)] at HS
    have hn : l.length ≤ 1048576 := by omega
    have hd : decide ((1048576 : Int) - (l.length : Int) < 0) = false := decide_eq_false (by omega)
    have HR := Lib.hid hr
    have HI := Lib.hid hi
    have HP := Lib.hid hp
    clear hr hb hi hp
    obtain ⟨tt, ht⟩ : ∃ tt : ByteArray, (⟨(textR l).toArray⟩ : ByteArray) = tt := ⟨_, rfl⟩
    have HV := Lib.hid ht
    clear ht
    go_enter Tryd.func4, Tryd.ntmps4
    have HB0 := Lib.hid (Below.refl w.heap.size w)
    go_wp2_with fail
    refine (HS.out).mono ?_
    rintro e w1 ⟨rfl, hb⟩
    have HB1 := Lib.hid (HB0.out.trans (hb.mono HB0.out.size))
    clear HB0
    clear hb
    go_wp2_with fail
    refine (toranges l A cap w.heap.size w1 HB1.out.size (HR.out.below (Nat.le_refl _) HB1.out) hn).mono ?_
    rintro e w2 ⟨rfl, ho, hb⟩
    have HX_2 := Lib.hid ho
    clear ho
    have HB2 := Lib.hid (HB1.out.trans (hb.mono HB1.out.size))
    clear HB1
    clear hb
    have hc := sfmtr l _ l.length w2.heap.size w2 (Nat.le_refl _) HX_2.out.rgs (by omega) HI.out
    rw [HV.out] at hc
    have HC := Lib.hid hc
    clear hc
    go_wp2_with fail
    refine (HC.out).mono ?_
    rintro e w3 ⟨rfl, hb⟩
    have HX_3 := Lib.hid (HX_2.out.later hb)
    have HB3 := Lib.hid (HB2.out.trans (hb.mono HB2.out.size))
    clear HB2 HX_2
    clear hb HC
    clear HX_3
    go_wp2_with fail
    refine (toranges l A cap w.heap.size w3 HB3.out.size (HR.out.below (Nat.le_refl _) HB3.out) hn).mono ?_
    rintro e w4 ⟨rfl, ho, hb⟩
    have HY_4 := Lib.hid ho
    clear ho
    have HB4 := Lib.hid (HB3.out.trans (hb.mono HB3.out.size))
    clear HB3
    clear hb
    have hc := ifmtr l _ l.length w4.heap.size w4 (Nat.le_refl _) HY_4.out.rgs (by omega) HI.out (HP.out.keep HB4.out)
    rw [HV.out] at hc
    have HC := Lib.hid hc
    clear hc
    go_wp2_with fail
    refine (HC.out).mono ?_
    rintro e w5 ⟨rfl, hb⟩
    have HY_5 := Lib.hid (HY_4.out.later hb)
    have HB5 := Lib.hid (HB4.out.trans (hb.mono HB4.out.size))
    clear HB4 HY_4
    clear hb HC
    go_wp2_with fail
    refine (toranges l A cap w.heap.size w5 HB5.out.size (HR.out.below (Nat.le_refl _) HB5.out) hn).mono ?_
    rintro e w6 ⟨rfl, ho, hb⟩
    have HZ_6 := Lib.hid ho
    clear ho
    have HY_6 := Lib.hid (HY_5.out.later hb)
    have HB6 := Lib.hid (HB5.out.trans (hb.mono HB5.out.size))
    clear HB5 HY_5
    clear hb
    go_wp2_with fail
    refine (eqranges l _ _ _ _ w6.heap.size w6 (Nat.le_refl _) HY_6.out.rgs HZ_6.out.rgs (by omega)).mono ?_
    rintro e w7 ⟨rfl, hb⟩
    have HY_7 := Lib.hid (HY_6.out.later hb)
    have HZ_7 := Lib.hid (HZ_6.out.later hb)
    have HB7 := Lib.hid (HB6.out.trans (hb.mono HB6.out.size))
    clear HB6 HY_6 HZ_6
    clear hb
    go_wp2
    go_ret
    exact ⟨rfl, HB7.out⟩
end Go.Proofs.YtjgabiklmloogaaDoor
