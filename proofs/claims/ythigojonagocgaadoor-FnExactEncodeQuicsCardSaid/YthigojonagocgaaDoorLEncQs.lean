/-
  The law on EncodeQuics, walked, where the table of forms holds what the program's text lays there.
-/
import Derived.Test.YthigojonagocgaaDoorToInts
import Derived.Test.YthigojonagocgaaDoorSEncQs
import Derived.Test.YthigojonagocgaaDoorIEncQs
namespace Go.Proofs.YthigojonagocgaaDoor
open Go.RowKit Go.Deep Go.Proofs.YthigojonagocgaaDoor.Num

/-- A copy in a block of its own can be read. -/
theorem ints_new (w : World) (zs : List Int) : Ints (w.alloc (.cells (cellsI zs) 3)) (w.heap.size + 1) (some ⟨w.heap.size, 0, none⟩) zs := fun j hj =>
  ⟨w.heap.size, 0, rfl, by omega, by rw [World.cell?_alloc_at _ _ _ _ rfl, Nat.zero_add, cellsI_at _ _ hj]⟩

set_option maxRecDepth 100000 in
set_option maxHeartbeats 800000 in
/-- The law. -/
theorem law_EncodeQuics (zs : List Int) (A : Option Addr) (len cap : Nat) (w : World) (hlen : len = zs.length) (hlm : len ≤ maxLen) (hr : Ints w w.heap.size A zs) (hz : ∀ z ∈ zs, -9223372036854775808 ≤ z ∧ z ≤ 9223372036854775807) (hF : Forms w) :
    Calls Tryd.prog 8 #[.slice A len cap] w fun e w' => e = .returned (.bool true) ∧ Below w.heap.size w w' := by
  subst hlen
  by_cases hb : 1048576 < zs.length
  · unfold maxLen at hlm
    clear hr hz
    go_enter Tryd.func8, Tryd.ntmps8
    go_wp2
    go_ret
    exact ⟨rfl, Below.refl _ _⟩
  · have hn : zs.length ≤ 1048576 := by omega
    have HR := Lib.hid hr
    have HZ := Lib.hid hz
    have HF := Lib.hid hF
    have hlq := encQs_len zs
    clear hr hz hF
    generalize hq : encQs zs = q at hlq
    go_enter Tryd.func8, Tryd.ntmps8
    go_wp2_with fail
    refine (toints zs A cap w.heap.size w (Nat.le_refl _) HR.out hn).mono ?_
    rintro e w1 ⟨rfl, rfl⟩
    have HI1 := Lib.hid (ints_new w zs)
    go_wp2_with fail
    refine (sencqs zs _ _ (w.heap.size + 1) _ (by simp) HI1.out hn HZ.out).mono ?_
    rintro e w2 ⟨rfl, hb2⟩
    have HB2 := Lib.hid (((Below.refl _ w).alloc (Nat.le_refl _) _).trans (hb2.mono (by simp)))
    clear hb2
    rw [hq]
    go_wp2_with fail
    refine (toints zs A cap w.heap.size w2 HB2.out.size (HR.out.below (Nat.le_refl _) HB2.out) hn).mono ?_
    rintro e w3 ⟨rfl, rfl⟩
    have HI3 := Lib.hid (ints_new w2 zs)
    have HB3 := Lib.hid (HB2.out.alloc HB2.out.size (.cells (cellsI zs) 3))
    go_wp2_with fail
    refine (iencqs zs _ _ (w2.heap.size + 1) _ (HF.out.keep (Nat.le_refl _) HB3.out) (by simp) HI3.out hn).mono ?_
    rintro e w4 ⟨rfl, hb4⟩
    have HI4 := Lib.hid (HI3.out.below (by simp) hb4)
    have HB4 := Lib.hid (HB3.out.trans (hb4.mono HB3.out.size))
    have hs4 : w2.heap.size + 1 ≤ w4.heap.size := by have := hb4.size; simpa using this
    clear hb4
    rw [hq]
    go_wp2_with fail
    refine (toints zs A cap w.heap.size w4 HB4.out.size (HR.out.below (Nat.le_refl _) HB4.out) hn).mono ?_
    rintro e w5 ⟨rfl, rfl⟩
    have HI5 := Lib.hid (ints_new w4 zs)
    have HB5 := Lib.hid (HB4.out.alloc HB4.out.size (.cells (cellsI zs) 3))
    have HJ5 := Lib.hid ((HI4.out.below hs4 ((Below.refl _ w4).alloc (Nat.le_refl _) (.cells (cellsI zs) 3))).up (B' := w4.heap.size + 1) (by omega))
    go_wp2_with fail
    refine (eqints zs _ _ _ _ (w4.heap.size + 1) _ (by simp) HJ5.out HI5.out (by omega)).mono ?_
    rintro e w6 ⟨rfl, hb6⟩
    go_wp2
    go_ret
    exact ⟨rfl, HB5.out.trans (hb6.mono HB5.out.size)⟩
end Go.Proofs.YthigojonagocgaaDoor
