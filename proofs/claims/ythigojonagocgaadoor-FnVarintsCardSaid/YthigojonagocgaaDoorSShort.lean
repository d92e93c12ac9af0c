/-
  What spec.IsShortest returns.
-/
import Derived.Test.YthigojonagocgaaDoorSDecQ
namespace Go.Proofs.YthigojonagocgaaDoor
open Go.RowKit Go.Deep Go.Proofs.YthigojonagocgaaDoor.Num

set_option maxRecDepth 100000 in
/-- spec.IsShortest, where a form begins there. -/
theorem sshort_yes (s : ByteArray) (a n k : Nat) (w : World) (hs : s.size ≤ maxLen) (h : decL (s.data.toList.drop a) = some (n, k)) :
    Calls Tryd.prog 27 #[.string s, .int .i64 a] w fun e w' => e = .returned (.bool (k == qsz (n : Int))) ∧ w = w' := by
  have h3 : s.data.toList.length = s.size := by simp
  have hl : a + k ≤ s.size := by
    have h2 := (decL_some h).2.1
    have h4 := (decL_some h).1
    rw [List.length_drop, h3] at h2
    omega
  have HC := Lib.hid (sdecq_yes s a n k w hs h)
  have _h9 : s.size ≤ 2 ^ 63 - 1 := hs
  clear h h3
  have ht : Hid ((((a : Int) + (k : Int) - (a : Int)) == ((qsz (n : Int) : Nat) : Int)) = (k == qsz (n : Int))) := Lib.hid (by
    rw [show (a : Int) + (k : Int) - (a : Int) = ((k : Nat) : Int) from by omega]
    rw [Bool.eq_iff_iff, beq_iff_eq, beq_iff_eq]; omega)
  go_enter Tryd.func27, Tryd.ntmps27
  go_wp2_with fail
  refine HC.out.mono ?_
  rintro e w1 ⟨rfl, rfl⟩
  go_wp2_with fail
  refine (ssize n w).mono ?_
  rintro e w1 ⟨rfl, rfl⟩
  go_wp2
  go_ret
  exact ⟨by rw [← ht.out]; rfl, rfl⟩

/-- spec.IsShortest, where none begins there. -/
theorem sshort_no (s : ByteArray) (a : Int) (w : World) (hs : s.size ≤ maxLen) (h : a < 0 ∨ decL (s.data.toList.drop a.toNat) = none) :
    Calls Tryd.prog 27 #[.string s, .int .i64 a] w fun e w' => e = .returned (.bool false) ∧ w = w' := by
  have HC := Lib.hid (sdecq_no s a w hs h)
  clear h
  go_enter Tryd.func27, Tryd.ntmps27
  go_wp2_with fail
  refine HC.out.mono ?_
  rintro e w1 ⟨rfl, rfl⟩
  go_wp2
  go_ret
  exact ⟨rfl, rfl⟩
end Go.Proofs.YthigojonagocgaaDoor
