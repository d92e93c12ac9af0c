/-
  What laws.sameInts returns of two slices that hold the same.
-/
import Derived.Test.YthigojonagocgaaDoorToInts
namespace Go.Proofs.YthigojonagocgaaDoor
open Go.RowKit Go.Deep Go.Proofs.YthigojonagocgaaDoor.Num

set_option maxRecDepth 100000 in
/-- laws.sameInts, of two slices that hold the same. -/
theorem sameints (zs : List Int) (A A' : Option Addr) (cap cap' B : Nat) (w : World) (hB : B ≤ w.heap.size) (hr : Ints w B A zs) (hr' : Ints w B A' zs) (hn : zs.length ≤ 1000000000000) :
    Calls Tryd.prog 26 #[.slice A zs.length cap, .slice A' zs.length cap'] w fun e w' => e = .returned (.bool true) ∧ Below w.heap.size w w' := by
  have HR := Lib.hid hr
  have HR' := Lib.hid hr'
  clear hr hr'
  go_enter Tryd.func26, Tryd.ntmps26
  go_wp2
  go_loopw [5] (fun i wr => ∃ j : Nat, j ≤ zs.length ∧ i = .int .i64 j ∧ Below w.heap.size w wr) (fun i _ => zs.length - (intOf i).toNat)
  case atStart => exact ⟨0, Nat.zero_le _, rfl, Below.refl _ _⟩
  case round =>
    obtain ⟨j, hj, rfl, hb⟩ := hrel
    have HB := Lib.hid hb
    clear hb
    by_cases hlt : j < zs.length
    · obtain ⟨b, off, rfl, hbB, hc⟩ := (HR.out.below hB HB.out) j hlt
      obtain ⟨b', off', rfl, hbB', hc'⟩ := (HR'.out.below hB HB.out) j hlt
      go_wp2
      go_quiet (fail)
      go_wp2
      go_roundw
      case rel => exact ⟨j + 1, by omega, by go_num, below_drewN' HB.out _⟩
      case measure => simp [intOf]; omega
    · obtain rfl : j = zs.length := by omega
      go_wp2
      go_ret
      exact ⟨rfl, HB.out⟩
end Go.Proofs.YthigojonagocgaaDoor
