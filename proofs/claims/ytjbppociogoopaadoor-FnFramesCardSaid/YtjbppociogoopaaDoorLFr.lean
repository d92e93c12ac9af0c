/-
  laws.eqFrame.
-/
import Derived.Test.YtjbppociogoopaaDoorLFrA
namespace Go.Proofs.YtjbppociogoopaaDoor
open Go.RowKit Go.Deep Go.Proofs.YtjbppociogoopaaDoor.Num

set_option maxRecDepth 100000 in
/-- laws.eqFrame of a frame and itself -/
theorem leq (f : Fr) (w : World) :
    Calls Tryd.prog 35 #[frV f, frV f] w fun e w' => e = .returned (.bool true) ∧ Below w.heap.size w w' := by
  have h1 : ∀ n : Int, (n != n) = false := fun n => by simp
  have h2 : ∀ b : Bool, (b != b) = false := fun b => by simp
  go_enter Tryd.func35, Tryd.ntmps35
  go_wp2
  go_ret
  exact ⟨rfl, ((Below.refl _ _).alloc (Nat.le_refl _) _).alloc (by simp) _⟩
end Go.Proofs.YtjbppociogoopaaDoor
