/-
  The law on KindName, walked.
-/
import Derived.Test.YtjbppociogoopaaSFr1
import Derived.Test.YtjbppociogoopaaIFr1
namespace Go.Proofs.Ytjbppociogoopaa
open Go.RowKit Go.Deep Go.Proofs.Ytjbppociogoopaa.Num

set_option maxRecDepth 100000 in
/-- The law. -/
theorem law_KindName (k : Int) (w : World) :
    Calls Try.prog 4 #[.int .i64 k] w fun e w' => e = .returned (.bool true) ∧ Below w.heap.size w w' := by
  have HS := Lib.hid (sname k)
  have HI := Lib.hid (iname k)
  obtain ⟨x, hx⟩ : ∃ x : ByteArray, kname k = x := ⟨_, rfl⟩
  rw [hx] at HS HI
  clear hx
  go_enter Try.func4, Try.ntmps4
  go_wp2_with fail
  refine (HS.out _).mono ?_
  rintro e w1 ⟨rfl, rfl⟩
  go_wp2_with fail
  refine (HI.out _).mono ?_
  rintro e w1 ⟨rfl, rfl⟩
  go_wp2
  go_ret
  exact ⟨rfl, Below.refl _ _⟩
end Go.Proofs.Ytjbppociogoopaa
