/-
  What impl.KindName, kindFields, slices.Index, slices.Contains and impl.IsAboutStream return.
-/
import Derived.Test.YtjbppociogoopaaDoorSFr1
import Derived.Test.YtjbppociogoopaaDoorFrI
namespace Go.Proofs.YtjbppociogoopaaDoor
open Go.RowKit Go.Deep Go.Proofs.YtjbppociogoopaaDoor.Num

set_option maxRecDepth 100000 in
/-- impl.KindName -/
theorem iname (k : Int) (w : World) :
    Calls Tryd.prog 21 #[.int .i64 k] w fun e w' => e = .returned (.string (kname k)) ∧ w' = w := by
  by_cases h : isK k
  · rcases h with rfl | rfl | rfl | rfl | rfl | rfl | rfl | rfl | rfl
    all_goals (
      go_enter Tryd.func21, Tryd.ntmps21
      go_wp2
      go_ret
      exact ⟨rfl, rfl⟩)
  · rw [kname_none k h]
    unfold isK at h
    have e1 : (k == 4) = false := by simp; omega
    have e2 : (k == 5) = false := by simp; omega
    have e3 : (k == 8) = false := by simp; omega
    have e4 : (k == 16) = false := by simp; omega
    have e5 : (k == 17) = false := by simp; omega
    have e6 : (k == 18) = false := by simp; omega
    have e7 : (k == 20) = false := by simp; omega
    have e8 : (k == 21) = false := by simp; omega
    have e9 : (k == 22) = false := by simp; omega
    clear h
    go_enter Tryd.func21, Tryd.ntmps21
    go_wp2
    go_ret
    exact ⟨rfl, rfl⟩
end Go.Proofs.YtjbppociogoopaaDoor
