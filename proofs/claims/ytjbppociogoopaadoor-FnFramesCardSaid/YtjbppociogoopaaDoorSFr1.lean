/-
  What spec.KindName, IsAboutStream and l4Quic return.
-/
import Derived.Test.YtjbppociogoopaaDoorFrV
import Derived.Test.YtjbppociogoopaaDoorIn
namespace Go.Proofs.YtjbppociogoopaaDoor
open Go.RowKit Go.Deep Go.Proofs.YtjbppociogoopaaDoor.Num

set_option maxRecDepth 100000 in
/-- spec.KindName -/
theorem sname (k : Int) (w : World) :
    Calls Tryd.prog 22 #[.int .i64 k] w fun e w' => e = .returned (.string (kname k)) ∧ w' = w := by
  by_cases h : isK k
  · rcases h with rfl | rfl | rfl | rfl | rfl | rfl | rfl | rfl | rfl
    all_goals (
      go_enter Tryd.func22, Tryd.ntmps22
      go_wp2
      go_ret
      exact ⟨rfl, rfl⟩)
  · rw [kname_none k h]
    unfold isK at h
    have e1 : (k == 4) = false := by simp; omega
    have e2 : (k == 5) = false := by simp; omega
    have e3 : (k == 8) = false := by simp; omega
    have e4 : (k == 16) = false := by simp; omega
    have e5 : (k == 17) = false := by simp; omega
    have e6 : (k == 18) = false := by simp; omega
    have e7 : (k == 20) = false := by simp; omega
    have e8 : (k == 21) = false := by simp; omega
    have e9 : (k == 22) = false := by simp; omega
    clear h
    go_enter Tryd.func22, Tryd.ntmps22
    go_wp2
    go_ret
    exact ⟨rfl, rfl⟩

set_option maxRecDepth 100000 in
/-- spec.IsAboutStream -/
theorem sabout (f : Fr) (w : World) :
    Calls Tryd.prog 24 #[frV f] w fun e w' => e = .returned (.bool (decide (aboutK f.kind))) ∧ Below w.heap.size w w' := by
  obtain ⟨k, st, ofs, dt, fi, co, li, fl, un⟩ := f
  by_cases h : aboutK k
  · rw [decide_eq_true h]
    rcases h with rfl | rfl | rfl | rfl | rfl
    all_goals (
      go_enter Tryd.func24, Tryd.ntmps24
      go_wp2
      go_ret
      exact ⟨rfl, (Below.refl _ _).alloc (Nat.le_refl _) _⟩)
  · rw [decide_eq_false h]
    unfold aboutK at h
    have e1 : (k == 4) = false := by simp; omega
    have e2 : (k == 5) = false := by simp; omega
    have e3 : (k == 8) = false := by simp; omega
    have e4 : (k == 17) = false := by simp; omega
    have e5 : (k == 21) = false := by simp; omega
    clear h
    go_enter Tryd.func24, Tryd.ntmps24
    go_wp2
    go_ret
    exact ⟨rfl, (Below.refl _ _).alloc (Nat.le_refl _) _⟩

/-- spec.l4Quic -/
theorem squic (n : Int) (w : World) :
    Calls Tryd.prog 54 #[.int .i64 n] w fun e w' => e = .returned (.bool (decide (inQ n))) ∧ w' = w := by
  by_cases h : inQ n
  · rw [decide_eq_true h]
    go_enter Tryd.func54, Tryd.ntmps54
    go_wp2_with fail
    refine (in_yes n 0 4611686018427387903 _ h.1 h.2).mono ?_
    rintro e w1 ⟨rfl, rfl⟩
    go_wp2
    go_ret
    exact ⟨rfl, rfl⟩
  · rw [decide_eq_false h]
    go_enter Tryd.func54, Tryd.ntmps54
    go_wp2_with fail
    refine (in_no n 0 4611686018427387903 _ (by unfold inQ at h; omega)).mono ?_
    rintro e w1 ⟨rfl, rfl⟩
    go_wp2
    go_ret
    exact ⟨rfl, rfl⟩
end Go.Proofs.YtjbppociogoopaaDoor
