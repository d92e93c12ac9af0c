/-
  Contracts and lemmas for the law on draining.
-/
import Derived.Test.YtdaoaedkjoknmaaGreatDrZ0
import Derived.Test.YtdaoaedkjoknmaaGreatDrZ6
import Derived.Test.YtdaoaedkjoknmaaGreatDrZ1
import Derived.Test.YtdaoaedkjoknmaaGreatDrZ7
set_option maxRecDepth 1000000
set_option maxHeartbeats 8000000
namespace Go.Proofs.YtdaoaedkjoknmaaGreat
open Go.RowKit Go.Deep Go.Proofs.YtdaoaedkjoknmaaGreat.Num

theorem sinS (x lo hi : Int) (w : World) :
    Calls Tryz.prog 69 #[.int .i64 x, .int .i64 lo, .int .i64 hi] w fun e w' => e = .returned (.bool (decide (lo ≤ x ∧ x ≤ hi))) ∧ Below w.heap.size w w' := by
  by_cases h : lo ≤ x ∧ x ≤ hi
  · rw [decide_eq_true h]
    exact (in_yes x lo hi w h.1 h.2).mono fun e w' ⟨h1, h2⟩ => ⟨h1, by rw [h2]; exact Below.refl _ _⟩
  · rw [decide_eq_false h]
    exact (in_no x lo hi w (by omega)).mono fun e w' ⟨h1, h2⟩ => ⟨h1, by rw [h2]; exact Below.refl _ _⟩
theorem squicS (n : Int) (w : World) :
    Calls Tryz.prog 70 #[.int .i64 n] w fun e w' => e = .returned (.bool (decide (0 ≤ n ∧ n ≤ 4611686018427387903))) ∧ Below w.heap.size w w' := by
  have H := LH fun W => sinS n 0 4611686018427387903 W
  generalize decide (0 ≤ n ∧ n ≤ 4611686018427387903) = b at *
  go_enter Tryz.func70, Tryz.ntmps70
  go_wp2_with fail
  refine (H.out _).mono ?_
  rintro e w1 ⟨rfl, hb1⟩
  have HB := LH hb1
  clear hb1
  go_wp2
  go_ret
  exact ⟨rfl, HB.out⟩
def InSP (w : World) (s : Sn) (v1 v2 v3 v4 : Value) (p : Pc) (W : World) : Prop :=
  CellS W w.heap.size s v1 v2 v3 v4 ∧ (W.cell? ⟨w.heap.size + 1, 0, none⟩ = some (.int .i64 p.off) ∧ W.cell? ⟨w.heap.size + 1, 1, none⟩ = some (.string p.data) ∧ W.cell? ⟨w.heap.size + 1, 2, none⟩ = some (.bool p.fin)) ∧ Below w.heap.size w W
theorem InSP.start (w : World) (s : Sn) (v1 v2 v3 v4 : Value) (p : Pc) : InSP w s v1 v2 v3 v4 p ((w.alloc (.cells (snB s v1 v2 v3 v4) 29)).alloc (.cells #[.int .i64 p.off, .string p.data, .bool p.fin] 44)) := by
  have hz : (w.alloc (.cells (snB s v1 v2 v3 v4) 29)).heap.size = w.heap.size + 1 := by simp
  refine ⟨(RowS.new w s v1 v2 v3 v4).alloc _ |>.cells, ?_, ((Below.refl _ _).alloc (Nat.le_refl _) _).alloc (by rw [hz]; exact Nat.le_succ _) _⟩
  rw [← hz]
  refine ⟨?_, ?_, ?_⟩ <;> (rw [World.cell?_alloc_at _ _ _ _ rfl]; rfl)
end Go.Proofs.YtdaoaedkjoknmaaGreat
