/-
  Contracts and lemmas for the law on draining.
-/
import Derived.Test.YtdaoaedkjoknmaaGreatDrZ0
import Derived.Test.YtdaoaedkjoknmaaGreatDrZ33
import Derived.Test.YtdaoaedkjoknmaaGreatDrZ6
set_option maxRecDepth 1000000
set_option maxHeartbeats 8000000
namespace Go.Proofs.YtdaoaedkjoknmaaGreat
open Go.RowKit Go.Deep Go.Proofs.YtdaoaedkjoknmaaGreat.Num

def InBS (w : World) (s : Sn) (v1 v2 v3 v4 : Value) (W : World) : Prop := RowS W w.heap.size s v1 v2 v3 v4 ∧ Below w.heap.size w W
theorem InBS.start (w : World) (s : Sn) (v1 v2 v3 v4 : Value) : InBS w s v1 v2 v3 v4 (w.alloc (.cells (snB s v1 v2 v3 v4) 29)) := ⟨RowS.new w s v1 v2 v3 v4, (Below.refl _ _).alloc (Nat.le_refl _) _⟩
theorem InBS.next {w : World} {s : Sn} {v1 v2 v3 v4 : Value} {W W' : World} (h : InBS w s v1 v2 v3 v4 W) (hb : Below W.heap.size W W') : InBS w s v1 v2 v3 v4 W' := ⟨h.1.below hb h.1.lt, h.2.trans (hb.mono (Nat.le_of_lt h.1.lt))⟩
theorem InBS.drew {w : World} {s : Sn} {v1 v2 v3 v4 : Value} {W : World} (h : InBS w s v1 v2 v3 v4 W) : InBS w s v1 v2 v3 v4 W.drew := h.next (Below.refl _ _).drew
theorem set_start (w : World) (s : Sn) (v1 v2 v3 v4 : Value) :
    InBS w s v1 v2 v3 v4 ((w.alloc (.cells (snB s v1 v2 v3 v4) 29)).alloc (.cells #[.slice none 0 0, .slice none 0 0, .slice none 0 0] 75)) ∧ ((w.alloc (.cells (snB s v1 v2 v3 v4) 29)).alloc (.cells #[.slice none 0 0, .slice none 0 0, .slice none 0 0] 75)).heap[w.heap.size + 1]? = some (.cells #[.slice none 0 0, .slice none 0 0, .slice none 0 0] 75 (0, 0)) := by
  have h1 : ∀ o1, (w.alloc o1).heap.size = w.heap.size + 1 := fun _ => by simp
  refine ⟨(InBS.start w s v1 v2 v3 v4).next ((Below.refl _ _).alloc (Nat.le_refl _) _), ?_⟩
  have h := heap_alloc_new (w.alloc (.cells (snB s v1 v2 v3 v4) 29)) (.cells #[.slice none 0 0, .slice none 0 0, .slice none 0 0] 75)
  rw [h1] at h
  exact h
theorem row3_put {W : World} {g : Nat} {t : TypeId} {a b c : Value} (x : W.heap[g]? = some (.cells #[a, b, c] t (0, 0))) (v2 v3 v4 : Value) :
    (((W.setCell ⟨g, 0, none⟩ v2).setCell ⟨g, 1, none⟩ v3).setCell ⟨g, 2, none⟩ v4).heap[g]? = some (.cells #[v2, v3, v4] t (0, 0)) := by
  have h := row_put (row_put (row_put x 0 v2) 1 v3) 2 v4
  simpa using h
theorem isetsof (s : Sn) (v1 : Value) (A2 A3 A4 : Option Addr) (n2 c2 n3 c3 n4 c4 : Nat) (w : World) :
    Calls Tryz.prog 38 #[snV s v1 (.slice A2 n2 c2) (.slice A3 n3 c3) (.slice A4 n4 c4)] w fun e w' => e = .returned (.agg #[.slice A2 n2 c2, .slice A3 n3 c3, .slice A4 n4 c4]) ∧ Below w.heap.size w w' := by
  have HS := LH (set_start w s v1 (.slice A2 n2 c2) (.slice A3 n3 c3) (.slice A4 n4 c4))
  go_enter Tryz.func38, Tryz.ntmps38
  go_upto_region 1 with fail
  generalize (w.alloc (.cells (snB s v1 (.slice A2 n2 c2) (.slice A3 n3 c3) (.slice A4 n4 c4)) 29)).alloc (.cells #[.slice none 0 0, .slice none 0 0, .slice none 0 0] 75) = w2 at *
  obtain ⟨a0, a1, a2, a3, a4, a5, a6, a7, a8, a9, a10, a11⟩ := HS.out.1.1.cells
  have q0 := cell_of_row w2 (w.heap.size + 1) 0 _ _ _ HS.out.2
  have q1 := cell_of_row w2 (w.heap.size + 1) 1 _ _ _ HS.out.2
  have q2 := cell_of_row w2 (w.heap.size + 1) 2 _ _ _ HS.out.2
  have qf : ∀ k, w2.frozen? ⟨w.heap.size + 1, k, none⟩ = false := fun k => by simp [World.frozen?, HS.out.2]
  go_wp2
  refine bodyPost_ret (results_cell_row rfl _ _ (w.heap.size + 1) _ _ _ _ rfl (row3_put HS.out.2 (.slice A2 n2 c2) (.slice A3 n3 c3) (.slice A4 n4 c4)) Tryz.underlying75 rfl (by kernel_rfl)) rfl ?_
  exact ⟨rfl, ((HS.out.1.2.setCell (p := ⟨w.heap.size + 1, 0, none⟩) (Nat.le_succ _) _).setCell (p := ⟨w.heap.size + 1, 1, none⟩) (Nat.le_succ _) _).setCell (p := ⟨w.heap.size + 1, 2, none⟩) (Nat.le_succ _) _⟩
end Go.Proofs.YtdaoaedkjoknmaaGreat
