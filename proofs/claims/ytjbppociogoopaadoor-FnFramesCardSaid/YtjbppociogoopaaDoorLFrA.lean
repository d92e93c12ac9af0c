/-
  What the laws' words on frames return: szFrame, toFrame, eqFrame.
-/
import Derived.Test.YtjbppociogoopaaDoorFrV
import Derived.Deep.DeepCutAuto
import Derived.Deep.CutBlock
namespace Go.Proofs.YtjbppociogoopaaDoor
open Go.RowKit Go.Deep Go.Proofs.YtjbppociogoopaaDoor.Num

/-- The cells of a frame in a block, whatever the type's number. -/
theorem row9 {w : World} {g : Nat} {f : Fr} {t : TypeId} (h : w.heap[g]? = some (.cells (frC f) t (0, 0))) : w.cell? ⟨g, 0, none⟩ = some (.int .i64 f.kind) ∧ w.cell? ⟨g, 1, none⟩ = some (.int .i64 f.stream) ∧ w.cell? ⟨g, 2, none⟩ = some (.int .i64 f.offset) ∧ w.cell? ⟨g, 3, none⟩ = some (.string f.data) ∧ w.cell? ⟨g, 4, none⟩ = some (.bool f.fin) ∧ w.cell? ⟨g, 5, none⟩ = some (.int .i64 f.code) ∧ w.cell? ⟨g, 6, none⟩ = some (.int .i64 f.limit) ∧ w.cell? ⟨g, 7, none⟩ = some (.int .i64 f.final) ∧ w.cell? ⟨g, 8, none⟩ = some (.bool f.uni) :=
  ⟨cell_of_row w g 0 _ _ _ h, cell_of_row w g 1 _ _ _ h, cell_of_row w g 2 _ _ _ h, cell_of_row w g 3 _ _ _ h, cell_of_row w g 4 _ _ _ h, cell_of_row w g 5 _ _ _ h, cell_of_row w g 6 _ _ _ h, cell_of_row w g 7 _ _ _ h, cell_of_row w g 8 _ _ _ h⟩
/-- laws.szFrame -/
theorem lsz (f : Fr) (n : Int) (w : World) (h0 : -1 ≤ n) (h1 : n ≤ 1048576) (hs : f.data.size ≤ 9223372036854775807) :
    Calls Tryd.prog 32 #[frV f, .int .i64 n] w fun e w' => e = .returned (.int .i64 (if n < f.data.size then -1 else n - f.data.size)) ∧ Below w.heap.size w w' := by
  have hw : wrap64 (n - f.data.size) = n - f.data.size := by unfold wrap64; omega
  by_cases h : n < f.data.size
  · rw [if_pos h]
    have hd : decide (n - f.data.size < 0) = true := decide_eq_true (by omega)
    clear h
    go_enter Tryd.func32, Tryd.ntmps32
    go_wp2
    go_ret
    exact ⟨rfl, (Below.refl _ _).alloc (Nat.le_refl _) _⟩
  · rw [if_neg h]
    have hd : decide (n - f.data.size < 0) = false := decide_eq_false (by omega)
    clear h
    go_enter Tryd.func32, Tryd.ntmps32
    go_wp2
    go_ret
    exact ⟨rfl, (Below.refl _ _).alloc (Nat.le_refl _) _⟩

set_option maxRecDepth 100000 in
/-- laws.toFrame -/
theorem lto (f : Fr) (w : World) :
    Calls Tryd.prog 33 #[frV f] w fun e w' => e = .returned (frV f) ∧ Below w.heap.size w w' := by
  go_enter Tryd.func33, Tryd.ntmps33
  go_wp2
  refine bodyPost_ret (results_cell_row rfl _ _ (w.heap.size + 1) _ _ _ _ rfl (BoxF.alloc (BoxF.at _ f _ (by simp)) _) Tryd.underlying25 rfl (by kernel_rfl)) rfl ?_
  exact ⟨rfl, (((Below.refl _ _).alloc (Nat.le_refl _) _).alloc (by simp) _).alloc (by simp; omega) _⟩
end Go.Proofs.YtjbppociogoopaaDoor
