/-
  A row of eight bytes of the call's own: 'copy' of a string into it.
-/
import Derived.Test.YthigojonagocgaaDoorForms
import Derived.Laws.CopyRow
import Derived.Laws.CopyOwn
import Derived.Deep.RegionLaw
namespace Go.Proofs.YthigojonagocgaaDoor
open Go.RowKit Go.Deep Go.Proofs.YthigojonagocgaaDoor.Num

/-- Block g holds these bytes. -/
def Row8 (w : World) (g : Nat) (l : List UInt8) : Prop := w.heap[g]? = some (.cells (cellsB l) 51 (0, 0))
theorem Row8.keep {w w' : World} {g : Nat} {l : List UInt8} (h : Row8 w g l) (hb : w'.heap[g]? = w.heap[g]?) : Row8 w' g l := hb.trans h
theorem Row8.lt {w : World} {g : Nat} {l : List UInt8} (h : Row8 w g l) : g < w.heap.size := (Array.getElem?_eq_some_iff.1 h).1
theorem Row8.cell {w : World} {g : Nat} {l : List UInt8} (h : Row8 w g l) (j : Nat) (hj : j < l.length) : w.cell? ⟨g, j, none⟩ = some (.int .u8 (l[j].toNat : Int)) := by
  rw [cell_of_row w g j _ _ _ h, cellsB_at l j hj]
theorem Row8.cells {w : World} {g : Nat} {b0 b1 b2 b3 b4 b5 b6 b7 : UInt8} (h : Row8 w g [b0, b1, b2, b3, b4, b5, b6, b7]) :
    w.cell? ⟨g, 0, none⟩ = some (.int .u8 b0.toNat) ∧ w.cell? ⟨g, 1, none⟩ = some (.int .u8 b1.toNat) ∧ w.cell? ⟨g, 2, none⟩ = some (.int .u8 b2.toNat) ∧ w.cell? ⟨g, 3, none⟩ = some (.int .u8 b3.toNat) ∧
    w.cell? ⟨g, 4, none⟩ = some (.int .u8 b4.toNat) ∧ w.cell? ⟨g, 5, none⟩ = some (.int .u8 b5.toNat) ∧ w.cell? ⟨g, 6, none⟩ = some (.int .u8 b6.toNat) ∧ w.cell? ⟨g, 7, none⟩ = some (.int .u8 b7.toNat) :=
  ⟨h.cell 0 (by simp), h.cell 1 (by simp), h.cell 2 (by simp), h.cell 3 (by simp), h.cell 4 (by simp), h.cell 5 (by simp), h.cell 6 (by simp), h.cell 7 (by simp)⟩

theorem run_copy8 (w : World) (ty : TypeId) (g : Nat) (t : ByteArray) (ht : t.size ≤ 8) (hg : Row8 w g (List.replicate 8 0)) :
    (Builtin.copy_ #[22, 9] ty #[.slice (some ⟨g, 0, none⟩) 8 8, .string t]).run Tryd.prog w = .ok (goInt t.size) (w.setRow g (cellsB (t.data.toList ++ List.replicate (8 - t.size) 0))) := by
  have hl : t.data.toList.length = t.size := by simp
  have hmin : Nat.min t.size 8 = t.size := Nat.min_eq_left ht
  have hc : (cellsB (List.replicate 8 0)).size = 8 := by simp [cellsB]
  have hst := run_storeCells_at (P := Tryd.prog) g 0 51 (t.data.toList.map fun x => Value.int .u8 (x.toNat : Int)) 0 (cellsB (List.replicate 8 0)) w hg (by rw [hc]; simp; omega) (by
    intro v hv
    obtain ⟨x, _, rfl⟩ := List.mem_map.1 hv
    rfl)
  have hrow : ((cellsB (List.replicate 8 0)).toList.take (0 + 0) ++ (t.data.toList.map fun x => Value.int .u8 (x.toNat : Int)) ++ (cellsB (List.replicate 8 0)).toList.drop (0 + 0 + (t.data.toList.map fun x => Value.int .u8 (x.toNat : Int)).length)).toArray = cellsB (t.data.toList ++ List.replicate (8 - t.size) 0) := by
    unfold cellsB
    rw [List.length_map, hl, List.map_append]
    simp
    show List.drop t.size (List.replicate 8 (Value.int .u8 0)) = _
    rw [List.drop_replicate]
  rw [hrow] at hst
  have hz := Tryd.sizeOf5
  simp [Builtin.copy_, run_underlying Tryd.underlying22, Builtin.lenOf, Builtin.firstCells, hz, hmin]
  rw [List.take_of_length_le (by simp), hst]
  rfl

/-- .. as one step of a region that draws. -/
theorem step_copy8 {ops : Array Oper} {o : Oper} {a : Act} {w : World} {K : Act → World → Prop} {Q : Exit → Act → World → Prop} {E : Prop}
    (hgd : o.guard = none) (d x : Operand) (ho : o.op = .call { callee := .builtin .copy, args := #[d, x], argTypes := #[22, 9] })
    (g : Nat) (hd : a.eval d = .slice (some ⟨g, 0, none⟩) 8 8) (t : ByteArray) (hx : a.eval x = .string t) (ht : t.size ≤ 8) (hg : Row8 w g (List.replicate 8 0))
    (h : ∀ w', Row8 w' g (t.data.toList ++ List.replicate (8 - t.size) 0) → (∀ B, B ≤ g → Below B w w') → K (a.put o.dst (goInt t.size)) w') :
    if Region.wanted o (yielded ops a.tmps) = true then Oper.wp Tryd.prog o a w K Q else E := by
  have hw : Region.wanted o (yielded ops a.tmps) = true := by simp [Region.wanted, hgd]
  rw [if_pos hw]
  have hrun := run_copy8 w o.type g t ht hg
  unfold Oper.wp
  simp [execOp, ho, resolve, invoke, builtin, hd, hx, hrun, Result.andThen]
  refine h _ (setRow_heap w g _ _ _ _ hg) (fun B hB => below_setRow (Below.refl B w) hB _)
end Go.Proofs.YthigojonagocgaaDoor
