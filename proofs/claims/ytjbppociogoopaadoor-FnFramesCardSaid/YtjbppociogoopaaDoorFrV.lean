/-
  Frames as values, and a frame in a block of its own.
-/
import Derived.Test.YtjbppociogoopaaDoorFrN
import Derived.Test.YtjbppociogoopaaDoorKitA
namespace Go.Proofs.YtjbppociogoopaaDoor
open Go.RowKit Go.Deep Go.Proofs.YtjbppociogoopaaDoor.Num

/-- A frame, as a value. -/
abbrev frV (f : Fr) : Value := .agg #[.int .i64 f.kind, .int .i64 f.stream, .int .i64 f.offset, .string f.data, .bool f.fin, .int .i64 f.code, .int .i64 f.limit, .int .i64 f.final, .bool f.uni]
/-- A frame's cells, as a list. -/
def frL (f : Fr) : List Value := [.int .i64 f.kind, .int .i64 f.stream, .int .i64 f.offset, .string f.data, .bool f.fin, .int .i64 f.code, .int .i64 f.limit, .int .i64 f.final, .bool f.uni]
theorem frL_len (f : Fr) : (frL f).length = 9 := rfl
/-- The cells of a frame. -/
abbrev frC (f : Fr) : Array Value := #[.int .i64 f.kind, .int .i64 f.stream, .int .i64 f.offset, .string f.data, .bool f.fin, .int .i64 f.code, .int .i64 f.limit, .int .i64 f.final, .bool f.uni]
/-- A block holds a frame. -/
def BoxF (w : World) (g : Nat) (f : Fr) : Prop := w.heap[g]? = some (.cells (frC f) 25 (0, 0))
theorem BoxF.cells {w : World} {g : Nat} {f : Fr} (c : BoxF w g f) : w.cell? ⟨g, 0, none⟩ = some (.int .i64 f.kind) ∧ w.cell? ⟨g, 1, none⟩ = some (.int .i64 f.stream) ∧ w.cell? ⟨g, 2, none⟩ = some (.int .i64 f.offset) ∧ w.cell? ⟨g, 3, none⟩ = some (.string f.data) ∧ w.cell? ⟨g, 4, none⟩ = some (.bool f.fin) ∧ w.cell? ⟨g, 5, none⟩ = some (.int .i64 f.code) ∧ w.cell? ⟨g, 6, none⟩ = some (.int .i64 f.limit) ∧ w.cell? ⟨g, 7, none⟩ = some (.int .i64 f.final) ∧ w.cell? ⟨g, 8, none⟩ = some (.bool f.uni) :=
  ⟨cell_of_row w g 0 _ _ _ c, cell_of_row w g 1 _ _ _ c, cell_of_row w g 2 _ _ _ c, cell_of_row w g 3 _ _ _ c, cell_of_row w g 4 _ _ _ c, cell_of_row w g 5 _ _ _ c, cell_of_row w g 6 _ _ _ c, cell_of_row w g 7 _ _ _ c, cell_of_row w g 8 _ _ _ c⟩
theorem BoxF.free {w : World} {g : Nat} {f : Fr} (c : BoxF w g f) (k : Nat) : w.frozen? ⟨g, k, none⟩ = false := by
  unfold BoxF at c
  simp [World.frozen?, c]
theorem BoxF.new (w : World) (f : Fr) : BoxF (w.alloc (.cells (frC f) 25)) w.heap.size f := heap_alloc_new w _
theorem BoxF.lt {w : World} {g : Nat} {f : Fr} (c : BoxF w g f) : g < w.heap.size := by
  unfold BoxF at c
  exact (Array.getElem?_eq_some_iff.1 c).1
theorem BoxF.below {w w' : World} {g K : Nat} {f : Fr} (c : BoxF w g f) (h : Below K w w') (hg : g < K) : BoxF w' g f := (h.block g hg).trans c
theorem BoxF.alloc {w : World} {g : Nat} {f : Fr} (c : BoxF w g f) (o : Obj) : BoxF (w.alloc o) g f := (heap_alloc_old w o (BoxF.lt c)).trans c
theorem BoxF.other {w : World} {g g' : Nat} {f : Fr} (c : BoxF w g f) (h : g' ≠ g) (k : Nat) (v : Value) : BoxF (w.setCell ⟨g', k, none⟩ v) g f :=
  (Below.heap_setCell w ⟨g', k, none⟩ v g (by first | exact fun e => h e.symm | exact h)).trans c
theorem BoxF.set0 {w : World} {g : Nat} {f : Fr} (c : BoxF w g f) (x : Int) : BoxF (w.setCell ⟨g, 0, none⟩ (.int .i64 x)) g { f with kind := x } := by
  unfold BoxF at c ⊢
  simp [World.setCell, Array.getElem?_modify, c]
theorem BoxF.set1 {w : World} {g : Nat} {f : Fr} (c : BoxF w g f) (x : Int) : BoxF (w.setCell ⟨g, 1, none⟩ (.int .i64 x)) g { f with stream := x } := by
  unfold BoxF at c ⊢
  simp [World.setCell, Array.getElem?_modify, c]
theorem BoxF.set2 {w : World} {g : Nat} {f : Fr} (c : BoxF w g f) (x : Int) : BoxF (w.setCell ⟨g, 2, none⟩ (.int .i64 x)) g { f with offset := x } := by
  unfold BoxF at c ⊢
  simp [World.setCell, Array.getElem?_modify, c]
theorem BoxF.set3 {w : World} {g : Nat} {f : Fr} (c : BoxF w g f) (x : ByteArray) : BoxF (w.setCell ⟨g, 3, none⟩ (.string x)) g { f with data := x } := by
  unfold BoxF at c ⊢
  simp [World.setCell, Array.getElem?_modify, c]
theorem BoxF.set4 {w : World} {g : Nat} {f : Fr} (c : BoxF w g f) (x : Bool) : BoxF (w.setCell ⟨g, 4, none⟩ (.bool x)) g { f with fin := x } := by
  unfold BoxF at c ⊢
  simp [World.setCell, Array.getElem?_modify, c]
theorem BoxF.set5 {w : World} {g : Nat} {f : Fr} (c : BoxF w g f) (x : Int) : BoxF (w.setCell ⟨g, 5, none⟩ (.int .i64 x)) g { f with code := x } := by
  unfold BoxF at c ⊢
  simp [World.setCell, Array.getElem?_modify, c]
theorem BoxF.set6 {w : World} {g : Nat} {f : Fr} (c : BoxF w g f) (x : Int) : BoxF (w.setCell ⟨g, 6, none⟩ (.int .i64 x)) g { f with limit := x } := by
  unfold BoxF at c ⊢
  simp [World.setCell, Array.getElem?_modify, c]
theorem BoxF.set7 {w : World} {g : Nat} {f : Fr} (c : BoxF w g f) (x : Int) : BoxF (w.setCell ⟨g, 7, none⟩ (.int .i64 x)) g { f with final := x } := by
  unfold BoxF at c ⊢
  simp [World.setCell, Array.getElem?_modify, c]
theorem BoxF.set8 {w : World} {g : Nat} {f : Fr} (c : BoxF w g f) (x : Bool) : BoxF (w.setCell ⟨g, 8, none⟩ (.bool x)) g { f with uni := x } := by
  unfold BoxF at c ⊢
  simp [World.setCell, Array.getElem?_modify, c]
theorem BoxF.at (w : World) (f : Fr) (g : Nat) (hg : g = w.heap.size) : BoxF (w.alloc (.cells (frC f) 25)) g f := by
  subst hg
  exact BoxF.new w f
end Go.Proofs.YtjbppociogoopaaDoor
