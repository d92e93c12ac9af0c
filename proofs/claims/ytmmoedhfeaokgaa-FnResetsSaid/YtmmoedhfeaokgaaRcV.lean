/-
  Receivers as values, and receivers in blocks of their own.
-/
import Derived.Test.YtmmoedhfeaokgaaLBufVar
import Derived.Test.YtmmoedhfeaokgaaRcN
namespace Go.Proofs.Ytmmoedhfeaokgaa
open Go.RowKit Go.Deep Go.Proofs.Ytmmoedhfeaokgaa.Num

/-- A receiver, as a value: its numbers and the slice of its chunks. -/
abbrev rcV (r : Rc) (v : Value) : Value := .agg #[.int .i64 r.st, .int .i64 r.buf.next, v, .int .i64 r.fin, .int .i64 r.hi, .int .i64 r.code]
/-- Its cells. -/
abbrev rcC (s n : Int) (v : Value) (f h c : Int) : Array Value := #[.int .i64 s, .int .i64 n, v, .int .i64 f, .int .i64 h, .int .i64 c]
/-- Six cells of a block. -/
def Cell6 (w : World) (g : Nat) (s n : Int) (v : Value) (f h c : Int) : Prop := w.cell? ⟨g, 0, none⟩ = some (.int .i64 s) ∧ w.cell? ⟨g, 1, none⟩ = some (.int .i64 n) ∧ w.cell? ⟨g, 2, none⟩ = some v ∧ w.cell? ⟨g, 3, none⟩ = some (.int .i64 f) ∧ w.cell? ⟨g, 4, none⟩ = some (.int .i64 h) ∧ w.cell? ⟨g, 5, none⟩ = some (.int .i64 c)
theorem Cell6.below {w w' : World} {K g : Nat} {s n : Int} {v : Value} {f h c : Int} (x : Cell6 w g s n v f h c) (hb : Below K w w') (hg : g < K) : Cell6 w' g s n v f h c :=
  ⟨(hb.cell (p := ⟨g, 0, none⟩) hg).trans x.1, (hb.cell (p := ⟨g, 1, none⟩) hg).trans x.2.1, (hb.cell (p := ⟨g, 2, none⟩) hg).trans x.2.2.1, (hb.cell (p := ⟨g, 3, none⟩) hg).trans x.2.2.2.1, (hb.cell (p := ⟨g, 4, none⟩) hg).trans x.2.2.2.2.1, (hb.cell (p := ⟨g, 5, none⟩) hg).trans x.2.2.2.2.2⟩
theorem Cell6.of {w w' : World} {g : Nat} {s n : Int} {v : Value} {f h c : Int} (x : Cell6 w g s n v f h c) (e : w'.heap[g]? = w.heap[g]?) : Cell6 w' g s n v f h c :=
  ⟨(World.cell?_of_block (w := w) e).trans x.1, (World.cell?_of_block (w := w) e).trans x.2.1, (World.cell?_of_block (w := w) e).trans x.2.2.1, (World.cell?_of_block (w := w) e).trans x.2.2.2.1, (World.cell?_of_block (w := w) e).trans x.2.2.2.2.1, (World.cell?_of_block (w := w) e).trans x.2.2.2.2.2⟩
theorem Cell6.new (w : World) (s n : Int) (v : Value) (f h c : Int) (t : TypeId) : Cell6 (w.alloc (.cells (rcC s n v f h c) t)) w.heap.size s n v f h c := by
  refine ⟨?_, ?_, ?_, ?_, ?_, ?_⟩ <;> (rw [World.cell?_alloc_at _ _ _ _ rfl]; rfl)
/-- The receiver's cells. -/
abbrev CellR (w : World) (g : Nat) (r : Rc) (v : Value) : Prop := Cell6 w g r.st r.buf.next v r.fin r.hi r.code
/-- A block holds a receiver. -/
def BoxR (w : World) (g : Nat) (s n : Int) (v : Value) (f h c : Int) : Prop := w.heap[g]? = some (.cells (rcC s n v f h c) 28 (0, 0))
theorem BoxR.cells {w : World} {g : Nat} {s n : Int} {v : Value} {f h c : Int} (x : BoxR w g s n v f h c) : Cell6 w g s n v f h c := ⟨cell_of_row w g 0 _ _ _ x, cell_of_row w g 1 _ _ _ x, cell_of_row w g 2 _ _ _ x, cell_of_row w g 3 _ _ _ x, cell_of_row w g 4 _ _ _ x, cell_of_row w g 5 _ _ _ x⟩
theorem BoxR.free {w : World} {g : Nat} {s n : Int} {v : Value} {f h c : Int} (x : BoxR w g s n v f h c) (k : Nat) : w.frozen? ⟨g, k, none⟩ = false := by
  unfold BoxR at x
  simp [World.frozen?, x]
theorem BoxR.new (w : World) (s n : Int) (v : Value) (f h c : Int) : BoxR (w.alloc (.cells (rcC s n v f h c) 28)) w.heap.size s n v f h c := heap_alloc_new w _
theorem BoxR.lt {w : World} {g : Nat} {s n : Int} {v : Value} {f h c : Int} (x : BoxR w g s n v f h c) : g < w.heap.size := (Array.getElem?_eq_some_iff.1 x).1
theorem BoxR.below {w w' : World} {g K : Nat} {s n : Int} {v : Value} {f h c : Int} (x : BoxR w g s n v f h c) (hb : Below K w w') (hg : g < K) : BoxR w' g s n v f h c := (hb.block g hg).trans x
theorem BoxR.alloc {w : World} {g : Nat} {s n : Int} {v : Value} {f h c : Int} (x : BoxR w g s n v f h c) (o : Obj) : BoxR (w.alloc o) g s n v f h c := (heap_alloc_old w o x.lt).trans x
theorem BoxR.other {w : World} {g : Nat} {s n : Int} {v : Value} {f h c : Int} (x : BoxR w g s n v f h c) (g' k : Nat) (u : Value) (hg : g ≠ g') : BoxR (w.setCell ⟨g', k, none⟩ u) g s n v f h c := (Below.heap_setCell w ⟨g', k, none⟩ u g hg).trans x
theorem BoxR.set0 {w : World} {g : Nat} {s n : Int} {v : Value} {f h c : Int} (x : BoxR w g s n v f h c) (y : Int) : BoxR (w.setCell ⟨g, 0, none⟩ (.int .i64 y)) g y n v f h c := by
  unfold BoxR at x ⊢
  simp [World.setCell, Array.getElem?_modify, x]
theorem BoxR.set1 {w : World} {g : Nat} {s n : Int} {v : Value} {f h c : Int} (x : BoxR w g s n v f h c) (y : Int) : BoxR (w.setCell ⟨g, 1, none⟩ (.int .i64 y)) g s y v f h c := by
  unfold BoxR at x ⊢
  simp [World.setCell, Array.getElem?_modify, x]
theorem BoxR.set2 {w : World} {g : Nat} {s n : Int} {v : Value} {f h c : Int} (x : BoxR w g s n v f h c) (u : Value) : BoxR (w.setCell ⟨g, 2, none⟩ u) g s n u f h c := by
  unfold BoxR at x ⊢
  simp [World.setCell, Array.getElem?_modify, x]
theorem BoxR.set3 {w : World} {g : Nat} {s n : Int} {v : Value} {f h c : Int} (x : BoxR w g s n v f h c) (y : Int) : BoxR (w.setCell ⟨g, 3, none⟩ (.int .i64 y)) g s n v y h c := by
  unfold BoxR at x ⊢
  simp [World.setCell, Array.getElem?_modify, x]
theorem BoxR.set4 {w : World} {g : Nat} {s n : Int} {v : Value} {f h c : Int} (x : BoxR w g s n v f h c) (y : Int) : BoxR (w.setCell ⟨g, 4, none⟩ (.int .i64 y)) g s n v f y c := by
  unfold BoxR at x ⊢
  simp [World.setCell, Array.getElem?_modify, x]
theorem BoxR.set5 {w : World} {g : Nat} {s n : Int} {v : Value} {f h c : Int} (x : BoxR w g s n v f h c) (y : Int) : BoxR (w.setCell ⟨g, 5, none⟩ (.int .i64 y)) g s n v f h y := by
  unfold BoxR at x ⊢
  simp [World.setCell, Array.getElem?_modify, x]
/-- A variable in block g holds a receiver whose chunks are the call's own, from block B on, below g. -/
def VarR (W : World) (B g : Nat) (r : Rc) (v : Value) : Prop :=
  CellR W g r v ∧ OwnX W B v r.buf.chs ∧ (∀ k, v.ownBlock = some k → k < g) ∧ B ≤ g ∧ g < W.heap.size
theorem VarR.new {W : World} {B : Nat} {v : Value} (r : Rc) (t : TypeId) (ho : OwnX W B v r.buf.chs) (hB : B ≤ W.heap.size) : VarR (W.alloc (.cells (rcC r.st r.buf.next v r.fin r.hi r.code) t)) B W.heap.size r v :=
  ⟨Cell6.new W r.st r.buf.next v r.fin r.hi r.code t, ho.alloc _, fun k hk => (ho.lt k hk).2, hB, by simp⟩
theorem VarR.next {W W' : World} {B g : Nat} {r : Rc} {v : Value} (h : VarR W B g r v) (hb : Below W.heap.size W W') : VarR W' B g r v :=
  ⟨h.1.below hb h.2.2.2.2, h.2.1.later hb, h.2.2.1, h.2.2.2.1, Nat.lt_of_lt_of_le h.2.2.2.2 hb.size⟩
theorem VarR.alloc {W : World} {B g : Nat} {r : Rc} {v : Value} (h : VarR W B g r v) (o : Obj) : VarR (W.alloc o) B g r v := h.next ((Below.refl _ _).alloc (Nat.le_refl _) _)
/-- Only one block has changed, and it is another one. -/
theorem VarR.kept {W W' : World} {B g : Nat} {r : Rc} {v : Value} {ob : Option Nat} (h : VarR W B g r v) (hg : W.grownBy W' ob) (hne : ∀ k, ob = some k → k < B ∨ g < k) : VarR W' B g r v := by
  have e : W'.heap[g]? = W.heap[g]? := hg.block g h.2.2.2.2 (fun e => by have := hne g e.symm; have := h.2.2.2.1; omega)
  refine ⟨h.1.of e, h.2.1.kept hg ?_, h.2.2.1, h.2.2.2.1, Nat.lt_of_lt_of_le h.2.2.2.2 hg.size⟩
  cases hv : v.ownBlock with
  | none => exact .inl rfl
  | some k =>
    refine .inr (fun e => ?_)
    have h1 := (h.2.1.lt k hv).1
    have h2 := h.2.2.1 k hv
    have := hne k e.symm
    omega
theorem VarR.in {W : World} {B g : Nat} {r : Rc} {v : Value} (h : VarR W B g r v) : ∀ k, v.ownBlock = some k → B ≤ k ∧ k < g := fun k hk => ⟨(h.2.1.lt k hk).1, h.2.2.1 k hk⟩
/-- .. whose chunks have been written. -/
def VarM (W : World) (B g : Nat) (r : Rc) (v : Value) (l : List Ch) : Prop :=
  CellR W g r v ∧ OwnX W B v l ∧ (∀ k, v.ownBlock = some k → k < g) ∧ B ≤ g ∧ g < W.heap.size
theorem VarM.next {W W' : World} {B g : Nat} {r : Rc} {v : Value} {l : List Ch} (h : VarM W B g r v l) (hb : Below W.heap.size W W') : VarM W' B g r v l :=
  ⟨h.1.below hb h.2.2.2.2, h.2.1.later hb, h.2.2.1, h.2.2.2.1, Nat.lt_of_lt_of_le h.2.2.2.2 hb.size⟩
theorem VarM.alloc {W : World} {B g : Nat} {r : Rc} {v : Value} {l : List Ch} (h : VarM W B g r v l) (o : Obj) : VarM (W.alloc o) B g r v l := h.next ((Below.refl _ _).alloc (Nat.le_refl _) _)
theorem VarR.wrote {W W' : World} {B g : Nat} {r : Rc} {v : Value} {l' : List Ch} (h : VarR W B g r v) (hg : W.grownBy W' v.ownBlock) (ho : OwnX W' B v l') : VarM W' B g r v l' := by
  have e : W'.heap[g]? = W.heap[g]? := hg.block g h.2.2.2.2 (fun e => by have := h.2.2.1 g e.symm; omega)
  exact ⟨h.1.of e, ho, h.2.2.1, h.2.2.2.1, Nat.lt_of_lt_of_le h.2.2.2.2 hg.size⟩
/-- The receiver that came in, boxed in block g: all that was made since lies behind it. -/
def InRc (w0 : World) (g : Nat) (r : Rc) (A : Option Addr) (cap : Nat) (W : World) : Prop :=
  CellR W g r (.slice A r.buf.chs.length cap) ∧ Chs W g A r.buf.chs ∧ g < W.heap.size ∧ Below g w0 W
theorem InRc.start (w : World) (r : Rc) (A : Option Addr) (cap : Nat) (t : TypeId) (hr : Chs w w.heap.size A r.buf.chs) : InRc w w.heap.size r A cap (w.alloc (.cells (rcC r.st r.buf.next (.slice A r.buf.chs.length cap) r.fin r.hi r.code) t)) :=
  ⟨Cell6.new w r.st r.buf.next _ r.fin r.hi r.code t, hr.below (Nat.le_refl _) ((Below.refl _ _).alloc (Nat.le_refl _) _), by simp, (Below.refl _ _).alloc (Nat.le_refl _) _⟩
theorem InRc.next {w0 : World} {g : Nat} {r : Rc} {A : Option Addr} {cap : Nat} {W W' : World} (h : InRc w0 g r A cap W) (hb : Below W.heap.size W W') : InRc w0 g r A cap W' :=
  ⟨h.1.below hb h.2.2.1, h.2.1.below (Nat.le_of_lt h.2.2.1) hb, Nat.lt_of_lt_of_le h.2.2.1 hb.size, h.2.2.2.trans (hb.mono (Nat.le_of_lt h.2.2.1))⟩
theorem InRc.alloc {w0 : World} {g : Nat} {r : Rc} {A : Option Addr} {cap : Nat} {W : World} (h : InRc w0 g r A cap W) (o : Obj) : InRc w0 g r A cap (W.alloc o) := h.next ((Below.refl _ _).alloc (Nat.le_refl _) _)
theorem InRc.drew {w0 : World} {g : Nat} {r : Rc} {A : Option Addr} {cap : Nat} {W : World} (h : InRc w0 g r A cap W) : InRc w0 g r A cap W.drew := h.next (Below.refl _ _).drew
theorem InRc.mark {w0 : World} {g : Nat} {r : Rc} {A : Option Addr} {cap : Nat} {W W' : World} {K : Nat} (h : InRc w0 g r A cap W) (hb : Below K W W') (hK : g < K) : InRc w0 g r A cap W' :=
  ⟨h.1.below hb hK, h.2.1.below (Nat.le_of_lt hK) hb, Nat.lt_of_lt_of_le h.2.2.1 hb.size, h.2.2.2.trans (hb.mono (Nat.le_of_lt hK))⟩
end Go.Proofs.Ytmmoedhfeaokgaa
