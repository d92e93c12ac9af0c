/-
  Rings as values, and rings in blocks of their own.
-/
import Derived.Test.YtjohbfdifdjldaaKOwn
import Derived.Test.YtjohbfdifdjldaaRingN
namespace Go.Proofs.Ytjohbfdifdjldaa
open Go.RowKit Go.Deep Go.Proofs.Ytjohbfdifdjldaa.Num

/-- A ring, as a value: its numbers and the slice of its cells. -/
abbrev rnV (r : Rn) (v : Value) : Value := .agg #[.int .i64 r.size, .int .i64 r.base, .int .i64 r.en, v]
/-- Its cells. -/
abbrev rnC (s b e : Int) (v : Value) : Array Value := #[.int .i64 s, .int .i64 b, .int .i64 e, v]
/-- Four cells of a block. -/
def Cell4 (w : World) (g : Nat) (s b e : Int) (v : Value) : Prop := w.cell? ⟨g, 0, none⟩ = some (.int .i64 s) ∧ w.cell? ⟨g, 1, none⟩ = some (.int .i64 b) ∧ w.cell? ⟨g, 2, none⟩ = some (.int .i64 e) ∧ w.cell? ⟨g, 3, none⟩ = some v
theorem Cell4.below {w w' : World} {K g : Nat} {s b e : Int} {v : Value} (x : Cell4 w g s b e v) (hb : Below K w w') (hg : g < K) : Cell4 w' g s b e v :=
  ⟨(hb.cell (p := ⟨g, 0, none⟩) hg).trans x.1, (hb.cell (p := ⟨g, 1, none⟩) hg).trans x.2.1, (hb.cell (p := ⟨g, 2, none⟩) hg).trans x.2.2.1, (hb.cell (p := ⟨g, 3, none⟩) hg).trans x.2.2.2⟩
theorem Cell4.of {w w' : World} {g : Nat} {s b e : Int} {v : Value} (x : Cell4 w g s b e v) (h : w'.heap[g]? = w.heap[g]?) : Cell4 w' g s b e v :=
  ⟨(World.cell?_of_block (w := w) h).trans x.1, (World.cell?_of_block (w := w) h).trans x.2.1, (World.cell?_of_block (w := w) h).trans x.2.2.1, (World.cell?_of_block (w := w) h).trans x.2.2.2⟩
theorem Cell4.new (w : World) (s b e : Int) (v : Value) (t : TypeId) : Cell4 (w.alloc (.cells (rnC s b e v) t)) w.heap.size s b e v := by
  refine ⟨?_, ?_, ?_, ?_⟩ <;> (rw [World.cell?_alloc_at _ _ _ _ rfl]; rfl)
/-- The ring's cells. -/
abbrev CellN (w : World) (g : Nat) (r : Rn) (v : Value) : Prop := Cell4 w g r.size r.base r.en v
/-- A block holds a ring. -/
def BoxN (w : World) (g : Nat) (s b e : Int) (v : Value) : Prop := w.heap[g]? = some (.cells (rnC s b e v) 24 (0, 0))
theorem BoxN.cells {w : World} {g : Nat} {s b e : Int} {v : Value} (x : BoxN w g s b e v) : Cell4 w g s b e v := ⟨cell_of_row w g 0 _ _ _ x, cell_of_row w g 1 _ _ _ x, cell_of_row w g 2 _ _ _ x, cell_of_row w g 3 _ _ _ x⟩
theorem BoxN.free {w : World} {g : Nat} {s b e : Int} {v : Value} (x : BoxN w g s b e v) (k : Nat) : w.frozen? ⟨g, k, none⟩ = false := by
  unfold BoxN at x
  simp [World.frozen?, x]
theorem BoxN.new (w : World) (s b e : Int) (v : Value) : BoxN (w.alloc (.cells (rnC s b e v) 24)) w.heap.size s b e v := heap_alloc_new w _
theorem BoxN.lt {w : World} {g : Nat} {s b e : Int} {v : Value} (x : BoxN w g s b e v) : g < w.heap.size := (Array.getElem?_eq_some_iff.1 x).1
theorem BoxN.below {w w' : World} {g K : Nat} {s b e : Int} {v : Value} (x : BoxN w g s b e v) (hb : Below K w w') (hg : g < K) : BoxN w' g s b e v := (hb.block g hg).trans x
theorem BoxN.alloc {w : World} {g : Nat} {s b e : Int} {v : Value} (x : BoxN w g s b e v) (o : Obj) : BoxN (w.alloc o) g s b e v := (Below.heap_alloc w o g x.lt).trans x
theorem BoxN.drew {w : World} {g : Nat} {s b e : Int} {v : Value} (x : BoxN w g s b e v) : BoxN w.drew g s b e v := x
theorem BoxN.other {w : World} {g : Nat} {s b e : Int} {v : Value} (x : BoxN w g s b e v) (g' k : Nat) (u : Value) (hg : g ≠ g') : BoxN (w.setCell ⟨g', k, none⟩ u) g s b e v := (Below.heap_setCell w ⟨g', k, none⟩ u g hg).trans x
theorem BoxN.only {w w' : World} {k g : Nat} {s b e : Int} {v : Value} (x : BoxN w k s b e v) (hg : w.grownBy w' (some g)) (hne : k ≠ g) : BoxN w' k s b e v :=
  (hg.block k x.lt (fun e => hne (Option.some.inj e))).trans x
theorem BoxN.set0 {w : World} {g : Nat} {s b e : Int} {v : Value} (x : BoxN w g s b e v) (y : Int) : BoxN (w.setCell ⟨g, 0, none⟩ (.int .i64 y)) g y b e v := by
  unfold BoxN at x ⊢
  simp [World.setCell, Array.getElem?_modify, x]
theorem BoxN.set1 {w : World} {g : Nat} {s b e : Int} {v : Value} (x : BoxN w g s b e v) (y : Int) : BoxN (w.setCell ⟨g, 1, none⟩ (.int .i64 y)) g s y e v := by
  unfold BoxN at x ⊢
  simp [World.setCell, Array.getElem?_modify, x]
theorem BoxN.set2 {w : World} {g : Nat} {s b e : Int} {v : Value} (x : BoxN w g s b e v) (y : Int) : BoxN (w.setCell ⟨g, 2, none⟩ (.int .i64 y)) g s b y v := by
  unfold BoxN at x ⊢
  simp [World.setCell, Array.getElem?_modify, x]
theorem BoxN.set3 {w : World} {g : Nat} {s b e : Int} {v : Value} (x : BoxN w g s b e v) (y : Value) : BoxN (w.setCell ⟨g, 3, none⟩ y) g s b e y := by
  unfold BoxN at x ⊢
  simp [World.setCell, Array.getElem?_modify, x]
/-- A variable in block g holds a ring whose cells are the call's own, from block B on, below g. -/
def VarN (W : World) (B g : Nat) (r : Rn) (v : Value) : Prop :=
  CellN W g r v ∧ OwnK W B v r.cs ∧ (∀ k, v.ownBlock = some k → k < g) ∧ B ≤ g ∧ g < W.heap.size
theorem VarN.new {W : World} {B : Nat} {v : Value} (r : Rn) (t : TypeId) (ho : OwnK W B v r.cs) (hB : B ≤ W.heap.size) : VarN (W.alloc (.cells (rnC r.size r.base r.en v) t)) B W.heap.size r v :=
  ⟨Cell4.new W r.size r.base r.en v t, ho.alloc _, fun k hk => (ho.lt k hk).2, hB, by simp⟩
theorem VarN.next {W W' : World} {B g : Nat} {r : Rn} {v : Value} (h : VarN W B g r v) (hb : Below W.heap.size W W') : VarN W' B g r v :=
  ⟨h.1.below hb h.2.2.2.2, h.2.1.later hb, h.2.2.1, h.2.2.2.1, Nat.lt_of_lt_of_le h.2.2.2.2 hb.size⟩
theorem VarN.alloc {W : World} {B g : Nat} {r : Rn} {v : Value} (h : VarN W B g r v) (o : Obj) : VarN (W.alloc o) B g r v := h.next ((Below.refl _ _).alloc (Nat.le_refl _) _)
/-- Only one block has changed, and it is another one. -/
theorem VarN.kept {W W' : World} {B g : Nat} {r : Rn} {v : Value} {ob : Option Nat} (h : VarN W B g r v) (hg : W.grownBy W' ob) (hne : ∀ k, ob = some k → k < B ∨ g < k) : VarN W' B g r v := by
  have e : W'.heap[g]? = W.heap[g]? := hg.block g h.2.2.2.2 (fun e => by have := hne g e.symm; have := h.2.2.2.1; omega)
  refine ⟨h.1.of e, h.2.1.kept hg ?_, h.2.2.1, h.2.2.2.1, Nat.lt_of_lt_of_le h.2.2.2.2 hg.size⟩
  cases hv : v.ownBlock with
  | none => exact .inl rfl
  | some k =>
    refine .inr (fun e => ?_)
    have h1 := (h.2.1.lt k hv).1
    have h2 := h.2.2.1 k hv
    have := hne k e.symm
    omega
theorem VarN.in {W : World} {B g : Nat} {r : Rn} {v : Value} (h : VarN W B g r v) : ∀ k, v.ownBlock = some k → B ≤ k ∧ k < g := fun k hk => ⟨(h.2.1.lt k hk).1, h.2.2.1 k hk⟩
/-- .. whose cells have been written. -/
def VarNM (W : World) (B g : Nat) (r : Rn) (v : Value) (l : List Int) : Prop :=
  CellN W g r v ∧ OwnK W B v l ∧ (∀ k, v.ownBlock = some k → k < g) ∧ B ≤ g ∧ g < W.heap.size
theorem VarNM.next {W W' : World} {B g : Nat} {r : Rn} {v : Value} {l : List Int} (h : VarNM W B g r v l) (hb : Below W.heap.size W W') : VarNM W' B g r v l :=
  ⟨h.1.below hb h.2.2.2.2, h.2.1.later hb, h.2.2.1, h.2.2.2.1, Nat.lt_of_lt_of_le h.2.2.2.2 hb.size⟩
theorem VarNM.alloc {W : World} {B g : Nat} {r : Rn} {v : Value} {l : List Int} (h : VarNM W B g r v l) (o : Obj) : VarNM (W.alloc o) B g r v l := h.next ((Below.refl _ _).alloc (Nat.le_refl _) _)
theorem VarN.wrote {W W' : World} {B g : Nat} {r : Rn} {v : Value} {l' : List Int} (h : VarN W B g r v) (hg : W.grownBy W' v.ownBlock) (ho : OwnK W' B v l') : VarNM W' B g r v l' := by
  have e : W'.heap[g]? = W.heap[g]? := hg.block g h.2.2.2.2 (fun e => by have := h.2.2.1 g e.symm; omega)
  exact ⟨h.1.of e, ho, h.2.2.1, h.2.2.2.1, Nat.lt_of_lt_of_le h.2.2.2.2 hg.size⟩
/-- The ring that came in, boxed in block g: all that was made since lies behind it. -/
def InRn (w0 : World) (g : Nat) (r : Rn) (A : Option Addr) (cap : Nat) (W : World) : Prop :=
  CellN W g r (.slice A r.cs.length cap) ∧ Ints W g A r.cs ∧ g < W.heap.size ∧ Below g w0 W
theorem InRn.start (w : World) (r : Rn) (A : Option Addr) (cap : Nat) (t : TypeId) (hr : Ints w w.heap.size A r.cs) : InRn w w.heap.size r A cap (w.alloc (.cells (rnC r.size r.base r.en (.slice A r.cs.length cap)) t)) :=
  ⟨Cell4.new w r.size r.base r.en _ t, hr.below (Nat.le_refl _) ((Below.refl _ _).alloc (Nat.le_refl _) _), by simp, (Below.refl _ _).alloc (Nat.le_refl _) _⟩
theorem InRn.next {w0 : World} {g : Nat} {r : Rn} {A : Option Addr} {cap : Nat} {W W' : World} (h : InRn w0 g r A cap W) (hb : Below W.heap.size W W') : InRn w0 g r A cap W' :=
  ⟨h.1.below hb h.2.2.1, h.2.1.below (Nat.le_of_lt h.2.2.1) hb, Nat.lt_of_lt_of_le h.2.2.1 hb.size, h.2.2.2.trans (hb.mono (Nat.le_of_lt h.2.2.1))⟩
theorem InRn.alloc {w0 : World} {g : Nat} {r : Rn} {A : Option Addr} {cap : Nat} {W : World} (h : InRn w0 g r A cap W) (o : Obj) : InRn w0 g r A cap (W.alloc o) := h.next ((Below.refl _ _).alloc (Nat.le_refl _) _)
theorem InRn.drew {w0 : World} {g : Nat} {r : Rn} {A : Option Addr} {cap : Nat} {W : World} (h : InRn w0 g r A cap W) : InRn w0 g r A cap W.drew := h.next (Below.refl _ _).drew
theorem InRn.mark {w0 : World} {g : Nat} {r : Rn} {A : Option Addr} {cap : Nat} {W W' : World} {K : Nat} (h : InRn w0 g r A cap W) (hb : Below K W W') (hK : g < K) : InRn w0 g r A cap W' :=
  ⟨h.1.below hb hK, h.2.1.below (Nat.le_of_lt hK) hb, Nat.lt_of_lt_of_le h.2.2.1 hb.size, h.2.2.2.trans (hb.mono (Nat.le_of_lt hK))⟩
end Go.Proofs.Ytjohbfdifdjldaa
