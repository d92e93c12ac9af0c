/-
  A sender that is worked on: the rows of blocks that hold senders, what is stored into them.
-/
import Derived.Test.YtjohbfdifdjldacSnV
import Derived.Test.YtjohbfdifdjldacSnN2
import Derived.Deep.QuietTactic
import Derived.BigQuiet
import Derived.Deep.RegionHeld3
import Derived.Deep.RegionLaw
import Derived.OwnWalk
import Derived.Deep.DeepCutAuto
import Derived.Deep.CutBlock
import Derived.RegionTactic
namespace Go.Proofs.Ytjohbfdifdjldac
open Go.RowKit Go.Deep Go.Proofs.Ytjohbfdifdjldac.Num

/-- The four lists are short. -/
def LenS (n : Nat) (s : Sn) : Prop := s.rn.cs.length ≤ n ∧ s.pe.length ≤ n ∧ s.fl.length ≤ n ∧ s.ac.length ≤ n
theorem LenS.up {n m : Nat} {s : Sn} (h : LenS n s) (hn : n ≤ m) : LenS m s := by unfold LenS at *; omega
/-- A piece, as a value. -/
abbrev pcV (p : Pc) : Value := .agg #[.int .i64 p.off, .string p.data, .bool p.fin]
theorem row_put {w : World} {g : Nat} {cs : Array Value} {t : TypeId} (x : w.heap[g]? = some (.cells cs t (0, 0))) (k : Nat) (v : Value) : (w.setCell ⟨g, k, none⟩ v).heap[g]? = some (.cells (cs.setIfInBounds k v) t (0, 0)) := by
  simp [World.setCell, Array.getElem?_modify, x]
/-- Block g holds a sender. -/
def RowS (w : World) (g : Nat) (s : Sn) (v1 v2 v3 v4 : Value) : Prop := w.heap[g]? = some (.cells (snB s v1 v2 v3 v4) 35 (0, 0))
def zeroS : Sn := ⟨0, ⟨0, 0, 0, []⟩, [], [], [], 0, 0, 0, 0⟩
theorem RowS.cells {w : World} {g : Nat} {s : Sn} {v1 v2 v3 v4 : Value} (x : RowS w g s v1 v2 v3 v4) : CellS w g s v1 v2 v3 v4 :=
  ⟨cell_of_row w g 0 _ _ _ x, cell_of_row w g 1 _ _ _ x, cell_of_row w g 2 _ _ _ x, cell_of_row w g 3 _ _ _ x, cell_of_row w g 4 _ _ _ x, cell_of_row w g 5 _ _ _ x, cell_of_row w g 6 _ _ _ x, cell_of_row w g 7 _ _ _ x, cell_of_row w g 8 _ _ _ x, cell_of_row w g 9 _ _ _ x, cell_of_row w g 10 _ _ _ x, cell_of_row w g 11 _ _ _ x⟩
theorem RowS.free {w : World} {g : Nat} {s : Sn} {v1 v2 v3 v4 : Value} (x : RowS w g s v1 v2 v3 v4) (k : Nat) : w.frozen? ⟨g, k, none⟩ = false := by
  unfold RowS at x
  simp [World.frozen?, x]
theorem RowS.new (w : World) (s : Sn) (v1 v2 v3 v4 : Value) : RowS (w.alloc (.cells (snB s v1 v2 v3 v4) 35)) w.heap.size s v1 v2 v3 v4 := heap_alloc_new w _
theorem RowS.lt {w : World} {g : Nat} {s : Sn} {v1 v2 v3 v4 : Value} (x : RowS w g s v1 v2 v3 v4) : g < w.heap.size := (Array.getElem?_eq_some_iff.1 x).1
theorem RowS.below {w w' : World} {g K : Nat} {s : Sn} {v1 v2 v3 v4 : Value} (x : RowS w g s v1 v2 v3 v4) (hb : Below K w w') (hg : g < K) : RowS w' g s v1 v2 v3 v4 := (hb.block g hg).trans x
theorem RowS.alloc {w : World} {g : Nat} {s : Sn} {v1 v2 v3 v4 : Value} (x : RowS w g s v1 v2 v3 v4) (o : Obj) : RowS (w.alloc o) g s v1 v2 v3 v4 := (heap_alloc_old w o x.lt).trans x
theorem RowS.other {w : World} {g : Nat} {s : Sn} {v1 v2 v3 v4 : Value} (x : RowS w g s v1 v2 v3 v4) (g' k : Nat) (u : Value) (hg : g ≠ g') : RowS (w.setCell ⟨g', k, none⟩ u) g s v1 v2 v3 v4 := (Below.heap_setCell w ⟨g', k, none⟩ u g hg).trans x
theorem RowS.set0 {w : World} {g : Nat} {s : Sn} {v1 v2 v3 v4 : Value} (x : RowS w g s v1 v2 v3 v4) (y : Int) : RowS (w.setCell ⟨g, 0, none⟩ (.int .i64 y)) g { s with st := y } v1 v2 v3 v4 := row_put x 0 _
theorem RowS.set1 {w : World} {g : Nat} {s : Sn} {v1 v2 v3 v4 : Value} (x : RowS w g s v1 v2 v3 v4) (y : Int) : RowS (w.setCell ⟨g, 1, none⟩ (.int .i64 y)) g { s with rn := { s.rn with size := y } } v1 v2 v3 v4 := row_put x 1 _
theorem RowS.set2 {w : World} {g : Nat} {s : Sn} {v1 v2 v3 v4 : Value} (x : RowS w g s v1 v2 v3 v4) (y : Int) : RowS (w.setCell ⟨g, 2, none⟩ (.int .i64 y)) g { s with rn := { s.rn with base := y } } v1 v2 v3 v4 := row_put x 2 _
theorem RowS.set3 {w : World} {g : Nat} {s : Sn} {v1 v2 v3 v4 : Value} (x : RowS w g s v1 v2 v3 v4) (y : Int) : RowS (w.setCell ⟨g, 3, none⟩ (.int .i64 y)) g { s with rn := { s.rn with en := y } } v1 v2 v3 v4 := row_put x 3 _
theorem RowS.set4 {w : World} {g : Nat} {s : Sn} {v1 v2 v3 v4 : Value} (x : RowS w g s v1 v2 v3 v4) (y : Value) (l : List Int) : RowS (w.setCell ⟨g, 4, none⟩ y) g { s with rn := { s.rn with cs := l } } y v2 v3 v4 := row_put x 4 _
theorem RowS.set5 {w : World} {g : Nat} {s : Sn} {v1 v2 v3 v4 : Value} (x : RowS w g s v1 v2 v3 v4) (y : Value) (l : List Rg) : RowS (w.setCell ⟨g, 5, none⟩ y) g { s with pe := l } v1 y v3 v4 := row_put x 5 _
theorem RowS.set6 {w : World} {g : Nat} {s : Sn} {v1 v2 v3 v4 : Value} (x : RowS w g s v1 v2 v3 v4) (y : Value) (l : List Rg) : RowS (w.setCell ⟨g, 6, none⟩ y) g { s with fl := l } v1 v2 y v4 := row_put x 6 _
theorem RowS.set7 {w : World} {g : Nat} {s : Sn} {v1 v2 v3 v4 : Value} (x : RowS w g s v1 v2 v3 v4) (y : Value) (l : List Rg) : RowS (w.setCell ⟨g, 7, none⟩ y) g { s with ac := l } v1 v2 v3 y := row_put x 7 _
theorem RowS.set8 {w : World} {g : Nat} {s : Sn} {v1 v2 v3 v4 : Value} (x : RowS w g s v1 v2 v3 v4) (y : Int) : RowS (w.setCell ⟨g, 8, none⟩ (.int .i64 y)) g { s with fin := y } v1 v2 v3 v4 := row_put x 8 _
theorem RowS.set9 {w : World} {g : Nat} {s : Sn} {v1 v2 v3 v4 : Value} (x : RowS w g s v1 v2 v3 v4) (y : Int) : RowS (w.setCell ⟨g, 9, none⟩ (.int .i64 y)) g { s with fi := y } v1 v2 v3 v4 := row_put x 9 _
theorem RowS.set10 {w : World} {g : Nat} {s : Sn} {v1 v2 v3 v4 : Value} (x : RowS w g s v1 v2 v3 v4) (y : Int) : RowS (w.setCell ⟨g, 10, none⟩ (.int .i64 y)) g { s with sent := y } v1 v2 v3 v4 := row_put x 10 _
theorem RowS.set11 {w : World} {g : Nat} {s : Sn} {v1 v2 v3 v4 : Value} (x : RowS w g s v1 v2 v3 v4) (y : Int) : RowS (w.setCell ⟨g, 11, none⟩ (.int .i64 y)) g { s with code := y } v1 v2 v3 v4 := row_put x 11 _
/-- A whole sender is stored into block g. -/
abbrev laidS (W : World) (g : Nat) (s : Sn) (v1 v2 v3 v4 : Value) : World :=
  (((((((((((W.setCell ⟨g, 0, none⟩ (.int .i64 s.st)).setCell ⟨g, 1, none⟩ (.int .i64 s.rn.size)).setCell ⟨g, 2, none⟩ (.int .i64 s.rn.base)).setCell ⟨g, 3, none⟩ (.int .i64 s.rn.en)).setCell ⟨g, 4, none⟩ v1).setCell ⟨g, 5, none⟩ v2).setCell ⟨g, 6, none⟩ v3).setCell ⟨g, 7, none⟩ v4).setCell ⟨g, 8, none⟩ (.int .i64 s.fin)).setCell ⟨g, 9, none⟩ (.int .i64 s.fi)).setCell ⟨g, 10, none⟩ (.int .i64 s.sent)).setCell ⟨g, 11, none⟩ (.int .i64 s.code)
theorem laidS_row {W : World} {g : Nat} {z : Sn} {z1 z2 z3 z4 : Value} (x : RowS W g z z1 z2 z3 z4) (s : Sn) (v1 v2 v3 v4 : Value) : RowS (laidS W g s v1 v2 v3 v4) g s v1 v2 v3 v4 :=
  (((((((((((x.set0 s.st).set1 s.rn.size).set2 s.rn.base).set3 s.rn.en).set4 v1 s.rn.cs).set5 v2 s.pe).set6 v3 s.fl).set7 v4 s.ac).set8 s.fin).set9 s.fi).set10 s.sent).set11 s.code
theorem laidS_own {W : World} {B g : Nat} {u1 u2 u3 u4 : Value} {l1 : List Int} {l2 l3 l4 : List Rg} (h : OwnS W B u1 u2 u3 u4 l1 l2 l3 l4) (hg : g < B) (s : Sn) (v1 v2 v3 v4 : Value) : OwnS (laidS W g s v1 v2 v3 v4) B u1 u2 u3 u4 l1 l2 l3 l4 :=
  (((((((((((h.apart g 0 _ hg).apart g 1 _ hg).apart g 2 _ hg).apart g 3 _ hg).apart g 4 _ hg).apart g 5 _ hg).apart g 6 _ hg).apart g 7 _ hg).apart g 8 _ hg).apart g 9 _ hg).apart g 10 _ hg).apart g 11 _ hg
theorem laidS_below {a W : World} {B g : Nat} (h : Below B a W) (hg : B ≤ g) (s : Sn) (v1 v2 v3 v4 : Value) : Below B a (laidS W g s v1 v2 v3 v4) :=
  (((((((((((h.setCell (p := ⟨g, 0, none⟩) hg _).setCell (p := ⟨g, 1, none⟩) hg _).setCell (p := ⟨g, 2, none⟩) hg _).setCell (p := ⟨g, 3, none⟩) hg _).setCell (p := ⟨g, 4, none⟩) hg _).setCell (p := ⟨g, 5, none⟩) hg _).setCell (p := ⟨g, 6, none⟩) hg _).setCell (p := ⟨g, 7, none⟩) hg _).setCell (p := ⟨g, 8, none⟩) hg _).setCell (p := ⟨g, 9, none⟩) hg _).setCell (p := ⟨g, 10, none⟩) hg _).setCell (p := ⟨g, 11, none⟩) hg _
theorem RowS.laid {W : World} {g : Nat} {z : Sn} {z1 z2 z3 z4 : Value} (x : RowS W g z z1 z2 z3 z4) (go : Nat) (s : Sn) (v1 v2 v3 v4 : Value) (hg : g ≠ go) : RowS (laidS W go s v1 v2 v3 v4) g z z1 z2 z3 z4 :=
  (((((((((((x.other go 0 _ hg).other go 1 _ hg).other go 2 _ hg).other go 3 _ hg).other go 4 _ hg).other go 5 _ hg).other go 6 _ hg).other go 7 _ hg).other go 8 _ hg).other go 9 _ hg).other go 10 _ hg).other go 11 _ hg
/-- The parameter's block, the result's block behind it, n blocks in all before what is made. -/
structure IrS (w : World) (n go : Nat) (R : Nat → Option Obj) (s : Sn) (v1 v2 v3 v4 : Value) (W : World) : Prop where
  b : RowS W w.heap.size s v1 v2 v3 v4
  o : RowS W go zeroS (.slice none 0 0) (.slice none 0 0) (.slice none 0 0) (.slice none 0 0)
  bl : Below w.heap.size w W
  sz : w.heap.size + n ≤ W.heap.size
  lo : w.heap.size < go ∧ go < w.heap.size + n
  kp : ∀ k, w.heap.size < k → k < go → W.heap[k]? = R k
theorem IrS.start (w : World) (R : Nat → Option Obj) (s : Sn) (v1 v2 v3 v4 : Value) : IrS w 2 (w.heap.size + 1) R s v1 v2 v3 v4 ((w.alloc (.cells (snB s v1 v2 v3 v4) 35)).alloc (.cells (snC 0 0 0 0 (.slice none 0 0) (.slice none 0 0) (.slice none 0 0) (.slice none 0 0) 0 0 0 0) 35)) := by
  have h1 : ∀ o1, (w.alloc o1).heap.size = w.heap.size + 1 := fun _ => by simp
  refine ⟨(RowS.new w _ _ _ _ _).alloc _, ?_, ((Below.refl _ _).alloc (Nat.le_refl _) _).alloc (by rw [h1]; exact Nat.le_succ _) _, by simp, by omega, fun k a b => by omega⟩
  have h := RowS.new (w.alloc (.cells (snB s v1 v2 v3 v4) 35)) zeroS (.slice none 0 0) (.slice none 0 0) (.slice none 0 0) (.slice none 0 0)
  rw [h1] at h
  exact h
/-- A sender and a piece, boxed, and the result's block. -/
abbrev pcB (p : Pc) : Nat → Option Obj := fun _ => some (.cells #[.int .i64 p.off, .string p.data, .bool p.fin] 38 (0, 0))
theorem IrS.startP (w : World) (s : Sn) (v1 v2 v3 v4 : Value) (p : Pc) : IrS w 3 (w.heap.size + 2) (pcB p) s v1 v2 v3 v4 (((w.alloc (.cells (snB s v1 v2 v3 v4) 35)).alloc (.cells #[.int .i64 p.off, .string p.data, .bool p.fin] 38)).alloc (.cells (snC 0 0 0 0 (.slice none 0 0) (.slice none 0 0) (.slice none 0 0) (.slice none 0 0) 0 0 0 0) 35)) := by
  have h1 : ∀ o1, (w.alloc o1).heap.size = w.heap.size + 1 := fun _ => by simp
  have h2 : ∀ o1 o2, ((w.alloc o1).alloc o2).heap.size = w.heap.size + 2 := fun _ _ => by simp
  refine ⟨((RowS.new w _ _ _ _ _).alloc _).alloc _, ?_, (((Below.refl _ _).alloc (Nat.le_refl _) _).alloc (by rw [h1]; exact Nat.le_succ _) _).alloc (by rw [h2]; omega) _, by simp, by omega, fun k a b => ?_⟩
  · have h := RowS.new ((w.alloc (.cells (snB s v1 v2 v3 v4) 35)).alloc (.cells #[.int .i64 p.off, .string p.data, .bool p.fin] 38)) zeroS (.slice none 0 0) (.slice none 0 0) (.slice none 0 0) (.slice none 0 0)
    rw [h2] at h
    exact h
  · obtain rfl : k = w.heap.size + 1 := by omega
    rw [heap_alloc_old _ _ (by rw [h2]; omega)]
    have h := heap_alloc_new (w.alloc (.cells (snB s v1 v2 v3 v4) 35)) (.cells #[.int .i64 p.off, .string p.data, .bool p.fin] 38)
    rw [h1] at h
    exact h
/-- The piece's cells. -/
theorem IrS.pc {w : World} {p : Pc} {s : Sn} {v1 v2 v3 v4 : Value} {W : World} (h : IrS w 3 (w.heap.size + 2) (pcB p) s v1 v2 v3 v4 W) : W.cell? ⟨w.heap.size + 1, 0, none⟩ = some (.int .i64 p.off) ∧ W.cell? ⟨w.heap.size + 1, 1, none⟩ = some (.string p.data) ∧ W.cell? ⟨w.heap.size + 1, 2, none⟩ = some (.bool p.fin) :=
  have x := h.kp (w.heap.size + 1) (by omega) (by omega)
  ⟨cell_of_row W (w.heap.size + 1) 0 _ _ _ x, cell_of_row W (w.heap.size + 1) 1 _ _ _ x, cell_of_row W (w.heap.size + 1) 2 _ _ _ x⟩
theorem IrS.next {w : World} {n go : Nat} {R : Nat → Option Obj} {s : Sn} {v1 v2 v3 v4 : Value} {W W' : World} (h : IrS w n go R s v1 v2 v3 v4 W) (hb : Below W.heap.size W W') : IrS w n go R s v1 v2 v3 v4 W' :=
  ⟨h.b.below hb h.b.lt, h.o.below hb h.o.lt, h.bl.trans (hb.mono h.bl.size), Nat.le_trans h.sz hb.size, h.lo, fun k a b => (hb.block k (by have := h.o.lt; omega)).trans (h.kp k a b)⟩
theorem IrS.up {w : World} {n go : Nat} {R : Nat → Option Obj} {s : Sn} {v1 v2 v3 v4 : Value} {W W' : World} (h : IrS w n go R s v1 v2 v3 v4 W) (hb : Below (w.heap.size + n) W W') : IrS w n go R s v1 v2 v3 v4 W' :=
  ⟨h.b.below hb (by have := h.lo; omega), h.o.below hb h.lo.2, h.bl.trans (hb.mono (by omega)), Nat.le_trans h.sz hb.size, h.lo, fun k a b => (hb.block k (by have := h.lo; omega)).trans (h.kp k a b)⟩
theorem IrS.alloc {w : World} {n go : Nat} {R : Nat → Option Obj} {s : Sn} {v1 v2 v3 v4 : Value} {W : World} (h : IrS w n go R s v1 v2 v3 v4 W) (o : Obj) : IrS w n go R s v1 v2 v3 v4 (W.alloc o) := h.next ((Below.refl _ _).alloc (Nat.le_refl _) _)
theorem IrS.drew {w : World} {n go : Nat} {R : Nat → Option Obj} {s : Sn} {v1 v2 v3 v4 : Value} {W : World} (h : IrS w n go R s v1 v2 v3 v4 W) : IrS w n go R s v1 v2 v3 v4 W.drew := h.next (Below.refl _ _).drew
theorem IrS.apart {w : World} {n go : Nat} {R : Nat → Option Obj} {s : Sn} {v1 v2 v3 v4 : Value} {W : World} (h : IrS w n go R s v1 v2 v3 v4 W) (g k : Nat) (y : Value) (hg : w.heap.size + n ≤ g) : IrS w n go R s v1 v2 v3 v4 (W.setCell ⟨g, k, none⟩ y) :=
  ⟨h.b.other g k y (by have := h.lo; omega), h.o.other g k y (by have := h.lo; omega), h.bl.setCell (p := ⟨g, k, none⟩) (by show w.heap.size ≤ g; omega) y, by simpa [World.setCell] using h.sz, h.lo, fun j a b => (Below.heap_setCell W ⟨g, k, none⟩ y j (by have := h.lo; show j ≠ g; omega)).trans (h.kp j a b)⟩
/-- Something of the call's own is laid into the result's block. -/
theorem IrS.out {w : World} {n go : Nat} {R : Nat → Option Obj} {s : Sn} {v1 v2 v3 v4 : Value} {W : World} (h : IrS w n go R s v1 v2 v3 v4 W) (x : Sn) (u1 u2 u3 u4 : Value) (ho : OwnSn W (w.heap.size + n) u1 u2 u3 u4 x) :
    RowS (laidS W go x u1 u2 u3 u4) go x u1 u2 u3 u4 ∧ OwnSn (laidS W go x u1 u2 u3 u4) w.heap.size u1 u2 u3 u4 x ∧ Below w.heap.size w (laidS W go x u1 u2 u3 u4) :=
  ⟨laidS_row h.o _ _ _ _ _, (laidS_own ho h.lo.2 _ _ _ _ _).weaken (by omega), laidS_below h.bl (Nat.le_of_lt h.lo.1) _ _ _ _ _⟩
/-- A slice that was made since lies apart from what is older. -/
theorem apart_new {K : Nat} {v u : Value} (hv : ∀ k, v.ownBlock = some k → k < K) (hu : ∀ k, u.ownBlock = some k → K ≤ k) : Apart v u := by
  cases h : v.ownBlock with
  | none => exact .inl h
  | some k => exact .inr fun e => by rw [h] at e; have := hu k e.symm; have := hv k h; omega
theorem OwnK.lo {w : World} {B : Nat} {v : Value} {l : List Int} (h : OwnK w B v l) : ∀ k, v.ownBlock = some k → B ≤ k := fun k hk => (h.lt k hk).1
theorem OwnP.lo {w : World} {B : Nat} {v : Value} {l : List Rg} (h : OwnP w B v l) : ∀ k, v.ownBlock = some k → B ≤ k := fun k hk => (h.lt k hk).1
/-- Four slices that were made one behind another. -/
theorem OwnS.made {w : World} {B K1 K2 K3 : Nat} {v1 v2 v3 v4 : Value} {l1 : List Int} {l2 l3 l4 : List Rg} (h1 : OwnK w B v1 l1) (h2 : OwnP w B v2 l2) (h3 : OwnP w B v3 l3) (h4 : OwnP w B v4 l4)
    (a1 : ∀ k, v1.ownBlock = some k → k < K1) (b2 : ∀ k, v2.ownBlock = some k → K1 ≤ k) (a2 : ∀ k, v2.ownBlock = some k → k < K2) (b3 : ∀ k, v3.ownBlock = some k → K2 ≤ k) (a3 : ∀ k, v3.ownBlock = some k → k < K3) (b4 : ∀ k, v4.ownBlock = some k → K3 ≤ k) (h12 : K1 ≤ K2) (h23 : K2 ≤ K3) : OwnS w B v1 v2 v3 v4 l1 l2 l3 l4 :=
  ⟨⟨h1, h2, h3, h4⟩, ⟨apart_new a1 b2, apart_new (K := K2) (fun k hk => by have := a1 k hk; omega) b3, apart_new (K := K3) (fun k hk => by have := a1 k hk; omega) b4⟩, ⟨apart_new a2 b3, apart_new (K := K3) (fun k hk => by have := a2 k hk; omega) b4⟩, apart_new a3 b4⟩
/-- The sender x that is worked on, in block gx. -/
structure FrS (w : World) (n go : Nat) (R : Nat → Option Obj) (s : Sn) (v1 v2 v3 v4 : Value) (gx : Nat) (x : Sn) (u1 u2 u3 u4 : Value) (W : World) : Prop where
  i : IrS w n go R s v1 v2 v3 v4 W
  b : RowS W gx x u1 u2 u3 u4
  own : OwnSn W (w.heap.size + n) u1 u2 u3 u4 x
  lt : w.heap.size + n ≤ gx
  ne : u1.ownBlock ≠ some gx ∧ u2.ownBlock ≠ some gx ∧ u3.ownBlock ≠ some gx ∧ u4.ownBlock ≠ some gx
theorem FrS.start {w : World} {n go : Nat} {R : Nat → Option Obj} {s x : Sn} {v1 v2 v3 v4 u1 u2 u3 u4 : Value} {W : World} (h : IrS w n go R s v1 v2 v3 v4 W) (ho : OwnSn W (w.heap.size + n) u1 u2 u3 u4 x) : FrS w n go R s v1 v2 v3 v4 W.heap.size x u1 u2 u3 u4 (W.alloc (.cells (snB x u1 u2 u3 u4) 35)) :=
  ⟨h.alloc _, RowS.new W _ _ _ _ _, ho.alloc _, h.sz, fun e => by have := (ho.1.1.lt _ e).2; omega, fun e => by have := (ho.1.2.1.lt _ e).2; omega, fun e => by have := (ho.1.2.2.1.lt _ e).2; omega, fun e => by have := (ho.1.2.2.2.lt _ e).2; omega⟩
theorem FrS.next {w : World} {n go : Nat} {R : Nat → Option Obj} {s : Sn} {v1 v2 v3 v4 : Value} {gx : Nat} {x : Sn} {u1 u2 u3 u4 : Value} {W W' : World} (h : FrS w n go R s v1 v2 v3 v4 gx x u1 u2 u3 u4 W) (hb : Below W.heap.size W W') : FrS w n go R s v1 v2 v3 v4 gx x u1 u2 u3 u4 W' :=
  ⟨h.i.next hb, h.b.below hb h.b.lt, h.own.later hb, h.lt, h.ne⟩
theorem FrS.alloc {w : World} {n go : Nat} {R : Nat → Option Obj} {s : Sn} {v1 v2 v3 v4 : Value} {gx : Nat} {x : Sn} {u1 u2 u3 u4 : Value} {W : World} (h : FrS w n go R s v1 v2 v3 v4 gx x u1 u2 u3 u4 W) (o : Obj) : FrS w n go R s v1 v2 v3 v4 gx x u1 u2 u3 u4 (W.alloc o) := h.next ((Below.refl _ _).alloc (Nat.le_refl _) _)
theorem FrS.drew {w : World} {n go : Nat} {R : Nat → Option Obj} {s : Sn} {v1 v2 v3 v4 : Value} {gx : Nat} {x : Sn} {u1 u2 u3 u4 : Value} {W : World} (h : FrS w n go R s v1 v2 v3 v4 gx x u1 u2 u3 u4 W) : FrS w n go R s v1 v2 v3 v4 gx x u1 u2 u3 u4 W.drew := h.next (Below.refl _ _).drew
theorem OwnK.put {W : World} {B : Nat} {v : Value} {l : List Int} (h : OwnK W B v l) (g k : Nat) (y : Value) (hne : v.ownBlock ≠ some g) : OwnK (W.setCell ⟨g, k, none⟩ y) B v l := h.kept (only_setI W g k y) (.inr hne)
theorem OwnP.put {W : World} {B : Nat} {v : Value} {l : List Rg} (h : OwnP W B v l) (g k : Nat) (y : Value) (hne : v.ownBlock ≠ some g) : OwnP (W.setCell ⟨g, k, none⟩ y) B v l := h.kept (only_setI W g k y) (.inr hne)
/-- A number of x is stored. -/
theorem FrS.putn {w : World} {n go : Nat} {R : Nat → Option Obj} {s : Sn} {v1 v2 v3 v4 : Value} {gx : Nat} {x x' : Sn} {u1 u2 u3 u4 : Value} {W : World} (h : FrS w n go R s v1 v2 v3 v4 gx x u1 u2 u3 u4 W) (k : Nat) (y : Value) (hb : RowS (W.setCell ⟨gx, k, none⟩ y) gx x' u1 u2 u3 u4) (h1 : x'.rn.cs = x.rn.cs) (h2 : x'.pe = x.pe) (h3 : x'.fl = x.fl) (h4 : x'.ac = x.ac) : FrS w n go R s v1 v2 v3 v4 gx x' u1 u2 u3 u4 (W.setCell ⟨gx, k, none⟩ y) := by
  refine ⟨h.i.apart gx k y h.lt, hb, ?_, h.lt, h.ne⟩
  show OwnS _ _ _ _ _ _ x'.rn.cs x'.pe x'.fl x'.ac
  rw [h1, h2, h3, h4]
  exact ⟨⟨h.own.1.1.put gx k y h.ne.1, h.own.1.2.1.put gx k y h.ne.2.1, h.own.1.2.2.1.put gx k y h.ne.2.2.1, h.own.1.2.2.2.put gx k y h.ne.2.2.2⟩, h.own.2⟩
theorem FrS.put0 {w : World} {n go : Nat} {R : Nat → Option Obj} {s : Sn} {v1 v2 v3 v4 : Value} {gx : Nat} {x : Sn} {u1 u2 u3 u4 : Value} {W : World} (h : FrS w n go R s v1 v2 v3 v4 gx x u1 u2 u3 u4 W) (y : Int) : FrS w n go R s v1 v2 v3 v4 gx { x with st := y } u1 u2 u3 u4 (W.setCell ⟨gx, 0, none⟩ (.int .i64 y)) := h.putn 0 _ (h.b.set0 y) rfl rfl rfl rfl
theorem FrS.put8 {w : World} {n go : Nat} {R : Nat → Option Obj} {s : Sn} {v1 v2 v3 v4 : Value} {gx : Nat} {x : Sn} {u1 u2 u3 u4 : Value} {W : World} (h : FrS w n go R s v1 v2 v3 v4 gx x u1 u2 u3 u4 W) (y : Int) : FrS w n go R s v1 v2 v3 v4 gx { x with fin := y } u1 u2 u3 u4 (W.setCell ⟨gx, 8, none⟩ (.int .i64 y)) := h.putn 8 _ (h.b.set8 y) rfl rfl rfl rfl
theorem FrS.put9 {w : World} {n go : Nat} {R : Nat → Option Obj} {s : Sn} {v1 v2 v3 v4 : Value} {gx : Nat} {x : Sn} {u1 u2 u3 u4 : Value} {W : World} (h : FrS w n go R s v1 v2 v3 v4 gx x u1 u2 u3 u4 W) (y : Int) : FrS w n go R s v1 v2 v3 v4 gx { x with fi := y } u1 u2 u3 u4 (W.setCell ⟨gx, 9, none⟩ (.int .i64 y)) := h.putn 9 _ (h.b.set9 y) rfl rfl rfl rfl
theorem FrS.put10 {w : World} {n go : Nat} {R : Nat → Option Obj} {s : Sn} {v1 v2 v3 v4 : Value} {gx : Nat} {x : Sn} {u1 u2 u3 u4 : Value} {W : World} (h : FrS w n go R s v1 v2 v3 v4 gx x u1 u2 u3 u4 W) (y : Int) : FrS w n go R s v1 v2 v3 v4 gx { x with sent := y } u1 u2 u3 u4 (W.setCell ⟨gx, 10, none⟩ (.int .i64 y)) := h.putn 10 _ (h.b.set10 y) rfl rfl rfl rfl
/-- A new slice of ranges is stored: what is to be sent, in flight, acknowledged. -/
theorem FrS.putP {w : World} {n go : Nat} {R : Nat → Option Obj} {s : Sn} {v1 v2 v3 v4 : Value} {gx : Nat} {x : Sn} {u1 u2 u3 u4 : Value} {W W' : World} (h : FrS w n go R s v1 v2 v3 v4 gx x u1 u2 u3 u4 W) (hb : Below W.heap.size W W') {v : Value} {l : List Rg} (ho : OwnP W' W.heap.size v l) : FrS w n go R s v1 v2 v3 v4 gx { x with pe := l } u1 v u3 u4 (W'.setCell ⟨gx, 5, none⟩ v) := by
  have h' := h.next hb
  have hv : v.ownBlock ≠ some gx := fun e => by have := (ho.lt _ e).1; have := h.b.lt; omega
  have hu := h.own.under
  refine ⟨h'.i.apart gx 5 v h.lt, h'.b.set5 v l, ⟨⟨h'.own.1.1.put gx 5 v h.ne.1, (ho.put gx 5 v hv).weaken (Nat.le_trans h.i.sz (Nat.le_refl _)), h'.own.1.2.2.1.put gx 5 v h.ne.2.2.1, h'.own.1.2.2.2.put gx 5 v h.ne.2.2.2⟩, ⟨apart_new hu.1 ho.lo, h.own.2.1.2.1, h.own.2.1.2.2⟩, ⟨(apart_new hu.2.2.1 ho.lo).symm, (apart_new hu.2.2.2 ho.lo).symm⟩, h.own.2.2.2⟩, h.lt, h.ne.1, hv, h.ne.2.2.1, h.ne.2.2.2⟩
theorem FrS.putF {w : World} {n go : Nat} {R : Nat → Option Obj} {s : Sn} {v1 v2 v3 v4 : Value} {gx : Nat} {x : Sn} {u1 u2 u3 u4 : Value} {W W' : World} (h : FrS w n go R s v1 v2 v3 v4 gx x u1 u2 u3 u4 W) (hb : Below W.heap.size W W') {v : Value} {l : List Rg} (ho : OwnP W' W.heap.size v l) : FrS w n go R s v1 v2 v3 v4 gx { x with fl := l } u1 u2 v u4 (W'.setCell ⟨gx, 6, none⟩ v) := by
  have h' := h.next hb
  have hv : v.ownBlock ≠ some gx := fun e => by have := (ho.lt _ e).1; have := h.b.lt; omega
  have hu := h.own.under
  refine ⟨h'.i.apart gx 6 v h.lt, h'.b.set6 v l, ⟨⟨h'.own.1.1.put gx 6 v h.ne.1, h'.own.1.2.1.put gx 6 v h.ne.2.1, (ho.put gx 6 v hv).weaken (Nat.le_trans h.i.sz (Nat.le_refl _)), h'.own.1.2.2.2.put gx 6 v h.ne.2.2.2⟩, ⟨h.own.2.1.1, apart_new hu.1 ho.lo, h.own.2.1.2.2⟩, ⟨apart_new hu.2.1 ho.lo, h.own.2.2.1.2⟩, (apart_new hu.2.2.2 ho.lo).symm⟩, h.lt, h.ne.1, h.ne.2.1, hv, h.ne.2.2.2⟩
theorem FrS.putA {w : World} {n go : Nat} {R : Nat → Option Obj} {s : Sn} {v1 v2 v3 v4 : Value} {gx : Nat} {x : Sn} {u1 u2 u3 u4 : Value} {W W' : World} (h : FrS w n go R s v1 v2 v3 v4 gx x u1 u2 u3 u4 W) (hb : Below W.heap.size W W') {v : Value} {l : List Rg} (ho : OwnP W' W.heap.size v l) : FrS w n go R s v1 v2 v3 v4 gx { x with ac := l } u1 u2 u3 v (W'.setCell ⟨gx, 7, none⟩ v) := by
  have h' := h.next hb
  have hv : v.ownBlock ≠ some gx := fun e => by have := (ho.lt _ e).1; have := h.b.lt; omega
  have hu := h.own.under
  refine ⟨h'.i.apart gx 7 v h.lt, h'.b.set7 v l, ⟨⟨h'.own.1.1.put gx 7 v h.ne.1, h'.own.1.2.1.put gx 7 v h.ne.2.1, h'.own.1.2.2.1.put gx 7 v h.ne.2.2.1, (ho.put gx 7 v hv).weaken (Nat.le_trans h.i.sz (Nat.le_refl _))⟩, ⟨h.own.2.1.1, h.own.2.1.2.1, apart_new hu.1 ho.lo⟩, ⟨h.own.2.2.1.1, apart_new hu.2.1 ho.lo⟩, apart_new hu.2.2.1 ho.lo⟩, h.lt, h.ne.1, h.ne.2.1, h.ne.2.2.1, hv⟩
/-- A ring is stored. -/
abbrev laidN (W : World) (g : Nat) (r : Rn) (v : Value) : World := (((W.setCell ⟨g, 1, none⟩ (.int .i64 r.size)).setCell ⟨g, 2, none⟩ (.int .i64 r.base)).setCell ⟨g, 3, none⟩ (.int .i64 r.en)).setCell ⟨g, 4, none⟩ v
theorem FrS.putR {w : World} {n go : Nat} {R : Nat → Option Obj} {s : Sn} {v1 v2 v3 v4 : Value} {gx : Nat} {x : Sn} {u1 u2 u3 u4 : Value} {W : World} (h : FrS w n go R s v1 v2 v3 v4 gx x u1 u2 u3 u4 W) {v : Value} {r : Rn} (ho : OwnK W (w.heap.size + n) v r.cs) (hv : v.ownBlock ≠ some gx) (a2 : Apart v u2) (a3 : Apart v u3) (a4 : Apart v u4) : FrS w n go R s v1 v2 v3 v4 gx { x with rn := r } v u2 u3 u4 ((((W.setCell ⟨gx, 1, none⟩ (.int .i64 r.size)).setCell ⟨gx, 2, none⟩ (.int .i64 r.base)).setCell ⟨gx, 3, none⟩ (.int .i64 r.en)).setCell ⟨gx, 4, none⟩ v) := by
  refine ⟨(((h.i.apart gx 1 _ h.lt).apart gx 2 _ h.lt).apart gx 3 _ h.lt).apart gx 4 _ h.lt, (((h.b.set1 r.size).set2 r.base).set3 r.en).set4 v r.cs, ⟨⟨(((ho.put gx 1 _ hv).put gx 2 _ hv).put gx 3 _ hv).put gx 4 _ hv, (((h.own.1.2.1.put gx 1 _ h.ne.2.1).put gx 2 _ h.ne.2.1).put gx 3 _ h.ne.2.1).put gx 4 _ h.ne.2.1, (((h.own.1.2.2.1.put gx 1 _ h.ne.2.2.1).put gx 2 _ h.ne.2.2.1).put gx 3 _ h.ne.2.2.1).put gx 4 _ h.ne.2.2.1, (((h.own.1.2.2.2.put gx 1 _ h.ne.2.2.2).put gx 2 _ h.ne.2.2.2).put gx 3 _ h.ne.2.2.2).put gx 4 _ h.ne.2.2.2⟩, ⟨a2, a3, a4⟩, h.own.2.2.1, h.own.2.2.2⟩, h.lt, hv, h.ne.2.1, h.ne.2.2.1, h.ne.2.2.2⟩
/-- x is laid into the result's block. -/
theorem FrS.out {w : World} {n go : Nat} {R : Nat → Option Obj} {s : Sn} {v1 v2 v3 v4 : Value} {gx : Nat} {x : Sn} {u1 u2 u3 u4 : Value} {W : World} (h : FrS w n go R s v1 v2 v3 v4 gx x u1 u2 u3 u4 W) :
    RowS (laidS W go x u1 u2 u3 u4) go x u1 u2 u3 u4 ∧ OwnSn (laidS W go x u1 u2 u3 u4) w.heap.size u1 u2 u3 u4 x ∧ Below w.heap.size w (laidS W go x u1 u2 u3 u4) := h.i.out x u1 u2 u3 u4 h.own
end Go.Proofs.Ytjohbfdifdjldac
