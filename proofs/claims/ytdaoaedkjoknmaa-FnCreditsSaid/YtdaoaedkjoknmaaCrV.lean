/-
  Credits as values, and credits in blocks of their own.
-/
import Derived.Test.YtdaoaedkjoknmaaKitA
import Derived.Test.YtdaoaedkjoknmaaCrN
import Derived.Deep.OwnRows
namespace Go.Proofs.Ytdaoaedkjoknmaa
open Go.RowKit Go.Deep Go.Proofs.Ytdaoaedkjoknmaa.Num

/-- A credit, as a value. -/
abbrev crV (c : Cr) : Value := .agg #[.int .i64 c.lim, .int .i64 c.used, .int .i64 c.bl, .int .i64 c.told]
/-- Its cells. -/
abbrev crC (a b c d : Int) : Array Value := #[.int .i64 a, .int .i64 b, .int .i64 c, .int .i64 d]
/-- Four cells of a block. -/
def C4 (w : World) (g : Nat) (a b c d : Int) : Prop := w.cell? ⟨g, 0, none⟩ = some (.int .i64 a) ∧ w.cell? ⟨g, 1, none⟩ = some (.int .i64 b) ∧ w.cell? ⟨g, 2, none⟩ = some (.int .i64 c) ∧ w.cell? ⟨g, 3, none⟩ = some (.int .i64 d)
/-- A block holds a credit, of whatever type. -/
def BoxC (w : World) (t : TypeId) (g : Nat) (a b c d : Int) : Prop := w.heap[g]? = some (.cells (crC a b c d) t (0, 0))
theorem BoxC.cells {w : World} {t : TypeId} {g : Nat} {a b c d : Int} (x : BoxC w t g a b c d) : C4 w g a b c d := ⟨cell_of_row w g 0 _ _ _ x, cell_of_row w g 1 _ _ _ x, cell_of_row w g 2 _ _ _ x, cell_of_row w g 3 _ _ _ x⟩
theorem BoxC.free {w : World} {t : TypeId} {g : Nat} {a b c d : Int} (x : BoxC w t g a b c d) (k : Nat) : w.frozen? ⟨g, k, none⟩ = false := by
  unfold BoxC at x
  simp [World.frozen?, x]
theorem BoxC.new (w : World) (t : TypeId) (a b c d : Int) : BoxC (w.alloc (.cells (crC a b c d) t)) t w.heap.size a b c d := heap_alloc_new w _
theorem BoxC.lt {w : World} {t : TypeId} {g : Nat} {a b c d : Int} (x : BoxC w t g a b c d) : g < w.heap.size := (Array.getElem?_eq_some_iff.1 x).1
theorem BoxC.below {w w' : World} {t : TypeId} {g K : Nat} {a b c d : Int} (x : BoxC w t g a b c d) (hb : Below K w w') (hg : g < K) : BoxC w' t g a b c d := (hb.block g hg).trans x
theorem BoxC.next {w w' : World} {t : TypeId} {g : Nat} {a b c d : Int} (x : BoxC w t g a b c d) (hb : Below w.heap.size w w') : BoxC w' t g a b c d := x.below hb x.lt
theorem BoxC.alloc {w : World} {t : TypeId} {g : Nat} {a b c d : Int} (x : BoxC w t g a b c d) (o : Obj) : BoxC (w.alloc o) t g a b c d := (Below.heap_alloc w o g x.lt).trans x
theorem BoxC.drew {w : World} {t : TypeId} {g : Nat} {a b c d : Int} (x : BoxC w t g a b c d) : BoxC w.drew t g a b c d := x
theorem BoxC.other {w : World} {t : TypeId} {g : Nat} {a b c d : Int} (x : BoxC w t g a b c d) (g' k : Nat) (u : Value) (hg : g ≠ g') : BoxC (w.setCell ⟨g', k, none⟩ u) t g a b c d := (Below.heap_setCell w ⟨g', k, none⟩ u g hg).trans x
theorem BoxC.only {w w' : World} {t : TypeId} {k g : Nat} {a b c d : Int} (x : BoxC w t k a b c d) (hg : w.grownBy w' (some g)) (hne : k ≠ g) : BoxC w' t k a b c d :=
  (hg.block k x.lt (fun e => hne (Option.some.inj e))).trans x
theorem BoxC.set0 {w : World} {t : TypeId} {g : Nat} {a b c d : Int} (x : BoxC w t g a b c d) (y : Int) : BoxC (w.setCell ⟨g, 0, none⟩ (.int .i64 y)) t g y b c d := by
  unfold BoxC at x ⊢
  simp [World.setCell, Array.getElem?_modify, x]
theorem BoxC.set1 {w : World} {t : TypeId} {g : Nat} {a b c d : Int} (x : BoxC w t g a b c d) (y : Int) : BoxC (w.setCell ⟨g, 1, none⟩ (.int .i64 y)) t g a y c d := by
  unfold BoxC at x ⊢
  simp [World.setCell, Array.getElem?_modify, x]
theorem BoxC.set2 {w : World} {t : TypeId} {g : Nat} {a b c d : Int} (x : BoxC w t g a b c d) (y : Int) : BoxC (w.setCell ⟨g, 2, none⟩ (.int .i64 y)) t g a b y d := by
  unfold BoxC at x ⊢
  simp [World.setCell, Array.getElem?_modify, x]
theorem BoxC.set3 {w : World} {t : TypeId} {g : Nat} {a b c d : Int} (x : BoxC w t g a b c d) (y : Int) : BoxC (w.setCell ⟨g, 3, none⟩ (.int .i64 y)) t g a b c y := by
  unfold BoxC at x ⊢
  simp [World.setCell, Array.getElem?_modify, x]
/-- A credit laid over a credit. -/
abbrev putC (w : World) (g : Nat) (c : Cr) : World := (((w.setCell ⟨g, 0, none⟩ (.int .i64 c.lim)).setCell ⟨g, 1, none⟩ (.int .i64 c.used)).setCell ⟨g, 2, none⟩ (.int .i64 c.bl)).setCell ⟨g, 3, none⟩ (.int .i64 c.told)
theorem BoxC.put {w : World} {t : TypeId} {g : Nat} {a b c d : Int} (x : BoxC w t g a b c d) (y : Cr) : BoxC (putC w g y) t g y.lim y.used y.bl y.told := (((x.set0 _).set1 _).set2 _).set3 _
theorem BoxC.putO {w : World} {t : TypeId} {g g' : Nat} {a b c d : Int} (x : BoxC w t g a b c d) (y : Cr) (hg : g ≠ g') : BoxC (putC w g' y) t g a b c d := (((x.other g' 0 _ hg).other g' 1 _ hg).other g' 2 _ hg).other g' 3 _ hg
theorem putC_below {w W : World} {K g : Nat} (h : Below K w W) (hg : K ≤ g) (y : Cr) : Below K w (putC W g y) :=
  (((h.setCell (p := ⟨g, 0, none⟩) hg _).setCell (p := ⟨g, 1, none⟩) hg _).setCell (p := ⟨g, 2, none⟩) hg _).setCell (p := ⟨g, 3, none⟩) hg _

/-- The parameter's block holds x, the result's cell lies behind it, as it was made. -/
structure IrC (w : World) (x : Cr) (W : World) : Prop where
  b : BoxC W 25 w.heap.size x.lim x.used x.bl x.told
  o : BoxC W 25 (w.heap.size + 1) 0 0 0 0
  bl : Below w.heap.size w W
theorem IrC.start (w : World) (x : Cr) : IrC w x ((w.alloc (.cells (crC x.lim x.used x.bl x.told) 25)).alloc (.cells (crC 0 0 0 0) 25)) := by
  have h1 : ∀ o1, (w.alloc o1).heap.size = w.heap.size + 1 := fun _ => by simp
  refine ⟨(BoxC.new w _ _ _ _ _).alloc _, ?_, ((Below.refl _ _).alloc (Nat.le_refl _) _).alloc (by rw [h1]; exact Nat.le_succ _) _⟩
  have h := BoxC.new (w.alloc (.cells (crC x.lim x.used x.bl x.told) 25)) 25 0 0 0 0
  rw [h1] at h
  exact h
theorem IrC.next {w : World} {x : Cr} {W W' : World} (h : IrC w x W) (hb : Below W.heap.size W W') : IrC w x W' :=
  ⟨h.b.next hb, h.o.next hb, h.bl.trans (hb.mono h.bl.size)⟩
theorem IrC.put0 {w : World} {x : Cr} {W : World} (h : IrC w x W) (y : Int) : IrC w ⟨y, x.used, x.bl, x.told⟩ (W.setCell ⟨w.heap.size, 0, none⟩ (.int .i64 y)) := ⟨h.b.set0 y, h.o.other _ _ _ (by omega), h.bl.setCell (p := ⟨w.heap.size, 0, none⟩) (Nat.le_refl _) _⟩
theorem IrC.put1 {w : World} {x : Cr} {W : World} (h : IrC w x W) (y : Int) : IrC w ⟨x.lim, y, x.bl, x.told⟩ (W.setCell ⟨w.heap.size, 1, none⟩ (.int .i64 y)) := ⟨h.b.set1 y, h.o.other _ _ _ (by omega), h.bl.setCell (p := ⟨w.heap.size, 1, none⟩) (Nat.le_refl _) _⟩
theorem IrC.put2 {w : World} {x : Cr} {W : World} (h : IrC w x W) (y : Int) : IrC w ⟨x.lim, x.used, y, x.told⟩ (W.setCell ⟨w.heap.size, 2, none⟩ (.int .i64 y)) := ⟨h.b.set2 y, h.o.other _ _ _ (by omega), h.bl.setCell (p := ⟨w.heap.size, 2, none⟩) (Nat.le_refl _) _⟩
theorem IrC.put3 {w : World} {x : Cr} {W : World} (h : IrC w x W) (y : Int) : IrC w ⟨x.lim, x.used, x.bl, y⟩ (W.setCell ⟨w.heap.size, 3, none⟩ (.int .i64 y)) := ⟨h.b.set3 y, h.o.other _ _ _ (by omega), h.bl.setCell (p := ⟨w.heap.size, 3, none⟩) (Nat.le_refl _) _⟩
theorem IrC.out {w : World} {x : Cr} {W : World} (h : IrC w x W) (y : Cr) : BoxC (putC W (w.heap.size + 1) y) 25 (w.heap.size + 1) y.lim y.used y.bl y.told ∧ Below w.heap.size w (putC W (w.heap.size + 1) y) :=
  ⟨h.o.put y, putC_below h.bl (Nat.le_succ _) y⟩

/-- A result that lies in a cell and one that lies in a slot. -/
theorem results_cr {P : Program} {fn : Func} {p u : Tmp} {ty : TypeId} (h : fn.results = #[.cell p ty, .tmp u]) (tmps : Array Value) (w : World) (g : Nat) (t : TypeId) (cs : Array Value) (fr : Nat × Nat) (d : TypeDesc)
    (hp : tmps.getD p undef = .pointer (some ⟨g, 0, none⟩)) (hg : w.heap[g]? = some (.cells cs t fr))
    (hu : P.underlying ty = some d) (hd : (match d with | .struct _ | .array _ _ => true | _ => false) = true) (hi : (P.info? ty).map (·.size) = some cs.size) :
    (results fn tmps).run P w = .ok (.tuple #[.agg cs, tmps.getD u undef]) w := by
  have hp' : tmps[p]?.getD undef = .pointer (some ⟨g, 0, none⟩) := by simpa using hp
  simp [results, h, hp', asAddr, run_loadVar_row w g t ty cs fr d hg hu hd hi]
theorem IrC.up {w : World} {x : Cr} {W W' : World} {K : Nat} (h : IrC w x W) (hK : w.heap.size + 2 ≤ K) (hb : Below K W W') : IrC w x W' :=
  ⟨h.b.below hb (by omega), h.o.below hb (by omega), h.bl.trans (hb.mono (by omega))⟩
theorem IrC.size {w : World} {x : Cr} {W : World} (h : IrC w x W) : w.heap.size + 2 ≤ W.heap.size := h.o.lt
/-- The result's cell alone, behind which all is the call's own. -/
structure OrC (w W : World) : Prop where
  o : BoxC W 25 w.heap.size 0 0 0 0
  bl : Below w.heap.size w W
theorem OrC.start (w : World) : OrC w (w.alloc (.cells (crC 0 0 0 0) 25)) := ⟨BoxC.new w _ _ _ _ _, (Below.refl _ _).alloc (Nat.le_refl _) _⟩
theorem OrC.next {w W W' : World} (h : OrC w W) (hb : Below W.heap.size W W') : OrC w W' := ⟨h.o.next hb, h.bl.trans (hb.mono h.bl.size)⟩
theorem OrC.out {w W : World} (h : OrC w W) (y : Cr) : BoxC (putC W w.heap.size y) 25 w.heap.size y.lim y.used y.bl y.told ∧ Below w.heap.size w (putC W w.heap.size y) :=
  ⟨h.o.put y, putC_below h.bl (Nat.le_refl _) y⟩
end Go.Proofs.Ytdaoaedkjoknmaa
