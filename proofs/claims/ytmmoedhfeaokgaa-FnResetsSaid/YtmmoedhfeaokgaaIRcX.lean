/-
  impl's receivers: the parameter's own block (worked on), the result's cell behind it.
-/
import Derived.Test.YtmmoedhfeaokgaaRcX
namespace Go.Proofs.Ytmmoedhfeaokgaa
open Go.RowKit Go.Deep Go.Proofs.Ytmmoedhfeaokgaa.Num

/-- The parameter's block holds x (its chunks' slice is u), the result's cell lies behind it, as it was made. -/
structure IrX (w : World) (x : Rc) (u : Value) (W : World) : Prop where
  b : BoxR W w.heap.size x.st x.buf.next u x.fin x.hi x.code
  o : BoxR W (w.heap.size + 1) 0 0 (.slice none 0 0) 0 0 0
  bl : Below w.heap.size w W
theorem IrX.start (w : World) (r : Rc) (v : Value) : IrX w r v ((w.alloc (.cells (rcC r.st r.buf.next v r.fin r.hi r.code) 28)).alloc (.cells (rcC 0 0 (.slice none 0 0) 0 0 0) 28)) := by
  have h1 : ∀ o1, (w.alloc o1).heap.size = w.heap.size + 1 := fun _ => by simp
  refine ⟨(BoxR.new w _ _ _ _ _ _).alloc _, ?_, ((Below.refl _ _).alloc (Nat.le_refl _) _).alloc (by rw [h1]; exact Nat.le_succ _) _⟩
  have h := BoxR.new (w.alloc (.cells (rcC r.st r.buf.next v r.fin r.hi r.code) 28)) 0 0 (.slice none 0 0) 0 0 0
  rw [h1] at h
  exact h
theorem IrX.next {w : World} {x : Rc} {u : Value} {W W' : World} (h : IrX w x u W) (hb : Below W.heap.size W W') : IrX w x u W' :=
  ⟨h.b.below hb h.b.lt, h.o.below hb h.o.lt, h.bl.trans (hb.mono h.bl.size)⟩
theorem IrX.alloc {w : World} {x : Rc} {u : Value} {W : World} (h : IrX w x u W) (o : Obj) : IrX w x u (W.alloc o) := h.next ((Below.refl _ _).alloc (Nat.le_refl _) _)
theorem IrX.drew {w : World} {x : Rc} {u : Value} {W : World} (h : IrX w x u W) : IrX w x u W.drew := h.next (Below.refl _ _).drew
theorem IrX.put {w : World} {x x' : Rc} {u u' : Value} {W : World} (h : IrX w x u W) (k : Nat) (y : Value) (hb : BoxR (W.setCell ⟨w.heap.size, k, none⟩ y) w.heap.size x'.st x'.buf.next u' x'.fin x'.hi x'.code) : IrX w x' u' (W.setCell ⟨w.heap.size, k, none⟩ y) :=
  ⟨hb, h.o.other w.heap.size k y (by omega), h.bl.setCell (p := ⟨w.heap.size, k, none⟩) (Nat.le_refl _) y⟩
theorem IrX.put0 {w : World} {x : Rc} {u : Value} {W : World} (h : IrX w x u W) (y : Int) : IrX w ⟨y, x.buf, x.fin, x.hi, x.code⟩ u (W.setCell ⟨w.heap.size, 0, none⟩ (.int .i64 y)) := h.put 0 _ (h.b.set0 y)
theorem IrX.put3 {w : World} {x : Rc} {u : Value} {W : World} (h : IrX w x u W) (y : Int) : IrX w ⟨x.st, x.buf, y, x.hi, x.code⟩ u (W.setCell ⟨w.heap.size, 3, none⟩ (.int .i64 y)) := h.put 3 _ (h.b.set3 y)
theorem IrX.put4 {w : World} {x : Rc} {u : Value} {W : World} (h : IrX w x u W) (y : Int) : IrX w ⟨x.st, x.buf, x.fin, y, x.code⟩ u (W.setCell ⟨w.heap.size, 4, none⟩ (.int .i64 y)) := h.put 4 _ (h.b.set4 y)
theorem IrX.putB {w : World} {x : Rc} {u : Value} {W : World} (h : IrX w x u W) (n : Int) (l : List Ch) (v : Value) : IrX w ⟨x.st, ⟨n, l⟩, x.fin, x.hi, x.code⟩ v ((W.setCell ⟨w.heap.size, 1, none⟩ (.int .i64 n)).setCell ⟨w.heap.size, 2, none⟩ v) :=
  (h.put (x' := ⟨x.st, ⟨n, l⟩, x.fin, x.hi, x.code⟩) 1 _ (h.b.set1 n)).put 2 _ ((h.b.set1 n).set2 v)
theorem OwnX.apart {W : World} {base : Nat} {v : Value} {l : List Ch} (h : OwnX W base v l) (g k : Nat) (y : Value) (hg : g < base) : OwnX (W.setCell ⟨g, k, none⟩ y) base v l := by
  refine h.kept (only_setC W g k y) ?_
  cases hv : v.ownBlock with
  | none => exact .inl rfl
  | some q => exact .inr (fun e => by have := (h.lt q hv).1; injection e; omega)
/-- Something of the call's own is laid into the result's cell. -/
theorem IrX.out {w : World} {x : Rc} {u : Value} {W : World} (h : IrX w x u W) (s n : Int) (v : Value) (f hi c : Int) (l : List Ch) (ho : OwnX W (w.heap.size + 2) v l) :
    BoxR ((((((W.setCell ⟨w.heap.size + 1, 0, none⟩ (.int .i64 s)).setCell ⟨w.heap.size + 1, 1, none⟩ (.int .i64 n)).setCell ⟨w.heap.size + 1, 2, none⟩ v).setCell ⟨w.heap.size + 1, 3, none⟩ (.int .i64 f)).setCell ⟨w.heap.size + 1, 4, none⟩ (.int .i64 hi)).setCell ⟨w.heap.size + 1, 5, none⟩ (.int .i64 c)) (w.heap.size + 1) s n v f hi c
    ∧ OwnX ((((((W.setCell ⟨w.heap.size + 1, 0, none⟩ (.int .i64 s)).setCell ⟨w.heap.size + 1, 1, none⟩ (.int .i64 n)).setCell ⟨w.heap.size + 1, 2, none⟩ v).setCell ⟨w.heap.size + 1, 3, none⟩ (.int .i64 f)).setCell ⟨w.heap.size + 1, 4, none⟩ (.int .i64 hi)).setCell ⟨w.heap.size + 1, 5, none⟩ (.int .i64 c)) w.heap.size v l
    ∧ Below w.heap.size w ((((((W.setCell ⟨w.heap.size + 1, 0, none⟩ (.int .i64 s)).setCell ⟨w.heap.size + 1, 1, none⟩ (.int .i64 n)).setCell ⟨w.heap.size + 1, 2, none⟩ v).setCell ⟨w.heap.size + 1, 3, none⟩ (.int .i64 f)).setCell ⟨w.heap.size + 1, 4, none⟩ (.int .i64 hi)).setCell ⟨w.heap.size + 1, 5, none⟩ (.int .i64 c)) := by
  have hq : w.heap.size ≤ w.heap.size + 1 := Nat.le_succ _
  have hg : w.heap.size + 1 < w.heap.size + 2 := Nat.lt_succ_self _
  refine ⟨(((((h.o.set0 _).set1 _).set2 _).set3 _).set4 _).set5 _, ?_, ?_⟩
  · exact ((((((ho.apart _ 0 _ hg).apart _ 1 _ hg).apart _ 2 _ hg).apart _ 3 _ hg).apart _ 4 _ hg).apart _ 5 _ hg).weaken (by omega)
  · exact (((((h.bl.setCell (p := ⟨_, _, _⟩) hq _).setCell (p := ⟨_, _, _⟩) hq _).setCell (p := ⟨_, _, _⟩) hq _).setCell (p := ⟨_, _, _⟩) hq _).setCell (p := ⟨_, _, _⟩) hq _).setCell (p := ⟨_, _, _⟩) hq _
end Go.Proofs.Ytmmoedhfeaokgaa
