/-
  A receiver that is worked on: the one that came in, the result's cell, a copy in a block of its own.
-/
import Derived.Test.YtmmoedhfeaokgaaRcV
import Derived.Test.YtmmoedhfeaokgaaSTake
namespace Go.Proofs.Ytmmoedhfeaokgaa
open Go.RowKit Go.Deep Go.Proofs.Ytmmoedhfeaokgaa.Num

/-- A result that lies in a cell and one that lies in a slot. -/
theorem results_cell_tmp {P : Program} {fn : Func} {p u : Tmp} {ty : TypeId} (h : fn.results = #[.cell p ty, .tmp u]) (tmps : Array Value) (w : World) (g : Nat) (t : TypeId) (cs : Array Value) (fr : Nat × Nat) (d : TypeDesc)
    (hp : tmps.getD p undef = .pointer (some ⟨g, 0, none⟩)) (hg : w.heap[g]? = some (.cells cs t fr))
    (hu : P.underlying ty = some d) (hd : (match d with | .struct _ | .array _ _ => true | _ => false) = true) (hi : (P.info? ty).map (·.size) = some cs.size) :
    (results fn tmps).run P w = .ok (.tuple #[.agg cs, tmps.getD u undef]) w := by
  have hp' : tmps[p]?.getD undef = .pointer (some ⟨g, 0, none⟩) := by simpa using hp
  simp [results, h, hp', asAddr, run_loadVar_row w g t ty cs fr d hg hu hd hi]
theorem BoxR.drew {w : World} {g : Nat} {s n : Int} {v : Value} {f h c : Int} (x : BoxR w g s n v f h c) : BoxR w.drew g s n v f h c := x
theorem OwnX.weaken {w : World} {base base' : Nat} {v : Value} {l : List Ch} (h : OwnX w base v l) (hb : base' ≤ base) : OwnX w base' v l := by
  rcases h with h1 | ⟨g, off, c, h1, h2, h3, N, c', p, r, h4, h5, h6⟩
  · exact .inl h1
  · subst h5
    exact .inr ⟨g, off, c, h1, h2, h3, _, c', p, r, h4, rfl, ownc_weaken h6 hb⟩
/-- What came in (block g), the result's cell behind it, and a receiver x in block gx, whose chunks are the call's own. -/
structure FrX (w : World) (r : Rc) (A : Option Addr) (cap gx : Nat) (x : Rc) (u : Value) (W : World) : Prop where
  i : InRc w w.heap.size r A cap W
  o : BoxR W (w.heap.size + 1) 0 0 (.slice none 0 0) 0 0 0
  b : BoxR W gx x.st x.buf.next u x.fin x.hi x.code
  own : OwnX W (w.heap.size + 2) u x.buf.chs
  lt : w.heap.size + 1 < gx
  ne : ∀ k, u.ownBlock = some k → k ≠ gx
theorem FrX.start {w w2 w3 : World} {r : Rc} {A : Option Addr} {cap : Nat} {v : Value} (hi : InRc w w.heap.size r A cap w2) (ho : BoxR w2 (w.heap.size + 1) 0 0 (.slice none 0 0) 0 0 0) (hz : w2.heap.size = w.heap.size + 2) (hb : Below w2.heap.size w2 w3) (own : OwnX w3 w2.heap.size v r.buf.chs) :
    FrX w r A cap w3.heap.size r v (w3.alloc (.cells (rcC r.st r.buf.next v r.fin r.hi r.code) 28)) :=
  ⟨(hi.next hb).alloc _, (ho.below hb (by omega)).alloc _, BoxR.new w3 _ _ _ _ _ _, by rw [← hz]; exact own.alloc _, by have := hb.size; omega, fun k hk => by have := (own.lt k hk).2; omega⟩
theorem FrX.next {w : World} {r : Rc} {A : Option Addr} {cap gx : Nat} {x : Rc} {u : Value} {W W' : World} (h : FrX w r A cap gx x u W) (hb : Below W.heap.size W W') : FrX w r A cap gx x u W' :=
  ⟨h.i.next hb, h.o.below hb h.o.lt, h.b.below hb h.b.lt, h.own.later hb, h.lt, h.ne⟩
theorem FrX.drew {w : World} {r : Rc} {A : Option Addr} {cap gx : Nat} {x : Rc} {u : Value} {W : World} (h : FrX w r A cap gx x u W) : FrX w r A cap gx x u W.drew := h.next (Below.refl _ _).drew
theorem FrX.alloc {w : World} {r : Rc} {A : Option Addr} {cap gx : Nat} {x : Rc} {u : Value} {W : World} (h : FrX w r A cap gx x u W) (o : Obj) : FrX w r A cap gx x u (W.alloc o) := h.next ((Below.refl _ _).alloc (Nat.le_refl _) _)
/-- A store into the copy. -/
theorem FrX.put {w : World} {r : Rc} {A : Option Addr} {cap gx : Nat} {x : Rc} {u : Value} {W : World} (h : FrX w r A cap gx x u W) (k : Nat) (y : Value) (x' : Rc) (hb : BoxR (W.setCell ⟨gx, k, none⟩ y) gx x'.st x'.buf.next u x'.fin x'.hi x'.code) (hc : x'.buf.chs = x.buf.chs) :
    FrX w r A cap gx x' u (W.setCell ⟨gx, k, none⟩ y) := by
  have hlt := h.lt
  refine ⟨h.i.mark (K := gx) ((Below.refl _ _).setCell (p := ⟨gx, k, none⟩) (Nat.le_refl _) y) (by omega), h.o.other gx k y (by omega), hb, ?_, h.lt, h.ne⟩
  rw [hc]
  refine h.own.kept (only_setC W gx k y) ?_
  cases hv : u.ownBlock with
  | none => exact .inl rfl
  | some q => exact .inr (fun e => h.ne q hv (by injection e))
theorem FrX.put0 {w : World} {r : Rc} {A : Option Addr} {cap gx : Nat} {x : Rc} {u : Value} {W : World} (h : FrX w r A cap gx x u W) (y : Int) : FrX w r A cap gx ⟨y, x.buf, x.fin, x.hi, x.code⟩ u (W.setCell ⟨gx, 0, none⟩ (.int .i64 y)) := h.put 0 _ _ (h.b.set0 y) rfl
theorem FrX.put3 {w : World} {r : Rc} {A : Option Addr} {cap gx : Nat} {x : Rc} {u : Value} {W : World} (h : FrX w r A cap gx x u W) (y : Int) : FrX w r A cap gx ⟨x.st, x.buf, y, x.hi, x.code⟩ u (W.setCell ⟨gx, 3, none⟩ (.int .i64 y)) := h.put 3 _ _ (h.b.set3 y) rfl
theorem FrX.put4 {w : World} {r : Rc} {A : Option Addr} {cap gx : Nat} {x : Rc} {u : Value} {W : World} (h : FrX w r A cap gx x u W) (y : Int) : FrX w r A cap gx ⟨x.st, x.buf, x.fin, y, x.code⟩ u (W.setCell ⟨gx, 4, none⟩ (.int .i64 y)) := h.put 4 _ _ (h.b.set4 y) rfl
/-- Another buffer is laid into the copy. -/
theorem FrX.putB {w : World} {r : Rc} {A : Option Addr} {cap gx : Nat} {x : Rc} {u : Value} {W W' : World} (h : FrX w r A cap gx x u W) (hb : Below W.heap.size W W') (b : Bf) (v : Value) (own : OwnX W' W.heap.size v b.chs) :
    FrX w r A cap gx ⟨x.st, b, x.fin, x.hi, x.code⟩ v ((W'.setCell ⟨gx, 1, none⟩ (.int .i64 b.next)).setCell ⟨gx, 2, none⟩ v) := by
  have hlt := h.lt
  have hgx := h.b.lt
  have h' := h.next hb
  have hh : w.heap.size + 2 ≤ W.heap.size := by omega
  have own2 : OwnX W' (w.heap.size + 2) v b.chs := own.weaken hh
  have ne : ∀ k, v.ownBlock = some k → k ≠ gx := fun k hk => by have := (own.lt k hk).1; omega
  refine ⟨?_, ?_, ?_, ?_, h.lt, ne⟩
  · exact (h'.i.mark (K := gx) ((Below.refl _ _).setCell (p := ⟨gx, 1, none⟩) (Nat.le_refl _) _) (by omega)).mark (K := gx) ((Below.refl _ _).setCell (p := ⟨gx, 2, none⟩) (Nat.le_refl _) _) (by omega)
  · exact (h'.o.other gx 1 _ (by omega)).other gx 2 _ (by omega)
  · exact (h'.b.set1 b.next).set2 v
  · have hne : v.ownBlock = none ∨ v.ownBlock ≠ some gx := by
      cases hv : v.ownBlock with
      | none => exact .inl rfl
      | some q => exact .inr (fun e => ne q hv (by injection e))
    exact (own2.kept (only_setC _ gx 1 _) hne).kept (only_setC _ gx 2 _) hne
/-- The copy is laid into the result's cell. -/
theorem FrX.out {w : World} {r : Rc} {A : Option Addr} {cap gx : Nat} {x : Rc} {u : Value} {W : World} (h : FrX w r A cap gx x u W) :
    BoxR ((((((W.setCell ⟨w.heap.size + 1, 0, none⟩ (.int .i64 x.st)).setCell ⟨w.heap.size + 1, 1, none⟩ (.int .i64 x.buf.next)).setCell ⟨w.heap.size + 1, 2, none⟩ u).setCell ⟨w.heap.size + 1, 3, none⟩ (.int .i64 x.fin)).setCell ⟨w.heap.size + 1, 4, none⟩ (.int .i64 x.hi)).setCell ⟨w.heap.size + 1, 5, none⟩ (.int .i64 x.code)) (w.heap.size + 1) x.st x.buf.next u x.fin x.hi x.code
    ∧ OwnX ((((((W.setCell ⟨w.heap.size + 1, 0, none⟩ (.int .i64 x.st)).setCell ⟨w.heap.size + 1, 1, none⟩ (.int .i64 x.buf.next)).setCell ⟨w.heap.size + 1, 2, none⟩ u).setCell ⟨w.heap.size + 1, 3, none⟩ (.int .i64 x.fin)).setCell ⟨w.heap.size + 1, 4, none⟩ (.int .i64 x.hi)).setCell ⟨w.heap.size + 1, 5, none⟩ (.int .i64 x.code)) w.heap.size u x.buf.chs
    ∧ Below w.heap.size w ((((((W.setCell ⟨w.heap.size + 1, 0, none⟩ (.int .i64 x.st)).setCell ⟨w.heap.size + 1, 1, none⟩ (.int .i64 x.buf.next)).setCell ⟨w.heap.size + 1, 2, none⟩ u).setCell ⟨w.heap.size + 1, 3, none⟩ (.int .i64 x.fin)).setCell ⟨w.heap.size + 1, 4, none⟩ (.int .i64 x.hi)).setCell ⟨w.heap.size + 1, 5, none⟩ (.int .i64 x.code)) := by
  have hq : w.heap.size ≤ w.heap.size + 1 := Nat.le_succ _
  have hne : u.ownBlock = none ∨ u.ownBlock ≠ some (w.heap.size + 1) := by
    cases hv : u.ownBlock with
    | none => exact .inl rfl
    | some q => exact .inr (fun e => by have := (h.own.lt q hv).1; injection e; omega)
  have own : OwnX W w.heap.size u x.buf.chs := h.own.weaken (by omega)
  refine ⟨(((((h.o.set0 _).set1 _).set2 _).set3 _).set4 _).set5 _, ?_, ?_⟩
  · exact (((((own.kept (only_setC _ _ 0 _) hne).kept (only_setC _ _ 1 _) hne).kept (only_setC _ _ 2 _) hne).kept (only_setC _ _ 3 _) hne).kept (only_setC _ _ 4 _) hne).kept (only_setC _ _ 5 _) hne
  · exact (((((h.i.2.2.2.setCell (p := ⟨_, _, _⟩) hq _).setCell (p := ⟨_, _, _⟩) hq _).setCell (p := ⟨_, _, _⟩) hq _).setCell (p := ⟨_, _, _⟩) hq _).setCell (p := ⟨_, _, _⟩) hq _).setCell (p := ⟨_, _, _⟩) hq _
end Go.Proofs.Ytmmoedhfeaokgaa
