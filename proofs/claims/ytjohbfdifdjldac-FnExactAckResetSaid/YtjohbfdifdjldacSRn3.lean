/-
  What spec.WriteRing, DropRing and PeekRing return.
-/
import Derived.Test.YtjohbfdifdjldacSRn2
import Derived.Test.YtjohbfdifdjldacSByte
namespace Go.Proofs.Ytjohbfdifdjldac
open Go.RowKit Go.Deep Go.Proofs.Ytjohbfdifdjldac.Num

theorem OwnK.addr {w : World} {base : Nat} {A : Option Addr} {n c : Nat} {zs : List Int} (h : OwnK w base (.slice A n c) zs) (h0 : 0 < zs.length) : ∃ g off, A = some ⟨g, off, none⟩ ∧ MidI w base g off zs := by
  rcases h with ⟨_, rfl⟩ | ⟨g, off, cap, e, hle, h⟩
  · cases h0
  · injection e with e1 _ _
    exact ⟨g, off, e1, h⟩
theorem OwnK.set {w : World} {base g off n c : Nat} {zs : List Int} (h : OwnK w base (.slice (some ⟨g, off, none⟩) n c) zs) (k : Nat) (hk : k < zs.length) (x : Int) : OwnK (w.setCell ⟨g, off + k, none⟩ (.int .i64 x)) base (.slice (some ⟨g, off, none⟩) n c) (zs.set k x) := by
  rcases h with ⟨_, rfl⟩ | ⟨g', off', cap, e, hle, h⟩
  · cases hk
  · injection e with e1 e2 e3
    injection e1 with e1
    injection e1 with e1 e4
    subst e1 e4 e2 e3
    exact .inr ⟨g, off, c, by rw [List.length_set], by rw [List.length_set]; exact hle, h.store k hk x⟩
/-- What came in, the result's cell, and a ring x in block gx, whose cells are the call's own. -/
structure FrN (w : World) (r : Rn) (A : Option Addr) (cap gx : Nat) (x : Rn) (u : Value) (W : World) : Prop where
  i : IrN w r (.slice A r.cs.length cap) W
  b : BoxN W gx x.size x.base x.en u
  own : OwnK W (w.heap.size + 2) u x.cs
  lt : w.heap.size + 1 < gx
  ne : ∀ k, u.ownBlock = some k → k ≠ gx
theorem FrN.start {w w3 : World} {r : Rn} {A : Option Addr} {cap : Nat} {v : Value} (hi : IrN w r (.slice A r.cs.length cap) w3) (own : OwnK w3 (w.heap.size + 2) v r.cs) (hz : w.heap.size + 1 < w3.heap.size) :
    FrN w r A cap w3.heap.size r v (w3.alloc (.cells (rnC r.size r.base r.en v) 32)) :=
  ⟨hi.alloc _, BoxN.new w3 _ _ _ _, own.alloc _, hz, fun k hk => by have := (own.lt k hk).2; omega⟩
theorem FrN.next {w : World} {r : Rn} {A : Option Addr} {cap gx : Nat} {x : Rn} {u : Value} {W W' : World} (h : FrN w r A cap gx x u W) (hb : Below W.heap.size W W') : FrN w r A cap gx x u W' :=
  ⟨h.i.next hb, h.b.below hb h.b.lt, h.own.later hb, h.lt, h.ne⟩
theorem FrN.drew {w : World} {r : Rn} {A : Option Addr} {cap gx : Nat} {x : Rn} {u : Value} {W : World} (h : FrN w r A cap gx x u W) : FrN w r A cap gx x u W.drew := h.next (Below.refl _ _).drew
theorem IrN.apart {w : World} {x : Rn} {u : Value} {W : World} (h : IrN w x u W) (g k : Nat) (y : Value) (hg : w.heap.size + 2 ≤ g) : IrN w x u (W.setCell ⟨g, k, none⟩ y) :=
  ⟨h.b.other g k y (by omega), h.o.other g k y (by omega), h.bl.setCell (p := ⟨g, k, none⟩) (by show w.heap.size ≤ g; omega) y⟩
/-- A cell of the copy is written. -/
theorem FrN.set {w : World} {r : Rn} {A : Option Addr} {cap gx : Nat} {x : Rn} {g off n c : Nat} {W : World} (h : FrN w r A cap gx x (.slice (some ⟨g, off, none⟩) n c) W) (k : Nat) (hk : k < x.cs.length) (z : Int) :
    FrN w r A cap gx ⟨x.size, x.base, x.en, x.cs.set k z⟩ (.slice (some ⟨g, off, none⟩) n c) (W.setCell ⟨g, off + k, none⟩ (.int .i64 z)) := by
  have h1 := (h.own.lt g rfl).1
  have h2 := h.ne g rfl
  exact ⟨h.i.apart g (off + k) _ h1, h.b.other g (off + k) _ (fun e => h2 e.symm), h.own.set k hk z, h.lt, h.ne⟩
/-- A number of the copy is written. -/
theorem FrN.putn {w : World} {r : Rn} {A : Option Addr} {cap gx : Nat} {x x' : Rn} {u : Value} {W : World} (h : FrN w r A cap gx x u W) (k : Nat) (y : Value) (hb : BoxN (W.setCell ⟨gx, k, none⟩ y) gx x'.size x'.base x'.en u) (hc : x'.cs = x.cs) :
    FrN w r A cap gx x' u (W.setCell ⟨gx, k, none⟩ y) := by
  refine ⟨h.i.apart gx k y h.lt, hb, ?_, h.lt, h.ne⟩
  rw [hc]
  refine h.own.kept (only_setI W gx k y) ?_
  cases hv : u.ownBlock with
  | none => exact .inl rfl
  | some q => exact .inr (fun e => h.ne q hv (by injection e))
theorem FrN.put1 {w : World} {r : Rn} {A : Option Addr} {cap gx : Nat} {x : Rn} {u : Value} {W : World} (h : FrN w r A cap gx x u W) (y : Int) : FrN w r A cap gx ⟨x.size, y, x.en, x.cs⟩ u (W.setCell ⟨gx, 1, none⟩ (.int .i64 y)) := h.putn (x' := ⟨x.size, y, x.en, x.cs⟩) 1 _ (h.b.set1 y) rfl
theorem FrN.put2 {w : World} {r : Rn} {A : Option Addr} {cap gx : Nat} {x : Rn} {u : Value} {W : World} (h : FrN w r A cap gx x u W) (y : Int) : FrN w r A cap gx ⟨x.size, x.base, y, x.cs⟩ u (W.setCell ⟨gx, 2, none⟩ (.int .i64 y)) := h.putn (x' := ⟨x.size, x.base, y, x.cs⟩) 2 _ (h.b.set2 y) rfl
theorem tmod_at {sz k : Int} (hs : 1 ≤ sz) (hk : 0 ≤ k) : k.tmod sz = ((atR sz k : Nat) : Int) := by
  rw [(atR_lt hs k).2]
  exact Int.tmod_eq_emod_of_nonneg hk

end Go.Proofs.Ytjohbfdifdjldac
