/-
  Ranges of the call's own, in whatever block they lie: what laws.markRangeS, heldRangeS, szRangeS return, from whatever mark on.
-/
import Derived.Test.YtjohbfdifdjldacSRngK
import Derived.Test.YtjohbfdifdjldacKOwn
namespace Go.Proofs.Ytjohbfdifdjldac
open Go.RowKit Go.Deep Go.Proofs.Ytjohbfdifdjldac.Num

/-- A stretch of cells in a block of the call's own holds these ranges. -/
def MidP (w : World) (base g off : Nat) (l : List Rg) : Prop := base ≤ g ∧ ∃ (cs : Array Value) (t : TypeId), w.heap[g]? = some (.cells cs t (0, 0)) ∧ ∀ j (hj : j < l.length), cs[off + j * 2]? = some (.int .i64 l[j].1) ∧ cs[off + j * 2 + 1]? = some (.int .i64 l[j].2)
theorem MidP.ge {w : World} {base g off : Nat} {l : List Rg} (h : MidP w base g off l) : base ≤ g ∧ g < w.heap.size := by
  obtain ⟨h1, cs, t, h2, _⟩ := h
  exact ⟨h1, (Array.getElem?_eq_some_iff.1 h2).1⟩
theorem MidP.cell {w : World} {base g off : Nat} {l : List Rg} (h : MidP w base g off l) (j : Nat) (hj : j < l.length) : w.cell? ⟨g, off + j * 2, none⟩ = some (.int .i64 l[j].1) ∧ w.cell? ⟨g, off + j * 2 + 1, none⟩ = some (.int .i64 l[j].2) := by
  obtain ⟨_, cs, t, h2, h3⟩ := h
  exact ⟨(cell_of_row w g (off + j * 2) _ _ _ h2).trans (h3 j hj).1, (cell_of_row w g (off + j * 2 + 1) _ _ _ h2).trans (h3 j hj).2⟩
theorem MidP.rgs {w : World} {base g off : Nat} {l : List Rg} (h : MidP w base g off l) : Rgs w w.heap.size (some ⟨g, off, none⟩) l := fun j hj => ⟨g, off, rfl, h.ge.2, (h.cell j hj).1, (h.cell j hj).2⟩
theorem MidP.free {w : World} {base g off : Nat} {l : List Rg} (h : MidP w base g off l) (k : Nat) : w.frozen? ⟨g, k, none⟩ = false := by
  obtain ⟨_, cs, t, h2, _⟩ := h
  simp [World.frozen?, h2]
theorem MidP.kept {w w' : World} {base g off : Nat} {l : List Rg} {ob : Option Nat} (h : MidP w base g off l) (hg : w.grownBy w' ob) (hne : some g ≠ ob) : MidP w' base g off l := by
  have h0 := h.ge.2
  obtain ⟨h1, cs, t, h2, h3⟩ := h
  exact ⟨h1, cs, t, (hg.block g h0 hne).trans h2, h3⟩
theorem MidP.store {w : World} {base g off : Nat} {l : List Rg} (h : MidP w base g off l) (j : Nat) (hj : j < l.length) (a b : Int) : MidP ((w.setCell ⟨g, off + j * 2, none⟩ (.int .i64 a)).setCell ⟨g, off + j * 2 + 1, none⟩ (.int .i64 b)) base g off (l.set j (a, b)) := by
  obtain ⟨h1, cs, t, h2, h3⟩ := h
  refine ⟨h1, (cs.setIfInBounds (off + j * 2) (.int .i64 a)).setIfInBounds (off + j * 2 + 1) (.int .i64 b), t, ?_, fun i hi => ?_⟩
  · simp [World.setCell, Array.getElem?_modify, h2]
  · have hi2 : i < l.length := by simpa using hi
    have hs : off + j * 2 < cs.size := (Array.getElem?_eq_some_iff.1 (h3 j hj).1).1
    have hs2 : off + j * 2 + 1 < cs.size := (Array.getElem?_eq_some_iff.1 (h3 j hj).2).1
    by_cases he : j = i
    · subst he
      refine ⟨?_, ?_⟩
      · rw [Array.getElem?_setIfInBounds_ne (by omega)]
        simp [hs]
      · simp [hs2]
    · refine ⟨?_, ?_⟩
      · rw [Array.getElem?_setIfInBounds_ne (by omega), Array.getElem?_setIfInBounds_ne (by omega), (h3 i hi2).1]
        simp [List.getElem_set_ne he]
      · rw [Array.getElem?_setIfInBounds_ne (by omega), Array.getElem?_setIfInBounds_ne (by omega), (h3 i hi2).2]
        simp [List.getElem_set_ne he]
/-- The slice v is the call's own from block 'base' on, maybe a part of an array, and holds these ranges. -/
def OwnP (w : World) (base : Nat) (v : Value) (l : List Rg) : Prop := (v = .slice none 0 0 ∧ l = []) ∨ ∃ g off cap, v = .slice (some ⟨g, off, none⟩) l.length cap ∧ l.length ≤ cap ∧ MidP w base g off l
theorem OwnP.empty {w : World} {base : Nat} : OwnP w base (.slice none 0 0) [] := .inl ⟨rfl, rfl⟩
theorem OwnR.p {w : World} {base : Nat} {v : Value} {l : List Rg} (h : OwnR w base v l) : OwnP w base v l := by
  obtain ⟨_, h⟩ := h
  rcases h with ⟨rfl, hz⟩ | ⟨g, cap, cur, rfl, hb, hg, hle, _, hc, ht⟩
  · exact .inl ⟨rfl, List.eq_nil_of_length_eq_zero hz⟩
  · refine .inr ⟨g, 0, cap, rfl, hle, hb, cur, _, hg, fun j hj => ?_⟩
    have h2 : ∀ i, i < l.length * 2 → cur[i]? = (valsR l)[i]? := fun i hi => by
      rw [← ht, List.getElem?_take_of_lt hi, Array.getElem?_toList]
    have h3 := valsR_at l j hj
    rw [Nat.zero_add]
    exact ⟨(h2 (j * 2) (by omega)).trans h3.1, (h2 (j * 2 + 1) (by omega)).trans h3.2⟩
theorem OwnP.frs {w : World} {base : Nat} {v : Value} {l : List Rg} (h : OwnP w base v l) : ∃ A cap, v = .slice A l.length cap ∧ l.length ≤ cap ∧ Rgs w w.heap.size A l := by
  rcases h with ⟨rfl, rfl⟩ | ⟨g, off, cap, rfl, hle, h⟩
  · exact ⟨none, 0, rfl, Nat.le_refl _, Rgs.nil⟩
  · exact ⟨_, cap, rfl, hle, h.rgs⟩
theorem OwnP.rgs {w : World} {base : Nat} {A : Option Addr} {cap : Nat} {l : List Rg} (h : OwnP w base (.slice A l.length cap) l) : Rgs w w.heap.size A l := by
  obtain ⟨A', cap', e, _, hc⟩ := h.frs
  injection e with e1 _ _
  subst e1
  exact hc
theorem OwnP.lt {w : World} {base : Nat} {v : Value} {l : List Rg} (h : OwnP w base v l) : ∀ k, v.ownBlock = some k → base ≤ k ∧ k < w.heap.size := by
  rcases h with ⟨rfl, rfl⟩ | ⟨g, off, cap, rfl, hle, h⟩
  · intro k hk; cases hk
  · intro k hk
    injection hk with hk
    subst hk
    exact h.ge
theorem OwnP.kept {w w' : World} {base : Nat} {v : Value} {l : List Rg} {ob : Option Nat} (h : OwnP w base v l) (hg : w.grownBy w' ob) (hne : v.ownBlock = none ∨ v.ownBlock ≠ ob) : OwnP w' base v l := by
  rcases h with h | ⟨g, off, cap, rfl, hle, h⟩
  · exact .inl h
  · exact .inr ⟨g, off, cap, rfl, hle, h.kept hg (hne.resolve_left fun e => by cases e)⟩
theorem OwnP.later {w w' : World} {base : Nat} {v : Value} {l : List Rg} (h : OwnP w base v l) (hb : Below w.heap.size w w') : OwnP w' base v l :=
  h.kept (intI_below hb) (by
    cases v.ownBlock with
    | none => exact .inl rfl
    | some k => exact .inr (by simp))
theorem OwnP.alloc {w : World} {base : Nat} {v : Value} {l : List Rg} (h : OwnP w base v l) (o : Obj) : OwnP (w.alloc o) base v l := h.later ((Below.refl _ _).alloc (Nat.le_refl _) _)
theorem OwnP.weaken {w : World} {base base' : Nat} {v : Value} {l : List Rg} (h : OwnP w base v l) (hb : base' ≤ base) : OwnP w base' v l := by
  rcases h with h | ⟨g, off, cap, rfl, hle, h1, h2⟩
  · exact .inl h
  · exact .inr ⟨g, off, cap, rfl, hle, by omega, h2⟩
theorem OwnP.apart {W : World} {base : Nat} {v : Value} {l : List Rg} (h : OwnP W base v l) (g k : Nat) (y : Value) (hg : g < base) : OwnP (W.setCell ⟨g, k, none⟩ y) base v l := by
  refine h.kept (only_setI W g k y) ?_
  cases hv : v.ownBlock with
  | none => exact .inl rfl
  | some q => exact .inr (fun e => by have := (h.lt q hv).1; injection e; omega)

end Go.Proofs.Ytjohbfdifdjldac
