/-
  Ints of the call's own, in whatever block they lie.
-/
import Derived.Test.YtjohbfdifdjldaaInts
namespace Go.Proofs.Ytjohbfdifdjldaa
open Go.RowKit Go.Deep Go.Proofs.Ytjohbfdifdjldaa.Num

/-- All fit an int. -/
def inI (zs : List Int) : Prop := ∀ z ∈ zs, -9223372036854775808 ≤ z ∧ z ≤ 9223372036854775807
/-- A stretch of cells in a block of the call's own holds these ints. -/
def MidI (w : World) (base g off : Nat) (zs : List Int) : Prop := base ≤ g ∧ ∃ (cs : Array Value) (t : TypeId), w.heap[g]? = some (.cells cs t (0, 0)) ∧ ∀ j (hj : j < zs.length), cs[off + j]? = some (.int .i64 zs[j])
theorem MidI.ge {w : World} {base g off : Nat} {zs : List Int} (h : MidI w base g off zs) : base ≤ g ∧ g < w.heap.size := by
  obtain ⟨h1, cs, t, h2, _⟩ := h
  exact ⟨h1, (Array.getElem?_eq_some_iff.1 h2).1⟩
theorem MidI.cell {w : World} {base g off : Nat} {zs : List Int} (h : MidI w base g off zs) (j : Nat) (hj : j < zs.length) : w.cell? ⟨g, off + j, none⟩ = some (.int .i64 zs[j]) := by
  obtain ⟨_, cs, t, h2, h3⟩ := h
  exact (cell_of_row w g (off + j) _ _ _ h2).trans (h3 j hj)
theorem MidI.ints {w : World} {base g off : Nat} {zs : List Int} (h : MidI w base g off zs) : Ints w w.heap.size (some ⟨g, off, none⟩) zs := fun j hj => ⟨g, off, rfl, h.ge.2, h.cell j hj⟩
theorem MidI.free {w : World} {base g off : Nat} {zs : List Int} (h : MidI w base g off zs) (k : Nat) : w.frozen? ⟨g, k, none⟩ = false := by
  obtain ⟨_, cs, t, h2, _⟩ := h
  simp [World.frozen?, h2]
theorem MidI.kept {w w' : World} {base g off : Nat} {zs : List Int} {ob : Option Nat} (h : MidI w base g off zs) (hg : w.grownBy w' ob) (hne : some g ≠ ob) : MidI w' base g off zs := by
  have h0 := h.ge.2
  obtain ⟨h1, cs, t, h2, h3⟩ := h
  exact ⟨h1, cs, t, (hg.block g h0 hne).trans h2, h3⟩
theorem MidI.store {w : World} {base g off : Nat} {zs : List Int} (h : MidI w base g off zs) (j : Nat) (hj : j < zs.length) (x : Int) : MidI (w.setCell ⟨g, off + j, none⟩ (.int .i64 x)) base g off (zs.set j x) := by
  obtain ⟨h1, cs, t, h2, h3⟩ := h
  refine ⟨h1, cs.setIfInBounds (off + j) (.int .i64 x), t, ?_, fun i hi => ?_⟩
  · simp [World.setCell, Array.getElem?_modify, h2]
  · have hi2 : i < zs.length := by simpa using hi
    have hs : off + j < cs.size := (Array.getElem?_eq_some_iff.1 (h3 j hj)).1
    by_cases he : j = i
    · subst he
      simp [hs]
    · rw [Array.getElem?_setIfInBounds_ne (by omega), h3 i hi2]
      simp [List.getElem_set_ne he]
theorem intI_below {w w' : World} (h : Below w.heap.size w w') : w.grownBy w' none := ⟨h.os, h.tape, h.output, h.size, fun i hi _ => h.block i hi⟩
/-- The slice v is the call's own from block 'base' on, maybe a part of an array, and holds these ints. -/
def OwnK (w : World) (base : Nat) (v : Value) (zs : List Int) : Prop := (v = .slice none 0 0 ∧ zs = []) ∨ ∃ g off cap, v = .slice (some ⟨g, off, none⟩) zs.length cap ∧ zs.length ≤ cap ∧ MidI w base g off zs
theorem OwnK.empty {w : World} {base : Nat} : OwnK w base (.slice none 0 0) [] := .inl ⟨rfl, rfl⟩
theorem OwnI.k {w : World} {base : Nat} {v : Value} {zs : List Int} (h : OwnI w base v zs) : OwnK w base v zs := by
  obtain ⟨_, h⟩ := h
  rcases h with ⟨rfl, hz⟩ | ⟨g, cap, cur, rfl, hb, hg, hle, _, hc, ht⟩
  · exact .inl ⟨rfl, List.eq_nil_of_length_eq_zero hz⟩
  · refine .inr ⟨g, 0, cap, rfl, hle, hb, cur, _, hg, fun j hj => ?_⟩
    have h2 : (cur.toList.take (zs.length * 1))[j]? = (valsI zs)[j]? := by rw [ht]
    rw [List.getElem?_take_of_lt (by omega)] at h2
    rw [Nat.zero_add, ← Array.getElem?_toList, h2]
    simp [valsI, hj]
theorem OwnK.row {w : World} {base g cap : Nat} {zs : List Int} (hb : base ≤ g) (t : TypeId) (h : w.heap[g]? = some (.cells (cellsI zs) t (0, 0))) (hc : zs.length ≤ cap) : OwnK w base (.slice (some ⟨g, 0, none⟩) zs.length cap) zs :=
  .inr ⟨g, 0, cap, rfl, hc, hb, cellsI zs, t, h, fun j hj => by rw [Nat.zero_add]; exact cellsI_at zs j hj⟩
theorem OwnK.frs {w : World} {base : Nat} {v : Value} {zs : List Int} (h : OwnK w base v zs) : ∃ A cap, v = .slice A zs.length cap ∧ zs.length ≤ cap ∧ Ints w w.heap.size A zs := by
  rcases h with ⟨rfl, rfl⟩ | ⟨g, off, cap, rfl, hle, h⟩
  · exact ⟨none, 0, rfl, Nat.le_refl _, Ints.nil⟩
  · exact ⟨_, cap, rfl, hle, h.ints⟩
theorem OwnK.chs {w : World} {base : Nat} {A : Option Addr} {cap : Nat} {zs : List Int} (h : OwnK w base (.slice A zs.length cap) zs) : Ints w w.heap.size A zs := by
  obtain ⟨A', cap', e, _, hc⟩ := h.frs
  injection e with e1 _ _
  subst e1
  exact hc
theorem OwnK.lt {w : World} {base : Nat} {v : Value} {zs : List Int} (h : OwnK w base v zs) : ∀ k, v.ownBlock = some k → base ≤ k ∧ k < w.heap.size := by
  rcases h with ⟨rfl, rfl⟩ | ⟨g, off, cap, rfl, hle, h⟩
  · intro k hk; cases hk
  · intro k hk
    injection hk with hk
    subst hk
    exact h.ge
theorem OwnK.kept {w w' : World} {base : Nat} {v : Value} {zs : List Int} {ob : Option Nat} (h : OwnK w base v zs) (hg : w.grownBy w' ob) (hne : v.ownBlock = none ∨ v.ownBlock ≠ ob) : OwnK w' base v zs := by
  rcases h with h | ⟨g, off, cap, rfl, hle, h⟩
  · exact .inl h
  · exact .inr ⟨g, off, cap, rfl, hle, h.kept hg (hne.resolve_left fun e => by cases e)⟩
theorem OwnK.later {w w' : World} {base : Nat} {v : Value} {zs : List Int} (h : OwnK w base v zs) (hb : Below w.heap.size w w') : OwnK w' base v zs :=
  h.kept (intI_below hb) (by
    cases v.ownBlock with
    | none => exact .inl rfl
    | some k => exact .inr (by simp))
theorem OwnK.alloc {w : World} {base : Nat} {v : Value} {zs : List Int} (h : OwnK w base v zs) (o : Obj) : OwnK (w.alloc o) base v zs := h.later ((Below.refl _ _).alloc (Nat.le_refl _) _)
theorem OwnK.weaken {w : World} {base base' : Nat} {v : Value} {zs : List Int} (h : OwnK w base v zs) (hb : base' ≤ base) : OwnK w base' v zs := by
  rcases h with h | ⟨g, off, cap, rfl, hle, h1, h2⟩
  · exact .inl h
  · exact .inr ⟨g, off, cap, rfl, hle, by omega, h2⟩
theorem only_setI (w : World) (g : Nat) (k : Nat) (u : Value) : w.grownBy (w.setCell ⟨g, k, none⟩ u) (some g) :=
  ⟨rfl, rfl, rfl, by simp [World.setCell], fun i _ hne => Below.heap_setCell w ⟨g, k, none⟩ u i (by rintro rfl; exact hne rfl)⟩
theorem only_moreI {a b : World} {g : Nat} (h : a.grownBy b (some g)) (k : Nat) (u : Value) : a.grownBy (b.setCell ⟨g, k, none⟩ u) (some g) :=
  ⟨h.os, h.tape, h.output, by simpa [World.setCell] using h.size, fun i hi hne => (Below.heap_setCell b ⟨g, k, none⟩ u i (by rintro rfl; exact hne rfl)).trans (h.block i hi hne)⟩
theorem only_firstI {a b : World} {g : Option Nat} {o : Obj} (h : (a.alloc o).grownBy b g) : a.grownBy b g :=
  ⟨h.os, h.tape, h.output, Nat.le_trans (by simp) h.size, fun i hi hne => (h.block i (by simp; omega) hne).trans ((Below.heap_alloc a o i hi))⟩
theorem only_reflI (w : World) (g : Option Nat) : w.grownBy w g := ⟨rfl, rfl, rfl, Nat.le_refl _, fun _ _ _ => rfl⟩
theorem OwnK.apart {W : World} {base : Nat} {v : Value} {zs : List Int} (h : OwnK W base v zs) (g k : Nat) (y : Value) (hg : g < base) : OwnK (W.setCell ⟨g, k, none⟩ y) base v zs := by
  refine h.kept (only_setI W g k y) ?_
  cases hv : v.ownBlock with
  | none => exact .inl rfl
  | some q => exact .inr (fun e => by have := (h.lt q hv).1; injection e; omega)

end Go.Proofs.Ytjohbfdifdjldaa
