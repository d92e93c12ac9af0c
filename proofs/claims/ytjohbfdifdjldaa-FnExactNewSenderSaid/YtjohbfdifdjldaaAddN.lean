/-
  How the list with one range added comes about, a range at a time. No program is imported.
-/
import Derived.Test.YtjohbfdifdjldaaRangeN
namespace Go.Proofs.Ytjohbfdifdjldaa.Num

/-- Of l, the first j ranges are done: acc is what stands so far, c the range to be added (grown), pl says that it stands already. -/
def AddP (r : Rg) (l : List Rg) (j : Nat) (c : Rg) (acc : List Rg) (pl : Bool) : Prop :=
  acc.length + (if pl = true then 0 else 1) ≤ j + 1 ∧ c.1 < c.2 ∧ (pl = false → addR r l = acc ++ addR c (l.drop j)) ∧ (pl = true → addR r l = acc ++ l.drop j ∧ ∀ y ∈ l.drop j, c.2 < y.1 ∧ c.1 ≤ y.2)
theorem addR_cons (r x : Rg) (l : List Rg) : addR r (x :: l) = if x.2 < r.1 then x :: addR r l else if r.2 < x.1 then r :: x :: l else addR (min r.1 x.1, max r.2 x.2) l := by rw [addR]
theorem AddP.start (r : Rg) (l : List Rg) (h : fineR r) : AddP r l 0 r [] false := ⟨by simp, h.2.1, fun _ => by simp, fun h => by cases h⟩
theorem AddP.low {r : Rg} {l : List Rg} {j : Nat} {c : Rg} {acc : List Rg} (h : AddP r l j c acc false) (hj : j < l.length) (h1 : l[j].2 < c.1) : AddP r l (j + 1) c (acc ++ [l[j]]) false := by
  obtain ⟨a, b, d, _⟩ := h
  refine ⟨by simp at a ⊢; omega, b, fun _ => ?_, fun h => by cases h⟩
  rw [d rfl, List.drop_eq_getElem_cons hj]
  rw [addR_cons, if_pos h1, List.append_assoc, List.singleton_append]
theorem okR.drop {l : List Rg} : ∀ {p : Int} (j : Nat), okR p l → ∃ q, okR q (l.drop j) := by
  induction l with
  | nil => intro p j _; exact ⟨0, by simp; trivial⟩
  | cons x l ih =>
    intro p j h
    cases j with
    | zero => exact ⟨p, h⟩
    | succ j => exact ih j h.2.2.2
theorem AddP.put {r : Rg} {l : List Rg} {j : Nat} {c : Rg} {acc : List Rg} {p : Int} (h : AddP r l j c acc false) (hk : okR p l) (hj : j < l.length) (h1 : ¬ l[j].2 < c.1) (h2 : c.2 < l[j].1) : AddP r l (j + 1) c (acc ++ [c] ++ [l[j]]) true := by
  obtain ⟨a, b, d, _⟩ := h
  obtain ⟨q, hq⟩ := hk.drop j
  rw [List.drop_eq_getElem_cons hj] at hq
  refine ⟨by simp at a ⊢; omega, b, fun h => (by cases h), fun _ => ⟨?_, fun y hy => ?_⟩⟩
  · rw [d rfl, List.drop_eq_getElem_cons hj]
    unfold addR
    rw [if_neg h1, if_pos h2]
    simp
  · have h3 := hq.2.2.2.below y hy
    have h4 := hq.2.1
    omega
theorem AddP.mix {r : Rg} {l : List Rg} {j : Nat} {c : Rg} {acc : List Rg} (h : AddP r l j c acc false) (hj : j < l.length) (h1 : ¬ l[j].2 < c.1) (h2 : ¬ c.2 < l[j].1) : AddP r l (j + 1) (min c.1 l[j].1, max c.2 l[j].2) acc false := by
  obtain ⟨a, b, d, _⟩ := h
  refine ⟨by simp at a ⊢; omega, by show min c.1 l[j].1 < max c.2 l[j].2; omega, fun _ => ?_, fun h => by cases h⟩
  rw [d rfl, List.drop_eq_getElem_cons hj]
  conv => lhs; unfold addR
  rw [if_neg h1, if_neg h2]
theorem AddP.rest {r : Rg} {l : List Rg} {j : Nat} {c : Rg} {acc : List Rg} (h : AddP r l j c acc true) (hj : j < l.length) : ¬ l[j].2 < c.1 ∧ c.2 < l[j].1 ∧ AddP r l (j + 1) c (acc ++ [l[j]]) true := by
  obtain ⟨a, b, _, d⟩ := h
  obtain ⟨e, f⟩ := d rfl
  rw [List.drop_eq_getElem_cons hj] at e f
  have f0 := f _ List.mem_cons_self
  refine ⟨by omega, f0.1, by simp at a ⊢; omega, b, fun h => (by cases h), fun _ => ⟨?_, fun y hy => f y (List.mem_cons_of_mem _ hy)⟩⟩
  rw [e]
  simp
theorem AddP.last {r : Rg} {l : List Rg} {c : Rg} {acc : List Rg} (h : AddP r l l.length c acc false) : addR r l = acc ++ [c] := by
  rw [h.2.2.1 rfl, List.drop_length]
  rfl
theorem AddP.all {r : Rg} {l : List Rg} {c : Rg} {acc : List Rg} (h : AddP r l l.length c acc true) : addR r l = acc := by
  rw [(h.2.2.2 rfl).1, List.drop_length, List.append_nil]
end Go.Proofs.Ytjohbfdifdjldaa.Num
