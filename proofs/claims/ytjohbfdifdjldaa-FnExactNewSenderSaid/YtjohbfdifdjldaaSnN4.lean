/-
  Plain facts about the senders that are drawn: the model and the document agree on them. No program is imported.
-/
import Derived.Test.YtjohbfdifdjldaaSnN3
namespace Go.Proofs.Ytjohbfdifdjldaa.Num

theorem arS_doc {s : Sn} (h : docSn s) : docSn (arS true s) := by
  unfold arS
  split
  · rename_i hc
    obtain ⟨h1, h2⟩ := h
    rw [if_pos (Or.inl hc.2)] at h2
    refine ⟨h1, ?_⟩
    rw [if_pos (Or.inr rfl)]
    exact h2
  · exact h
/-- Where the sets are those of a valid sender, the model and the document agree. -/
theorem ok_doc {s t : Sn} (h : docSn s) (hr : t.rn = s.rn) (hp : t.pe = s.pe) (hf : t.fl = s.fl) (ha : t.ac = s.ac) (hk : okSn t) : docSn t := by
  obtain ⟨k1, k2⟩ := hk
  refine ⟨k1, ?_⟩
  by_cases ht : t.st = 4 ∨ t.st = 5
  · rw [if_pos ht] at k2 ⊢; exact k2
  · rw [if_neg ht] at k2 ⊢
    refine ⟨?_, k2.2⟩
    have hl : listS t ↔ listS s := by unfold listS allS; rw [hr, hp, hf, ha]
    by_cases hs : s.st = 4 ∨ s.st = 5
    · obtain ⟨h1, h2⟩ := h
      rw [if_pos hs] at h2
      obtain ⟨q1, q2, q3, q4, _⟩ := h2
      obtain ⟨z1, _⟩ := k2.1
      have e0 : allS t = [] := by unfold allS; rw [hp, hf, ha, q2, q3, q4]; rfl
      rw [e0] at z1
      have e1 : t.rn.en = 0 := z1.symm
      unfold listS
      rw [e0, e1, hp, hf, ha, q2, q3, q4]
      exact ⟨rfl, rfl⟩
    · obtain ⟨h1, h2⟩ := h
      rw [if_neg hs] at h2
      exact hl.2 h2.1
/-- A range too many: neither takes it for valid. -/
theorem more_bad {s : Sn} (h : docSn s) (r : Rg) (hr : r.1 < r.2) : ¬ okSn { s with pe := s.pe ++ [r] } := by
  rintro ⟨k1, k2⟩
  obtain ⟨h1, h2⟩ := h
  dsimp only at k2
  by_cases hs : s.st = 4 ∨ s.st = 5
  · rw [if_pos hs] at k2
    have h3 : s.pe ++ [r] = [] := k2.2.1
    simp at h3
  · rw [if_neg hs] at h2 k2
    have e1 := h2.1.2
    have e2 : cntR (s.pe ++ [r]) + cntR s.fl + cntR s.ac = s.rn.en := k2.1.2.1
    rw [cntR_append, cntR_cons] at e2
    have e3 : cntR ([] : List Rg) = 0 := rfl
    omega
theorem more_doc {s : Sn} (h : docSn s) (r : Rg) (hr : r.1 < r.2) : ¬ docSn { s with pe := s.pe ++ [r] } := fun h2 => more_bad h r hr h2.ok
/-- There are no more ranges than numbers. -/
theorem okR_len (l : List Rg) : ∀ p, okR p l → (l.length : Int) ≤ cntR l := by
  induction l with
  | nil => intro p _; exact Int.le_refl _
  | cons x l ih =>
    intro p h
    have := ih x.2 h.2.2.2
    have := h.2.1
    rw [cntR_cons, List.length_cons]
    omega
theorem docSn.lens {s : Sn} (h : docSn s) : (s.pe.length : Int) ≤ s.rn.en ∧ (s.fl.length : Int) ≤ s.rn.en ∧ (s.ac.length : Int) ≤ s.rn.en := by
  obtain ⟨h1, h2⟩ := h
  have h0 : 0 ≤ s.rn.en := by have := h1.2.2.2.2.1; omega
  by_cases hs : s.st = 4 ∨ s.st = 5
  · rw [if_pos hs] at h2
    obtain ⟨_, q2, q3, q4, _⟩ := h2
    rw [q2, q3, q4]
    exact ⟨h0, h0, h0⟩
  · rw [if_neg hs] at h2
    have e := h2.1.2
    have a := okR_len s.pe _ h1.2.1
    have b := okR_len s.fl _ h1.2.2.1
    have c := okR_len s.ac _ h1.2.2.2.1
    omega
/-- The new sender. -/
def nwS (n : Int) : Sn := if powR n then ⟨0, nwR n, [], [], [], -1, 0, 0, 0⟩ else ⟨0, ⟨0, 0, 0, []⟩, [], [], [], 0, 0, 0, 0⟩
theorem nwS_doc {n : Int} (h : powR n) : docSn (nwS n) := by
  have hr := nwR_ok h
  have he : (nwR n).en = 0 ∧ (nwR n).base = 0 := by unfold nwR; rw [if_pos h]; exact ⟨rfl, rfl⟩
  unfold nwS
  rw [if_pos h]
  refine docSn.mk' (by show ¬ ((0 : Int) = 4 ∨ (0 : Int) = 5); decide) ⟨hr, trivial, trivial, trivial, ⟨Int.le_refl _, by show (0 : Int) ≤ (nwR n).en; rw [he.1]; exact Int.le_refl _⟩, ⟨Int.le_refl _, show (0 : Int) ≤ 4611686018427387903 by decide⟩, Int.le_refl _, show (0 : Int) ≤ 3 by decide⟩ ⟨fun m => ⟨fun h => by rcases h with h | h | h <;> exact absurd h (hasR_nil m), fun h => by have h3 : 0 ≤ m ∧ m < (nwR n).en := h; rw [he.1] at h3; omega⟩, fun m h => hasR_nil m h.1, fun m h => hasR_nil m h.1, fun m h => hasR_nil m h.1⟩ ⟨he.2.symm, rfl, fun r h => (by cases h), fun r h => (by cases h), ⟨fun _ => rfl, fun _ => rfl⟩, fun h => absurd rfl h, rfl⟩
end Go.Proofs.Ytjohbfdifdjldaa.Num
