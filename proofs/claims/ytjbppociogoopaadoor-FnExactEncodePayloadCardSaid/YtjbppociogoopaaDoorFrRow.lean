/-
  A slice of frames that came in.
-/
import Derived.Test.YtjbppociogoopaaDoorFrs
import Derived.Test.YtjbppociogoopaaDoorFrRowA
import Derived.Deep.Slices
import Derived.Deep.SlicePairs
import Derived.Lib.SmallJoins
import Derived.ProofKit
namespace Go.Proofs.YtjbppociogoopaaDoor
open Go.RowKit Go.Deep Go.Proofs.YtjbppociogoopaaDoor.Num Go.ChangeShapes Go.WideShapes Go.Joins

theorem addF_off (b off k : Nat) : (⟨b, off, none⟩ : Addr).add k = ⟨b, off + k, none⟩ := by
  unfold Addr.add
  split <;> simp_all
/-- A slice of frames that came in is frames that can be read. -/
theorem frs_of_trod {H : Type} {enc : TypeId × Value → H} {w : World} {base : Nat} {held : Bool} {a : Option Addr} {len cap : Nat} {d : DataW H} {p : List MemPlace}
    (h : DataW.Trod enc Tryd.prog w base (fun _ => true) held 49 (.slice a len cap) d p) :
    ∃ l : List Fr, len = l.length ∧ len ≤ maxLen ∧ Frs w w.heap.size a l ∧ ∀ f ∈ l, f.data.size ≤ maxLen := by
  obtain ⟨fuel, hf⟩ := h
  rcases open_slice Tryd.underlying49 hf with ⟨hcs, _⟩ | ⟨x, l, c, m, n, D, Pl, hcs, _, hl, hm, hmm, _, hcell⟩
  · simp [Value.cells] at hcs
    obtain ⟨rfl, rfl, rfl⟩ := hcs
    exact ⟨[], rfl, by decide, Frs.nil, fun f hf => by cases hf⟩
  · simp [Value.cells] at hcs
    obtain ⟨rfl, rfl, rfl⟩ := hcs
    have hmc : m = cap := by simpa using hmm
    subst hmc
    have c9 : Tryd.prog.cellsOf 43 = 9 := by kernel_rfl
    have hall : ∀ i, i < len → ∃ f : Fr, (∀ k, k < 9 → w.cell? (x.add (i * 9 + k)) = (frL f)[k]?) ∧ f.data.size ≤ maxLen := by
      intro i hi
      obtain ⟨cs', h1, h2⟩ := hcell i (by omega)
      rw [c9] at h1
      obtain ⟨_, hlen, hc⟩ := World.cells?_some h1
      obtain ⟨f, rfl, hs⟩ := fr_cells hlen h2
      refine ⟨f, fun k hk => ?_, hs⟩
      have := hc k hk
      rw [add_add] at this
      exact this
    have hsome : ∀ k, k ≤ len → ∃ l : List Fr, l.length = k ∧ ∀ i (hi : i < l.length), (∀ k, k < 9 → w.cell? (x.add (i * 9 + k)) = (frL l[i])[k]?) ∧ l[i].data.size ≤ maxLen := by
      intro k
      induction k with
      | zero => intro _; exact ⟨[], rfl, fun i hi => by cases hi⟩
      | succ k ih =>
        intro hk
        obtain ⟨l, rfl, hl⟩ := ih (by omega)
        obtain ⟨y, hy⟩ := hall l.length (by omega)
        refine ⟨l ++ [y], by simp, fun i hi => ?_⟩
        by_cases hil : i < l.length
        · rw [List.getElem_append_left hil]
          exact hl i hil
        · have e : i = l.length := by simp at hi; omega
          subst e
          simpa using hy
    obtain ⟨l, hlen, hl2⟩ := hsome len (Nat.le_refl _)
    refine ⟨l, hlen.symm, Nat.le_trans hl hm, fun j hj => ?_, fun y hy => ?_⟩
    · obtain ⟨h0, _⟩ := hl2 j hj
      obtain ⟨b, off, spot⟩ := x
      have h00 : w.cell? ((⟨b, off, spot⟩ : Addr).add (0 * 9 + 0)) = some (.int .i64 (l[0]'(by omega)).kind) := (hl2 0 (by omega)).1 0 (by omega)
      have hs : spot = none := by simpa [Addr.add] using World.cell?_spot h00
      subst hs
      have hk : ∀ i, i < 9 → w.cell? ⟨b, off + j * 9 + i, none⟩ = (frL l[j])[i]? := fun i hi => by
        have := h0 i hi
        rw [addF_off, ← Nat.add_assoc] at this
        exact this
      refine ⟨b, off, rfl, ?_, hk⟩
      exact Nat.lt_of_not_le fun hle => by
        have h1 := hk 0 (by omega)
        have : w.cell? ⟨b, off + j * 9 + 0, none⟩ = none := by simp [World.cell?, Array.getElem?_eq_none hle]
        rw [this] at h1
        simp [frL] at h1
    · obtain ⟨i, hi, rfl⟩ := List.getElem_of_mem hy
      exact (hl2 i hi).2
end Go.Proofs.YtjbppociogoopaaDoor
