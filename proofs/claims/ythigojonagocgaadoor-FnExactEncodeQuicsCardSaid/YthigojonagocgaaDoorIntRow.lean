/-
  A slice of ints that came in is ints that can be read.
-/
import Derived.Test.YthigojonagocgaaDoorLaidQ
import Derived.Test.YthigojonagocgaaDoorInts
namespace Go.Proofs.YthigojonagocgaaDoor
open Go.RowKit Go.Deep Go.Proofs.YthigojonagocgaaDoor.Num

theorem ints_of_row {w : World} {a : Option Addr} {len cap : Nat} {zs : List Int}
    (h : (a = none ∧ len = 0 ∧ cap = 0 ∧ zs = []) ∨
      ∃ x, a = some x ∧ len ≤ cap ∧ cap ≤ maxLen ∧ zs.length = cap ∧ (∀ i, i < zs.length → w.cell? (x.add i) = some (.int .i64 (zs.getD i 0))) ∧ ∀ n ∈ zs, (Lit.int .i64 n).wf = true) :
    len = (zs.take len).length ∧ len ≤ maxLen ∧ Ints w w.heap.size a (zs.take len) ∧ ∀ z ∈ zs.take len, -9223372036854775808 ≤ z ∧ z ≤ 9223372036854775807 := by
  rcases h with ⟨rfl, rfl, _, rfl⟩ | ⟨x, rfl, hl, hm, hz, hc, hw⟩
  · exact ⟨rfl, by decide, Ints.nil, fun z hz => by simp at hz⟩
  · refine ⟨by rw [List.length_take]; omega, Nat.le_trans hl hm, fun j hj => ?_, fun z hz => wf_range (hw z (List.mem_of_mem_take hz))⟩
    have hj2 : j < len := by rw [List.length_take] at hj; omega
    obtain ⟨b, off, spot⟩ := x
    have hs : spot = none := by simpa [Addr.add] using World.cell?_spot (hc 0 (by omega))
    subst hs
    have h0 := hc j (by omega)
    have e : (⟨b, off, none⟩ : Addr).add j = ⟨b, off + j, none⟩ := by
      unfold Addr.add
      split <;> simp_all
    have hj' : j < zs.length := by omega
    rw [e, show zs.getD j 0 = zs[j] from by simp [List.getD, hj']] at h0
    exact ⟨b, off, rfl, block_lt_of_cell h0, by rw [h0, List.getElem_take]⟩
end Go.Proofs.YthigojonagocgaaDoor
