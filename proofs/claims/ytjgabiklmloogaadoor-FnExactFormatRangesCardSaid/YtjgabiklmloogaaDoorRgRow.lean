/-
  A slice of pairs of ints, or such a pair, that came in, is ranges that can be read.
-/
import Derived.Test.YtjgabiklmloogaaDoorRgs
import Derived.Deep.SlicePairs
import Derived.Lib.SmallJoins
import Derived.ProofKit
namespace Go.Proofs.YtjgabiklmloogaaDoor
open Go.RowKit Go.Deep Go.Proofs.YtjgabiklmloogaaDoor.Num Go.ChangeShapes Go.WideShapes Go.Joins

theorem wf_int {a : Int} (h : (Lit.int .i64 a).wf = true) : -9223372036854775808 ≤ a ∧ a ≤ 9223372036854775807 := by
  simp [Lit.wf, IntKind.min, IntKind.max, IntKind.signed, IntKind.bits] at h
  omega
theorem add_off (b off k : Nat) : (⟨b, off, none⟩ : Addr).add k = ⟨b, off + k, none⟩ := by
  unfold Addr.add
  split <;> simp_all
theorem rgs_of_trod {H : Type} {enc : TypeId × Value → H} {w : World} {base : Nat} {held : Bool} {a : Option Addr} {len cap : Nat} {d : DataW H} {p : List MemPlace}
    (h : DataW.Trod enc Tryd.prog w base (fun _ => true) held 40 (.slice a len cap) d p) :
    ∃ l, len = l.length ∧ len ≤ maxLen ∧ Rgs w w.heap.size a l ∧ InR l := by
  obtain ⟨fuel, hf⟩ := h
  rcases open_slice_pairs Tryd.underlying40 Tryd.underlying66 (by kernel_rfl) rfl rfl (by kernel_rfl) (by kernel_rfl) hf with ⟨hcs, _⟩ | ⟨x, l, c, m, n, V0, V1, D0, D1, P0, P1, hcs, _, hl, hm, hmm, _, hcell⟩
  · simp [Value.cells] at hcs
    obtain ⟨rfl, rfl, rfl⟩ := hcs
    exact ⟨[], rfl, by decide, Rgs.nil, fun x hx => by cases hx⟩
  · simp [Value.cells] at hcs
    obtain ⟨rfl, rfl, rfl⟩ := hcs
    have hmc : m = cap := by simpa using hmm
    subst hmc
    have hall : ∀ i, i < len → ∃ y : Rg, w.cell? (x.add (i * 2)) = some (.int .i64 y.1) ∧ w.cell? (x.add (i * 2 + 1)) = some (.int .i64 y.2) ∧ (-9223372036854775808 ≤ y.1 ∧ y.1 ≤ 9223372036854775807) ∧ -9223372036854775808 ≤ y.2 ∧ y.2 ≤ 9223372036854775807 := by
      intro i hi
      obtain ⟨h0, h1, h2, h3⟩ := hcell i (by omega)
      obtain ⟨n0, e0, _, w0⟩ := DataW.trod_int Tryd.underlying3 h2
      obtain ⟨n1, e1, _, w1⟩ := DataW.trod_int Tryd.underlying3 h3
      injection e0 with e0 _
      injection e1 with e1 _
      exact ⟨(n0, n1), by rw [h0, e0], by rw [h1, e1], wf_int w0, wf_int w1⟩
    have hsome : ∀ k, k ≤ len → ∃ l : List Rg, l.length = k ∧ ∀ i (hi : i < l.length), w.cell? (x.add (i * 2)) = some (.int .i64 l[i].1) ∧ w.cell? (x.add (i * 2 + 1)) = some (.int .i64 l[i].2) ∧ (-9223372036854775808 ≤ l[i].1 ∧ l[i].1 ≤ 9223372036854775807) ∧ -9223372036854775808 ≤ l[i].2 ∧ l[i].2 ≤ 9223372036854775807 := by
      intro k
      induction k with
      | zero => intro _; exact ⟨[], rfl, fun i hi => by cases hi⟩
      | succ k ih =>
        intro hk
        obtain ⟨l, rfl, hl⟩ := ih (by omega)
        obtain ⟨y, hy⟩ := hall l.length (by omega)
        refine ⟨l ++ [y], by simp, fun i hi => ?_⟩
        by_cases hil : i < l.length
        · rw [List.getElem_append_left hil]
          exact hl i hil
        · have e : i = l.length := by simp at hi; omega
          subst e
          simpa using hy
    obtain ⟨l, hlen, hl2⟩ := hsome len (Nat.le_refl _)
    refine ⟨l, hlen.symm, Nat.le_trans hl hm, fun j hj => ?_, fun y hy => ?_⟩
    · obtain ⟨h0, h1, _⟩ := hl2 j hj
      obtain ⟨b, off, spot⟩ := x
      have hs : spot = none := by simpa [Addr.add] using World.cell?_spot (hl2 0 (by omega)).1
      subst hs
      rw [add_off] at h0 h1
      refine ⟨b, off, rfl, ?_, h0, h1⟩
      exact Nat.lt_of_not_le fun hle => by
        have : w.cell? ⟨b, off + j * 2, none⟩ = none := by simp [World.cell?, Array.getElem?_eq_none hle]
        rw [this] at h0
        cases h0
    · obtain ⟨i, hi, rfl⟩ := List.getElem_of_mem hy
      exact (hl2 i hi).2.2
set_option maxRecDepth 100000 in
theorem rg_of_trod {H : Type} {enc : TypeId × Value → H} {w : World} {base b0 : Nat} {held : Bool} {r : Reach} {v : Value} {d : DataW H} {p : List MemPlace}
    (hv : Value.okWide Tryd.prog w r b0 66 v) (h : DataW.Trod enc Tryd.prog w base (fun _ => true) held 66 v d p) :
    ∃ y : Rg, v = rgV y ∧ (-9223372036854775808 ≤ y.1 ∧ y.1 ≤ 9223372036854775807) ∧ -9223372036854775808 ≤ y.2 ∧ y.2 ≤ 9223372036854775807 := by
  obtain ⟨v0, v1, y0, y1, n, rfl, _, _, h0, h1⟩ := open_agg2 Tryd.underlying66 (by kernel_rfl) (by kernel_rfl) hv h
  obtain ⟨n0, e0, _, w0⟩ := DataW.trod_int Tryd.underlying3 h0
  obtain ⟨n1, e1, _, w1⟩ := DataW.trod_int Tryd.underlying3 h1
  injection e0 with e0 _
  injection e1 with e1 _
  subst e0
  subst e1
  exact ⟨(n0, n1), rfl, wf_int w0, wf_int w1⟩
end Go.Proofs.YtjgabiklmloogaaDoor
