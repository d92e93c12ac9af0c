/-
  Plain facts about the text of a list of ranges. No program is imported.
-/
import Derived.Test.YtjgabiklmloogaaDoorRangeN
import Derived.Test.YtjgabiklmloogaaDoorDec
import Derived.Lib.Join
import Derived.Laws.Concat
namespace Go.Proofs.YtjgabiklmloogaaDoor.Num
open Go

/-- A range in decimal. -/
def wordR (x : Rg) : List UInt8 := Lib.itoa x.1 ++ 45 :: Lib.itoa x.2
/-- The ranges in decimal, a blank between two. -/
def wordsR (l : List Rg) : List UInt8 := Lib.join (l.map wordR) [32]
/-- The text of a list of ranges. -/
def textR (l : List Rg) : List UInt8 := if l = [] then [110, 111, 110, 101] else wordsR l
theorem itoa_len (n : Int) (h0 : -9223372036854775808 ≤ n) (h1 : n ≤ 9223372036854775807) : (Lib.itoa n).length ≤ 20 := by
  by_cases hneg : n < 0
  · obtain ⟨u, rfl⟩ : ∃ u : Nat, n = -(u : Int) := ⟨n.natAbs, by omega⟩
    rw [Lib.itoa_neg u (by omega)]
    have := dec_len u 19 (by omega) (by omega)
    simpa using this
  · obtain ⟨u, rfl⟩ : ∃ u : Nat, n = u := ⟨n.toNat, by omega⟩
    rw [Lib.itoa_nonneg]
    have := dec_len u 19 (by omega) (by omega)
    omega
theorem wordsR_one (x : Rg) : wordsR [x] = wordR x := Lib.join_one _ _
theorem wordsR_snoc (l : List Rg) (x : Rg) (h : l ≠ []) : wordsR (l ++ [x]) = wordsR l ++ 32 :: wordR x := by
  obtain ⟨y, r, rfl⟩ := List.exists_cons_of_ne_nil h
  unfold wordsR
  rw [List.cons_append, List.map_cons, List.map_cons, List.map_append, Lib.join_cons, Lib.join_cons]
  simp [Lib.joinTail, List.append_assoc]
theorem wordR_ne (x : Rg) : wordR x ≠ [] := by unfold wordR; simp
theorem wordsR_ne (l : List Rg) (h : l ≠ []) : wordsR l ≠ [] := by
  obtain ⟨y, r, rfl⟩ := List.exists_cons_of_ne_nil h
  unfold wordsR
  rw [List.map_cons, Lib.join_cons]
  have := wordR_ne y
  simp [this]
theorem wordR_len (x : Rg) (h : (-9223372036854775808 ≤ x.1 ∧ x.1 ≤ 9223372036854775807) ∧ -9223372036854775808 ≤ x.2 ∧ x.2 ≤ 9223372036854775807) : (wordR x).length ≤ 41 := by
  have h1 := itoa_len x.1 h.1.1 h.1.2
  have h2 := itoa_len x.2 h.2.1 h.2.2
  unfold wordR
  simp
  omega
theorem wordsR_len (l : List Rg) (h : ∀ x ∈ l, (-9223372036854775808 ≤ x.1 ∧ x.1 ≤ 9223372036854775807) ∧ -9223372036854775808 ≤ x.2 ∧ x.2 ≤ 9223372036854775807) : (wordsR l).length ≤ 42 * l.length := by
  cases l with
  | nil => decide
  | cons x r =>
    have ht : ∀ r : List Rg, (∀ x ∈ r, (-9223372036854775808 ≤ x.1 ∧ x.1 ≤ 9223372036854775807) ∧ -9223372036854775808 ≤ x.2 ∧ x.2 ≤ 9223372036854775807) → (Lib.joinTail [32] (r.map wordR)).length ≤ 42 * r.length := by
      intro r
      induction r with
      | nil => intro _; simp [Lib.joinTail]
      | cons y r ih =>
        intro hr
        have h1 := ih fun z hz => hr z (List.mem_cons_of_mem _ hz)
        have h2 := wordR_len y (hr y List.mem_cons_self)
        simp only [Lib.joinTail, List.map_cons, List.flatten_cons, List.length_append, List.length_cons, List.length_nil] at h1 ⊢
        omega
    have h1 := ht r fun z hz => h z (List.mem_cons_of_mem _ hz)
    have h2 := wordR_len x (h x List.mem_cons_self)
    unfold wordsR
    rw [List.map_cons, Lib.join_cons, List.length_append, List.length_cons]
    omega
theorem add_str {P : Program} (w : World) (x y : List UInt8) (h : x.length + y.length ≤ 1000000000) : (Op.stringOp .add ⟨x.toArray⟩ ⟨y.toArray⟩).run P w = .ok (.string ⟨(x ++ y).toArray⟩) w := by
  rw [run_string_add_sum w _ _ (by simp [ByteArray.size]; omega), ByteArray.mk_append_mk]
end Go.Proofs.YtjgabiklmloogaaDoor.Num
