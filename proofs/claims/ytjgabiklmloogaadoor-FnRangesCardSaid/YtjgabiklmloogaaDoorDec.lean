/-
  Plain facts about decimal numerals: the digits of a number, read back and written again. No program is imported.
-/
import Derived.Lib.ItoaNum
import Derived.Lib.ItoaMem
import Derived.Lib.AtoiTie
import Derived.Lib.AtoiAllCases
import Derived.Below
namespace Go.Proofs.YtjgabiklmloogaaDoor.Num
open Go.Lib

/-- The bytes are decimal digits, and acc with these digits behind it is their number. -/
def digs10 : List UInt8 → Nat → Nat
  | [], acc => acc
  | c :: l, acc => digs10 l (acc * 10 + (c.toNat - 48))
theorem digs10_snoc (l : List UInt8) (c : UInt8) : ∀ acc, digs10 (l ++ [c]) acc = digs10 l acc * 10 + (c.toNat - 48) := by
  induction l with
  | nil => intro acc; rfl
  | cons d l ih => intro acc; exact ih _
def AllDig (l : List UInt8) : Prop := ∀ c ∈ l, 48 ≤ c.toNat ∧ c.toNat ≤ 57
theorem dig_nat (u : Nat) (h : u < 10) : (UInt8.ofNat (48 + u)).toNat = 48 + u := by rw [UInt8.toNat_ofNat']; omega
theorem dec_all (u : Nat) : AllDig (decDigits u) := by
  induction u using Nat.strongRecOn with
  | ind u ih =>
    intro c hc
    rw [decDigits] at hc
    split at hc
    · rw [List.mem_singleton] at hc
      subst hc
      rw [dig_nat u (by omega)]; omega
    · rw [List.mem_append, List.mem_singleton] at hc
      rcases hc with hc | rfl
      · exact ih (u / 10) (by omega) c hc
      · rw [dig_nat _ (by omega)]; omega
theorem dec_val (u : Nat) : digs10 (decDigits u) 0 = u := by
  induction u using Nat.strongRecOn with
  | ind u ih =>
    rw [decDigits]
    split
    · show 0 * 10 + ((UInt8.ofNat (48 + u)).toNat - 48) = u
      rw [dig_nat u (by omega)]; omega
    · rw [digs10_snoc, ih (u / 10) (by omega), dig_nat _ (by omega)]; omega
theorem dec_ne (u : Nat) : decDigits u ≠ [] := by
  rw [decDigits]
  split <;> simp
theorem dec_len (u : Nat) : ∀ k, 1 ≤ k → u < 10 ^ k → (decDigits u).length ≤ k := by
  induction u using Nat.strongRecOn with
  | ind u ih =>
    intro k hk hu
    rw [decDigits]
    split
    · simpa using hk
    · obtain ⟨j, rfl⟩ : ∃ j, k = j + 1 := ⟨k - 1, by omega⟩
      have hj : 1 ≤ j := by
        rcases Nat.eq_zero_or_pos j with rfl | h
        · simp at hu; omega
        · exact h
      rw [Nat.pow_succ] at hu
      have := ih (u / 10) (by omega) j hj (by omega)
      simpa using this
theorem digs10_lt (l : List UInt8) (h : AllDig l) : ∀ acc m, acc < m → digs10 l acc < m * 10 ^ l.length := by
  induction l with
  | nil => intro acc m hm; simpa [digs10] using hm
  | cons c l ih =>
    intro acc m hm
    have hc := h c (by simp)
    have := ih (fun d hd => h d (by simp [hd])) (acc * 10 + (c.toNat - 48)) (m * 10) (by omega)
    show digs10 l _ < _
    rw [List.length_cons, Nat.pow_succ]
    exact Nat.lt_of_lt_of_eq this (by rw [Nat.mul_assoc, Nat.mul_comm 10])
theorem decFrom_digs (l : List UInt8) (h : AllDig l) : ∀ acc, decFrom acc l = some (digs10 l acc) := by
  induction l with
  | nil => intro acc; rfl
  | cons c l ih =>
    intro acc
    have hc := h c (by simp)
    have := ih (fun d hd => h d (by simp [hd])) (acc * 10 + (c.toNat - 48))
    simp only [decFrom, digitVal, if_pos hc]
    exact this
theorem decNat_dec (u : Nat) : decNat (decDigits u) = some u := by
  unfold decNat
  rw [if_neg (by simpa using dec_ne u), decFrom_digs _ (dec_all u), dec_val]

/-- Atoi reads back what Itoa writes, for numbers of at most nine digits. -/
theorem atoi_itoa (n : Int) (h0 : -999999999 ≤ n) (h1 : n ≤ 999999999) : atoiAll (itoa n) = .ok n := by
  by_cases hneg : n < 0
  · obtain ⟨u, rfl⟩ : ∃ u : Nat, n = -(u : Int) := ⟨n.natAbs, by omega⟩
    have hl := dec_len u 9 (by omega) (by omega)
    rw [itoa_neg u (by omega), atoiAll_minus, signed_short (by omega), decNat_dec]; rfl
  · obtain ⟨u, rfl⟩ : ∃ u : Nat, n = u := ⟨n.toNat, by omega⟩
    have hl := dec_len u 9 (by omega) (by omega)
    rw [itoa_nonneg]
    cases hd : decDigits u with
    | nil => exact absurd hd (dec_ne u)
    | cons c r =>
      have hc := dec_all u c (by rw [hd]; simp)
      rw [atoiAll_plain c r (by omega) (by omega), ← hd, signless_short (by omega), decNat_dec]; rfl
theorem itoa_inj {n m : Int} (h0 : -999999999 ≤ n) (h1 : n ≤ 999999999) (k0 : -999999999 ≤ m) (k1 : m ≤ 999999999) (h : itoa n = itoa m) : n = m := by
  have a := atoi_itoa n h0 h1
  rw [h, atoi_itoa m k0 k1] at a
  injection a with a
  exact a.symm

/-- n is the number of at most nine digits that l spells. -/
def IsNum (l : List UInt8) (n : Int) : Prop := -999999999 ≤ n ∧ n ≤ 999999999 ∧ itoa n = l
theorem IsNum.uniq {l : List UInt8} {n m : Int} (h : IsNum l n) (k : IsNum l m) : n = m := itoa_inj h.1 h.2.1 k.1 k.2.1 (h.2.2.trans k.2.2.symm)
theorem IsNum.atoi {l : List UInt8} {n : Int} (h : IsNum l n) : atoiAll l = .ok n := by rw [← h.2.2]; exact atoi_itoa n h.1 h.2.1

/-- The digits of a number that are still to be written: none of 0. -/
def decR (u : Nat) : List UInt8 := if u = 0 then [] else decDigits u
theorem decR_zero : decR 0 = [] := rfl
theorem decR_pos (u : Nat) (h : u ≠ 0) : decR u = decDigits u := if_neg h
theorem decR_step (u : Nat) (h : u ≠ 0) : decR u = decR (u / 10) ++ [UInt8.ofNat (48 + u % 10)] := by
  rw [decR_pos u h, decDigits]
  split
  · rename_i h10
    have e1 : u / 10 = 0 := by omega
    have e2 : u % 10 = u := by omega
    rw [e1, e2, decR_zero]; rfl
  · rw [decR_pos (u / 10) (by omega)]

/-- A byte is a decimal digit. -/
def isD (c : UInt8) : Bool := decide (48 ≤ c.toNat ∧ c.toNat ≤ 57)
/-- The digits among the bytes. -/
def filt (l : List UInt8) : List UInt8 := l.filter isD
theorem filt_all (l : List UInt8) : AllDig (filt l) := by
  intro c hc
  have := (List.mem_filter.1 hc).2
  simpa [isD] using this
theorem filt_id (l : List UInt8) (h : AllDig l) : filt l = l := by
  unfold filt
  rw [List.filter_eq_self]
  intro c hc
  simpa [isD] using h c hc
theorem filt_snoc_yes (l : List UInt8) (c : UInt8) (h : isD c = true) : filt (l ++ [c]) = filt l ++ [c] := by
  unfold filt; rw [List.filter_append]; simp [h]
theorem filt_snoc_no (l : List UInt8) (c : UInt8) (h : isD c = false) : filt (l ++ [c]) = filt l := by
  unfold filt; rw [List.filter_append]; simp [h]
theorem filt_len (l : List UInt8) : (filt l).length ≤ l.length := List.length_filter_le _ _
/-- The number of the digits among the first bytes. -/
def scanN (l : List UInt8) (k : Nat) : Nat := digs10 (filt (l.take k)) 0
def scanK (l : List UInt8) (k : Nat) : Nat := (filt (l.take k)).length
theorem scanK_le (l : List UInt8) (k : Nat) : scanK l k ≤ k := Nat.le_trans (filt_len _) (List.length_take_le _ _)
theorem scanN_lt (l : List UInt8) (k : Nat) : scanN l k < 10 ^ scanK l k := by
  have := digs10_lt (filt (l.take k)) (filt_all _) 0 1 (by omega)
  unfold scanN scanK
  omega
theorem scanN_small (l : List UInt8) (k : Nat) (h : k ≤ 11) : scanN l k < 100000000000 := by
  have h1 := scanN_lt l k
  have h2 : 10 ^ scanK l k ≤ 10 ^ 11 := Nat.pow_le_pow_right (by omega) (Nat.le_trans (scanK_le l k) h)
  omega
theorem scan_yes (l : List UInt8) (k : Nat) (hk : k < l.length) (h : isD l[k] = true) : scanN l (k + 1) = scanN l k * 10 + (l[k].toNat - 48) ∧ scanK l (k + 1) = scanK l k + 1 := by
  unfold scanN scanK
  rw [List.take_succ_eq_append_getElem hk, filt_snoc_yes _ _ h, digs10_snoc]
  simp
theorem scan_no (l : List UInt8) (k : Nat) (hk : k < l.length) (h : isD l[k] = false) : scanN l (k + 1) = scanN l k ∧ scanK l (k + 1) = scanK l k := by
  unfold scanN scanK
  rw [List.take_succ_eq_append_getElem hk, filt_snoc_no _ _ h]
  exact ⟨rfl, rfl⟩
theorem scan_end (l : List UInt8) (k : Nat) (h : k = 11 ∨ k = l.length ∧ k ≤ 11) : l.take k = l.take 11 := by
  rcases h with rfl | ⟨rfl, h⟩
  · rfl
  · rw [List.take_of_length_le (Nat.le_refl _), List.take_of_length_le h]
/-- The number with its sign. -/
def scanV (l : List UInt8) : Int := if l.head? = some 45 then -(scanN l 11 : Int) else (scanN l 11 : Int)
theorem scan_num {l : List UInt8} {n : Int} (h : IsNum l n) : l.length ≤ 10 ∧ scanK l 11 ≤ 9 ∧ scanV l = n := by
  obtain ⟨h0, h1, rfl⟩ := h
  by_cases hneg : n < 0
  · obtain ⟨u, rfl⟩ : ∃ u : Nat, n = -(u : Int) := ⟨n.natAbs, by omega⟩
    have hl := dec_len u 9 (by omega) (by omega)
    rw [itoa_neg u (by omega)]
    have ht : (45 :: decDigits u).take 11 = 45 :: decDigits u := List.take_of_length_le (by simp; omega)
    have hf : filt (45 :: decDigits u) = decDigits u := by
      have h45 : isD 45 = false := by decide
      have := filt_id _ (dec_all u)
      unfold filt at this ⊢
      rw [List.filter_cons, h45]
      simpa using this
    unfold scanV scanK scanN
    rw [ht, hf, dec_val]
    exact ⟨by simp; omega, hl, rfl⟩
  · obtain ⟨u, rfl⟩ : ∃ u : Nat, n = u := ⟨n.toNat, by omega⟩
    have hl := dec_len u 9 (by omega) (by omega)
    rw [itoa_nonneg]
    have ht : (decDigits u).take 11 = decDigits u := List.take_of_length_le (by omega)
    have hh : (decDigits u).head? ≠ some 45 := by
      intro he
      have := dec_all u 45 (List.mem_of_mem_head? (by rw [he]; rfl))
      simp at this
    unfold scanV scanK scanN
    rw [ht, filt_id _ (dec_all u), dec_val, if_neg hh]
    exact ⟨by omega, hl, rfl⟩
theorem scan_is {l : List UInt8} (hk : scanK l 11 ≤ 9) (he : itoa (scanV l) = l) : IsNum l (scanV l) := by
  have h1 := scanN_lt l 11
  have h2 : 10 ^ scanK l 11 ≤ 10 ^ 9 := Nat.pow_le_pow_right (by omega) hk
  refine ⟨?_, ?_, he⟩ <;> (unfold scanV; split <;> omega)
theorem dec_inj {u v : Nat} (h : decDigits u = decDigits v) : u = v := by
  have a := dec_val u
  rw [h, dec_val] at a
  exact a.symm
theorem dec_head (u : Nat) (r : List UInt8) : decDigits u ≠ 45 :: r := by
  intro h
  have := dec_all u 45 (by rw [h]; simp)
  simp at this
/-- Different numbers have different numerals. -/
theorem itoa_all {n m : Int} (h : itoa n = itoa m) : n = m := by
  by_cases hn : n < 0
  · obtain ⟨u, rfl⟩ : ∃ u : Nat, n = -(u : Int) := ⟨n.natAbs, by omega⟩
    by_cases hm : m < 0
    · obtain ⟨v, rfl⟩ : ∃ v : Nat, m = -(v : Int) := ⟨m.natAbs, by omega⟩
      rw [itoa_neg u (by omega), itoa_neg v (by omega)] at h
      have := dec_inj (List.cons.inj h).2
      omega
    · obtain ⟨v, rfl⟩ : ∃ v : Nat, m = v := ⟨m.toNat, by omega⟩
      rw [itoa_neg u (by omega), itoa_nonneg] at h
      exact absurd h.symm (dec_head v _)
  · obtain ⟨u, rfl⟩ : ∃ u : Nat, n = u := ⟨n.toNat, by omega⟩
    by_cases hm : m < 0
    · obtain ⟨v, rfl⟩ : ∃ v : Nat, m = -(v : Int) := ⟨m.natAbs, by omega⟩
      rw [itoa_nonneg, itoa_neg v (by omega)] at h
      exact absurd h (dec_head u _)
    · obtain ⟨v, rfl⟩ : ∃ v : Nat, m = v := ⟨m.toNat, by omega⟩
      rw [itoa_nonneg, itoa_nonneg] at h
      have := dec_inj h
      omega
end Go.Proofs.YtjgabiklmloogaaDoor.Num
