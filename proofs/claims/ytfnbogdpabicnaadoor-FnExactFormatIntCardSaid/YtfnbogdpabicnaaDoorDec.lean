/-
  Plain facts about decimal numerals: the digits of a number, read back and written again. No program is imported.
-/
import Derived.Lib.ItoaNum
import Derived.Lib.ItoaMem
import Derived.Lib.AtoiTie
import Derived.Lib.AtoiAllCases
import Derived.Below
namespace Go.Proofs.YtfnbogdpabicnaaDoor.Num
open Go.Lib

/-- The bytes are decimal digits, and acc with these digits behind it is their number. -/
def digs10 : List UInt8 → Nat → Nat
  | [], acc => acc
  | c :: l, acc => digs10 l (acc * 10 + (c.toNat - 48))
theorem digs10_snoc (l : List UInt8) (c : UInt8) : ∀ acc, digs10 (l ++ [c]) acc = digs10 l acc * 10 + (c.toNat - 48) := by
  induction l with
  | nil => intro acc; rfl
  | cons d l ih => intro acc; exact ih _
def AllDig (l : List UInt8) : Prop := ∀ c ∈ l, 48 ≤ c.toNat ∧ c.toNat ≤ 57
theorem dig_nat (u : Nat) (h : u < 10) : (UInt8.ofNat (48 + u)).toNat = 48 + u := by rw [UInt8.toNat_ofNat']; omega
theorem dec_all (u : Nat) : AllDig (decDigits u) := by
  induction u using Nat.strongRecOn with
  | ind u ih =>
    intro c hc
    rw [decDigits] at hc
    split at hc
    · rw [List.mem_singleton] at hc
      subst hc
      rw [dig_nat u (by omega)]; omega
    · rw [List.mem_append, List.mem_singleton] at hc
      rcases hc with hc | rfl
      · exact ih (u / 10) (by omega) c hc
      · rw [dig_nat _ (by omega)]; omega
theorem dec_val (u : Nat) : digs10 (decDigits u) 0 = u := by
  induction u using Nat.strongRecOn with
  | ind u ih =>
    rw [decDigits]
    split
    · show 0 * 10 + ((UInt8.ofNat (48 + u)).toNat - 48) = u
      rw [dig_nat u (by omega)]; omega
    · rw [digs10_snoc, ih (u / 10) (by omega), dig_nat _ (by omega)]; omega
theorem dec_ne (u : Nat) : decDigits u ≠ [] := by
  rw [decDigits]
  split <;> simp
theorem dec_len (u : Nat) : ∀ k, 1 ≤ k → u < 10 ^ k → (decDigits u).length ≤ k := by
  induction u using Nat.strongRecOn with
  | ind u ih =>
    intro k hk hu
    rw [decDigits]
    split
    · simpa using hk
    · obtain ⟨j, rfl⟩ : ∃ j, k = j + 1 := ⟨k - 1, by omega⟩
      have hj : 1 ≤ j := by
        rcases Nat.eq_zero_or_pos j with rfl | h
        · simp at hu; omega
        · exact h
      rw [Nat.pow_succ] at hu
      have := ih (u / 10) (by omega) j hj (by omega)
      simpa using this
theorem digs10_lt (l : List UInt8) (h : AllDig l) : ∀ acc m, acc < m → digs10 l acc < m * 10 ^ l.length := by
  induction l with
  | nil => intro acc m hm; simpa [digs10] using hm
  | cons c l ih =>
    intro acc m hm
    have hc := h c (by simp)
    have := ih (fun d hd => h d (by simp [hd])) (acc * 10 + (c.toNat - 48)) (m * 10) (by omega)
    show digs10 l _ < _
    rw [List.length_cons, Nat.pow_succ]
    exact Nat.lt_of_lt_of_eq this (by rw [Nat.mul_assoc, Nat.mul_comm 10])
theorem decFrom_digs (l : List UInt8) (h : AllDig l) : ∀ acc, decFrom acc l = some (digs10 l acc) := by
  induction l with
  | nil => intro acc; rfl
  | cons c l ih =>
    intro acc
    have hc := h c (by simp)
    have := ih (fun d hd => h d (by simp [hd])) (acc * 10 + (c.toNat - 48))
    simp only [decFrom, digitVal, if_pos hc]
    exact this
theorem decNat_dec (u : Nat) : decNat (decDigits u) = some u := by
  unfold decNat
  rw [if_neg (by simpa using dec_ne u), decFrom_digs _ (dec_all u), dec_val]

/-- Atoi reads back what Itoa writes, for numbers of at most nine digits. -/
theorem atoi_itoa (n : Int) (h0 : -999999999 ≤ n) (h1 : n ≤ 999999999) : atoiAll (itoa n) = .ok n := by
  by_cases hneg : n < 0
  · obtain ⟨u, rfl⟩ : ∃ u : Nat, n = -(u : Int) := ⟨n.natAbs, by omega⟩
    have hl := dec_len u 9 (by omega) (by omega)
    rw [itoa_neg u (by omega), atoiAll_minus, signed_short (by omega), decNat_dec]; rfl
  · obtain ⟨u, rfl⟩ : ∃ u : Nat, n = u := ⟨n.toNat, by omega⟩
    have hl := dec_len u 9 (by omega) (by omega)
    rw [itoa_nonneg]
    cases hd : decDigits u with
    | nil => exact absurd hd (dec_ne u)
    | cons c r =>
      have hc := dec_all u c (by rw [hd]; simp)
      rw [atoiAll_plain c r (by omega) (by omega), ← hd, signless_short (by omega), decNat_dec]; rfl
theorem itoa_inj {n m : Int} (h0 : -999999999 ≤ n) (h1 : n ≤ 999999999) (k0 : -999999999 ≤ m) (k1 : m ≤ 999999999) (h : itoa n = itoa m) : n = m := by
  have a := atoi_itoa n h0 h1
  rw [h, atoi_itoa m k0 k1] at a
  injection a with a
  exact a.symm

/-- n is the number of at most nine digits that l spells. -/
def IsNum (l : List UInt8) (n : Int) : Prop := -999999999 ≤ n ∧ n ≤ 999999999 ∧ itoa n = l
theorem IsNum.uniq {l : List UInt8} {n m : Int} (h : IsNum l n) (k : IsNum l m) : n = m := itoa_inj h.1 h.2.1 k.1 k.2.1 (h.2.2.trans k.2.2.symm)
theorem IsNum.atoi {l : List UInt8} {n : Int} (h : IsNum l n) : atoiAll l = .ok n := by rw [← h.2.2]; exact atoi_itoa n h.1 h.2.1

/-- The digits of a number that are still to be written: none of 0. -/
def decR (u : Nat) : List UInt8 := if u = 0 then [] else decDigits u
theorem decR_zero : decR 0 = [] := rfl
theorem decR_pos (u : Nat) (h : u ≠ 0) : decR u = decDigits u := if_neg h
theorem decR_step (u : Nat) (h : u ≠ 0) : decR u = decR (u / 10) ++ [UInt8.ofNat (48 + u % 10)] := by
  rw [decR_pos u h, decDigits]
  split
  · rename_i h10
    have e1 : u / 10 = 0 := by omega
    have e2 : u % 10 = u := by omega
    rw [e1, e2, decR_zero]; rfl
  · rw [decR_pos (u / 10) (by omega)]
end Go.Proofs.YtfnbogdpabicnaaDoor.Num
