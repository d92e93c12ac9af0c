/-
  Plain facts about lists of bytes and natural numbers: fixed-width digits, base-128 groups and hexadecimal digits. No program is imported.
-/
import Derived.Below
namespace Go.Proofs.Ytfnbogdpabicnaa.Num

/-- n, divided by 256 j times. -/
def dn : Nat → Nat → Nat
  | 0, n => n
  | j + 1, n => dn j n / 256
theorem dn_in (j : Nat) : ∀ n, dn j (n / 256) = dn (j + 1) n := by
  induction j with
  | zero => intro n; rfl
  | succ j ih => intro n; show dn j (n / 256) / 256 = dn (j + 1) n / 256; rw [ih]
theorem dn_le (j n : Nat) : dn j n ≤ n := by
  induction j with
  | zero => exact Nat.le_refl _
  | succ j ih => show dn j n / 256 ≤ n; omega

/-- The k low bytes of n, the most significant first. -/
def fixB : Nat → Nat → List UInt8
  | 0, _ => []
  | k + 1, n => fixB k (n / 256) ++ [UInt8.ofNat (n % 256)]
theorem fixB_len (k : Nat) : ∀ n, (fixB k n).length = k := by
  induction k with
  | zero => intro n; rfl
  | succ k ih => intro n; simp [fixB, ih]
theorem fixB_cons (k : Nat) : ∀ n, fixB (k + 1) n = UInt8.ofNat (dn k n % 256) :: fixB k n := by
  induction k with
  | zero => intro n; rfl
  | succ k ih =>
    intro n
    have h := ih (n / 256)
    show fixB (k + 1) (n / 256) ++ [UInt8.ofNat (n % 256)] = _
    rw [h, dn_in]; rfl

/-- The number that bytes encode, the most significant first, behind m. -/
def val256 : List UInt8 → Nat → Nat
  | [], m => m
  | b :: l, m => val256 l (m * 256 + b.toNat)
theorem val256_snoc (l : List UInt8) (b : UInt8) : ∀ m, val256 (l ++ [b]) m = val256 l m * 256 + b.toNat := by
  induction l with
  | nil => intro m; rfl
  | cons c l ih => intro m; exact ih _
theorem val256_fix (k : Nat) : ∀ n, dn k n = 0 → val256 (fixB k n) 0 = n := by
  induction k with
  | zero => intro n h; exact h.symm
  | succ k ih =>
    intro n h
    show val256 (fixB k (n / 256) ++ [UInt8.ofNat (n % 256)]) 0 = n
    rw [val256_snoc, ih (n / 256) (by rw [dn_in]; exact h)]
    have : (UInt8.ofNat (n % 256)).toNat = n % 256 := by simp
    omega
theorem val256_lt (l : List UInt8) : ∀ m k, m < k → val256 l m < k * 256 ^ l.length := by
  induction l with
  | nil => intro m k h; simpa [val256] using h
  | cons b l ih =>
    intro m k h
    have hb := b.toNat_lt
    have := ih (m * 256 + b.toNat) (k * 256) (by omega)
    show val256 l (m * 256 + b.toNat) < _
    rw [List.length_cons, Nat.pow_succ]
    exact Nat.lt_of_lt_of_eq this (by rw [Nat.mul_assoc, Nat.mul_comm 256])

/-- Groups of seven bits, the least significant first; at most f + 1 of them. -/
def encV : Nat → Nat → List UInt8
  | 0, n => [UInt8.ofNat n]
  | f + 1, n => if n < 128 then [UInt8.ofNat n] else UInt8.ofNat (128 + n % 128) :: encV f (n / 128)
theorem encV_small (f n : Nat) (h : n < 128) : encV f n = [UInt8.ofNat n] := by
  cases f with
  | zero => rfl
  | succ f => simp [encV, h]
theorem encV_step (f n : Nat) (h : 128 ≤ n) : encV (f + 1) n = UInt8.ofNat (128 + n % 128) :: encV f (n / 128) := by
  simp [encV, Nat.not_lt.2 h]
/-- The number that groups of seven bits make up. -/
def vval : List UInt8 → Nat
  | [] => 0
  | b :: l => b.toNat % 128 + 128 * vval l
theorem vval_lt (l : List UInt8) : vval l < 128 ^ l.length := by
  induction l with
  | nil => decide
  | cons b l ih =>
    show b.toNat % 128 + 128 * vval l < 128 ^ (l.length + 1)
    rw [Nat.pow_succ]; omega
theorem vval_snoc (l : List UInt8) (b : UInt8) : vval (l ++ [b]) = vval l + 128 ^ l.length * (b.toNat % 128) := by
  induction l with
  | nil => simp [vval]
  | cons c l ih =>
    show c.toNat % 128 + 128 * vval (l ++ [b]) = c.toNat % 128 + 128 * vval l + 128 ^ (l.length + 1) * (b.toNat % 128)
    rw [ih, Nat.pow_succ, Nat.mul_add, ← Nat.mul_assoc, Nat.mul_comm 128 (128 ^ l.length), Nat.add_assoc]
/-- Such groups are the shortest ones of their number. -/
def okV : List UInt8 → Prop
  | [] => False
  | [b] => b.toNat < 128
  | b :: c :: l => 128 ≤ b.toNat ∧ 0 < vval (c :: l) ∧ okV (c :: l)
theorem ofNat_toNat_eq (b : UInt8) (n : Nat) (h : b.toNat = n) : UInt8.ofNat n = b := by subst h; simp
theorem enc_ok (l : List UInt8) : ∀ f, l.length ≤ f + 1 → okV l → encV f (vval l) = l := by
  induction l with
  | nil => intro f _ h; exact absurd h id
  | cons b l ih =>
    intro f hf h
    cases l with
    | nil =>
      have hb : b.toNat < 128 := h
      have e : vval [b] = b.toNat := by simp [vval]; omega
      rw [e, encV_small _ _ hb]; simp
    | cons c l =>
      obtain ⟨h1, h2, h3⟩ := h
      obtain ⟨g, rfl⟩ : ∃ g, f = g + 1 := ⟨f - 1, by simp at hf; omega⟩
      have hl := b.toNat_lt
      have e : vval (b :: c :: l) = b.toNat % 128 + 128 * vval (c :: l) := rfl
      rw [e, encV_step _ _ (by omega)]
      have e1 : (b.toNat % 128 + 128 * vval (c :: l)) / 128 = vval (c :: l) := by omega
      have e2 : 128 + (b.toNat % 128 + 128 * vval (c :: l)) % 128 = b.toNat := by omega
      rw [e1, e2, ih g (by simpa using hf) h3]; simp
theorem ok_enc (l : List UInt8) : ∀ f, l.length ≤ f + 1 → encV f (vval l) = l → okV l := by
  induction l with
  | nil => intro f _ h; cases f <;> simp [encV, vval] at h
  | cons b l ih =>
    intro f hf h
    have hl := b.toNat_lt
    cases l with
    | nil =>
      have e : vval [b] = b.toNat % 128 := by simp [vval]
      rw [e, encV_small _ _ (by omega)] at h
      have h0 : UInt8.ofNat (b.toNat % 128) = b := by simpa using h
      have h1 : (UInt8.ofNat (b.toNat % 128)).toNat = b.toNat := by rw [h0]
      simp at h1
      show b.toNat < 128
      omega
    | cons c l =>
      obtain ⟨g, rfl⟩ : ∃ g, f = g + 1 := ⟨f - 1, by simp at hf; omega⟩
      have e : vval (b :: c :: l) = b.toNat % 128 + 128 * vval (c :: l) := rfl
      rw [e] at h
      by_cases hz : vval (c :: l) = 0
      · rw [hz, encV_small _ _ (by omega)] at h
        simp at h
      · rw [encV_step _ _ (by omega)] at h
        have e1 : (b.toNat % 128 + 128 * vval (c :: l)) / 128 = vval (c :: l) := by omega
        have e2 : 128 + (b.toNat % 128 + 128 * vval (c :: l)) % 128 = 128 + b.toNat % 128 := by omega
        rw [e1, e2] at h
        obtain ⟨ha, hb⟩ := List.cons.inj h
        have h1 : (UInt8.ofNat (128 + b.toNat % 128)).toNat = b.toNat := by rw [ha]
        rw [UInt8.toNat_ofNat'] at h1
        exact ⟨by omega, by omega, ih g (by simpa using hf) hb⟩
theorem enc_iff (l : List UInt8) (f : Nat) (hf : l.length ≤ f + 1) : encV f (vval l) = l ↔ okV l := ⟨ok_enc l f hf, enc_ok l f hf⟩
theorem ok_pre (l : List UInt8) (b : UInt8) (r : List UInt8) (hr : r ≠ []) (hb : b.toNat < 128) : ¬ okV (l ++ b :: r) := by
  induction l with
  | nil =>
    cases r with
    | nil => exact absurd rfl hr
    | cons c r => intro h; have h1 : 128 ≤ b.toNat := h.1; omega
  | cons a l ih =>
    intro h
    cases hl : l ++ b :: r with
    | nil => simp at hl
    | cons c m =>
      rw [List.cons_append, hl] at h
      exact ih (by rw [hl]; exact h.2.2)
theorem vval_pos (l : List UInt8) (b : UInt8) (h0 : 0 < b.toNat) (hb : b.toNat < 128) : 0 < vval (l ++ [b]) := by
  induction l with
  | nil => show 0 < b.toNat % 128 + 128 * 0; omega
  | cons a l ih => show 0 < a.toNat % 128 + 128 * vval (l ++ [b]); omega
theorem ok_mk (l : List UInt8) (b : UInt8) (hl : ∀ a ∈ l, 128 ≤ a.toNat) (hb : b.toNat < 128) (h0 : l ≠ [] → 0 < b.toNat) : okV (l ++ [b]) := by
  induction l with
  | nil => exact hb
  | cons a l ih =>
    have hp : 0 < b.toNat := h0 (by simp)
    have h1 := ih (fun x hx => hl x (by simp [hx])) (fun _ => hp)
    have h2 := vval_pos l b hp hb
    have h3 : 128 ≤ a.toNat := hl a (by simp)
    rw [List.cons_append]
    cases hc : l ++ [b] with
    | nil => simp at hc
    | cons c m => rw [hc] at h1 h2; exact ⟨h3, h2, h1⟩
theorem ok_zero (l : List UInt8) (b : UInt8) (hl : l ≠ []) (hb : b.toNat = 0) : ¬ okV (l ++ [b]) := by
  induction l with
  | nil => exact absurd rfl hl
  | cons a l ih =>
    intro h
    cases hc : l ++ [b] with
    | nil => simp at hc
    | cons c m =>
      rw [List.cons_append, hc] at h
      cases l with
      | nil =>
        have hcm : c = b ∧ m = [] := by simpa [eq_comm] using hc
        obtain ⟨rfl, rfl⟩ := hcm
        have h2 : 0 < vval [c] := h.2.1
        simp [vval, hb] at h2
      | cons d l => exact ih (by simp) (by rw [hc]; exact h.2.2)

/-- A hexadecimal digit. -/
def hexD (k : Nat) : UInt8 := if k < 10 then UInt8.ofNat (48 + k) else UInt8.ofNat (87 + k)
def hexL : List UInt8 → List UInt8
  | [] => []
  | b :: l => hexD (b.toNat / 16) :: hexD (b.toNat % 16) :: hexL l
theorem hexL_len (l : List UInt8) : (hexL l).length = 2 * l.length := by
  induction l with
  | nil => rfl
  | cons b l ih => simp [hexL, ih]; omega
theorem hexL_snoc (l : List UInt8) (b : UInt8) : hexL (l ++ [b]) = hexL l ++ [hexD (b.toNat / 16), hexD (b.toNat % 16)] := by
  induction l with
  | nil => rfl
  | cons c l ih => simp [hexL, ih]
/-- The value of a hexadecimal digit. -/
def unD (b : UInt8) : Option Nat :=
  if 48 ≤ b.toNat ∧ b.toNat ≤ 57 then some (b.toNat - 48) else if 97 ≤ b.toNat ∧ b.toNat ≤ 102 then some (b.toNat - 87) else none
theorem unD_lt (b : UInt8) (k : Nat) (h : unD b = some k) : k < 16 := by
  unfold unD at h
  split at h
  · have := Option.some.inj h; omega
  · split at h
    · have := Option.some.inj h; omega
    · cases h
theorem unD_hexD (k : Nat) (h : k < 16) : unD (hexD k) = some k := by
  unfold unD hexD
  by_cases h10 : k < 10
  · have e : (UInt8.ofNat (48 + k)).toNat = 48 + k := by rw [UInt8.toNat_ofNat']; omega
    rw [if_pos h10, e, if_pos (by omega)]; congr 1; omega
  · have e : (UInt8.ofNat (87 + k)).toNat = 87 + k := by rw [UInt8.toNat_ofNat']; omega
    rw [if_neg h10, e, if_neg (by omega), if_pos (by omega)]; congr 1; omega
/-- The bytes that hexadecimal digits encode, if all are digits; a last digit alone is left out. -/
def unL : List UInt8 → Option (List UInt8)
  | a :: b :: l => match unD a, unD b, unL l with
    | some x, some y, some r => some (UInt8.ofNat (16 * x + y) :: r)
    | _, _, _ => none
  | _ => some []
theorem unL_hexL (l : List UInt8) : unL (hexL l) = some l := by
  induction l with
  | nil => rfl
  | cons b l ih =>
    have hb := b.toNat_lt
    show (match unD (hexD (b.toNat / 16)), unD (hexD (b.toNat % 16)), unL (hexL l) with
      | some x, some y, some r => some (UInt8.ofNat (16 * x + y) :: r)
      | _, _, _ => none) = _
    rw [unD_hexD _ (by omega), unD_hexD _ (by omega), ih]
    have e : 16 * (b.toNat / 16) + b.toNat % 16 = b.toNat := by omega
    simp [e]
end Go.Proofs.Ytfnbogdpabicnaa.Num
