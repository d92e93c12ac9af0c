/-
  Plain facts about lists of bytes and natural numbers: fixed-width digits, base-128 groups and hexadecimal digits. No program is imported.
-/
import Derived.Below
namespace Go.Proofs.Ytdaoaedkjoknmaa.Num

/-- n, divided by 256 j times. -/
def dn : Nat → Nat → Nat
  | 0, n => n
  | j + 1, n => dn j n / 256
theorem dn_in (j : Nat) : ∀ n, dn j (n / 256) = dn (j + 1) n := by
  induction j with
  | zero => intro n; rfl
  | succ j ih => intro n; show dn j (n / 256) / 256 = dn (j + 1) n / 256; rw [ih]
theorem dn_le (j n : Nat) : dn j n ≤ n := by
  induction j with
  | zero => exact Nat.le_refl _
  | succ j ih => show dn j n / 256 ≤ n; omega

theorem dn_eq (j n : Nat) : dn j n = n / 256 ^ j := by
  induction j with
  | zero => simp [dn]
  | succ j ih => show dn j n / 256 = _; rw [ih, Nat.div_div_eq_div_mul, Nat.pow_succ]
theorem dn_pos (j n : Nat) : 0 < dn j n ↔ 256 ^ j ≤ n := by
  rw [dn_eq]
  have hp : 0 < 256 ^ j := Nat.pow_pos (by omega)
  constructor
  · intro h
    exact Nat.le_of_not_lt fun hlt => by rw [Nat.div_eq_of_lt hlt] at h; omega
  · intro h
    exact Nat.div_pos h hp

/-- The k low bytes of n, the most significant first. -/
def fixB : Nat → Nat → List UInt8
  | 0, _ => []
  | k + 1, n => fixB k (n / 256) ++ [UInt8.ofNat (n % 256)]
theorem fixB_len (k : Nat) : ∀ n, (fixB k n).length = k := by
  induction k with
  | zero => intro n; rfl
  | succ k ih => intro n; simp [fixB, ih]
theorem fixB_cons (k : Nat) : ∀ n, fixB (k + 1) n = UInt8.ofNat (dn k n % 256) :: fixB k n := by
  induction k with
  | zero => intro n; rfl
  | succ k ih =>
    intro n
    have h := ih (n / 256)
    show fixB (k + 1) (n / 256) ++ [UInt8.ofNat (n % 256)] = _
    rw [h, dn_in]; rfl

/-- The number that bytes encode, the most significant first, behind m. -/
def val256 : List UInt8 → Nat → Nat
  | [], m => m
  | b :: l, m => val256 l (m * 256 + b.toNat)
theorem val256_snoc (l : List UInt8) (b : UInt8) : ∀ m, val256 (l ++ [b]) m = val256 l m * 256 + b.toNat := by
  induction l with
  | nil => intro m; rfl
  | cons c l ih => intro m; exact ih _
theorem val256_fix (k : Nat) : ∀ n, dn k n = 0 → val256 (fixB k n) 0 = n := by
  induction k with
  | zero => intro n h; exact h.symm
  | succ k ih =>
    intro n h
    show val256 (fixB k (n / 256) ++ [UInt8.ofNat (n % 256)]) 0 = n
    rw [val256_snoc, ih (n / 256) (by rw [dn_in]; exact h)]
    have : (UInt8.ofNat (n % 256)).toNat = n % 256 := by simp
    omega
theorem val256_lt (l : List UInt8) : ∀ m k, m < k → val256 l m < k * 256 ^ l.length := by
  induction l with
  | nil => intro m k h; simpa [val256] using h
  | cons b l ih =>
    intro m k h
    have hb := b.toNat_lt
    have := ih (m * 256 + b.toNat) (k * 256) (by omega)
    show val256 l (m * 256 + b.toNat) < _
    rw [List.length_cons, Nat.pow_succ]
    exact Nat.lt_of_lt_of_eq this (by rw [Nat.mul_assoc, Nat.mul_comm 256])

/-- Groups of seven bits, the least significant first; at most f + 1 of them. -/
def encV : Nat → Nat → List UInt8
  | 0, n => [UInt8.ofNat n]
  | f + 1, n => if n < 128 then [UInt8.ofNat n] else UInt8.ofNat (128 + n % 128) :: encV f (n / 128)
theorem encV_small (f n : Nat) (h : n < 128) : encV f n = [UInt8.ofNat n] := by
  cases f with
  | zero => rfl
  | succ f => simp [encV, h]
theorem encV_step (f n : Nat) (h : 128 ≤ n) : encV (f + 1) n = UInt8.ofNat (128 + n % 128) :: encV f (n / 128) := by
  simp [encV, Nat.not_lt.2 h]
theorem encV_next (f m : Nat) (h : 128 ≤ m) (hm : m < 128 ^ (f + 1)) : ∃ g, f = g + 1 ∧ m / 128 < 128 ^ (g + 1) ∧ encV f m = UInt8.ofNat (128 + m % 128) :: encV g (m / 128) := by
  cases f with
  | zero => simp at hm; omega
  | succ g =>
    refine ⟨g, rfl, ?_, encV_step g m h⟩
    rw [Nat.pow_succ] at hm
    exact Nat.div_lt_of_lt_mul (by rw [Nat.mul_comm]; exact hm)
/-- The number that groups of seven bits make up. -/
def vval : List UInt8 → Nat
  | [] => 0
  | b :: l => b.toNat % 128 + 128 * vval l
theorem vval_lt (l : List UInt8) : vval l < 128 ^ l.length := by
  induction l with
  | nil => decide
  | cons b l ih =>
    show b.toNat % 128 + 128 * vval l < 128 ^ (l.length + 1)
    rw [Nat.pow_succ]; omega
theorem vval_snoc (l : List UInt8) (b : UInt8) : vval (l ++ [b]) = vval l + 128 ^ l.length * (b.toNat % 128) := by
  induction l with
  | nil => simp [vval]
  | cons c l ih =>
    show c.toNat % 128 + 128 * vval (l ++ [b]) = c.toNat % 128 + 128 * vval l + 128 ^ (l.length + 1) * (b.toNat % 128)
    rw [ih, Nat.pow_succ, Nat.mul_add, ← Nat.mul_assoc, Nat.mul_comm 128 (128 ^ l.length), Nat.add_assoc]
/-- Such groups are the shortest ones of their number. -/
def okV : List UInt8 → Prop
  | [] => False
  | [b] => b.toNat < 128
  | b :: c :: l => 128 ≤ b.toNat ∧ 0 < vval (c :: l) ∧ okV (c :: l)
theorem ofNat_toNat_eq (b : UInt8) (n : Nat) (h : b.toNat = n) : UInt8.ofNat n = b := by subst h; simp
theorem enc_ok (l : List UInt8) : ∀ f, l.length ≤ f + 1 → okV l → encV f (vval l) = l := by
  induction l with
  | nil => intro f _ h; exact absurd h id
  | cons b l ih =>
    intro f hf h
    cases l with
    | nil =>
      have hb : b.toNat < 128 := h
      have e : vval [b] = b.toNat := by simp [vval]; omega
      rw [e, encV_small _ _ hb]; simp
    | cons c l =>
      obtain ⟨h1, h2, h3⟩ := h
      obtain ⟨g, rfl⟩ : ∃ g, f = g + 1 := ⟨f - 1, by simp at hf; omega⟩
      have hl := b.toNat_lt
      have e : vval (b :: c :: l) = b.toNat % 128 + 128 * vval (c :: l) := rfl
      rw [e, encV_step _ _ (by omega)]
      have e1 : (b.toNat % 128 + 128 * vval (c :: l)) / 128 = vval (c :: l) := by omega
      have e2 : 128 + (b.toNat % 128 + 128 * vval (c :: l)) % 128 = b.toNat := by omega
      rw [e1, e2, ih g (by simpa using hf) h3]; simp
theorem ok_enc (l : List UInt8) : ∀ f, l.length ≤ f + 1 → encV f (vval l) = l → okV l := by
  induction l with
  | nil => intro f _ h; cases f <;> simp [encV, vval] at h
  | cons b l ih =>
    intro f hf h
    have hl := b.toNat_lt
    cases l with
    | nil =>
      have e : vval [b] = b.toNat % 128 := by simp [vval]
      rw [e, encV_small _ _ (by omega)] at h
      have h0 : UInt8.ofNat (b.toNat % 128) = b := by simpa using h
      have h1 : (UInt8.ofNat (b.toNat % 128)).toNat = b.toNat := by rw [h0]
      simp at h1
      show b.toNat < 128
      omega
    | cons c l =>
      obtain ⟨g, rfl⟩ : ∃ g, f = g + 1 := ⟨f - 1, by simp at hf; omega⟩
      have e : vval (b :: c :: l) = b.toNat % 128 + 128 * vval (c :: l) := rfl
      rw [e] at h
      by_cases hz : vval (c :: l) = 0
      · rw [hz, encV_small _ _ (by omega)] at h
        simp at h
      · rw [encV_step _ _ (by omega)] at h
        have e1 : (b.toNat % 128 + 128 * vval (c :: l)) / 128 = vval (c :: l) := by omega
        have e2 : 128 + (b.toNat % 128 + 128 * vval (c :: l)) % 128 = 128 + b.toNat % 128 := by omega
        rw [e1, e2] at h
        obtain ⟨ha, hb⟩ := List.cons.inj h
        have h1 : (UInt8.ofNat (128 + b.toNat % 128)).toNat = b.toNat := by rw [ha]
        rw [UInt8.toNat_ofNat'] at h1
        exact ⟨by omega, by omega, ih g (by simpa using hf) hb⟩
theorem enc_iff (l : List UInt8) (f : Nat) (hf : l.length ≤ f + 1) : encV f (vval l) = l ↔ okV l := ⟨ok_enc l f hf, enc_ok l f hf⟩
theorem ok_pre (l : List UInt8) (b : UInt8) (r : List UInt8) (hr : r ≠ []) (hb : b.toNat < 128) : ¬ okV (l ++ b :: r) := by
  induction l with
  | nil =>
    cases r with
    | nil => exact absurd rfl hr
    | cons c r => intro h; have h1 : 128 ≤ b.toNat := h.1; omega
  | cons a l ih =>
    intro h
    cases hl : l ++ b :: r with
    | nil => simp at hl
    | cons c m =>
      rw [List.cons_append, hl] at h
      exact ih (by rw [hl]; exact h.2.2)
theorem vval_pos (l : List UInt8) (b : UInt8) (h0 : 0 < b.toNat) (hb : b.toNat < 128) : 0 < vval (l ++ [b]) := by
  induction l with
  | nil => show 0 < b.toNat % 128 + 128 * 0; omega
  | cons a l ih => show 0 < a.toNat % 128 + 128 * vval (l ++ [b]); omega
theorem ok_mk (l : List UInt8) (b : UInt8) (hl : ∀ a ∈ l, 128 ≤ a.toNat) (hb : b.toNat < 128) (h0 : l ≠ [] → 0 < b.toNat) : okV (l ++ [b]) := by
  induction l with
  | nil => exact hb
  | cons a l ih =>
    have hp : 0 < b.toNat := h0 (by simp)
    have h1 := ih (fun x hx => hl x (by simp [hx])) (fun _ => hp)
    have h2 := vval_pos l b hp hb
    have h3 : 128 ≤ a.toNat := hl a (by simp)
    rw [List.cons_append]
    cases hc : l ++ [b] with
    | nil => simp at hc
    | cons c m => rw [hc] at h1 h2; exact ⟨h3, h2, h1⟩
theorem ok_zero (l : List UInt8) (b : UInt8) (hl : l ≠ []) (hb : b.toNat = 0) : ¬ okV (l ++ [b]) := by
  induction l with
  | nil => exact absurd rfl hl
  | cons a l ih =>
    intro h
    cases hc : l ++ [b] with
    | nil => simp at hc
    | cons c m =>
      rw [List.cons_append, hc] at h
      cases l with
      | nil =>
        have hcm : c = b ∧ m = [] := by simpa [eq_comm] using hc
        obtain ⟨rfl, rfl⟩ := hcm
        have h2 : 0 < vval [c] := h.2.1
        simp [vval, hb] at h2
      | cons d l => exact ih (by simp) (by rw [hc]; exact h.2.2)

/-- The least length from k on, of d tries, at which the first bytes are the shortest groups. -/
theorem ok_take_pre (s : List UInt8) (i k : Nat) (hi : i < s.length) (hk : i + 1 < k) (hl : k ≤ s.length) (hb : (s[i]).toNat < 128) : ¬ okV (s.take k) := by
  have e : s.take k = s.take i ++ s[i] :: (s.drop (i + 1)).take (k - (i + 1)) := by
    have h1 : s.take k = (s.take i ++ s[i] :: s.drop (i + 1)).take k := by
      congr 1
      rw [← List.drop_eq_getElem_cons hi, List.take_append_drop]
    rw [h1, List.take_append]
    have hlen : (s.take i).length = i := by simp; omega
    rw [hlen, List.take_of_length_le (by omega)]
    obtain ⟨d, hd⟩ : ∃ d, k - i = d + 1 := ⟨k - i - 1, by omega⟩
    rw [hd, List.take_succ_cons, show d = k - (i + 1) from by omega]
  rw [e]
  refine ok_pre _ _ _ (fun h => ?_) hb
  have := congrArg List.length h
  simp at this
  omega
theorem ok_last (l : List UInt8) (b : UInt8) (hb : 128 ≤ b.toNat) : ¬ okV (l ++ [b]) := by
  induction l with
  | nil => intro h; have h1 : b.toNat < 128 := h; omega
  | cons a l ih =>
    intro h
    cases hc : l ++ [b] with
    | nil => simp at hc
    | cons c m =>
      rw [List.cons_append, hc] at h
      exact ih (by rw [hc]; exact h.2.2)
theorem ge_more {l : List UInt8} {k : Nat} (hk : k < l.length) (h : ∀ a ∈ l.take k, 128 ≤ a.toNat) (hb : 128 ≤ (l[k]).toNat) : ∀ a ∈ l.take (k + 1), 128 ≤ a.toNat := by
  intro a ha
  rw [List.take_succ_eq_append_getElem hk, List.mem_append, List.mem_singleton] at ha
  rcases ha with ha | rfl
  · exact h a ha
  · exact hb
theorem no_more {l : List UInt8} {k : Nat} (h : ∀ j, 1 ≤ j → j < k → ¬ okV (l.take j)) (hk : ¬ okV (l.take k)) : ∀ j, 1 ≤ j → j < k + 1 → ¬ okV (l.take j) := by
  intro j h1 h2
  by_cases hj : j = k
  · subst hj; exact hk
  · exact h j h1 (by omega)
theorem no_big {l : List UInt8} {k : Nat} (hk : k < l.length) (h : ∀ j, 1 ≤ j → j < k + 1 → ¬ okV (l.take j)) (hb : 128 ≤ (l[k]).toNat) : ∀ j, 1 ≤ j → j < k + 1 + 1 → ¬ okV (l.take j) :=
  no_more h (by rw [List.take_succ_eq_append_getElem hk]; exact ok_last _ _ hb)
theorem no_zero {l : List UInt8} {k : Nat} (hk : k < l.length) (h0 : 0 < k) (h : ∀ j, 1 ≤ j → j < k + 1 → ¬ okV (l.take j)) (hb : (l[k]).toNat = 0) : ∀ j, 1 ≤ j → j ≤ 7 → j ≤ l.length → ¬ okV (l.take j) := by
  intro j h1 _ h3
  by_cases hj : j < k + 1
  · exact h j h1 hj
  · by_cases hj2 : j = k + 1
    · subst hj2
      rw [List.take_succ_eq_append_getElem hk]
      exact ok_zero _ _ (fun he => by have := congrArg List.length he; rw [List.length_take, Nat.min_eq_left (by omega), List.length_nil] at this; omega) hb
    · exact ok_take_pre l k j hk (by omega) h3 (by omega)
theorem ok_small {l : List UInt8} {k : Nat} (hk : k < l.length) (hg : ∀ a ∈ l.take k, 128 ≤ a.toNat) (hb : (l[k]).toNat < 128) (h0 : k = 0 ∨ (l[k]).toNat ≠ 0) : okV (l.take (k + 1)) := by
  rw [List.take_succ_eq_append_getElem hk]
  refine ok_mk _ _ hg hb (fun hne => ?_)
  rcases h0 with rfl | h0
  · exact absurd (List.take_zero) hne
  · omega
/-- n and k are the number and the length of the varint with which l begins, or 0 and 0. -/
def IsDec (l : List UInt8) (n k : Nat) : Prop :=
  (1 ≤ k ∧ k ≤ 7 ∧ k ≤ l.length ∧ okV (l.take k) ∧ n = vval (l.take k) ∧ ∀ j, 1 ≤ j → j < k → ¬ okV (l.take j)) ∨
  (n = 0 ∧ k = 0 ∧ ∀ j, 1 ≤ j → j ≤ 7 → j ≤ l.length → ¬ okV (l.take j))
theorem IsDec.uniq {l : List UInt8} {n k n' k' : Nat} (h : IsDec l n k) (h' : IsDec l n' k') : n = n' ∧ k = k' := by
  rcases h with ⟨a1, a2, a3, a4, a5, a6⟩ | ⟨a1, a2, a3⟩ <;> rcases h' with ⟨b1, b2, b3, b4, b5, b6⟩ | ⟨b1, b2, b3⟩
  · have : k = k' := by
      rcases Nat.lt_trichotomy k k' with h | h | h
      · exact absurd a4 (b6 k a1 h)
      · exact h
      · exact absurd b4 (a6 k' b1 h)
    subst this
    exact ⟨a5.trans b5.symm, rfl⟩
  · exact absurd a4 (b3 k a1 a2 a3)
  · exact absurd b4 (a3 k' b1 b2 b3)
  · exact ⟨a1.trans b1.symm, a2.trans b2.symm⟩
theorem vval_drop (l : List UInt8) (m k : Nat) (hm : m < k) (hk : k ≤ l.length) : vval ((l.take k).drop m) = (l[m]).toNat % 128 + 128 * vval ((l.take k).drop (m + 1)) := by
  have h : m < (l.take k).length := by simp; omega
  rw [List.drop_eq_getElem_cons h]
  simp [vval]
theorem vval_small (l : List UInt8) (h : l.length ≤ 7) : vval l < 562949953421312 := by
  have h1 := vval_lt l
  have h2 : 128 ^ l.length ≤ 128 ^ 7 := Nat.pow_le_pow_right (by omega) h
  omega
/-- A hexadecimal digit. -/
def hexD (k : Nat) : UInt8 := if k < 10 then UInt8.ofNat (48 + k) else UInt8.ofNat (87 + k)
def hexL : List UInt8 → List UInt8
  | [] => []
  | b :: l => hexD (b.toNat / 16) :: hexD (b.toNat % 16) :: hexL l
theorem hexL_len (l : List UInt8) : (hexL l).length = 2 * l.length := by
  induction l with
  | nil => rfl
  | cons b l ih => simp [hexL, ih]; omega
theorem hexL_snoc (l : List UInt8) (b : UInt8) : hexL (l ++ [b]) = hexL l ++ [hexD (b.toNat / 16), hexD (b.toNat % 16)] := by
  induction l with
  | nil => rfl
  | cons c l ih => simp [hexL, ih]
/-- The value of a hexadecimal digit. -/
def unD (b : UInt8) : Option Nat :=
  if 48 ≤ b.toNat ∧ b.toNat ≤ 57 then some (b.toNat - 48) else if 97 ≤ b.toNat ∧ b.toNat ≤ 102 then some (b.toNat - 87) else none
theorem unD_lt (b : UInt8) (k : Nat) (h : unD b = some k) : k < 16 := by
  unfold unD at h
  split at h
  · have := Option.some.inj h; omega
  · split at h
    · have := Option.some.inj h; omega
    · cases h
theorem unD_hexD (k : Nat) (h : k < 16) : unD (hexD k) = some k := by
  unfold unD hexD
  by_cases h10 : k < 10
  · have e : (UInt8.ofNat (48 + k)).toNat = 48 + k := by rw [UInt8.toNat_ofNat']; omega
    rw [if_pos h10, e, if_pos (by omega)]; congr 1; omega
  · have e : (UInt8.ofNat (87 + k)).toNat = 87 + k := by rw [UInt8.toNat_ofNat']; omega
    rw [if_neg h10, e, if_neg (by omega), if_pos (by omega)]; congr 1; omega
theorem hexD_unD (b : UInt8) (k : Nat) (h : unD b = some k) : hexD k = b := by
  have hb := b.toNat_lt
  unfold unD at h
  split at h
  · have hk := Option.some.inj h
    unfold hexD
    rw [if_pos (by omega)]
    exact ofNat_toNat_eq b _ (by omega)
  · split at h
    · have hk := Option.some.inj h
      unfold hexD
      rw [if_neg (by omega)]
      exact ofNat_toNat_eq b _ (by omega)
    · cases h
theorem unD_none (b : UInt8) (h : ∀ k, k < 16 → hexD k ≠ b) : unD b = none := by
  cases hu : unD b with
  | none => rfl
  | some k => exact absurd (hexD_unD b k hu) (h k (unD_lt b k hu))
theorem unD_le (b : UInt8) (k : Nat) (h : unD b = some k) : b.toNat ≤ 102 := by
  unfold unD at h
  split at h
  · omega
  · split at h
    · omega
    · cases h
/-- The bytes that hexadecimal digits encode, if all are digits; a last digit alone is left out. -/
def unL : List UInt8 → Option (List UInt8)
  | a :: b :: l => match unD a, unD b, unL l with
    | some x, some y, some r => some (UInt8.ofNat (16 * x + y) :: r)
    | _, _, _ => none
  | _ => some []
theorem unL_hexL (l : List UInt8) : unL (hexL l) = some l := by
  induction l with
  | nil => rfl
  | cons b l ih =>
    have hb := b.toNat_lt
    show (match unD (hexD (b.toNat / 16)), unD (hexD (b.toNat % 16)), unL (hexL l) with
      | some x, some y, some r => some (UInt8.ofNat (16 * x + y) :: r)
      | _, _, _ => none) = _
    rw [unD_hexD _ (by omega), unD_hexD _ (by omega), ih]
    have e : 16 * (b.toNat / 16) + b.toNat % 16 = b.toNat := by omega
    simp [e]
theorem unL_step {l : List UInt8} {i : Nat} (h : i + 1 < l.length) {r : List UInt8} (hr : unL l = (unL (l.drop i)).map (r ++ ·)) :
    (∀ x y, unD l[i] = some x → unD l[i + 1] = some y → unL l = (unL (l.drop (i + 2))).map ((r ++ [UInt8.ofNat (16 * x + y)]) ++ ·)) ∧
    (unD l[i] = none → unL l = none) ∧ (unD l[i + 1] = none → unL l = none) := by
  have e : l.drop i = l[i] :: l[i + 1] :: l.drop (i + 2) := by
    rw [List.drop_eq_getElem_cons (by omega), List.drop_eq_getElem_cons (by omega)]
  refine ⟨fun x y hx hy => ?_, fun hx => ?_, fun hy => ?_⟩
  · rw [hr, e, unL, hx, hy]
    cases unL (l.drop (i + 2)) with
    | none => rfl
    | some q => simp
  · rw [hr, e, unL, hx]; simp
  · rw [hr, e, unL, hy]
    cases unD l[i] <;> simp
theorem unL_end {l : List UInt8} {i : Nat} (h : l.length ≤ i) {r : List UInt8} (hr : unL l = (unL (l.drop i)).map (r ++ ·)) : unL l = some r := by
  rw [hr, List.drop_of_length_le h]
  simp [unL]
/-- What DecodeHex returns. -/
def hexR (l : List UInt8) : List UInt8 := if l.length % 2 = 0 then (unL l).getD [] else []
def hexOk (l : List UInt8) : Bool := if l.length % 2 = 0 then (unL l).isSome else false
theorem hexR_odd {l : List UInt8} (h : l.length % 2 = 1) : hexR l = [] := by unfold hexR; rw [if_neg (by omega)]
theorem hexOk_odd {l : List UInt8} (h : l.length % 2 = 1) : hexOk l = false := by unfold hexOk; rw [if_neg (by omega)]
theorem hexR_none {l : List UInt8} (h : unL l = none) : hexR l = [] := by unfold hexR; rw [h]; simp
theorem hexOk_none {l : List UInt8} (h : unL l = none) : hexOk l = false := by unfold hexOk; rw [h]; simp
theorem hexR_some {l r : List UInt8} (h2 : l.length % 2 = 0) (h : unL l = some r) : hexR l = r := by unfold hexR; rw [if_pos h2, h]; rfl
theorem hexOk_some {l r : List UInt8} (h2 : l.length % 2 = 0) (h : unL l = some r) : hexOk l = true := by unfold hexOk; rw [if_pos h2, h]; rfl
theorem encV_ne (f n : Nat) : encV f n ≠ [] := by
  cases f with
  | zero => simp [encV]
  | succ f =>
    unfold encV
    split <;> simp
theorem encV_val (f : Nat) : ∀ n, n < 128 ^ (f + 1) → vval (encV f n) = n := by
  induction f with
  | zero =>
    intro n h
    have e : (UInt8.ofNat n).toNat = n := by rw [UInt8.toNat_ofNat']; simp at h; omega
    simp only [encV, vval, e]
    simp at h; omega
  | succ f ih =>
    intro n h
    by_cases hs : n < 128
    · have e : (UInt8.ofNat n).toNat = n := by rw [UInt8.toNat_ofNat']; omega
      rw [encV_small _ _ hs]
      simp only [vval, e]
      omega
    · have e : (UInt8.ofNat (128 + n % 128)).toNat = 128 + n % 128 := by rw [UInt8.toNat_ofNat']; omega
      rw [encV_step _ _ (by omega)]
      rw [Nat.pow_succ] at h
      have := ih (n / 128) (Nat.div_lt_of_lt_mul (by rw [Nat.mul_comm]; exact h))
      simp only [vval, e, this]
      omega
theorem encV_len (f : Nat) : ∀ n k, 1 ≤ k → n < 128 ^ k → (encV f n).length ≤ k := by
  induction f with
  | zero => intro n k hk _; simpa [encV] using hk
  | succ f ih =>
    intro n k hk h
    by_cases hs : n < 128
    · rw [encV_small _ _ hs]; simpa using hk
    · rw [encV_step _ _ (by omega)]
      obtain ⟨j, rfl⟩ : ∃ j, k = j + 1 := ⟨k - 1, by omega⟩
      have hj : 1 ≤ j := by
        rcases Nat.eq_zero_or_pos j with rfl | h'
        · simp at h; omega
        · exact h'
      rw [Nat.pow_succ] at h
      have := ih (n / 128) j hj (Nat.div_lt_of_lt_mul (by rw [Nat.mul_comm]; exact h))
      simpa using this
theorem ok_prefix (l : List UInt8) : ∀ j, j < l.length → okV l → ¬ okV (l.take j) := by
  induction l with
  | nil => intro j hj; simp at hj
  | cons b l ih =>
    intro j hj h hk
    cases l with
    | nil =>
      obtain rfl : j = 0 := by simpa using hj
      exact hk
    | cons c l =>
      obtain ⟨h1, h2, h3⟩ := h
      match j, hj, hk with
      | 0, _, hk => exact hk
      | 1, _, hk => exact absurd (show b.toNat < 128 from hk) (by omega)
      | j + 2, hj, hk =>
        have hk' : okV (b :: c :: l.take j) := hk
        exact ih (j + 1) (by simpa using hj) h3 hk'.2.2
/-- The varint of a number is read back, whatever follows. -/
theorem dec_enc (n : Nat) (hn : n ≤ 562949953421311) (T : List UInt8) : IsDec (encV 7 n ++ T) n (encV 7 n).length := by
  have hl : (encV 7 n).length ≤ 7 := encV_len 7 n 7 (by omega) (by omega)
  have hv := encV_val 7 n (by omega)
  have ho : okV (encV 7 n) := ok_enc _ 7 (by omega) (by rw [hv])
  have ht : (encV 7 n ++ T).take (encV 7 n).length = encV 7 n := by simp
  refine .inl ⟨?_, hl, by simp, by rw [ht]; exact ho, by rw [ht, hv], fun j h1 h2 => ?_⟩
  · exact Nat.pos_of_ne_zero (fun h => encV_ne 7 n (List.eq_nil_of_length_eq_zero h))
  · have : (encV 7 n ++ T).take j = (encV 7 n).take j := by rw [List.take_append]; simp; omega
    rw [this]
    exact ok_prefix _ j h2 ho
theorem hex_back (T : List UInt8) : hexR (hexL T) = T ∧ hexOk (hexL T) = true := by
  have h2 : (hexL T).length % 2 = 0 := by rw [hexL_len]; omega
  exact ⟨hexR_some h2 (unL_hexL T), hexOk_some h2 (unL_hexL T)⟩
end Go.Proofs.Ytdaoaedkjoknmaa.Num
