/-
  Plain facts about quic integers: the shortest form of a number, the form with which a list of bytes begins, lists of such forms. No program is imported.
-/
import Derived.Test.YtjbppociogoopaaDoorNum
namespace Go.Proofs.YtjbppociogoopaaDoor.Num

/-- The number of bytes of the shortest form; 0 where there is none. -/
def qsz (n : Int) : Nat := if n < 0 then 0 else if n < 64 then 1 else if n < 16384 then 2 else if n < 1073741824 then 4 else if n ≤ 4611686018427387903 then 8 else 0
/-- What the two highest bits of the first byte add to it. -/
def qmk (k : Nat) : Nat := if k = 2 then 64 else if k = 4 then 128 else if k = 8 then 192 else 0
/-- The number of bytes of the form that begins with b. -/
def qlen (b : UInt8) : Nat := if b.toNat < 64 then 1 else if b.toNat < 128 then 2 else if b.toNat < 192 then 4 else 8
def setHead (m : Nat) : List UInt8 → List UInt8
  | [] => []
  | b :: l => UInt8.ofNat (m + b.toNat) :: l
/-- The form of k bytes. -/
def putQ (k n : Nat) : List UInt8 := setHead (qmk k) (fixB k n)
/-- The shortest form. -/
def encQ (n : Int) : List UInt8 := putQ (qsz n) n.toNat
/-- The number and the length of the form with which a list begins. -/
def decL : List UInt8 → Option (Nat × Nat)
  | [] => none
  | b :: l => if l.length + 1 < qlen b then none else some (val256 (l.take (qlen b - 1)) (b.toNat % 64), qlen b)

theorem qsz_cases (n : Int) : (qsz n = 0 ∧ (n < 0 ∨ 4611686018427387903 < n)) ∨ (qsz n = 1 ∧ 0 ≤ n ∧ n < 64) ∨ (qsz n = 2 ∧ 64 ≤ n ∧ n < 16384) ∨ (qsz n = 4 ∧ 16384 ≤ n ∧ n < 1073741824) ∨ (qsz n = 8 ∧ 1073741824 ≤ n ∧ n ≤ 4611686018427387903) := by
  unfold qsz
  split
  · exact Or.inl ⟨rfl, Or.inl ‹_›⟩
  · split
    · exact Or.inr (Or.inl ⟨rfl, by omega, ‹_›⟩)
    · split
      · exact Or.inr (Or.inr (Or.inl ⟨rfl, by omega, ‹_›⟩))
      · split
        · exact Or.inr (Or.inr (Or.inr (Or.inl ⟨rfl, by omega, ‹_›⟩)))
        · split
          · exact Or.inr (Or.inr (Or.inr (Or.inr ⟨rfl, by omega, ‹_›⟩)))
          · exact Or.inl ⟨rfl, Or.inr (by omega)⟩
theorem qsz_zero (n : Int) : qsz n = 0 ↔ n < 0 ∨ 4611686018427387903 < n := by
  rcases qsz_cases n with h | h | h | h | h <;> omega
theorem setHead_len (m : Nat) (l : List UInt8) : (setHead m l).length = l.length := by cases l <;> rfl
theorem putQ_len (k n : Nat) : (putQ k n).length = k := by rw [putQ, setHead_len, fixB_len]
theorem encQ_len (n : Int) : (encQ n).length = qsz n := putQ_len _ _
theorem encQ_nil (n : Int) (h : qsz n = 0) : encQ n = [] := List.eq_nil_of_length_eq_zero (by rw [encQ_len, h])
theorem encQ_ne (n : Int) (h : qsz n ≠ 0) : encQ n ≠ [] := fun e => h (by rw [← encQ_len, e]; rfl)

theorem qlen_cases (b : UInt8) : (qlen b = 1 ∧ b.toNat < 64) ∨ (qlen b = 2 ∧ 64 ≤ b.toNat ∧ b.toNat < 128) ∨ (qlen b = 4 ∧ 128 ≤ b.toNat ∧ b.toNat < 192) ∨ (qlen b = 8 ∧ 192 ≤ b.toNat) := by
  unfold qlen
  split
  · exact Or.inl ⟨rfl, ‹_›⟩
  · split
    · exact Or.inr (Or.inl ⟨rfl, by omega, ‹_›⟩)
    · split
      · exact Or.inr (Or.inr (Or.inl ⟨rfl, by omega, ‹_›⟩))
      · exact Or.inr (Or.inr (Or.inr ⟨rfl, by omega⟩))

theorem val256_dn (k : Nat) : ∀ n, val256 (fixB k n) (dn k n) = n := by
  induction k with
  | zero => intro n; rfl
  | succ k ih =>
    intro n
    show val256 (fixB k (n / 256) ++ [UInt8.ofNat (n % 256)]) (dn (k + 1) n) = n
    have h := ih (n / 256)
    rw [dn_in] at h
    rw [val256_snoc, h]
    have : (UInt8.ofNat (n % 256)).toNat = n % 256 := by simp
    omega

/-- The bytes of a form, one of the four lengths. -/
theorem putQ_cons (k n : Nat) (hk : k = 1 ∨ k = 2 ∨ k = 4 ∨ k = 8) (hn : dn (k - 1) n < 64) : ∃ b : UInt8, putQ k n = b :: fixB (k - 1) n ∧ b.toNat = qmk k + dn (k - 1) n ∧ qlen b = k := by
  obtain ⟨j, rfl⟩ : ∃ j, k = j + 1 := ⟨k - 1, by omega⟩
  have hj : j + 1 - 1 = j := by omega
  rw [hj] at hn ⊢
  have hm : qmk (j + 1) + dn j n < 256 := by
    rcases hk with h | h | h | h <;> rw [h] <;> simp [qmk] <;> omega
  refine ⟨UInt8.ofNat (qmk (j + 1) + dn j n), ?_, by rw [UInt8.toNat_ofNat']; omega, ?_⟩
  · rw [putQ, fixB_cons]
    have e : (UInt8.ofNat (dn j n % 256)).toNat = dn j n := by rw [UInt8.toNat_ofNat']; omega
    simp [setHead, e]
  · have e : (UInt8.ofNat (qmk (j + 1) + dn j n)).toNat = qmk (j + 1) + dn j n := by rw [UInt8.toNat_ofNat']; omega
    unfold qlen
    rw [e]
    have hlt : dn j n < 64 := hn
    rcases hk with h | h | h | h
    all_goals
      rw [h]
      simp only [qmk]
      simp
      repeat' split
      all_goals omega

theorem qfit (n : Int) (h : qsz n ≠ 0) : (qsz n = 1 ∨ qsz n = 2 ∨ qsz n = 4 ∨ qsz n = 8) ∧ dn (qsz n - 1) n.toNat < 64 := by
  rcases qsz_cases n with ⟨e, h'⟩ | ⟨e, h1, h2⟩ | ⟨e, h1, h2⟩ | ⟨e, h1, h2⟩ | ⟨e, h1, h2⟩
  · omega
  all_goals
    rw [e]
    refine ⟨by omega, ?_⟩
    rw [dn_eq]
    simp
    omega

theorem dec_put (k n : Nat) (t : List UInt8) (hk : k = 1 ∨ k = 2 ∨ k = 4 ∨ k = 8) (hn : dn (k - 1) n < 64) : decL (putQ k n ++ t) = some (n, k) := by
  obtain ⟨b, h1, h2, h3⟩ := putQ_cons k n hk hn
  rw [h1, List.cons_append, decL, h3]
  have hl : (fixB (k - 1) n).length = k - 1 := fixB_len _ _
  rw [if_neg (by rw [List.length_append, hl]; omega), List.take_append_of_le_length (by omega), List.take_of_length_le (by omega)]
  have hb : b.toNat % 64 = dn (k - 1) n := by
    rw [h2]
    rcases hk with h | h | h | h <;> rw [h] at hn ⊢ <;> simp [qmk] at hn ⊢ <;> omega
  rw [hb, val256_dn]
theorem decq_enc (n : Int) (t : List UInt8) (h : qsz n ≠ 0) : decL (encQ n ++ t) = some (n.toNat, qsz n) :=
  dec_put _ _ _ (qfit n h).1 (qfit n h).2

theorem decL_cons (b : UInt8) (l : List UInt8) : decL (b :: l) = if l.length + 1 < qlen b then none else some (val256 (l.take (qlen b - 1)) (b.toNat % 64), qlen b) := rfl
theorem decL_some {l : List UInt8} {n k : Nat} (h : decL l = some (n, k)) : (k = 1 ∨ k = 2 ∨ k = 4 ∨ k = 8) ∧ k ≤ l.length ∧ n < 64 * 256 ^ (k - 1) ∧ 1 ≤ qsz n ∧ qsz n ≤ k := by
  cases l with
  | nil => cases h
  | cons b l =>
    rw [decL_cons] at h
    split at h
    · cases h
    · rename_i hl
      obtain ⟨rfl, rfl⟩ := Prod.mk.inj (Option.some.inj h)
      have hk : qlen b = 1 ∨ qlen b = 2 ∨ qlen b = 4 ∨ qlen b = 8 := by
        rcases qlen_cases b with h | h | h | h <;> omega
      have hv := val256_lt (l.take (qlen b - 1)) (b.toNat % 64) 64 (by omega)
      rw [List.length_take, Nat.min_eq_left (by omega)] at hv
      refine ⟨hk, by simp; omega, hv, ?_⟩
      generalize val256 (l.take (qlen b - 1)) (b.toNat % 64) = v at hv
      rcases hk with h | h | h | h <;> rw [h] at hv ⊢ <;> simp at hv <;> rcases qsz_cases (v : Int) with h | h | h | h | h <;> omega

theorem decL_parts {b : UInt8} {l : List UInt8} {n k : Nat} (h : decL (b :: l) = some (n, k)) : k = qlen b ∧ n = val256 (l.take (k - 1)) (b.toNat % 64) ∧ k ≤ l.length + 1 := by
  rw [decL_cons] at h
  split at h
  · cases h
  · obtain ⟨rfl, rfl⟩ := Prod.mk.inj (Option.some.inj h)
    exact ⟨rfl, rfl, by omega⟩
theorem decL_no {b : UInt8} {l : List UInt8} (h : decL (b :: l) = none) : l.length + 1 < qlen b := by
  rw [decL_cons] at h
  split at h
  · assumption
  · cases h
theorem val_step (l : List UInt8) (m j : Nat) (hj : j < l.length) : val256 (l.take (j + 1)) m = val256 (l.take j) m * 256 + (l[j]).toNat := by
  rw [List.take_succ_eq_append_getElem hj, val256_snoc]
theorem val_room (l : List UInt8) (m j : Nat) (hm : m < 64) (hj : j ≤ 6) : val256 (l.take j) m < 18014398509481984 := by
  have h := val256_lt (l.take j) m 64 hm
  have h1 : (l.take j).length ≤ 6 := by rw [List.length_take]; omega
  have h2 : 256 ^ (l.take j).length ≤ 256 ^ 6 := Nat.pow_le_pow_right (by omega) h1
  omega
theorem dn_val (l : List UInt8) : ∀ m, dn l.length (val256 l m) = m := by
  induction l with
  | nil => intro m; rfl
  | cons b l ih =>
    intro m
    have hb := b.toNat_lt
    show dn l.length (val256 l (m * 256 + b.toNat)) / 256 = m
    rw [ih]; omega
theorem fix_val (l : List UInt8) : ∀ m, fixB l.length (val256 l m) = l := by
  induction l with
  | nil => intro m; rfl
  | cons b l ih =>
    intro m
    have hb := b.toNat_lt
    show fixB (l.length + 1) (val256 l (m * 256 + b.toNat)) = b :: l
    rw [fixB_cons, ih, dn_val]
    congr 1
    exact ofNat_toNat_eq b _ (by omega)
/-- The bytes of a form are the form of its number, of as many bytes. -/
theorem put_dec {l : List UInt8} {n k : Nat} (h : decL l = some (n, k)) : putQ k n = l.take k := by
  have h0 := decL_some h
  cases l with
  | nil => cases h
  | cons b l =>
    rw [decL_cons] at h
    split at h
    · cases h
    · rename_i hl
      obtain ⟨rfl, rfl⟩ := Prod.mk.inj (Option.some.inj h)
      have hlen : (l.take (qlen b - 1)).length = qlen b - 1 := by rw [List.length_take]; omega
      have hd := dn_val (l.take (qlen b - 1)) (b.toNat % 64)
      have hf := fix_val (l.take (qlen b - 1)) (b.toNat % 64)
      rw [hlen] at hd hf
      obtain ⟨c, h1, h2, h3⟩ := putQ_cons (qlen b) (val256 (l.take (qlen b - 1)) (b.toNat % 64)) h0.1 (by rw [hd]; omega)
      rw [h1, hf]
      have hc : c = b := by
        have e : c.toNat = b.toNat := by
          rw [h2, hd]
          have := b.toNat_lt
          rcases qlen_cases b with h | h | h | h <;> rw [h.1] <;> simp [qmk] <;> omega
        exact UInt8.toNat_inj.1 e
      obtain ⟨j, hj⟩ : ∃ j, qlen b = j + 1 := ⟨qlen b - 1, by omega⟩
      rw [hc, hj, List.take_succ_cons]
      simp
theorem fixB_at (k : Nat) : ∀ n j (h : j < (fixB k n).length), (fixB k n)[j] = UInt8.ofNat (dn (k - 1 - j) n % 256) := by
  induction k with
  | zero => intro n j h; simp [fixB] at h
  | succ k ih =>
    intro n j h
    have e := fixB_cons k n
    cases j with
    | zero => simp [e]
    | succ j =>
      have hl : j < (fixB k n).length := by rw [fixB_len] at h ⊢; omega
      have h2 := ih n j hl
      simp only [e, List.getElem_cons_succ]
      rw [h2, show k + 1 - 1 - (j + 1) = k - 1 - j from by omega]
/-- The byte of a form that has i bytes behind it. -/
def qbyte (k n i : Nat) : Nat := (if i + 1 = k then qmk k else 0) + dn i n % 256
theorem putQ_next (k n i : Nat) (hk : k = 1 ∨ k = 2 ∨ k = 4 ∨ k = 8) (hn : dn (k - 1) n < 64) (hi : i < k) : (putQ k n).take (k - i) = (putQ k n).take (k - 1 - i) ++ [UInt8.ofNat (qbyte k n i)] := by
  obtain ⟨b, h1, h2, h3⟩ := putQ_cons k n hk hn
  have hl : k - 1 - i < (putQ k n).length := by rw [putQ_len]; omega
  rw [show k - i = k - 1 - i + 1 from by omega, List.take_succ_eq_append_getElem hl]
  congr 2
  by_cases hj : i + 1 = k
  · have e : k - 1 - i = 0 := by omega
    have e2 : i = k - 1 := by omega
    simp only [e, h1, List.getElem_cons_zero]
    refine (ofNat_toNat_eq b _ ?_).symm
    rw [h2, qbyte, if_pos hj, e2, Nat.mod_eq_of_lt (by omega)]
  · obtain ⟨j, e⟩ : ∃ j, k - 1 - i = j + 1 := ⟨k - 1 - i - 1, by omega⟩
    simp only [e, h1, List.getElem_cons_succ]
    rw [fixB_at, qbyte, if_neg hj, Nat.zero_add, show k - 1 - 1 - j = i from by omega]
theorem qbyte_lt (k n i : Nat) (hk : k = 1 ∨ k = 2 ∨ k = 4 ∨ k = 8) (hn : dn (k - 1) n < 64) : qbyte k n i < 256 := by
  unfold qbyte
  split
  · have e : i = k - 1 := by omega
    subst e
    rw [Nat.mod_eq_of_lt (by omega)]
    have hm : qmk k ≤ 192 := by rcases hk with h | h | h | h <;> rw [h] <;> decide
    omega
  · omega
/-- Filled up with zeros, the bytes of a form are those of the shortest one just where they are the shortest one. -/
theorem pad_iff {l : List UInt8} {n k : Nat} (h : decL l = some (n, k)) (a b : Nat) : (l.take k ++ List.replicate a 0 = encQ n ++ List.replicate b 0) ↔ (k = qsz n ∧ a = b) := by
  have h0 := decL_some h
  have hq : qsz n ≠ 0 := by omega
  have hf := qfit n hq
  have hd : dn (k - 1) n < 64 := by
    rw [dn_eq]
    exact Nat.div_lt_of_lt_mul (by rw [Nat.mul_comm]; exact h0.2.2.1)
  rw [← put_dec h]
  constructor
  · intro e
    have e1 := dec_put k n (List.replicate a 0) h0.1 hd
    rw [e, decq_enc n _ hq] at e1
    have hk : qsz n = k := (Prod.mk.inj (Option.some.inj e1)).2
    have hl := congrArg List.length e
    rw [List.length_append, List.length_append, putQ_len, encQ_len, List.length_replicate, List.length_replicate] at hl
    exact ⟨hk.symm, by omega⟩
  · rintro ⟨rfl, rfl⟩
    rfl

/-- The forms of a list of numbers; nothing where one has none. -/
def encQs (zs : List Int) : List UInt8 := if zs.all (fun n => qsz n != 0) then zs.flatMap encQ else []
/-- The numbers of the forms that make up a list, of which there are at most f. -/
def decQs : Nat → List UInt8 → Option (List Int)
  | _, [] => some []
  | 0, _ :: _ => none
  | f + 1, b :: l => match decL (b :: l) with
    | none => none
    | some (n, k) => (decQs f ((b :: l).drop k)).map fun zs => (n : Int) :: zs
theorem decQs_nil (f : Nat) : decQs f [] = some [] := by cases f <;> rfl
theorem decQs_step (f : Nat) (l : List UInt8) (hl : l ≠ []) (n k : Nat) (h : decL l = some (n, k)) : decQs (f + 1) l = (decQs f (l.drop k)).map fun zs => (n : Int) :: zs := by
  cases l with
  | nil => exact absurd rfl hl
  | cons b l => simp [decQs, h]
theorem decQs_none (f : Nat) (l : List UInt8) (hl : l ≠ []) (h : decL l = none) : decQs (f + 1) l = none := by
  cases l with
  | nil => exact absurd rfl hl
  | cons b l => simp [decQs, h]
theorem decQs_enc (zs : List Int) : ∀ f, (zs.flatMap encQ).length ≤ f → (∀ z ∈ zs, qsz z ≠ 0) → decQs f (zs.flatMap encQ) = some zs := by
  induction zs with
  | nil => intro f _ _; exact decQs_nil f
  | cons z zs ih =>
    intro f hf h
    have hz := h z (by simp)
    have hne := encQ_ne z hz
    have hlz : 0 < (encQ z).length := List.length_pos_iff.2 hne
    rw [List.flatMap_cons, List.length_append] at hf
    obtain ⟨g, rfl⟩ : ∃ g, f = g + 1 := ⟨f - 1, by omega⟩
    rw [List.flatMap_cons, decQs_step g _ (by simp [hne]) _ _ (decq_enc z _ hz)]
    have e : (encQ z ++ zs.flatMap encQ).drop (qsz z) = zs.flatMap encQ := by
      rw [← encQ_len, List.drop_left]
    rw [e, ih g (by omega) (fun x hx => h x (by simp [hx]))]
    have : ((z.toNat : Nat) : Int) = z := by
      have := qsz_zero z
      omega
    simp [this]
theorem encQs_all (zs : List Int) (h : ∀ z ∈ zs, qsz z ≠ 0) : encQs zs = zs.flatMap encQ := by
  unfold encQs
  rw [if_pos (List.all_eq_true.2 fun z hz => by simpa using h z hz)]
theorem encQs_bad (zs : List Int) (z : Int) (hz : z ∈ zs) (h : qsz z = 0) : encQs zs = [] := by
  unfold encQs
  rw [if_neg]
  intro h2
  have := List.all_eq_true.1 h2 z hz
  simp [h] at this
theorem decQs_encQs (zs : List Int) (f : Nat) (hf : (encQs zs).length ≤ f) : (encQs zs = [] ∧ decQs f (encQs zs) = some []) ∨ decQs f (encQs zs) = some zs := by
  by_cases h : ∀ z ∈ zs, qsz z ≠ 0
  · rw [encQs_all zs h] at hf ⊢
    exact Or.inr (decQs_enc zs f hf h)
  · have h2 : ∃ z, z ∈ zs ∧ qsz z = 0 := by
      apply Classical.byContradiction
      intro h3
      exact h fun z hz h0 => h3 ⟨z, hz, h0⟩
    obtain ⟨z, hz, h0⟩ := h2
    rw [encQs_bad zs z hz h0]
    exact Or.inl ⟨rfl, decQs_nil f⟩
theorem encQs_len (zs : List Int) : (encQs zs).length ≤ 8 * zs.length := by
  have h : (zs.flatMap encQ).length ≤ 8 * zs.length := by
    induction zs with
    | nil => simp
    | cons z zs ih =>
      rw [List.flatMap_cons, List.length_append, encQ_len, List.length_cons]
      rcases qsz_cases z with h | h | h | h | h <;> omega
  unfold encQs
  split
  · exact h
  · simp
end Go.Proofs.YtjbppociogoopaaDoor.Num
