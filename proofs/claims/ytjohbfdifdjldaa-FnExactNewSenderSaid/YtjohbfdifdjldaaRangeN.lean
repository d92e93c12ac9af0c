/-
  Plain facts about lists of ranges: validity, membership, adding, removing, overlaps, gaps, counting, popping. No program is imported.
-/
import Derived.Below
namespace Go.Proofs.Ytjohbfdifdjldaa.Num

/-- A range: its least number, and the one behind its greatest. -/
abbrev Rg := Int × Int
def fineR (r : Rg) : Prop := 0 ≤ r.1 ∧ r.1 < r.2 ∧ r.2 ≤ 4611686018427387903
instance (r : Rg) : Decidable (fineR r) := by unfold fineR; infer_instance
/-- The ranges of the list are valid, and begin behind p + 1. -/
def okR : Int → List Rg → Prop
  | _, [] => True
  | p, x :: l => p < x.1 ∧ x.1 < x.2 ∧ x.2 ≤ 4611686018427387903 ∧ okR x.2 l
instance decOkR : (p : Int) → (l : List Rg) → Decidable (okR p l)
  | _, [] => isTrue trivial
  | p, x :: l => by
    unfold okR
    have := decOkR x.2 l
    infer_instance
theorem okR.weaker {p q : Int} {l : List Rg} (h : okR p l) (hq : q ≤ p) : okR q l := by
  cases l with
  | nil => trivial
  | cons x l => exact ⟨by have := h.1; omega, h.2⟩
theorem okR.prefix {a b : List Rg} : ∀ {p : Int}, okR p (a ++ b) → okR p a := by
  induction a with
  | nil => intro p _; trivial
  | cons x a ih =>
    intro p h
    exact ⟨h.1, h.2.1, h.2.2.1, ih h.2.2.2⟩
theorem okR.snoc (a : List Rg) (y x : Rg) : ∀ p, okR p (a ++ [y] ++ [x]) ↔ okR p (a ++ [y]) ∧ y.2 < x.1 ∧ x.1 < x.2 ∧ x.2 ≤ 4611686018427387903 := by
  induction a with
  | nil =>
    intro p
    show (p < y.1 ∧ y.1 < y.2 ∧ y.2 ≤ _ ∧ (y.2 < x.1 ∧ x.1 < x.2 ∧ x.2 ≤ _ ∧ True)) ↔ (p < y.1 ∧ y.1 < y.2 ∧ y.2 ≤ _ ∧ True) ∧ _
    simp only [and_true, and_assoc]
  | cons z a ih =>
    intro p
    show (p < z.1 ∧ z.1 < z.2 ∧ z.2 ≤ _ ∧ okR z.2 (a ++ [y] ++ [x])) ↔ (p < z.1 ∧ z.1 < z.2 ∧ z.2 ≤ _ ∧ okR z.2 (a ++ [y])) ∧ _
    rw [ih]
    simp only [and_assoc]
/-- The next range of a list, seen at its place. -/
theorem okR.at_zero (l : List Rg) (h : 0 < l.length) : okR (-1) (l.take 1) ↔ fineR l[0] := by
  have e : l.take 1 = [l[0]] := by
    rw [List.take_succ_eq_append_getElem h, List.take_zero]; rfl
  rw [e]
  show (-1 < l[0].1 ∧ l[0].1 < l[0].2 ∧ l[0].2 ≤ _ ∧ True) ↔ _
  unfold fineR
  constructor
  · rintro ⟨h1, h2, h3, _⟩; exact ⟨by omega, h2, h3⟩
  · rintro ⟨h1, h2, h3⟩; exact ⟨by omega, h2, h3, trivial⟩
theorem okR.at_succ (l : List Rg) (i : Nat) (h : i + 1 < l.length) (hp : okR (-1) (l.take (i + 1))) : okR (-1) (l.take (i + 2)) ↔ fineR l[i + 1] ∧ l[i].2 < l[i + 1].1 := by
  have e1 : l.take (i + 1) = l.take i ++ [l[i]] := List.take_succ_eq_append_getElem (by omega)
  have e2 : l.take (i + 2) = l.take i ++ [l[i]] ++ [l[i + 1]] := by
    rw [List.take_succ_eq_append_getElem h, e1]
  rw [e1] at hp
  rw [e2, okR.snoc]
  have hpos : 0 ≤ l[i].2 := by
    have : ∀ (a : List Rg) (y : Rg) (p : Int), okR p (a ++ [y]) → p ≤ y.2 := by
      intro a
      induction a with
      | nil => intro y p h; have h1 := h.1; have h2 := h.2.1; omega
      | cons z a ih => intro y p h; have h1 := h.1; have h2 := h.2.1; have := ih y z.2 h.2.2.2; omega
    have h3 : ∀ (a : List Rg) (y : Rg) (p : Int), okR p (a ++ [y]) → p < y.2 := by
      intro a
      induction a with
      | nil => intro y p h; have h1 := h.1; have h2 := h.2.1; omega
      | cons z a ih => intro y p h; have h1 := h.1; have h2 := h.2.1; have := ih y z.2 h.2.2.2; omega
    have := h3 _ _ _ hp
    omega
  unfold fineR
  constructor
  · rintro ⟨_, h2, h3, h4⟩; exact ⟨⟨by omega, h3, h4⟩, h2⟩
  · rintro ⟨⟨_, h3, h4⟩, h2⟩; exact ⟨hp, h2, h3, h4⟩
theorem okR.not_all {l : List Rg} {i : Nat} (h : ¬ okR (-1) (l.take i)) : ¬ okR (-1) l := fun h2 => by
  rw [← List.take_append_drop i l] at h2
  exact h h2.prefix
/-- One of the ranges contains n. -/
def hasR (l : List Rg) (n : Int) : Prop := ∃ x, x ∈ l ∧ x.1 ≤ n ∧ n < x.2
theorem hasR_nil (n : Int) : ¬ hasR [] n := fun ⟨_, h, _⟩ => by cases h
theorem hasR_cons (x : Rg) (l : List Rg) (n : Int) : hasR (x :: l) n ↔ (x.1 ≤ n ∧ n < x.2) ∨ hasR l n := by
  constructor
  · rintro ⟨y, hy, h⟩
    rcases List.mem_cons.1 hy with rfl | hy
    · exact .inl h
    · exact .inr ⟨y, hy, h⟩
  · rintro (h | ⟨y, hy, h⟩)
    · exact ⟨x, List.mem_cons_self, h⟩
    · exact ⟨y, List.mem_cons_of_mem _ hy, h⟩
theorem hasR_append (a b : List Rg) (n : Int) : hasR (a ++ b) n ↔ hasR a n ∨ hasR b n := by
  induction a with
  | nil => simp [hasR_nil]
  | cons x a ih => rw [List.cons_append, hasR_cons, hasR_cons, ih, or_assoc]
theorem okR.above {l : List Rg} : ∀ {p : Int}, okR p l → ∀ n, hasR l n → p < n := by
  induction l with
  | nil => intro p _ n h; exact absurd h (hasR_nil n)
  | cons x l ih =>
    intro p h n hn
    rw [hasR_cons] at hn
    obtain ⟨h1, h2, h3, h4⟩ := h
    rcases hn with hn | hn
    · omega
    · have := ih h4 n hn
      omega
theorem okR.below {l : List Rg} : ∀ {p : Int}, okR p l → ∀ x ∈ l, p < x.1 ∧ x.1 < x.2 ∧ x.2 ≤ 4611686018427387903 := by
  induction l with
  | nil => intro p _ x hx; cases hx
  | cons y l ih =>
    intro p h x hx
    obtain ⟨h1, h2, h3, h4⟩ := h
    rcases List.mem_cons.1 hx with rfl | hx
    · exact ⟨h1, h2, h3⟩
    · have := ih h4 x hx
      omega
/-- Valid ranges are told by the numbers that they contain. -/
theorem okR.uniq {l : List Rg} : ∀ {m : List Rg} {p q : Int}, okR p l → okR q m → (∀ n, hasR l n ↔ hasR m n) → l = m := by
  induction l with
  | nil =>
    intro m p q _ hm h
    cases m with
    | nil => rfl
    | cons y m =>
      have := (h y.1).2 ((hasR_cons y m y.1).2 (.inl ⟨by omega, hm.2.1⟩))
      exact absurd this (hasR_nil _)
  | cons x l ih =>
    intro m p q hl hm h
    cases m with
    | nil =>
      have := (h x.1).1 ((hasR_cons x l x.1).2 (.inl ⟨by omega, hl.2.1⟩))
      exact absurd this (hasR_nil _)
    | cons y m =>
      obtain ⟨l1, l2, l3, l4⟩ := hl
      obtain ⟨m1, m2, m3, m4⟩ := hm
      have h' : ∀ n, ((x.1 ≤ n ∧ n < x.2) ∨ hasR l n) ↔ ((y.1 ≤ n ∧ n < y.2) ∨ hasR m n) := fun n => by
        rw [← hasR_cons, ← hasR_cons]; exact h n
      have la := fun n => l4.above n
      have ma := fun n => m4.above n
      have e1 : x.1 = y.1 := by
        rcases (h' x.1).1 (.inl ⟨by omega, l2⟩) with h1 | h1
        · rcases (h' y.1).2 (.inl ⟨by omega, m2⟩) with h2 | h2
          · omega
          · have := la _ h2; omega
        · have := ma _ h1
          rcases (h' y.1).2 (.inl ⟨by omega, m2⟩) with h2 | h2
          · omega
          · have := la _ h2; omega
      have e2 : x.2 = y.2 := by
        rcases Int.lt_trichotomy x.2 y.2 with h1 | h1 | h1
        · rcases (h' x.2).2 (.inl ⟨by omega, h1⟩) with h2 | h2
          · omega
          · have := la _ h2; omega
        · exact h1
        · rcases (h' y.2).1 (.inl ⟨by omega, h1⟩) with h2 | h2
          · omega
          · have := ma _ h2; omega
      have ht : ∀ n, hasR l n ↔ hasR m n := fun n => by
        by_cases hn : n ≤ x.2
        · constructor
          · intro h3; have := la _ h3; omega
          · intro h3; have := ma _ h3; omega
        · have h3 := h' n
          constructor
          · intro h4
            rcases h3.1 (.inr h4) with h5 | h5
            · omega
            · exact h5
          · intro h4
            rcases h3.2 (.inr h4) with h5 | h5
            · omega
            · exact h5
      have := ih l4 m4 ht
      rw [this, show x = y from Prod.ext e1 e2]

/-- The ranges with the numbers of r. -/
def addR : Rg → List Rg → List Rg
  | r, [] => [r]
  | r, x :: l => if x.2 < r.1 then x :: addR r l else if r.2 < x.1 then r :: x :: l else addR (min r.1 x.1, max r.2 x.2) l
theorem addR_ok (l : List Rg) : ∀ (p : Int) (r : Rg), okR p l → p < r.1 → r.1 < r.2 → r.2 ≤ 4611686018427387903 → okR p (addR r l) := by
  induction l with
  | nil => intro p r _ h1 h2 h3; exact ⟨h1, h2, h3, trivial⟩
  | cons x l ih =>
    intro p r h h1 h2 h3
    obtain ⟨a1, a2, a3, a4⟩ := h
    unfold addR
    split
    · exact ⟨a1, a2, a3, ih _ _ a4 (by omega) h2 h3⟩
    · split
      · exact ⟨h1, h2, h3, by omega, a2, a3, a4⟩
      · exact ih p _ (a4.weaker (by omega)) (by omega) (by omega) (by omega)
theorem addR_has (l : List Rg) : ∀ (p : Int) (r : Rg), okR p l → r.1 < r.2 → ∀ n, hasR (addR r l) n ↔ hasR l n ∨ (r.1 ≤ n ∧ n < r.2) := by
  induction l with
  | nil =>
    intro p r _ _ n
    show hasR [r] n ↔ _
    rw [hasR_cons]
    simp [hasR_nil]
  | cons x l ih =>
    intro p r h h2 n
    obtain ⟨a1, a2, a3, a4⟩ := h
    unfold addR
    split
    · rw [hasR_cons, hasR_cons, ih _ _ a4 h2, or_assoc]
    · split
      · rw [hasR_cons, or_comm]
      · rw [hasR_cons, ih p _ (a4.weaker (by omega)) (by omega)]
        constructor
        · rintro (h3 | h3)
          · exact .inl (.inr h3)
          · by_cases h4 : r.1 ≤ n ∧ n < r.2
            · exact .inr h4
            · exact .inl (.inl (by omega))
        · rintro ((h3 | h3) | h3)
          · exact .inr (by omega)
          · exact .inl h3
          · exact .inr (by omega)

/-- What is left of x without r. -/
def cutR (r x : Rg) : List Rg := (if x.1 < min x.2 r.1 then [(x.1, min x.2 r.1)] else []) ++ (if max x.1 r.2 < x.2 then [(max x.1 r.2, x.2)] else [])
def remR (r : Rg) (l : List Rg) : List Rg := l.flatMap (cutR r)
theorem cutR_has (r x : Rg) (hr : r.1 < r.2) (n : Int) : hasR (cutR r x) n ↔ (x.1 ≤ n ∧ n < x.2) ∧ ¬ (r.1 ≤ n ∧ n < r.2) := by
  unfold cutR
  rw [hasR_append]
  by_cases h1 : x.1 < min x.2 r.1 <;> by_cases h2 : max x.1 r.2 < x.2
  · rw [if_pos h1, if_pos h2, hasR_cons, hasR_cons]
    simp only [hasR_nil, or_false]
    omega
  · rw [if_pos h1, if_neg h2, hasR_cons]
    simp only [hasR_nil, or_false]
    omega
  · rw [if_neg h1, if_pos h2, hasR_cons]
    simp only [hasR_nil, or_false, false_or]
    omega
  · rw [if_neg h1, if_neg h2]
    simp only [hasR_nil, or_false, false_iff]
    omega
theorem remR_has (r : Rg) (hr : r.1 < r.2) (l : List Rg) (n : Int) : hasR (remR r l) n ↔ hasR l n ∧ ¬ (r.1 ≤ n ∧ n < r.2) := by
  induction l with
  | nil => simp [remR, hasR_nil]
  | cons x l ih =>
    have e : remR r (x :: l) = cutR r x ++ remR r l := rfl
    rw [e, hasR_append, ih, cutR_has r x hr, hasR_cons]
    constructor
    · rintro (h | h)
      · exact ⟨.inl h.1, h.2⟩
      · exact ⟨.inr h.1, h.2⟩
    · rintro ⟨h | h, h2⟩
      · exact .inl ⟨h, h2⟩
      · exact .inr ⟨h, h2⟩
theorem okR_append {a b : List Rg} : ∀ {p q : Int}, okR p a → okR q b → (∀ x ∈ a, x.2 ≤ q) → p ≤ q → okR p (a ++ b) := by
  induction a with
  | nil => intro p q _ hb _ hpq; exact hb.weaker hpq
  | cons x a ih =>
    intro p q ha hb hx hpq
    obtain ⟨a1, a2, a3, a4⟩ := ha
    exact ⟨a1, a2, a3, ih a4 hb (fun y hy => hx y (List.mem_cons_of_mem _ hy)) (hx x List.mem_cons_self)⟩
theorem cutR_ok (r x : Rg) (p : Int) (hr : r.1 < r.2) (h1 : p < x.1) (h2 : x.1 < x.2) (h3 : x.2 ≤ 4611686018427387903) : okR p (cutR r x) ∧ ∀ y ∈ cutR r x, y.2 ≤ x.2 := by
  unfold cutR
  by_cases c1 : x.1 < min x.2 r.1 <;> by_cases c2 : max x.1 r.2 < x.2
  · rw [if_pos c1, if_pos c2]
    refine ⟨⟨h1, c1, by show min x.2 r.1 ≤ _; omega, by show min x.2 r.1 < max x.1 r.2; omega, c2, h3, trivial⟩, fun y hy => ?_⟩
    simp at hy
    rcases hy with rfl | rfl
    · show min x.2 r.1 ≤ x.2; omega
    · exact Int.le_refl _
  · rw [if_pos c1, if_neg c2]
    refine ⟨⟨h1, c1, by show min x.2 r.1 ≤ _; omega, trivial⟩, fun y hy => ?_⟩
    simp at hy
    subst hy
    show min x.2 r.1 ≤ x.2; omega
  · rw [if_neg c1, if_pos c2]
    refine ⟨⟨by show p < max x.1 r.2; omega, c2, h3, trivial⟩, fun y hy => ?_⟩
    simp at hy
    subst hy
    exact Int.le_refl _
  · rw [if_neg c1, if_neg c2]
    exact ⟨trivial, fun y hy => by simp at hy⟩
theorem remR_ok (r : Rg) (hr : r.1 < r.2) (l : List Rg) : ∀ p, okR p l → okR p (remR r l) := by
  induction l with
  | nil => intro p _; trivial
  | cons x l ih =>
    intro p h
    obtain ⟨a1, a2, a3, a4⟩ := h
    have hc := cutR_ok r x p hr a1 a2 a3
    exact okR_append (q := x.2) hc.1 (ih _ a4) hc.2 (by omega)

/-- The overlap of two ranges. -/
def bothR (x y : Rg) : List Rg := if max x.1 y.1 < min x.2 y.2 then [(max x.1 y.1, min x.2 y.2)] else []
def comR (a b : List Rg) : List Rg := a.flatMap fun x => b.flatMap (bothR x)
theorem bothR_has (x y : Rg) (n : Int) : hasR (bothR x y) n ↔ (x.1 ≤ n ∧ n < x.2) ∧ (y.1 ≤ n ∧ n < y.2) := by
  unfold bothR
  by_cases c : max x.1 y.1 < min x.2 y.2
  · rw [if_pos c, hasR_cons]
    simp only [hasR_nil, or_false]
    omega
  · rw [if_neg c]
    simp only [hasR_nil, false_iff]
    omega
theorem both_has (x : Rg) (b : List Rg) (n : Int) : hasR (b.flatMap (bothR x)) n ↔ (x.1 ≤ n ∧ n < x.2) ∧ hasR b n := by
  induction b with
  | nil => simp [hasR_nil]
  | cons y b ih =>
    rw [List.flatMap_cons, hasR_append, ih, bothR_has, hasR_cons]
    constructor
    · rintro (h | h)
      · exact ⟨h.1, .inl h.2⟩
      · exact ⟨h.1, .inr h.2⟩
    · rintro ⟨h, h2 | h2⟩
      · exact .inl ⟨h, h2⟩
      · exact .inr ⟨h, h2⟩
theorem comR_has (a b : List Rg) (n : Int) : hasR (comR a b) n ↔ hasR a n ∧ hasR b n := by
  induction a with
  | nil => simp [comR, hasR_nil]
  | cons x a ih =>
    have e : comR (x :: a) b = b.flatMap (bothR x) ++ comR a b := rfl
    rw [e, hasR_append, ih, both_has, hasR_cons]
    constructor
    · rintro (h | h)
      · exact ⟨.inl h.1, h.2⟩
      · exact ⟨.inr h.1, h.2⟩
    · rintro ⟨h | h, h2⟩
      · exact .inl ⟨h, h2⟩
      · exact .inr ⟨h, h2⟩
theorem both_ok (x : Rg) (p : Int) (h1 : p < x.1) (h3 : x.2 ≤ 4611686018427387903) (b : List Rg) : ∀ q, okR q b → okR (max p q) (b.flatMap (bothR x)) ∧ ∀ z ∈ b.flatMap (bothR x), z.2 ≤ x.2 := by
  induction b with
  | nil => intro q _; exact ⟨trivial, fun z hz => by simp at hz⟩
  | cons y b ih =>
    intro q h
    obtain ⟨b1, b2, b3, b4⟩ := h
    obtain ⟨i1, i2⟩ := ih _ b4
    rw [List.flatMap_cons]
    unfold bothR
    by_cases c : max x.1 y.1 < min x.2 y.2
    · rw [if_pos c]
      refine ⟨⟨by show max p q < max x.1 y.1; omega, c, by show min x.2 y.2 ≤ _; omega, i1.weaker (by show min x.2 y.2 ≤ max p y.2; omega)⟩, fun z hz => ?_⟩
      rw [List.mem_append, List.mem_singleton] at hz
      rcases hz with rfl | hz
      · show min x.2 y.2 ≤ x.2; omega
      · exact i2 z hz
    · rw [if_neg c, List.nil_append]
      exact ⟨i1.weaker (by omega), i2⟩
theorem comR_ok (b : List Rg) (hb : okR (-1) b) (a : List Rg) : ∀ p, -1 ≤ p → okR p a → okR p (comR a b) := by
  induction a with
  | nil => intro p _ _; trivial
  | cons x a ih =>
    intro p hp h
    obtain ⟨a1, a2, a3, a4⟩ := h
    obtain ⟨i1, i2⟩ := both_ok x p a1 a3 b (-1) hb
    exact okR_append (q := x.2) (i1.weaker (by omega)) (ih _ (by omega) a4) i2 (by omega)

/-- The least number from n on that no range contains. -/
def gapR : List Rg → Int → Int
  | [], n => n
  | x :: l, n => gapR l (if x.1 ≤ n ∧ n < x.2 then x.2 else n)
theorem gapR_ge (l : List Rg) : ∀ n, n ≤ gapR l n := by
  induction l with
  | nil => intro n; exact Int.le_refl _
  | cons x l ih =>
    intro n
    show n ≤ gapR l (if x.1 ≤ n ∧ n < x.2 then x.2 else n)
    by_cases c : x.1 ≤ n ∧ n < x.2
    · rw [if_pos c]
      have := ih x.2
      omega
    · rw [if_neg c]
      exact ih n
theorem gapR_low (l : List Rg) : ∀ p n, okR p l → n ≤ p → gapR l n = n := by
  induction l with
  | nil => intro p n _ _; rfl
  | cons x l ih =>
    intro p n h hn
    obtain ⟨a1, a2, a3, a4⟩ := h
    show gapR l (if x.1 ≤ n ∧ n < x.2 then x.2 else n) = n
    rw [if_neg (by omega)]
    exact ih x.2 n a4 (by omega)
theorem gapR_free (l : List Rg) : ∀ p n, okR p l → ¬ hasR l (gapR l n) := by
  induction l with
  | nil => intro p n _; exact hasR_nil _
  | cons x l ih =>
    intro p n h
    obtain ⟨a1, a2, a3, a4⟩ := h
    show ¬ hasR (x :: l) (gapR l (if x.1 ≤ n ∧ n < x.2 then x.2 else n))
    rw [hasR_cons]
    rintro (h1 | h1)
    · by_cases hc : x.1 ≤ n ∧ n < x.2
      · rw [if_pos hc, gapR_low l x.2 x.2 a4 (Int.le_refl _)] at h1
        omega
      · rw [if_neg hc] at h1
        by_cases hn : n ≤ x.2
        · rw [gapR_low l x.2 n a4 hn] at h1
          exact hc h1
        · have := gapR_ge l n
          omega
    · exact ih x.2 _ a4 h1

/-- How many numbers the ranges contain. -/
def cntR : List Rg → Int
  | [] => 0
  | x :: l => x.2 - x.1 + cntR l
theorem cntR_append (a b : List Rg) : cntR (a ++ b) = cntR a + cntR b := by
  induction a with
  | nil => simp [cntR]
  | cons x a ih => simp [cntR, ih]; omega
theorem cntR_le (l : List Rg) : ∀ p, okR p l → p ≤ 4611686018427387903 → 0 ≤ cntR l ∧ cntR l ≤ 4611686018427387903 - p := by
  induction l with
  | nil => intro p _ hp; simp [cntR]; omega
  | cons x l ih =>
    intro p h hp
    obtain ⟨a1, a2, a3, a4⟩ := h
    have := ih _ a4 a3
    simp [cntR]
    omega
theorem remR_above (r : Rg) (h0 : r.1 < r.2) (l : List Rg) : ∀ p, okR p l → r.2 ≤ p → remR r l = l := by
  induction l with
  | nil => intro p _ _; rfl
  | cons x l ih =>
    intro p h hr
    obtain ⟨a1, a2, a3, a4⟩ := h
    show cutR r x ++ remR r l = x :: l
    rw [ih x.2 a4 (by omega)]
    unfold cutR
    by_cases hl : x.1 < min x.2 r.1
    · exact absurd hl (by omega)
    · rw [if_neg hl, if_pos (by omega), show max x.1 r.2 = x.1 from by omega]; rfl
/-- The first range, cut to its first numbers. -/
def topR (x : Rg) (most : Int) : Rg := if most < x.2 - x.1 then (x.1, x.1 + most) else x
end Go.Proofs.Ytjohbfdifdjldaa.Num
