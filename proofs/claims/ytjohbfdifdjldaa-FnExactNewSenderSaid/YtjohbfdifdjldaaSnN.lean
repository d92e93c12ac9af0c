/-
  Plain facts about a sender: what it holds. No program is imported.
-/
import Derived.Test.YtjohbfdifdjldaaRingN
import Derived.Test.YtjohbfdifdjldaaBufN
namespace Go.Proofs.Ytjohbfdifdjldaa.Num

/-- A sender. -/
structure Sn where
  st : Int
  rn : Rn
  pe : List Rg
  fl : List Rg
  ac : List Rg
  fin : Int
  fi : Int
  sent : Int
  code : Int
def in64 (n : Int) : Prop := -9223372036854775808 ≤ n ∧ n ≤ 9223372036854775807
/-- All numbers fit an int. -/
def inSn (s : Sn) : Prop := in64 s.st ∧ inRn s.rn ∧ in64 s.fin ∧ in64 s.fi ∧ in64 s.sent ∧ in64 s.code
/-- The state that follows. -/
def folS (s : Sn) : Int := if s.fi = 3 ∧ s.rn.base = s.rn.en then 3 else if 1 < s.fi ∨ (s.fi = 1 ∧ s.st = 2) then 2 else if 0 < s.sent ∨ (s.fi = 1 ∧ s.st = 1) then 1 else 0
/-- What is checked ahead of the states. -/
def fitS (s : Sn) : Prop := okRn s.rn ∧ okR (-1) s.pe ∧ okR (-1) s.fl ∧ okR (-1) s.ac ∧ (0 ≤ s.sent ∧ s.sent ≤ s.rn.en) ∧ (0 ≤ s.code ∧ s.code ≤ 4611686018427387903) ∧ 0 ≤ s.fi ∧ s.fi ≤ 3
instance (s : Sn) : Decidable (fitS s) := by unfold fitS; infer_instance
/-- A sender that was reset, as it has to be. -/
def rstS (s : Sn) : Prop := s.rn.base = s.rn.en ∧ s.pe = [] ∧ s.fl = [] ∧ s.ac = [] ∧ s.fin = s.sent ∧ s.fi = 0 ∧ s.sent = s.rn.en
instance (s : Sn) : Decidable (rstS s) := by unfold rstS; infer_instance
/-- The three sets, joined as the model joins them. -/
def joinS (a l : List Rg) : List Rg := l.foldl (fun m r => if okR (-1) m ∧ fineR r then addR r m else m) a
def allS (s : Sn) : List Rg := joinS (joinS s.pe s.fl) s.ac
/-- What both ask of the sets, the end and the state. -/
def endS (s : Sn) : Prop := gapR s.ac 0 = s.rn.base ∧ s.code = 0 ∧ (∀ r ∈ s.fl, r.2 ≤ s.sent) ∧ (∀ r ∈ s.ac, r.2 ≤ s.sent) ∧ (s.fi = 0 ↔ s.fin = -1) ∧ (s.fin ≠ -1 → s.fin = s.rn.en) ∧ s.st = folS s
instance (s : Sn) : Decidable (endS s) := by unfold endS; infer_instance
def highS : List Rg → Int
  | [] => 0
  | r :: _ => r.2
/-- The sets as the model counts them. -/
def sumS (s : Sn) : Prop := cntR (allS s) = s.rn.en ∧ cntR s.pe + cntR s.fl + cntR s.ac = s.rn.en ∧ (0 < s.rn.en → highS (allS s) = s.rn.en)
instance (s : Sn) : Decidable (sumS s) := by unfold sumS; infer_instance
/-- What the model takes for a valid sender. -/
def okSn (s : Sn) : Prop := fitS s ∧ if s.st = 4 ∨ s.st = 5 then rstS s else sumS s ∧ endS s
instance (s : Sn) : Decidable (okSn s) := by unfold okSn; infer_instance
/-- The sets as the document has them. -/
def wholeS (s : Sn) : Prop := (∀ n, hasR s.pe n ∨ hasR s.fl n ∨ hasR s.ac n ↔ 0 ≤ n ∧ n < s.rn.en) ∧ (∀ n, ¬ (hasR s.pe n ∧ hasR s.fl n)) ∧ (∀ n, ¬ (hasR s.pe n ∧ hasR s.ac n)) ∧ ∀ n, ¬ (hasR s.fl n ∧ hasR s.ac n)
def whL (e : Int) : List Rg := if e ≤ 0 then [] else [(0, e)]
/-- The same, of lists. -/
def listS (s : Sn) : Prop := allS s = whL s.rn.en ∧ cntR s.pe + cntR s.fl + cntR s.ac = s.rn.en
instance (s : Sn) : Decidable (listS s) := by unfold listS; infer_instance
/-- What the document takes for a valid sender. -/
def docSn (s : Sn) : Prop := fitS s ∧ if s.st = 4 ∨ s.st = 5 then rstS s else listS s ∧ endS s
instance (s : Sn) : Decidable (docSn s) := by unfold docSn; infer_instance
theorem joinS_cons (a : List Rg) (r : Rg) (l : List Rg) : joinS a (r :: l) = joinS (if okR (-1) a ∧ fineR r then addR r a else a) l := rfl
/-- What a join holds. -/
theorem joinS_has (l : List Rg) : ∀ (a : List Rg) (p : Int), -1 ≤ p → okR (-1) a → okR p l → okR (-1) (joinS a l) ∧ ∀ n, hasR (joinS a l) n ↔ hasR a n ∨ hasR l n := by
  induction l with
  | nil => intro a p _ ha _; exact ⟨ha, fun n => ⟨.inl, fun h => h.resolve_right (hasR_nil n)⟩⟩
  | cons r l ih =>
    intro a p hp ha hl
    have h1 := okR.below hl r (List.mem_cons_self ..)
    have hf : fineR r := ⟨by omega, h1.2.1, h1.2.2⟩
    rw [joinS_cons, if_pos ⟨ha, hf⟩]
    have hk := addR_ok a (-1) r ha (by have := hf.1; omega) hf.2.1 hf.2.2
    obtain ⟨h2, h3⟩ := ih (addR r a) r.2 (by have := hf.1; have := hf.2.1; omega) hk (by
      have := hl
      simp only [okR] at this
      exact this.2.2.2)
    refine ⟨h2, fun n => ?_⟩
    rw [h3, addR_has a (-1) r ha hf.2.1, hasR_cons]
    constructor
    · rintro ((h | h) | h)
      · exact .inl h
      · exact .inr (.inl h)
      · exact .inr (.inr h)
    · rintro (h | h | h)
      · exact .inl (.inl h)
      · exact .inl (.inr h)
      · exact .inr h
/-- A range that has nothing in common with the list adds its length. -/
theorem addR_cnt_eq (l : List Rg) : ∀ (p : Int) (r : Rg), okR p l → r.1 < r.2 → (∀ n, r.1 ≤ n → n < r.2 → ¬ hasR l n) → cntR (addR r l) = cntR l + (r.2 - r.1) := by
  induction l with
  | nil => intro p r _ _ _; rw [addR_nil, cntR_cons]; show _ + cntR [] = cntR [] + _; omega
  | cons x l ih =>
    intro p r hl hr hd
    obtain ⟨h1, h2, h3, h4⟩ := hl
    have hdx : ∀ n, r.1 ≤ n → n < r.2 → ¬ (x.1 ≤ n ∧ n < x.2) := fun n a b c => hd n a b ((hasR_cons x l n).2 (.inl c))
    have hdl : ∀ n, r.1 ≤ n → n < r.2 → ¬ hasR l n := fun n a b c => hd n a b ((hasR_cons x l n).2 (.inr c))
    rw [addR_eq, cntR_cons]
    split
    · rw [cntR_cons, ih x.2 r h4 hr hdl]; omega
    · split
      · rw [cntR_cons, cntR_cons]; omega
      · have ho : x.2 ≤ r.1 ∨ r.2 ≤ x.1 := by
          by_cases h : x.2 ≤ r.1
          · exact .inl h
          · refine .inr (Int.not_lt.1 fun h5 => hdx (max r.1 x.1) (by omega) (by omega) ⟨by omega, by omega⟩)
        rw [ih x.2 (min r.1 x.1, max r.2 x.2) h4 (by show min r.1 x.1 < max r.2 x.2; omega) (fun n a b c => by
          have hab := okR.above h4 n c
          by_cases h6 : r.1 ≤ n ∧ n < r.2
          · exact hdl n h6.1 h6.2 c
          · have a' : min r.1 x.1 ≤ n := a
            have b' : n < max r.2 x.2 := b
            omega)]
        show cntR l + (max r.2 x.2 - min r.1 x.1) = _
        omega
/-- One that has a number in common with it adds less. -/
theorem addR_cnt_lt (l : List Rg) : ∀ (p : Int) (r : Rg) (n : Int), okR p l → r.1 ≤ n → n < r.2 → hasR l n → cntR (addR r l) < cntR l + (r.2 - r.1) := by
  induction l with
  | nil => intro p r n _ _ _ h; exact absurd h (hasR_nil n)
  | cons x l ih =>
    intro p r n hl h1 h2 hn
    obtain ⟨g1, g2, g3, g4⟩ := hl
    rw [hasR_cons] at hn
    have hab : hasR l n → x.2 < n := okR.above g4 n
    rw [addR_eq, cntR_cons]
    split
    · have := ih x.2 r n g4 h1 h2 (hn.resolve_left (by omega))
      rw [cntR_cons]; omega
    · split
      · rcases hn with h | h
        · omega
        · have := hab h; omega
      · rcases hn with h | h
        · have := addR_cnt l x.2 (min r.1 x.1, max r.2 x.2) g4 (by show min r.1 x.1 < max r.2 x.2; omega)
          have e : ((min r.1 x.1, max r.2 x.2) : Rg).2 - ((min r.1 x.1, max r.2 x.2) : Rg).1 = max r.2 x.2 - min r.1 x.1 := rfl
          rw [e] at this
          omega
        · have := ih x.2 (min r.1 x.1, max r.2 x.2) n g4 (by show min r.1 x.1 ≤ n; omega) (by show n < max r.2 x.2; omega) h
          have e : ((min r.1 x.1, max r.2 x.2) : Rg).2 - ((min r.1 x.1, max r.2 x.2) : Rg).1 = max r.2 x.2 - min r.1 x.1 := rfl
          rw [e] at this
          omega
theorem okR_fine {p : Int} {r : Rg} {l : List Rg} (hp : -1 ≤ p) (h : okR p (r :: l)) : fineR r ∧ okR r.2 l ∧ -1 ≤ r.2 := by
  obtain ⟨h1, h2, h3, h4⟩ := h
  exact ⟨⟨by omega, h2, h3⟩, h4, by omega⟩
/-- How many numbers a join has. -/
theorem joinS_cnt (l : List Rg) : ∀ (a : List Rg) (p : Int), -1 ≤ p → okR (-1) a → okR p l → cntR (joinS a l) ≤ cntR a + cntR l ∧ (cntR (joinS a l) = cntR a + cntR l ↔ ∀ n, ¬ (hasR a n ∧ hasR l n)) := by
  induction l with
  | nil => intro a p _ _ _; exact ⟨by show cntR a ≤ cntR a + 0; omega, ⟨fun _ n h => hasR_nil n h.2, fun _ => by show cntR a = cntR a + 0; omega⟩⟩
  | cons r l ih =>
    intro a p hp ha hl
    obtain ⟨hf, h4, h5⟩ := okR_fine hp hl
    rw [joinS_cons, if_pos ⟨ha, hf⟩, cntR_cons]
    have hk := addR_ok a (-1) r ha (by have := hf.1; omega) hf.2.1 hf.2.2
    obtain ⟨i1, i2⟩ := ih (addR r a) r.2 h5 hk h4
    have hle := addR_cnt a (-1) r ha hf.2.1
    refine ⟨by omega, ⟨fun he n hn => ?_, fun hd => ?_⟩⟩
    · have e1 : cntR (addR r a) = cntR a + (r.2 - r.1) := by omega
      have hd2 := i2.1 (by omega)
      rcases (hasR_cons r l n).1 hn.2 with h | h
      · have := addR_cnt_lt a (-1) r n ha h.1 h.2 hn.1
        omega
      · exact hd2 n ⟨(addR_has a (-1) r ha hf.2.1 n).2 (.inl hn.1), h⟩
    · have e1 := addR_cnt_eq a (-1) r ha hf.2.1 (fun n a1 a2 a3 => hd n ⟨a3, (hasR_cons r l n).2 (.inl ⟨a1, a2⟩)⟩)
      rw [i2.2 (fun n hn => ?_)]
      · omega
      · rcases (addR_has a (-1) r ha hf.2.1 n).1 hn.1 with h | h
        · exact hd n ⟨h, (hasR_cons r l n).2 (.inr hn.2)⟩
        · have := okR.above h4 n hn.2
          omega
theorem whL_ok {e : Int} (h : e ≤ 4611686018427387903) : okR (-1) (whL e) := by
  unfold whL
  split
  · trivial
  · exact ⟨show (-1 : Int) < 0 by decide, show (0 : Int) < e by omega, h, trivial⟩
theorem whL_has (e n : Int) : hasR (whL e) n ↔ 0 ≤ n ∧ n < e := by
  unfold whL
  split
  · exact ⟨fun h => absurd h (hasR_nil n), fun h => by omega⟩
  · rw [hasR_cons]
    exact ⟨fun h => h.resolve_right (hasR_nil n), .inl⟩
theorem whL_cnt {e : Int} (h : 0 ≤ e) : cntR (whL e) = e := by
  unfold whL
  split
  · show (0 : Int) = e; omega
  · show e - 0 + 0 = e; omega
/-- The lists say what the document says. -/
theorem listS_whole {s : Sn} (h : fitS s) : listS s ↔ wholeS s := by
  obtain ⟨h1, h2, h3, h4, h5, _⟩ := h
  have he : s.rn.en ≤ 4611686018427387903 := h1.2.2.2.2.2.1
  obtain ⟨k1, k2⟩ := joinS_has s.fl s.pe (-1) (Int.le_refl _) h2 h3
  obtain ⟨k3, k4⟩ := joinS_has s.ac _ (-1) (Int.le_refl _) k1 h4
  obtain ⟨c1, c2⟩ := joinS_cnt s.fl s.pe (-1) (Int.le_refl _) h2 h3
  obtain ⟨c3, c4⟩ := joinS_cnt s.ac _ (-1) (Int.le_refl _) k1 h4
  have hall : ∀ n, hasR (allS s) n ↔ hasR s.pe n ∨ hasR s.fl n ∨ hasR s.ac n := fun n => by
    unfold allS
    rw [k4, k2, or_assoc]
  constructor
  · rintro ⟨e1, e2⟩
    have e3 : cntR (allS s) = s.rn.en := by rw [e1]; exact whL_cnt (by omega)
    unfold allS at e3
    have d1 := c2.1 (by omega)
    have d2 := c4.1 (by omega)
    refine ⟨fun n => ?_, d1, fun n hn => d2 n ⟨(k2 n).2 (.inl hn.1), hn.2⟩, fun n hn => d2 n ⟨(k2 n).2 (.inr hn.1), hn.2⟩⟩
    rw [← hall, e1, whL_has]
  · rintro ⟨u, d1, d2, d3⟩
    have e1 : allS s = whL s.rn.en := okR.uniq k3 (whL_ok he) (fun n => by
      rw [whL_has, ← u n]
      exact hall n)
    have e2 := c2.2 d1
    have e3 := c4.2 (fun n hn => by
      rcases (k2 n).1 hn.1 with h | h
      · exact d2 n ⟨h, hn.2⟩
      · exact d3 n ⟨h, hn.2⟩)
    refine ⟨e1, ?_⟩
    have e4 : cntR (allS s) = s.rn.en := by rw [e1]; exact whL_cnt (by omega)
    unfold allS at e4
    omega
/-- What the document takes for valid, the model does. -/
theorem listS_sum {s : Sn} (h : fitS s) (hl : listS s) : sumS s := by
  obtain ⟨e1, e2⟩ := hl
  have h0 : 0 ≤ s.rn.en := by have := h.2.2.2.2.1; omega
  refine ⟨by rw [e1]; exact whL_cnt h0, e2, fun h3 => ?_⟩
  rw [e1]
  unfold whL
  rw [if_neg (by omega)]
  rfl
theorem docSn.ok {s : Sn} (h : docSn s) : okSn s := by
  obtain ⟨h1, h2⟩ := h
  refine ⟨h1, ?_⟩
  split
  · rename_i h3
    rwa [if_pos h3] at h2
  · rename_i h3
    rw [if_neg h3] at h2
    exact ⟨listS_sum h1 h2.1, h2.2⟩
end Go.Proofs.Ytjohbfdifdjldaa.Num
