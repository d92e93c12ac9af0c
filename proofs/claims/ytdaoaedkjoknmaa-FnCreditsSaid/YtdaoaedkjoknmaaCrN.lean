/-
  Credits, in plain terms: four numbers, and what is done to them.
-/
import Derived.Test.YtdaoaedkjoknmaaNum
namespace Go.Proofs.Ytdaoaedkjoknmaa.Num

/-- A credit. -/
structure Cr where
  lim : Int
  used : Int
  bl : Int
  told : Int
deriving DecidableEq
/-- It can be held in four words. -/
def inCr (c : Cr) : Prop := (-9223372036854775808 ≤ c.lim ∧ c.lim ≤ 9223372036854775807) ∧ (-9223372036854775808 ≤ c.used ∧ c.used ≤ 9223372036854775807) ∧ (-9223372036854775808 ≤ c.bl ∧ c.bl ≤ 9223372036854775807) ∧ -9223372036854775808 ≤ c.told ∧ c.told ≤ 9223372036854775807
/-- A limit that can be. -/
def okL (n : Int) : Prop := 0 ≤ n ∧ n ≤ 4611686018427387903
instance (n : Int) : Decidable (okL n) := by unfold okL; infer_instance
/-- It is valid. -/
def okCr (c : Cr) : Prop := okL c.lim ∧ (0 ≤ c.used ∧ c.used ≤ c.lim) ∧ (-1 ≤ c.bl ∧ c.bl ≤ c.lim) ∧ -1 ≤ c.told ∧ c.told ≤ c.lim
instance (c : Cr) : Decidable (okCr c) := by unfold okCr; infer_instance
def zeroCr : Cr := ⟨0, 0, 0, 0⟩
def newCr (n : Int) : Cr := if okL n then ⟨n, 0, -1, -1⟩ else zeroCr
def leftCr (c : Cr) : Int := if okCr c then c.lim - c.used else 0
/-- So many bytes may be used. -/
def canU (c : Cr) (n : Int) : Prop := okCr c ∧ 0 ≤ n ∧ n ≤ c.lim - c.used
instance (c : Cr) (n : Int) : Decidable (canU c n) := by unfold canU; infer_instance
def useCr (c : Cr) (n : Int) : Cr := if canU c n then ⟨c.lim, c.used + n, c.bl, c.told⟩ else c
def canR (c : Cr) (n : Int) : Prop := okCr c ∧ okL n ∧ c.lim < n
instance (c : Cr) (n : Int) : Decidable (canR c n) := by unfold canR; infer_instance
def raiseCr (c : Cr) (n : Int) : Cr := if canR c n then ⟨n, c.used, -1, c.told⟩ else c
def canB (c : Cr) : Prop := okCr c ∧ c.used = c.lim ∧ c.bl = -1 ∧ ¬ c.told = c.lim
instance (c : Cr) : Decidable (canB c) := by unfold canB; infer_instance
def noteCr (c : Cr) : Cr := if canB c then ⟨c.lim, c.used, c.lim, c.told⟩ else c
def mustCr (c : Cr) : Prop := okCr c ∧ c.bl = c.lim
instance (c : Cr) : Decidable (mustCr c) := by unfold mustCr; infer_instance
def canC (c : Cr) : Prop := okCr c ∧ ¬ c.bl = -1
instance (c : Cr) : Decidable (canC c) := by unfold canC; infer_instance
def clearCr (c : Cr) : Cr := if canC c then ⟨c.lim, c.used, -1, c.bl⟩ else c

theorem okCr.inCr {c : Cr} (h : okCr c) : inCr c := by
  obtain ⟨⟨h1, h2⟩, ⟨h3, h4⟩, ⟨h5, h6⟩, h7, h8⟩ := h
  unfold Num.inCr
  omega
theorem newCr_ok {n : Int} (h : okL n) : okCr (newCr n) := by
  unfold newCr
  rw [if_pos h]
  obtain ⟨h1, h2⟩ := h
  refine ⟨⟨h1, h2⟩, ⟨?_, ?_⟩, ⟨?_, ?_⟩, ?_, ?_⟩ <;> (dsimp only; omega)
theorem newCr_in (n : Int) : inCr (newCr n) := by
  by_cases h : okL n
  · exact (newCr_ok h).inCr
  · unfold newCr
    rw [if_neg h]
    unfold inCr zeroCr
    decide
theorem useCr_ok {c : Cr} {n : Int} (h : okCr c) : okCr (useCr c n) := by
  unfold useCr
  split
  · next hu =>
    obtain ⟨⟨h1, h2⟩, ⟨h3, h4⟩, ⟨h5, h6⟩, h7, h8⟩ := h
    obtain ⟨_, h9, h10⟩ := hu
    exact ⟨⟨h1, h2⟩, ⟨by dsimp only; omega, by dsimp only; omega⟩, ⟨h5, h6⟩, h7, h8⟩
  · exact h
theorem useCr_left {c : Cr} {n : Int} (h : canU c n) : leftCr (useCr c n) = leftCr c - n := by
  have h1 := useCr_ok (n := n) h.1
  unfold leftCr
  rw [if_pos h1, if_pos h.1]
  unfold useCr
  rw [if_pos h]
  dsimp only
  omega
theorem raiseCr_ok {c : Cr} {n : Int} (h : okCr c) : okCr (raiseCr c n) := by
  unfold raiseCr
  split
  · next hu =>
    obtain ⟨⟨h1, h2⟩, ⟨h3, h4⟩, ⟨h5, h6⟩, h7, h8⟩ := h
    obtain ⟨_, ⟨h9, h10⟩, h11⟩ := hu
    refine ⟨⟨h9, h10⟩, ⟨h3, ?_⟩, ⟨?_, ?_⟩, h7, ?_⟩ <;> (dsimp only; omega)
  · exact h
theorem raiseCr_up (c : Cr) (n : Int) : c.lim ≤ (raiseCr c n).lim := by
  unfold raiseCr
  split
  · next hu => exact Int.le_of_lt hu.2.2
  · exact Int.le_refl _
theorem noteCr_ok {c : Cr} (h : okCr c) : okCr (noteCr c) := by
  unfold noteCr
  split
  · obtain ⟨⟨h1, h2⟩, ⟨h3, h4⟩, ⟨h5, h6⟩, h7, h8⟩ := h
    exact ⟨⟨h1, h2⟩, ⟨h3, h4⟩, ⟨by dsimp only; omega, Int.le_refl _⟩, h7, h8⟩
  · exact h
theorem clearCr_ok {c : Cr} (h : okCr c) : okCr (clearCr c) := by
  unfold clearCr
  split
  · obtain ⟨⟨h1, h2⟩, ⟨h3, h4⟩, ⟨h5, h6⟩, h7, h8⟩ := h
    exact ⟨⟨h1, h2⟩, ⟨h3, h4⟩, ⟨Int.le_refl _, by dsimp only; omega⟩, h5, h6⟩
  · exact h
theorem useCr_in {c : Cr} {n : Int} (h : inCr c) : inCr (useCr c n) := by
  by_cases hu : canU c n
  · exact (useCr_ok hu.1).inCr
  · unfold useCr; rw [if_neg hu]; exact h
theorem raiseCr_in {c : Cr} {n : Int} (h : inCr c) : inCr (raiseCr c n) := by
  by_cases hu : canR c n
  · exact (raiseCr_ok hu.1).inCr
  · unfold raiseCr; rw [if_neg hu]; exact h
theorem noteCr_in {c : Cr} (h : inCr c) : inCr (noteCr c) := by
  by_cases hu : canB c
  · exact (noteCr_ok hu.1).inCr
  · unfold noteCr; rw [if_neg hu]; exact h
theorem clearCr_in {c : Cr} (h : inCr c) : inCr (clearCr c) := by
  by_cases hu : canC c
  · exact (clearCr_ok hu.1).inCr
  · unfold clearCr; rw [if_neg hu]; exact h
theorem noteCr_no {c : Cr} (h : ¬ canB c) : noteCr c = c := if_neg h
/-- A credit that has told of its limit doesn't tell of it again. -/
theorem told_once {d : Cr} (hm : mustCr (noteCr d)) : ¬ mustCr (noteCr (clearCr (noteCr d))) := by
  obtain ⟨h1, h2⟩ := hm
  have hc : canC (noteCr d) := by
    refine ⟨h1, ?_⟩
    have := h1.1.1
    omega
  have e : clearCr (noteCr d) = ⟨(noteCr d).lim, (noteCr d).used, -1, (noteCr d).bl⟩ := by
    unfold clearCr
    rw [if_pos hc]
  have hn : ¬ canB (clearCr (noteCr d)) := by
    rw [e]
    intro hb
    exact hb.2.2.2 h2
  have e2 : noteCr (clearCr (noteCr d)) = clearCr (noteCr d) := by
    exact noteCr_no hn
  rw [e2, e]
  intro hm
  have h3 : (-1 : Int) = (noteCr d).lim := hm.2
  have := h1.1.1
  omega
end Go.Proofs.Ytdaoaedkjoknmaa.Num
