/-
  Plain facts about payloads. No program is imported.
-/
import Derived.Test.YtjbppociogoopaaDoorFrN2
namespace Go.Proofs.YtjbppociogoopaaDoor.Num

theorem headF_ne (f : Fr) : headF f ≠ [] := by
  unfold headF
  repeat' split
  all_goals simp
theorem encF_ne (f : Fr) (h : okF f) : encF f ≠ [] := by
  rw [encF_ok f h]
  have hf := headF_fit f h
  cases hh : headF f with
  | nil => exact absurd hh (headF_ne f)
  | cons z zs =>
    rw [hh] at hf
    have := encQ_ne z (hf z (by simp))
    simp [this]
theorem encF_len (f : Fr) : (encF f).length ≤ 432 := by
  unfold encF
  split
  · rename_i h
    have h1 := encQs_len (headF f)
    have h2 := headF_len f
    have h3 := h.2.2.2.2.2.2.2.1
    rw [List.length_append]
    split
    · simp only [Array.length_toList]
      have h4 : f.data.data.size = f.data.size := rfl
      omega
    · simp; omega
  · simp
/-- A payload's bytes; none, where it isn't one. -/
def encP (l : List Fr) : List UInt8 := if (∀ f ∈ l, okF f) ∧ (l.flatMap encF).length ≤ 400 then l.flatMap encF else []
theorem flatF_len (l : List Fr) : (l.flatMap encF).length ≤ 432 * l.length := by
  induction l with
  | nil => simp
  | cons f l ih =>
    rw [List.flatMap_cons, List.length_append, List.length_cons]
    have := encF_len f
    omega
theorem flatF_take (l : List Fr) (j : Nat) (h : j < l.length) : (l.take (j + 1)).flatMap encF = (l.take j).flatMap encF ++ encF l[j] := by
  rw [List.take_succ_eq_append_getElem h, List.flatMap_append, List.flatMap_cons, List.flatMap_nil, List.append_nil]
theorem encP_bad (l : List Fr) (f : Fr) (hf : f ∈ l) (h : ¬ okF f) : encP l = [] := by
  unfold encP
  rw [if_neg (fun hh => h (hh.1 f hf))]

theorem readN_some_len {n : Nat} {l : List UInt8} {xs : List Int} {m : Nat} (h : readN n l = some (xs, m)) : m ≤ l.length := (readN_len n l xs m h).2.1
theorem chkF_eq {f g : Fr} {n m : Nat} (h : chkF f n = some (g, m)) : m = n := by
  unfold chkF at h
  split at h
  · simp at h; omega
  · simp at h
theorem decS_len' {c : Nat} {t : List UInt8} {f : Fr} {k : Nat} (h : decS c t = some (f, k)) : k ≤ t.length := by
  unfold decS at h
  split at h
  · simp at h
  · rename_i l m hr
    have h1 := readN_some_len hr
    split at h
    · split at h
      · simp at h
      · rename_i x j hd
        split at h
        · have h2 := (decL_some hd).2.1
          rw [List.length_drop] at h2
          have := chkF_eq h
          omega
        · simp at h
    · have := chkF_eq h
      omega
theorem decF_len {l : List UInt8} {f : Fr} {k : Nat} (h : decF l = some (f, k)) : 1 ≤ k ∧ k ≤ l.length := by
  cases l with
  | nil => simp [decF] at h
  | cons b t =>
    rw [decF_cons] at h
    rw [List.length_cons]
    split at h
    · simp at h
    · split at h
      · cases hd : decS b.toNat t with
        | none => rw [hd] at h; simp at h
        | some x =>
          obtain ⟨g, m⟩ := x
          rw [hd] at h
          have := decS_len' hd
          simp at h
          omega
      · split at h
        · simp at h
        · rename_i xs m hr
          have h1 := readN_some_len hr
          have := chkF_eq h
          omega
/-- The frames of a payload, the padding skipped. -/
def decP : Nat → List UInt8 → Option (List Fr)
  | _, [] => some []
  | 0, _ => some []
  | n + 1, b :: t => if b = 0 then decP n t else match decF (b :: t) with
    | none => none
    | some (f, k) => (decP n ((b :: t).drop k)).map fun l => f :: l
theorem decP_nil (n : Nat) : decP n [] = some [] := by cases n <;> rfl
/-- Frames have been read up to a place, and the rest makes up the whole. -/
def RdF (L : List UInt8) (p g : Nat) (acc : List Fr) : Prop :=
  p ≤ L.length ∧ L.length - p ≤ g ∧ acc.length ≤ p ∧ decP L.length L = (decP g (L.drop p)).map fun l => acc ++ l
theorem RdF.start (L : List UInt8) : RdF L 0 L.length [] := by
  refine ⟨Nat.zero_le _, by omega, Nat.zero_le _, ?_⟩
  simp only [List.drop_zero, List.nil_append]
  cases decP L.length L <;> rfl
theorem RdF.zero {L : List UInt8} {p g : Nat} {acc : List Fr} (h : RdF L p g acc) (hp : p < L.length) (h0 : L[p] = 0) : ∃ g', RdF L (p + 1) g' acc := by
  obtain ⟨h1, h2, h3, h4⟩ := h
  obtain ⟨g, rfl⟩ : ∃ n, g = n + 1 := ⟨g - 1, by omega⟩
  refine ⟨g, by omega, by omega, by omega, ?_⟩
  rw [h4, List.drop_eq_getElem_cons hp, h0]
  rfl
theorem RdF.step {L : List UInt8} {p g k : Nat} {acc : List Fr} {f : Fr} (h : RdF L p g acc) (hp : p < L.length) (h0 : L[p] ≠ 0) (hd : decF (L.drop p) = some (f, k)) : ∃ g', RdF L (p + k) g' (acc ++ [f]) := by
  obtain ⟨h1, h2, h3, h4⟩ := h
  obtain ⟨g, rfl⟩ : ∃ n, g = n + 1 := ⟨g - 1, by omega⟩
  have hk := decF_len hd
  rw [List.length_drop] at hk
  refine ⟨g, by omega, by omega, by simp; omega, ?_⟩
  rw [h4]
  have e := List.drop_eq_getElem_cons hp
  have e2 : decP (g + 1) (L.drop p) = (decP g ((L.drop p).drop k)).map fun l => f :: l := by
    rw [e]
    rw [e] at hd
    show (if L[p] = 0 then _ else match decF (L[p] :: L.drop (p + 1)) with | none => none | some (f, k) => (decP g ((L[p] :: L.drop (p + 1)).drop k)).map fun l => f :: l) = _
    rw [if_neg h0, hd]
  rw [e2, List.drop_drop]
  cases decP g (L.drop (p + k)) with
  | none => rfl
  | some l => simp
theorem RdF.bad {L : List UInt8} {p g : Nat} {acc : List Fr} (h : RdF L p g acc) (hp : p < L.length) (h0 : L[p] ≠ 0) (hd : decF (L.drop p) = none) : decP L.length L = none := by
  obtain ⟨h1, h2, h3, h4⟩ := h
  obtain ⟨g, rfl⟩ : ∃ n, g = n + 1 := ⟨g - 1, by omega⟩
  rw [h4]
  have e := List.drop_eq_getElem_cons hp
  rw [e]
  rw [e] at hd
  show Option.map _ (if L[p] = 0 then _ else match decF (L[p] :: L.drop (p + 1)) with | none => none | some (f, k) => (decP g ((L[p] :: L.drop (p + 1)).drop k)).map fun l => f :: l) = _
  rw [if_neg h0, hd]
  rfl
theorem RdF.done {L : List UInt8} {p g : Nat} {acc : List Fr} (h : RdF L p g acc) (hp : ¬ p < L.length) : decP L.length L = some acc := by
  obtain ⟨h1, h2, h3, h4⟩ := h
  rw [h4, List.drop_eq_nil_of_le (by omega), decP_nil]
  simp
end Go.Proofs.YtjbppociogoopaaDoor.Num
