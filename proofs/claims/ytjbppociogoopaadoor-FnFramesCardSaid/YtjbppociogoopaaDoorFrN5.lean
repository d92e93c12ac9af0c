/-
  Plain: a payload's bytes are read back as its frames, padding skipped. No program is imported.
-/
import Derived.Test.YtjbppociogoopaaDoorFrN4
namespace Go.Proofs.YtjbppociogoopaaDoor.Num

theorem nFr_zero (l : List Int) : ¬ okF (nFr 0 l) := fun h => by
  have := h.1
  simp [nFr, isK] at this
theorem decF_zero (t : List UInt8) : decF (0 :: t) = none := by
  rw [decF_cons, if_neg (by decide), if_neg (by decide)]
  split
  · rfl
  · exact chkF_none _ (nFr_zero _)
theorem encF_head (f : Fr) (h : okF f) : ∃ b t, encF f = b :: t ∧ b ≠ 0 := by
  cases he : encF f with
  | nil => exact absurd he (encF_ne f h)
  | cons b t =>
    refine ⟨b, t, rfl, ?_⟩
    rintro rfl
    have := decF_enc f h []
    rw [he, List.append_nil, decF_zero] at this
    simp at this
theorem decP_zeros : ∀ (n z : Nat), decP n (List.replicate z 0) = some [] := by
  intro n
  induction n with
  | zero => intro z; cases z <;> rfl
  | succ n ih =>
    intro z
    cases z with
    | zero => rfl
    | succ z =>
      rw [List.replicate_succ]
      show (if (0 : UInt8) = 0 then decP n (List.replicate z 0) else _) = _
      rw [if_pos rfl, ih z]
theorem decP_flat (z : Nat) (l : List Fr) : ∀ n, (∀ f ∈ l, okF f) → (l.flatMap encF).length ≤ n → decP n (l.flatMap encF ++ List.replicate z 0) = some l := by
  induction l with
  | nil => intro n _ _; exact decP_zeros n z
  | cons f l ih =>
    intro n hok hn
    obtain ⟨b, t, he, hb⟩ := encF_head f (hok f (by simp))
    have hd := decF_enc f (hok f (by simp)) (l.flatMap encF ++ List.replicate z 0)
    rw [List.flatMap_cons, List.length_append] at hn
    rw [List.flatMap_cons, List.append_assoc]
    have hl : (encF f).length = t.length + 1 := by rw [he]; rfl
    obtain ⟨m, rfl⟩ : ∃ m, n = m + 1 := ⟨n - 1, by omega⟩
    have hdr : (encF f ++ (l.flatMap encF ++ List.replicate z 0)).drop (encF f).length = l.flatMap encF ++ List.replicate z 0 := List.drop_left
    rw [he] at hd hdr ⊢
    show (if b = 0 then _ else match decF (b :: (t ++ (l.flatMap encF ++ List.replicate z 0))) with | none => none | some (f, k) => (decP m ((b :: (t ++ (l.flatMap encF ++ List.replicate z 0))).drop k)).map fun l => f :: l) = _
    rw [if_neg hb]
    rw [List.cons_append] at hd hdr
    rw [hd]
    simp only
    rw [hdr, ih m (fun g hg => hok g (by simp [hg])) (by omega)]
    rfl
/-- .. with padding ahead as well. -/
theorem decP_pad (l : List Fr) (z n : Nat) (hok : ∀ f ∈ l, okF f) (hn : (l.flatMap encF).length + 1 ≤ n) : decP n (0 :: (l.flatMap encF ++ List.replicate z 0)) = some l := by
  obtain ⟨m, rfl⟩ : ∃ m, n = m + 1 := ⟨n - 1, by omega⟩
  show (if (0 : UInt8) = 0 then decP m _ else _) = _
  rw [if_pos rfl]
  exact decP_flat z l m hok (by omega)
theorem encP_some {l : List Fr} (h : encP l ≠ []) : (∀ f ∈ l, okF f) ∧ (l.flatMap encF).length ≤ 400 ∧ encP l = l.flatMap encF ∧ 1 ≤ (l.flatMap encF).length := by
  unfold encP at h ⊢
  split at h
  · rename_i hh
    rw [if_pos hh]
    refine ⟨hh.1, hh.2, rfl, ?_⟩
    cases hl : l.flatMap encF with
    | nil => exact absurd hl h
    | cons x y => simp
  · exact absurd rfl h
/-- What a payload's bytes are read as. -/
theorem decP_encP (l : List Fr) (h : encP l ≠ []) (n : Nat) (hn : (encP l).length ≤ n) : decP n (encP l) = some l := by
  obtain ⟨h1, _, h3, _⟩ := encP_some h
  rw [h3] at hn ⊢
  have := decP_flat 0 l n h1 hn
  simpa using this
/-- A frame that is read is a frame. -/
theorem decF_ok {l : List UInt8} {f : Fr} {k : Nat} (h : decF l = some (f, k)) : okF f := by
  have hchk : ∀ (g : Fr) (n : Nat), chkF g n = some (f, k) → okF f := fun g n hh => by
    unfold chkF at hh
    split at hh
    · rename_i hg
      simp at hh
      rw [← hh.1]
      exact hg
    · simp at hh
  cases l with
  | nil => simp [decF] at h
  | cons b t =>
    rw [decF_cons] at h
    split at h
    · simp at h
    · split at h
      · cases hd : decS b.toNat t with
        | none => rw [hd] at h; simp at h
        | some x =>
          obtain ⟨g, m⟩ := x
          rw [hd] at h
          simp at h
          obtain ⟨rfl, _⟩ := h
          unfold decS at hd
          split at hd
          · simp at hd
          · split at hd
            · split at hd
              · simp at hd
              · split at hd
                · unfold chkF at hd
                  split at hd
                  · rename_i hg; simp at hd; rw [← hd.1]; exact hg
                  · simp at hd
                · simp at hd
            · unfold chkF at hd
              split at hd
              · rename_i hg; simp at hd; rw [← hd.1]; exact hg
              · simp at hd
      · split at h
        · simp at h
        · exact hchk _ _ h
end Go.Proofs.YtjbppociogoopaaDoor.Num
