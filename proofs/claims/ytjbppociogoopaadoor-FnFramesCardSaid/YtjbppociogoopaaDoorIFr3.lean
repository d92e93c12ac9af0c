/-
  A map from the fields of a frame to whether each is set: what stands in it while fields are struck. No program is imported but for the laws of maps.
-/
import Derived.Test.YtjbppociogoopaaDoorFrI
import Derived.Maps.RangeWalk
import Derived.WalkKit
namespace Go.Proofs.YtjbppociogoopaaDoor
open Go.RowKit Go.Maps Go.Proofs.YtjbppociogoopaaDoor.Num

section
variable {H : Type}

/-- An element is laid into a map by a literal: as by an assignment. -/
theorem wpList_insert_own {P : Program} (w : World) {ops : Array Oper} {rest : List Oper} {o : Oper} {a : Act} {Q : Exit → Act → World → Prop}
    (hg : o.guard = none) (m x v : Operand) (t : TypeId) (hop : o.op = Op.insert t m x v)
    (k e : TypeId) (K : Keyed P k) (ht : P.underlying t = some (.map k e)) (R : Value → Option (DataW H × List MemPlace)) (b n : Nat) (D : DataW H)
    (hm : a.eval m = .map (some b)) (hown : w.ownsMap P k R b n D) (hn : n < maxLen) (key val : Value) (kl : Lit) (hx : a.eval x = key) (hv : a.eval v = val) (hkey : keyOf P k key = some kl)
    (d : DataW H) (ps : List MemPlace) (hval : R val = some (d, ps))
    (hK : ∀ w', w'.ownsMap P k R b (n + 1) (D.put kl d) → w.grownBy w' (some b) → wpList P ops Q rest (a.put o.dst undef) w') :
    wpList P ops Q (o :: rest) a w := by
  refine wpList_plain hg fun K' hK' => ?_
  obtain ⟨w', hrun, r1, r2⟩ := hown.update K ht hn hkey hval
  unfold Oper.wp
  simp [execOp, hop, hm, hx, hv, hrun, Result.andThen]
  exact hK' _ _ (hK w' r1 r2)

/-- A field's key, and whether it is set, as they stand in a map. -/
abbrev kF (i : Int) : Lit := .int .i64 i
abbrev bF (b : Bool) : DataW H := .lit (.bool b)
theorem kF_wf (i : Int) (h0 : 0 ≤ i) (h7 : i ≤ 7) : (Lit.int .i64 i).wf = true := by
  have : i = 0 ∨ i = 1 ∨ i = 2 ∨ i = 3 ∨ i = 4 ∨ i = 5 ∨ i = 6 ∨ i = 7 := by omega
  rcases this with rfl | rfl | rfl | rfl | rfl | rfl | rfl | rfl <;> decide

/-- The first n fields stand in the map. -/
def Laid (D : DataW H) (f : Fr) (n : Nat) : Prop :=
  IsMap D ∧ (∀ kl, has D kl = true → ∃ i : Nat, i < n ∧ kl = kF i) ∧ ∀ i : Nat, i < n → has D (kF i) = true ∧ ∀ z, D.atKey (kF i) z = bF (setK f i)
theorem Laid.start (f : Fr) : Laid (H := H) (.map []) f 0 := ⟨isMap_empty, fun kl h => absurd h (by simp [has]), fun i h => absurd h (by omega)⟩
theorem Laid.put {D : DataW H} {f : Fr} {n : Nat} (h : Laid D f n) (hk : WideAt.IsKeyLit (kF n)) : Laid (D.put (kF n) (bF (setK f n))) f (n + 1) := by
  obtain ⟨h1, h2, h3⟩ := h
  refine ⟨h1.put _ _, fun kl hl => ?_, fun i hi => ?_⟩
  · by_cases e : kl = kF n
    · exact ⟨n, by omega, e⟩
    · rw [has_put_other e] at hl
      obtain ⟨i, hi, e⟩ := h2 kl hl
      exact ⟨i, by omega, e⟩
  · by_cases e : i = n
    · subst e
      exact ⟨has_put_same h1 hk _, fun z => atKey_put_same h1 hk _ z⟩
    · have hne : kF (i : Int) ≠ kF n := fun h => e (by injection h with _ h; omega)
      rw [has_put_other hne]
      refine ⟨(h3 i (by omega)).1, fun z => ?_⟩
      rw [atKey_put_other hne]
      exact (h3 i (by omega)).2 z

/-- Those of the eight fields stand in the map that haven't been struck. -/
def Kept (D : DataW H) (f : Fr) (gone : List Int) : Prop :=
  (∀ kl, has D kl = true → ∃ i : Int, 0 ≤ i ∧ i ≤ 7 ∧ kl = kF i ∧ gone.contains i = false ∧ ∀ z, D.atKey kl z = bF (setK f i)) ∧ ∀ i : Int, 0 ≤ i → i ≤ 7 → gone.contains i = false → has D (kF i) = true
theorem Laid.kept {D : DataW H} {f : Fr} (h : Laid D f 8) : Kept D f [] := by
  obtain ⟨h1, h2, h3⟩ := h
  refine ⟨fun kl hl => ?_, fun i h0 h7 _ => ?_⟩
  · obtain ⟨i, hi, rfl⟩ := h2 kl hl
    exact ⟨i, by omega, by omega, rfl, rfl, (h3 i hi).2⟩
  · have := (h3 i.toNat (by omega)).1
    rwa [Int.toNat_of_nonneg h0] at this
theorem Kept.del {D : DataW H} {f : Fr} {gone : List Int} (h : Kept D f gone) (j : Int) : Kept (D.del (kF j)) f (gone ++ [j]) := by
  obtain ⟨h1, h2⟩ := h
  refine ⟨fun kl hl => ?_, fun i h0 h7 hn => ?_⟩
  · by_cases e : kl = kF j
    · subst e
      rw [has_del_same] at hl
      cases hl
    · rw [has_del_other e] at hl
      obtain ⟨i, a1, a2, rfl, a4, a5⟩ := h1 kl hl
      refine ⟨i, a1, a2, rfl, ?_, fun z => ?_⟩
      · have : i ≠ j := fun h => e (by rw [h])
        simp only [List.contains_eq_mem, List.mem_append, List.mem_singleton, decide_eq_false_iff_not, not_or] at a4 ⊢
        exact ⟨a4, this⟩
      · rw [atKey_del_other e]
        exact a5 z
  · simp only [List.contains_eq_mem, List.mem_append, List.mem_singleton, decide_eq_false_iff_not, not_or] at hn
    rw [has_del_other (fun h => hn.2 (by injection h))]
    exact h2 i h0 h7 (by simp [hn.1])
/-- All that has been seen is not set. -/
def Unset (D : DataW H) (left : Lit → Bool) : Prop := ∀ kl, has D kl = true → left kl = false → ∀ z, D.atKey kl z = bF false
theorem Unset.start (D : DataW H) : Unset D (has D) := fun kl h1 h2 => by rw [h1] at h2; cases h2
theorem Unset.next {D : DataW H} {left : Lit → Bool} (h : Unset D left) {kl : Lit} (hat : ∀ z, D.atKey kl z = bF false) : Unset D fun z => left z && !z.sameKey kl := fun k' hk hl z => by
  by_cases e : k'.sameKey kl = true
  · rw [WideAt.sameKey_eq e]
    exact hat z
  · refine h k' hk ?_ z
    simp only [Bool.and_eq_false_iff, Bool.not_eq_false'] at hl
    rcases hl with hl | hl
    · exact hl
    · exact absurd hl e
theorem Kept.hit {D : DataW H} {f : Fr} (h : Kept D f (fieldsK f.kind)) {kl : Lit} (hat : ∀ z, D.atKey kl z = bF true) : unK f = true := by
  obtain ⟨i, h0, h7, rfl, hn, hv⟩ := h.1 kl (has_true_of_atKey hat)
  refine unK_hit f i h0 h7 hn ?_
  have := (hv .nil).symm.trans (hat .nil)
  simpa [bF] using this
theorem Kept.miss {D : DataW H} {f : Fr} (h : Kept D f (fieldsK f.kind)) {left : Lit → Bool} (hu : Unset D left) (hl : ∀ kl, left kl = false) : unK f = false := by
  refine unK_miss f fun i h0 h7 hn => ?_
  have hh := h.2 i h0 h7 hn
  obtain ⟨j, _, _, e, _, hv⟩ := h.1 _ hh
  have e1 : i = j := by injection e
  subst e1
  have := (hv .nil).symm.trans (hu _ hh (hl _) .nil)
  simpa [bF] using this
end
/-- What reads as a bool is one. -/
theorem plain_bool_inv {H : Type} {P : Program} {e : TypeId} (he : P.underlying e = some .bool) {v : Value} {z : DataW H × List MemPlace} (h : plainElem P e v = some z) : ∃ c, v = .bool c ∧ z = (.lit (.bool c), []) := by
  unfold plainElem at h
  rw [he] at h
  cases v <;> simp at h
  exact ⟨_, rfl, h.symm⟩
end Go.Proofs.YtjbppociogoopaaDoor
