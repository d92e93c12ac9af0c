/-
  DecodeQuic, IsShortest and DecodeQuics of both sides at any input: one result each; and at the bytes that EncodeQuic made.
-/
import Derived.Test.YthigojonagocgaaDoorIShort
import Derived.Test.YthigojonagocgaaDoorSShort
import Derived.Test.YthigojonagocgaaDoorLDecQs
namespace Go.Proofs.YthigojonagocgaaDoor
open Go.RowKit Go.Deep Go.Proofs.YthigojonagocgaaDoor.Num

theorem form_or (s : ByteArray) (a : Int) : (a < 0 ∨ decL (s.data.toList.drop a.toNat) = none) ∨ ∃ m n k : Nat, a = (m : Int) ∧ decL (s.data.toList.drop m) = some (n, k) := by
  by_cases h0 : a < 0
  · exact .inl (.inl h0)
  · obtain ⟨m, rfl⟩ := Int.eq_ofNat_of_zero_le (by omega : 0 ≤ a)
    cases hq : decL (s.data.toList.drop m) with
    | none => exact .inl (.inr (by rw [Int.toNat_natCast]; exact hq))
    | some x => exact .inr ⟨m, x.1, x.2, rfl, hq⟩

/-- What DecodeQuic returns. -/
def DecRes (n p : Nat) (b : Bool) (e : Ending) : Prop := e = .returned (.tuple #[.int .i64 n, .int .i64 p, .bool b])
theorem dec_both (s : ByteArray) (a : Int) (hs : s.size ≤ maxLen) : ∃ (n p : Nat) (b : Bool), (b = true → 0 ≤ a ∧ (qsz (n : Int) : Int) ≤ (p : Int) - a ∧ p ≤ s.size) ∧
    (∀ w, Calls Tryd.prog 18 #[.string s, .int .i64 a] w fun e w' => DecRes n p b e ∧ w = w') ∧
    (∀ w, Forms w → Calls Tryd.prog 13 #[.string s, .int .i64 a] w fun e w' => DecRes n p b e ∧ Below w.heap.size w w') := by
  rcases form_or s a with h | ⟨m, n, k, rfl, h⟩
  · exact ⟨0, 0, false, fun hb => by (cases hb), fun w => sdecq_no s a w hs h, fun w hF => idecq_no s a w hF hs h⟩
  · refine ⟨n, m + k, true, fun _ => ?_, fun w => sdecq_yes s m n k w hs h, fun w hF => idecq_yes s m n k w hF hs h⟩
    have h3 : s.data.toList.length = s.size := by simp
    have hk := decL_some h
    rw [List.length_drop, h3] at hk
    omega
theorem short_both (s : ByteArray) (a : Int) (hs : s.size ≤ maxLen) : ∃ b : Bool,
    (∀ w, Calls Tryd.prog 27 #[.string s, .int .i64 a] w fun e w' => e = .returned (.bool b) ∧ w = w') ∧
    (∀ w, Forms w → Calls Tryd.prog 16 #[.string s, .int .i64 a] w fun e w' => e = .returned (.bool b) ∧ Below w.heap.size w w') := by
  rcases form_or s a with h | ⟨m, n, k, rfl, h⟩
  · exact ⟨false, fun w => sshort_no s a w hs h, fun w hF => ishort_no s a w hF hs h⟩
  · exact ⟨_, fun w => sshort_yes s m n k w hs h, fun w hF => ishort_yes s m n k w hF hs h⟩

/-- The bytes that EncodeQuic made of n, decoded. -/
theorem dec_own (n : Int) : ∃ (m p : Nat) (b : Bool), ((b = true ∧ 0 ≤ n ∧ n ≤ 4611686018427387903 ∧ (m : Int) = n ∧ p = (encQ n).length) ∨ (b = false ∧ (n < 0 ∨ 4611686018427387903 < n))) ∧
    (∀ w, Forms w → Calls Tryd.prog 13 #[.string ⟨(encQ n).toArray⟩, .int .i64 0] w fun e w' => DecRes m p b e ∧ Below w.heap.size w w') ∧
    (b = true → ∀ w, Forms w → Calls Tryd.prog 16 #[.string ⟨(encQ n).toArray⟩, .int .i64 0] w fun e w' => e = .returned (.bool true) ∧ Below w.heap.size w w') := by
  have hl := encQ_len n
  have h8 : qsz n ≤ 8 := by rcases qsz_cases n with h | h | h | h | h <;> omega
  have hsz : (⟨(encQ n).toArray⟩ : ByteArray).size = (encQ n).length := by simp [ByteArray.size]
  have hmx : (⟨(encQ n).toArray⟩ : ByteArray).size ≤ maxLen := by rw [hsz]; unfold maxLen; omega
  have hz := qsz_zero n
  by_cases h0 : qsz n = 0
  · refine ⟨0, 0, false, .inr ⟨rfl, hz.1 h0⟩, fun w hF => ?_, fun hb => by cases hb⟩
    refine idecq_no _ 0 w hF hmx (.inr ?_)
    rw [encQ_nil n h0]
    rfl
  · have hd : decL ((⟨(encQ n).toArray⟩ : ByteArray).data.toList.drop 0) = some (n.toNat, qsz n) := by
      have := decq_enc n [] h0
      rw [List.append_nil] at this
      simpa using this
    have hn : (n.toNat : Int) = n := by omega
    refine ⟨n.toNat, qsz n, true, .inl ⟨rfl, by omega, by omega, hn, hl.symm⟩, fun w hF => ?_, fun _ w hF => ?_⟩
    · have h := idecq_yes ⟨(encQ n).toArray⟩ 0 n.toNat (qsz n) w hF hmx hd
      rw [Nat.zero_add] at h
      exact h
    · have h := ishort_yes ⟨(encQ n).toArray⟩ 0 n.toNat (qsz n) w hF hmx hd
      rw [hn, show (qsz n == qsz n) = true from beq_self_eq_true _] at h
      exact h

/-- The bytes that EncodeQuics made of a list, decoded. -/
theorem decs_own (zs : List Int) (hz : zs.length ≤ 4) (w : World) (hF : Forms w) :
    Calls Tryd.prog 21 #[.string ⟨(encQs zs).toArray⟩] w fun e w' => ∃ A cap ys, e = .returned (.tuple #[.slice A ys.length cap, .bool true]) ∧ (encQs zs = [] ∨ ys = zs) ∧ Ints w' w'.heap.size A ys ∧ Below w.heap.size w w' := by
  have hl := encQs_len zs
  have hsz : (⟨(encQs zs).toArray⟩ : ByteArray).size = (encQs zs).length := by simp [ByteArray.size]
  refine (idecqs ⟨(encQs zs).toArray⟩ w hF (by rw [hsz]; omega)).mono fun e w' h => ?_
  have hlist : (⟨(encQs zs).toArray⟩ : ByteArray).data.toList = encQs zs := by simp
  rw [hlist] at h
  have hd := decQs_encQs zs (encQs zs).length (Nat.le_refl _)
  rcases h with ⟨v, ys, a1, a2, rfl, a4, a5⟩ | ⟨v, a1, _⟩
  · obtain ⟨A, cap, rfl, _, hi⟩ := a4.ints
    refine ⟨A, cap, ys, rfl, ?_, hi, a5⟩
    rcases hd with ⟨h0, _⟩ | h1
    · exact .inl h0
    · exact .inr (Option.some.inj (a1.symm.trans h1))
  · rcases hd with ⟨_, h1⟩ | h1
    · rw [a1] at h1; cases h1
    · rw [a1] at h1; cases h1
/-- What DecodeQuics of both sides says of one string. -/
theorem decs_both (s : ByteArray) (hs : s.size ≤ 1048576) : ∃ b : Bool,
    (∀ w, Calls Tryd.prog 24 #[.string s] w fun e w' => (∃ v, e = .returned (.tuple #[v, .bool b])) ∧ Below w.heap.size w w') ∧
    (∀ w, Forms w → Calls Tryd.prog 21 #[.string s] w fun e w' => (∃ v, e = .returned (.tuple #[v, .bool b])) ∧ Below w.heap.size w w') := by
  obtain ⟨zs, b, h⟩ := listP_one s.data.toList
  refine ⟨b, fun w => (sdecqs s w hs).mono fun e w' hp => ?_, fun w hF => (idecqs s w hF hs).mono fun e w' hp => ?_⟩
  · obtain ⟨A, c, _, rfl, _, _, hb⟩ := h _ _ _ hp
    exact ⟨⟨_, rfl⟩, hb⟩
  · obtain ⟨A, c, _, rfl, _, _, hb⟩ := h _ _ _ hp
    exact ⟨⟨_, rfl⟩, hb⟩
end Go.Proofs.YthigojonagocgaaDoor
