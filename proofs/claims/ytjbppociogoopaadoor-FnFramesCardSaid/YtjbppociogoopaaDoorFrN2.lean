/-
  Plain facts about reading a number of numbers, one after another. No program is imported.
-/
import Derived.Test.YtjbppociogoopaaDoorFrN
namespace Go.Proofs.YtjbppociogoopaaDoor.Num

/-- So many numbers have been read, and the rest of them makes up the whole. -/
def RdP (L : List UInt8) (n j : Nat) (acc : List Int) (k : Nat) : Prop :=
  acc.length = j ∧ k ≤ L.length ∧ readN n L = (readN (n - j) (L.drop k)).map fun p => (acc ++ p.1, k + p.2)
theorem RdP.start (L : List UInt8) (n : Nat) : RdP L n 0 [] 0 := by
  refine ⟨rfl, Nat.zero_le _, ?_⟩
  simp only [Nat.sub_zero, List.drop_zero, List.nil_append, Nat.zero_add]
  cases readN n L <;> rfl
theorem RdP.step {L : List UInt8} {n j k x c : Nat} {acc : List Int} (h : RdP L n j acc k) (hj : j < n) (hd : decL (L.drop k) = some (x, c)) : RdP L n (j + 1) (acc ++ [(x : Int)]) (k + c) := by
  obtain ⟨h1, h2, h3⟩ := h
  have hc := decL_some hd
  rw [List.length_drop] at hc
  refine ⟨by simp [h1], by omega, ?_⟩
  rw [h3, show n - j = (n - (j + 1)) + 1 by omega]
  conv => lhs; unfold readN
  rw [hd]
  simp only [List.drop_drop]
  cases readN (n - (j + 1)) (L.drop (k + c)) with
  | none => rfl
  | some p => simp [Nat.add_assoc]
theorem RdP.bad {L : List UInt8} {n j k : Nat} {acc : List Int} (h : RdP L n j acc k) (hj : j < n) (hd : decL (L.drop k) = none) : readN n L = none := by
  obtain ⟨h1, h2, h3⟩ := h
  rw [h3, show n - j = (n - (j + 1)) + 1 by omega]
  unfold readN
  rw [hd]
  rfl
theorem RdP.done {L : List UInt8} {n k : Nat} {acc : List Int} (h : RdP L n n acc k) : readN n L = some (acc, k) := by
  obtain ⟨h1, h2, h3⟩ := h
  rw [h3, Nat.sub_self]
  simp [readN]
theorem chkF_some {f : Fr} (n : Nat) (h : okF f) : chkF f n = some (f, n) := by unfold chkF; rw [if_pos h]
theorem chkF_none {f : Fr} (n : Nat) (h : ¬ okF f) : chkF f n = none := by unfold chkF; rw [if_neg h]
theorem decS_none {c : Nat} {t : List UInt8} (h : readN (if c / 4 % 2 = 1 then 2 else 1) t = none) : decS c t = none := by unfold decS; rw [h]
theorem decS_bad {c : Nat} {t : List UInt8} {l : List Int} {m : Nat} (h : readN (if c / 4 % 2 = 1 then 2 else 1) t = some (l, m)) (h2 : c / 2 % 2 = 1) (hd : decL (t.drop m) = none) : decS c t = none := by
  unfold decS; rw [h]; simp only; rw [if_pos h2, hd]
theorem decS_long {c : Nat} {t : List UInt8} {l : List Int} {m x k : Nat} (h : readN (if c / 4 % 2 = 1 then 2 else 1) t = some (l, m)) (h2 : c / 2 % 2 = 1) (hd : decL (t.drop m) = some (x, k)) (hx : ¬ x ≤ t.length - (m + k)) : decS c t = none := by
  unfold decS; rw [h]; simp only; rw [if_pos h2, hd]; simp only; rw [if_neg hx]
theorem decS_len {c : Nat} {t : List UInt8} {l : List Int} {m x k : Nat} (h : readN (if c / 4 % 2 = 1 then 2 else 1) t = some (l, m)) (h2 : c / 2 % 2 = 1) (hd : decL (t.drop m) = some (x, k)) (hx : x ≤ t.length - (m + k)) : decS c t = chkF (sFr c l ((t.drop (m + k)).take x)) (m + k + x) := by
  unfold decS; rw [h]; simp only; rw [if_pos h2, hd]; simp only; rw [if_pos hx]
theorem decS_open {c : Nat} {t : List UInt8} {l : List Int} {m : Nat} (h : readN (if c / 4 % 2 = 1 then 2 else 1) t = some (l, m)) (h2 : ¬ c / 2 % 2 = 1) : decS c t = chkF (sFr c l (t.drop m)) t.length := by
  unfold decS; rw [h]; simp only; rw [if_neg h2]
theorem decF_cons (b : UInt8) (t : List UInt8) : decF (b :: t) = if 23 < b.toNat then none else if 8 ≤ b.toNat ∧ b.toNat < 16 then (decS b.toNat t).map fun x => (x.1, x.2 + 1) else match readN (cntK b.toNat) t with | none => none | some (l, m) => chkF (nFr b.toNat l) (m + 1) := rfl
theorem decF_big {b : UInt8} {t : List UInt8} (h : 23 < b.toNat) : decF (b :: t) = none := by rw [decF_cons, if_pos h]
theorem decF_stream {b : UInt8} {t : List UInt8} (h0 : 8 ≤ b.toNat) (h1 : b.toNat < 16) : decF (b :: t) = (decS b.toNat t).map fun x => (x.1, x.2 + 1) := by
  rw [decF_cons, if_neg (by omega), if_pos ⟨h0, h1⟩]
theorem decF_bad {b : UInt8} {t : List UInt8} (h : ¬ 23 < b.toNat) (h0 : ¬ (8 ≤ b.toNat ∧ b.toNat < 16)) (hr : readN (cntK b.toNat) t = none) : decF (b :: t) = none := by
  rw [decF_cons, if_neg h, if_neg h0, hr]
theorem decF_num {b : UInt8} {t : List UInt8} {l : List Int} {m : Nat} (h : ¬ 23 < b.toNat) (h0 : ¬ (8 ≤ b.toNat ∧ b.toNat < 16)) (hr : readN (cntK b.toNat) t = some (l, m)) : decF (b :: t) = chkF (nFr b.toNat l) (m + 1) := by
  rw [decF_cons, if_neg h, if_neg h0, hr]
end Go.Proofs.YtjbppociogoopaaDoor.Num
