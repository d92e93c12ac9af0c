/-
  Plain facts about the receiving side: a receiver's states, data, resets, reads. No program is imported.
-/
import Derived.Test.YtmmoedhfeaokgaaBufN
namespace Go.Proofs.Ytmmoedhfeaokgaa.Num

/-- A receiver. -/
structure Rc where
  st : Int
  buf : Bf
  fin : Int
  hi : Int
  code : Int
def fullRc (r : Rc) : Prop := r.fin ≠ -1 ∧ r.buf.next + (rdyB r.buf : Int) = r.fin
instance (r : Rc) : Decidable (fullRc r) := by unfold fullRc; infer_instance
def headRc (r : Rc) : Prop := okB r.buf ∧ (0 ≤ r.hi ∧ r.hi ≤ 4611686018427387903) ∧ endB r.buf ≤ r.hi ∧ (0 ≤ r.code ∧ r.code ≤ 4611686018427387903) ∧ ¬ (r.fin ≠ -1 ∧ r.fin < r.hi) ∧ r.fin ≤ 4611686018427387903 ∧ -1 ≤ r.fin
instance (r : Rc) : Decidable (headRc r) := by unfold headRc; infer_instance
def stRc (r : Rc) : Prop := (r.st = 0 ∧ r.fin = -1 ∧ r.code = 0) ∨ (r.st = 1 ∧ r.fin ≠ -1 ∧ ¬ fullRc r ∧ r.code = 0) ∨ (r.st = 2 ∧ fullRc r ∧ r.code = 0) ∨ (r.st = 3 ∧ fullRc r ∧ r.buf.chs = [] ∧ r.code = 0) ∨ ((r.st = 4 ∨ r.st = 5) ∧ r.fin ≠ -1 ∧ r.hi = r.fin ∧ r.buf.chs = [])
instance (r : Rc) : Decidable (stRc r) := by unfold stRc; infer_instance
/-- The receiver is valid. -/
def okRc (r : Rc) : Prop := headRc r ∧ stRc r
instance (r : Rc) : Decidable (okRc r) := by unfold okRc; infer_instance
def newRc (r : Rc) (e : Int) : Int := if okRc r ∧ 0 ≤ e ∧ e ≤ 4611686018427387903 then max 0 (e - r.hi) else 0
/-- An end of data, or a final size, contradicts what is known. -/
def badRc (r : Rc) (e : Int) (f : Bool) : Prop := (r.fin ≠ -1 ∧ (r.fin < e ∨ (f = true ∧ e ≠ r.fin))) ∨ (f = true ∧ e < r.hi)
instance (r : Rc) (e : Int) (f : Bool) : Decidable (badRc r e f) := by unfold badRc; infer_instance
def fillRc (x : Rc) : Rc := if fullRc x then ⟨2, x.buf, x.fin, x.hi, x.code⟩ else x
theorem fillRc_buf (x : Rc) : (fillRc x).buf = x.buf := by
  unfold fillRc
  split <;> rfl
def datRc (r : Rc) (o : Int) (d : ByteArray) (f : Bool) : Rc := fillRc ⟨if f = true then 1 else r.st, insB r.buf o d, if f = true then o + d.size else r.fin, max r.hi (o + d.size), r.code⟩
def rcvRc (r : Rc) (o : Int) (d : ByteArray) (f : Bool) : Rc × Int :=
  if ¬ (okRc r ∧ 0 ≤ o ∧ o ≤ 4611686018427387903 - d.size) then (r, 7)
  else if badRc r (o + d.size) f then (r, 6)
  else if 1 < r.st then (r, 0)
  else (datRc r o d f, 0)
def rstRc (r : Rc) (c fn : Int) : Rc × Int :=
  if ¬ (okRc r ∧ (0 ≤ c ∧ c ≤ 4611686018427387903) ∧ 0 ≤ fn ∧ fn ≤ 4611686018427387903) then (r, 7)
  else if badRc r fn true then (r, 6)
  else if 1 < r.st then (r, 0)
  else (⟨4, ⟨r.buf.next, []⟩, fn, fn, c⟩, 0)
def readRc (r : Rc) (m : Int) : ByteArray × Rc :=
  if ¬ okRc r then (⟨#[]⟩, r)
  else if r.st = 4 then (⟨#[]⟩, ⟨5, r.buf, r.fin, r.hi, r.code⟩)
  else (headT r.buf (cntT r.buf m), ⟨if r.st = 2 ∧ (dropT r.buf (cntT r.buf m)).next = r.fin then 3 else r.st, dropT r.buf (cntT r.buf m), r.fin, r.hi, r.code⟩)
def gotRc (r : Rc) : Prop := okRc r ∧ (r.st = 3 ∨ r.st = 5)
instance (r : Rc) : Decidable (gotRc r) := by unfold gotRc; infer_instance
/-- All fields are equal. -/
def sameRc (r s : Rc) : Prop := r.st = s.st ∧ (r.buf.next = s.buf.next ∧ r.buf.chs = s.buf.chs) ∧ r.fin = s.fin ∧ r.hi = s.hi ∧ r.code = s.code
instance (r s : Rc) : Decidable (sameRc r s) := by unfold sameRc; infer_instance
/-- A new receiver. -/
def nuRc : Rc := ⟨0, ⟨0, []⟩, -1, 0, 0⟩
/-- All numbers fit an int. -/
def inRc (r : Rc) : Prop := (-9223372036854775808 ≤ r.st ∧ r.st ≤ 9223372036854775807) ∧ (-9223372036854775808 ≤ r.buf.next ∧ r.buf.next ≤ 9223372036854775807) ∧ (-9223372036854775808 ≤ r.fin ∧ r.fin ≤ 9223372036854775807) ∧ (-9223372036854775808 ≤ r.hi ∧ r.hi ≤ 9223372036854775807) ∧ (-9223372036854775808 ≤ r.code ∧ r.code ≤ 9223372036854775807)
theorem rcvRc_len (r : Rc) (o : Int) (d : ByteArray) (f : Bool) : (rcvRc r o d f).1.buf.chs.length ≤ r.buf.chs.length + 1 := by
  have h := insB_len2 r.buf o d
  unfold rcvRc
  split
  · exact Nat.le_succ _
  · split
    · exact Nat.le_succ _
    · split
      · exact Nat.le_succ _
      · show (datRc r o d f).buf.chs.length ≤ _
        rw [show (datRc r o d f).buf = insB r.buf o d from fillRc_buf _]
        exact h
theorem rstRc_len (r : Rc) (c fn : Int) : (rstRc r c fn).1.buf.chs.length ≤ r.buf.chs.length := by
  unfold rstRc
  split
  · exact Nat.le_refl _
  · split
    · exact Nat.le_refl _
    · split
      · exact Nat.le_refl _
      · exact Nat.zero_le _
theorem readRc_len (r : Rc) (m : Int) : (readRc r m).2.buf.chs.length ≤ r.buf.chs.length := by
  have h := dropT_len2 r.buf (cntT r.buf m)
  unfold readRc
  split
  · exact Nat.le_refl _
  · split
    · exact Nat.le_refl _
    · exact h
/-- The bytes that are ready end at the end or before. -/
theorem rdyB_le {b : Bf} (h : okB b) : b.next + (rdyB b : Int) ≤ endB b := by
  by_cases h0 : rdyB b = 0
  · rw [h0]; have := endB_ge h; omega
  · obtain ⟨_, c, l, hl, hn, hs⟩ := rdyB_pos h0
    have := endB_max h c (by rw [hl]; exact List.mem_cons_self ..)
    omega
end Go.Proofs.Ytmmoedhfeaokgaa.Num
