/-
  Plain facts about impl's store: a row of 64 cells, of which the first are the ring's. No program is imported.
-/
import Derived.Test.YtkhekbfakloaoaaRingN
namespace Go.Proofs.Ytkhekbfakloaoaa.Num

/-- The store's 64 cells. -/
def padR (cs : List Int) : List Int := cs ++ List.replicate (64 - cs.length) 0
theorem padR_len {cs : List Int} (h : cs.length ≤ 64) : (padR cs).length = 64 := by unfold padR; simp; omega
theorem putR_app {sz e : Int} (d : ByteArray) {cs : List Int} (zs : List Int) (hs : 1 ≤ sz) (hl : (cs.length : Int) = sz) (k : Nat) : putR sz e d (cs ++ zs) k = putR sz e d cs k ++ zs := by
  induction k with
  | zero => rfl
  | succ k ih =>
    have h1 := (atR_lt hs (e + k)).1
    have h2 := putR_len sz e d cs k
    show (putR sz e d (cs ++ zs) k).set _ _ = (putR sz e d cs k).set _ _ ++ zs
    rw [ih, List.set_append_left _ _ (by omega)]
theorem zerR_app {sz e : Int} {cs : List Int} (zs : List Int) (hs : 1 ≤ sz) (hl : (cs.length : Int) = sz) (k : Nat) : zerR sz e (cs ++ zs) k = zerR sz e cs k ++ zs := by
  induction k with
  | zero => rfl
  | succ k ih =>
    have h1 := (atR_lt hs (e + k)).1
    have h2 := zerR_len sz e cs k
    show (zerR sz e (cs ++ zs) k).set _ _ = (zerR sz e cs k).set _ _ ++ zs
    rw [ih, List.set_append_left _ _ (by omega)]
theorem putR_pad {sz e : Int} (d : ByteArray) {cs : List Int} (hs : 1 ≤ sz) (hl : (cs.length : Int) = sz) (k : Nat) : (putR sz e d (padR cs) k).take cs.length = putR sz e d cs k := by
  have h2 := putR_len sz e d cs k
  unfold padR
  rw [putR_app d _ hs hl k, List.take_append_of_le_length (by omega), List.take_of_length_le (by omega)]
theorem zerR_pad {sz e : Int} {cs : List Int} (hs : 1 ≤ sz) (hl : (cs.length : Int) = sz) (k : Nat) : (zerR sz e (padR cs) k).take cs.length = zerR sz e cs k := by
  have h2 := zerR_len sz e cs k
  unfold padR
  rw [zerR_app _ hs hl k, List.take_append_of_le_length (by omega), List.take_of_length_le (by omega)]
theorem padR_at {cs : List Int} (k : Nat) (hk : k < cs.length) : (padR cs).getD k 0 = cs.getD k 0 := by
  unfold padR
  simp [List.getD_eq_getElem?_getD, List.getElem?_append_left hk]
theorem peekL_pad {sz o : Int} {cs : List Int} (hs : 1 ≤ sz) (hl : (cs.length : Int) = sz) (k : Nat) : peekL sz o (padR cs) k = peekL sz o cs k :=
  peekL_congr k fun j _ => padR_at _ (by have := (atR_lt hs (o + j)).1; omega)
end Go.Proofs.Ytkhekbfakloaoaa.Num
