/-
  Small words for the walks of this seat, where no slice of bytes is wanted.
-/
import Derived.Test.YtdaoaedkjoknmaaRows
import Derived.Test.YtdaoaedkjoknmaaNum
import Derived.WalkKit
import Derived.WalkSpells
import Derived.WalkLawsBesides
import Derived.ProofKit
import Derived.Below
import Derived.IntWalk
import Derived.Lib.Hide
import Derived.Laws.IdiomStrings
import Derived.Laws.Concat
import Derived.Deep.OwnRows
import Derived.Laws.Bits128
import Derived.Laws.BitsAllLaws
namespace Go.Proofs.Ytdaoaedkjoknmaa
open Go.RowKit Go.Deep

theorem ret_int {k : IntKind} {a b : Int} (h : a = b) : Ending.returned (.int k a) = .returned (.int k b) := by rw [h]
theorem take_snoc (s : ByteArray) (k : Nat) (h : k < s.size) : s.data.toList.take (k + 1) = s.data.toList.take k ++ [s[k]] := by
  rw [List.take_succ_eq_append_getElem (by simpa using h)]; rfl

theorem i64_or_nat (a b : Nat) (ha : a < 4611686018427387904) (hb : b < 4611686018427387904) : bits .or .i64 (a : Int) (b : Int) = ((a ||| b : Nat) : Int) := by
  have hx : a ||| b < 2 ^ 62 := Nat.or_lt_two_pow (by omega) (by omega)
  show IntKind.i64.wrap ((BitVec.ofInt 64 (a : Int) ||| BitVec.ofInt 64 (b : Int)).toNat : Int) = _
  rw [BitVec.toNat_or, ofInt_u64 a (by omega), ofInt_u64 b (by omega), IntKind.wrap_i64]
  omega
/-- An 'or' of numbers whose bits lie apart is their sum. -/
theorem i64_or_join (i : Nat) (a b : Nat) (hm : a % 2 ^ i = 0) (hl : b < 2 ^ i) (ha : a < 4611686018427387904) (hb : b < 4611686018427387904) : bits .or .i64 (a : Int) (b : Int) = (a : Int) + (b : Int) := by
  rw [i64_or_nat a b ha hb, nat_join i a b hm hl]; omega
theorem i64_or_256 (a b : Nat) (ha : a < 281474976710656) (hb : b < 256) : bits .or .i64 ((a : Int) * 256) (b : Int) = (a : Int) * 256 + (b : Int) := by
  have h := i64_or_join 8 (a * 256) b (by omega) (by omega) (by omega) (by omega)
  rw [Int.natCast_mul] at h
  exact h

theorem str_app (x y : List UInt8) : (⟨x.toArray⟩ : ByteArray) ++ ⟨y.toArray⟩ = ⟨(x ++ y).toArray⟩ := by
  apply ByteArray.ext
  simp

/-- The cells of a row of bytes. -/
def cellsB (l : List UInt8) : Array Value := (l.map fun b => Value.int .u8 (b.toNat : Int)).toArray
theorem cellsB_size (l : List UInt8) : (cellsB l).size = l.length := by simp [cellsB]
theorem cellsB_at (l : List UInt8) (j : Nat) (h : j < l.length) : (cellsB l)[j]? = some (.int .u8 (l[j].toNat : Int)) := by
  simp [cellsB, h]
theorem cellsB_made (n : Nat) : Go.madeCells #[Value.int .u8 0] n = cellsB (List.replicate n 0) := by
  apply Array.ext
  · simp [cellsB, size_madeCells]
  · intro i h1 h2
    simp [Go.madeCells, cellsB, Nat.mod_one]
theorem cellsB_set (a b : List UInt8) (c : UInt8) (x : Nat) (hx : x < 256) : (cellsB (a ++ c :: b)).setIfInBounds a.length (.int .u8 (x : Int)) = cellsB (a ++ UInt8.ofNat x :: b) := by
  have e : (UInt8.ofNat x).toNat = x := by rw [UInt8.toNat_ofNat']; omega
  unfold cellsB
  rw [List.setIfInBounds_toArray]
  congr 1
  rw [List.map_append, List.map_cons, List.set_append_right _ _ (by simp)]
  simp [e]
theorem infoB : (Try.prog.info? 5).map (fun i => (i.zero, i.size, i.bytes)) = some (some (.int .u8 0), 1, 1) := by kernel_rfl
theorem take_ext (s : ByteArray) (k : Nat) : (s.extract 0 k).toList = s.data.toList.take k := by
  rw [ByteArray.toList_eq]; simp
theorem byte_at (s : ByteArray) (k : Nat) (_h : k < s.size) (h' : k < s.data.toList.length) : s.data.toList[k] = s[k] := rfl
end Go.Proofs.Ytdaoaedkjoknmaa
