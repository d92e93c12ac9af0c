/-
  What spec.l1Byte returns: a number from 0 to 255; it writes into its cursor alone.
-/
import Derived.Test.YtjohbfdifdjldacBytes
import Derived.Deep.QuietTactic
import Derived.BigQuiet
namespace Go.Proofs.Ytjohbfdifdjldac
open Go.RowKit Go.Deep Go.Proofs.Ytjohbfdifdjldac.Num

/-- Each of the bytes can be read, below block B. -/
def Code (w : World) (B : Nat) (A : Option Addr) (len : Nat) : Prop := ∀ j, j < len → ∃ b off n, A = some ⟨b, off, none⟩ ∧ b < B ∧ (0 : Int) ≤ n ∧ n ≤ 255 ∧ w.cell? ⟨b, off + j, none⟩ = some (.int .u8 n)
theorem Code.keep {w w' : World} {B : Nat} {A : Option Addr} {len : Nat} (c : Code w B A len) (h : ∀ k, k < B → w'.heap[k]? = w.heap[k]?) : Code w' B A len := by
  intro j hj
  obtain ⟨b, off, n, hA, hb, h0, h1, hc⟩ := c j hj
  exact ⟨b, off, n, hA, hb, h0, h1, (World.cell?_of_block (w := w) (h b hb)).trans hc⟩

/-- Only block g may have changed. -/
theorem only_setCell {a w : World} {g : Nat} (h : a.grownBy w (some g)) (k : Nat) (u : Value) : a.grownBy (w.setCell ⟨g, k, none⟩ u) (some g) :=
  ⟨h.os, h.tape, h.output, by simpa [World.setCell] using h.size, fun i hi hne => (Below.heap_setCell w ⟨g, k, none⟩ u i (by rintro rfl; exact hne rfl)).trans (h.block i hi hne)⟩
theorem only_drewN {a w : World} {row : Option Nat} (h : a.grownBy w row) (n : Nat) : a.grownBy (w.drewN n) row := ⟨h.os, h.tape, h.output, h.size, h.block⟩
theorem only_trans {a b c : World} {g : Nat} (h : a.grownBy b (some g)) (k : b.grownBy c (some g)) : a.grownBy c (some g) :=
  ⟨k.os.trans h.os, k.tape.trans h.tape, k.output.trans h.output, Nat.le_trans h.size k.size, fun i hi hne => (k.block i (Nat.lt_of_lt_of_le hi h.size) hne).trans (h.block i hi hne)⟩
theorem only_below {a b : World} {g B : Nat} (h : a.grownBy b (some g)) (hB : B ≤ g) (hl : B ≤ a.heap.size) : Below B a b :=
  ⟨h.os, h.tape, h.output, h.size, fun k hk => h.block k (by omega) (fun e => by have := Option.some.inj e; omega)⟩

theorem i64_and255 (n : Int) : bits .and .i64 n 255 = n % 256 := by
  have h255 : (BitVec.ofInt 64 255).toNat = 2 ^ 8 - 1 := by decide
  have key : (BitVec.ofInt 64 n &&& BitVec.ofInt 64 255).toNat = (n % ((2 ^ 64 : Nat) : Int)).toNat % 2 ^ 8 := by
    rw [BitVec.toNat_and, BitVec.toNat_ofInt, h255, Nat.and_two_pow_sub_one_eq_mod]
  show IntKind.i64.wrap ((BitVec.ofInt 64 n &&& BitVec.ofInt 64 255).toNat : Nat) = n % 256
  rw [key, IntKind.wrap_i64]
  omega

theorem mod_lo (x : Int) : 0 ≤ x % 256 := by omega
theorem mod_hi (x : Int) : x % 256 ≤ 255 := by omega

end Go.Proofs.Ytjohbfdifdjldac
