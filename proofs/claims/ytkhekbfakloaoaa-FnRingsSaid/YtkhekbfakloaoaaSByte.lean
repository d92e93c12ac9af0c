/-
  What spec.l2Byte returns.
-/
import Derived.Test.YtkhekbfakloaoaaSEncFixed
namespace Go.Proofs.Ytkhekbfakloaoaa
open Go.RowKit Go.Deep Go.Proofs.Ytkhekbfakloaoaa.Num

theorem and255 (n : Int) : bits .and .i64 n 255 = n % 256 := by
  have h255 : (BitVec.ofInt 64 255).toNat = 2 ^ 8 - 1 := by decide
  have key : (BitVec.ofInt 64 n &&& BitVec.ofInt 64 255).toNat = (n % ((2 ^ 64 : Nat) : Int)).toNat % 2 ^ 8 := by
    rw [BitVec.toNat_and, BitVec.toNat_ofInt, h255, Nat.and_two_pow_sub_one_eq_mod]
  show IntKind.i64.wrap ((BitVec.ofInt 64 n &&& BitVec.ofInt 64 255).toNat : Nat) = n % 256
  rw [key, IntKind.wrap_i64]
  omega

/-- spec.l2Byte -/
theorem sbyte (n : Int) (m : Nat) (hm : n % 256 = (m : Int)) (w : World) :
    Calls Try.prog 52 #[.int .i64 n] w fun e w' => e = .returned (.string ⟨[UInt8.ofNat m].toArray⟩) ∧ Below w.heap.size w w' := by
  have h255 : bits .and .i64 n 255 = (m : Int) := by rw [and255, hm]
  have hlt : m < 256 := by omega
  have hf : (if 0 < dn 1 m then [] else fixB 1 m) = [UInt8.ofNat m] := by
    have : dn 1 m = 0 := by show m / 256 = 0; omega
    rw [this, if_neg (by omega)]
    show [UInt8.ofNat (m % 256)] = _
    rw [Nat.mod_eq_of_lt hlt]
  clear hm
  go_enter Try.func52, Try.ntmps52
  go_wp2_with fail
  refine (senc_any m 1 w (by omega) (by omega) (by omega)).mono ?_
  rintro e w1 ⟨rfl, hb⟩
  rw [hf]
  go_wp2
  go_ret
  exact ⟨rfl, hb⟩
end Go.Proofs.Ytkhekbfakloaoaa
