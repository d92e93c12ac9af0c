/-
  Plain facts about identities of streams.
-/
import Derived.Test.YtmfcoejehnfamaaKitA
namespace Go.Proofs.Ytmfcoejehnfamaa
open Go.RowKit Go.Deep

namespace Num
/-- An identity. -/
def idOk (n : Int) : Bool := decide (0 ≤ n ∧ n ≤ 4611686018427387903)
def idSrv (n : Int) : Bool := idOk n && decide (n % 2 = 1)
def idUni (n : Int) : Bool := idOk n && decide (n / 2 % 2 = 1)
def idIx (n : Int) : Int := if idOk n = true then n / 4 else -1
/-- The identity of an index. -/
def mkI (i : Int) (s u : Bool) : Int := if 0 ≤ i ∧ i ≤ 1152921504606846975 then i * 4 + (if s = true then 1 else 0) + (if u = true then 2 else 0) else -1
def idOwn (s : Bool) (n : Int) : Bool := idOk n && (idSrv n == s)
def idSend (s : Bool) (n : Int) : Bool := idOk n && (!idUni n || idOwn s n)
def idRecv (s : Bool) (n : Int) : Bool := idOk n && (!idUni n || !idOwn s n)
/-- Its name. -/
def idName (n : Int) : ByteArray :=
  if idOk n = true then
    (if idSrv n = true then (if idUni n = true then ⟨#[115, 101, 114, 118, 101, 114, 32, 117, 110, 105]⟩ else ⟨#[115, 101, 114, 118, 101, 114, 32, 98, 105, 100, 105]⟩)
    else (if idUni n = true then ⟨#[99, 108, 105, 101, 110, 116, 32, 117, 110, 105]⟩ else ⟨#[99, 108, 105, 101, 110, 116, 32, 98, 105, 100, 105]⟩))
  else ⟨#[]⟩
theorem idOk_iff (n : Int) : idOk n = true ↔ 0 ≤ n ∧ n ≤ 4611686018427387903 := decide_eq_true_iff
theorem idOk_not (n : Int) : idOk n = false ↔ ¬ (0 ≤ n ∧ n ≤ 4611686018427387903) := decide_eq_false_iff_not
theorem mkI_bad (i : Int) (s u : Bool) (h : ¬ (0 ≤ i ∧ i ≤ 1152921504606846975)) : mkI i s u = -1 := if_neg h
theorem mkI_yes (i : Int) (s u : Bool) (h : 0 ≤ i ∧ i ≤ 1152921504606846975) : mkI i s u = i * 4 + (if s = true then 1 else 0) + (if u = true then 2 else 0) := if_pos h
/-- An identity that was made tells what it was made of. -/
theorem mkI_told (i : Int) (s u : Bool) (h : 0 ≤ mkI i s u) : idIx (mkI i s u) = i ∧ idSrv (mkI i s u) = s ∧ idUni (mkI i s u) = u ∧ idOwn s (mkI i s u) = true ∧ idOwn (!s) (mkI i s u) = false := by
  have hi : 0 ≤ i ∧ i ≤ 1152921504606846975 := Decidable.byContradiction fun hn => by rw [mkI_bad i s u hn] at h; omega
  have hm := mkI_yes i s u hi
  generalize mkI i s u = m at *
  have hr : m = i * 4 + (if s = true then 1 else 0) + (if u = true then 2 else 0) := hm
  have hok : idOk m = true := (idOk_iff m).2 (by cases s <;> cases u <;> simp at hr <;> omega)
  have h1 : idIx m = i := by unfold idIx; rw [if_pos hok]; cases s <;> cases u <;> simp at hr <;> omega
  have h2 : idSrv m = s := by
    unfold idSrv
    rw [hok, Bool.true_and]
    cases s
    · exact decide_eq_false (by cases u <;> simp at hr <;> omega)
    · exact decide_eq_true (by cases u <;> simp at hr <;> omega)
  have h3 : idUni m = u := by
    unfold idUni
    rw [hok, Bool.true_and]
    cases u
    · exact decide_eq_false (by cases s <;> simp at hr <;> omega)
    · exact decide_eq_true (by cases s <;> simp at hr <;> omega)
  refine ⟨h1, h2, h3, ?_, ?_⟩
  · unfold idOwn; rw [hok, h2]; cases s <;> rfl
  · unfold idOwn; rw [hok, h2]; cases s <;> rfl
/-- One side sends where the other receives. -/
theorem id_pair (s : Bool) (n : Int) (h : idOk n = true) : idSend s n = idRecv (!s) n ∧ (idSend s n || idRecv s n) = true ∧ (idSend s n && idRecv s n) = !idUni n := by
  unfold idSend idRecv idOwn
  rw [h]
  cases idUni n <;> cases idSrv n <;> cases s <;> decide
end Num
open Num
theorem i64_and_nat (a b : Nat) (ha : a < 4611686018427387904) (hb : b < 4611686018427387904) : bits .and .i64 (a : Int) (b : Int) = ((a &&& b : Nat) : Int) := by
  have hx : a &&& b < 2 ^ 62 := Nat.and_lt_two_pow a (by omega)
  show IntKind.i64.wrap ((BitVec.ofInt 64 (a : Int) &&& BitVec.ofInt 64 (b : Int)).toNat : Int) = _
  rw [BitVec.toNat_and, ofInt_u64 a (by omega), ofInt_u64 b (by omega), IntKind.wrap_i64]
  omega
/-- The two low bits of an identity. -/
theorem id_bit1 (n : Int) (h : 0 ≤ n ∧ n ≤ 4611686018427387903) : bits .and .i64 n 1 = n % 2 := by
  obtain ⟨m, rfl⟩ := Int.eq_ofNat_of_zero_le h.1
  have := i64_and_nat m 1 (by omega) (by decide)
  rw [nat_mask1] at this
  rw [show ((m : Int)) % 2 = ((m % 2 : Nat) : Int) by omega]
  exact this
theorem id_bit2 (n : Int) (h : 0 ≤ n ∧ n ≤ 4611686018427387903) : bits .and .i64 n 2 = n / 2 % 2 * 2 := by
  obtain ⟨m, rfl⟩ := Int.eq_ofNat_of_zero_le h.1
  have := i64_and_nat m 2 (by omega) (by decide)
  rw [show m &&& 2 = m / 2 % 2 * 2 from nat_bit 1 m] at this
  rw [show ((m : Int)) / 2 % 2 * 2 = ((m / 2 % 2 * 2 : Nat) : Int) by omega]
  exact this
end Go.Proofs.Ytmfcoejehnfamaa
