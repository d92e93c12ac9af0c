/-
  What the drawing function spec.l1New returns: a cursor in a new block; and the forms of what other drawing functions return.
-/
import Derived.Test.YtjohbfdifdjldacDrawNum
namespace Go.Proofs.Ytjohbfdifdjldac
open Go.RowKit Go.Deep Go.Proofs.Ytjohbfdifdjldac.Num

theorem only_then {a b c : World} {g : Nat} (h : a.grownBy b (some g)) (k : Below a.heap.size b c) : a.grownBy c (some g) :=
  ⟨k.os.trans h.os, k.tape.trans h.tape, k.output.trans h.output, Nat.le_trans h.size k.size, fun i hi hne => (k.block i hi).trans (h.block i hi hne)⟩
theorem OwnB.only {w w' : World} {base g : Nat} {v : Value} {l : List UInt8} (h : OwnB w base v l) (hg : w.grownBy w' (some g)) (hb : g < base) : OwnB w' base v l :=
  World.ownsRow.kept h hg (by
    cases hv : v.ownBlock with
    | none => exact .inl rfl
    | some k =>
      refine .inr (fun e => ?_)
      have := (World.ownsRow.lt h k hv).1
      have := Option.some.inj e
      omega)
theorem cell_int (W : World) (x : Int) (h0 : 0 ≤ x) (h1 : x ≤ 255) : ∀ j (hj : j < [UInt8.ofNat x.toNat].length), (W.alloc (.cells #[.int .u8 x] 5)).cell? ⟨W.heap.size, j, none⟩ = some (.int .u8 ([UInt8.ofNat x.toNat][j].toNat : Int)) := by
  intro j hj
  obtain rfl : j = 0 := by rw [List.length_singleton] at hj; omega
  obtain ⟨n, rfl⟩ := Int.eq_ofNat_of_zero_le h0
  have e : (UInt8.ofNat n).toNat = n := by rw [UInt8.toNat_ofNat']; omega
  rw [World.cell?_alloc_at _ _ _ _ rfl, List.getElem_singleton, Int.toNat_natCast, e]
  rfl

/-- An int comes back; nothing that was there has changed. -/
def IntP (w : World) (e : Ending) (w' : World) : Prop := ∃ x : Int, e = .returned (.int .i64 x) ∧ -9223372036854775808 ≤ x ∧ x ≤ 9223372036854775807 ∧ Below w.heap.size w w'
def StrP (most : Nat) (w : World) (e : Ending) (w' : World) : Prop := ∃ l : List UInt8, e = .returned (.string ⟨l.toArray⟩) ∧ l.length ≤ most ∧ Below w.heap.size w w'
def IntsP (w : World) (e : Ending) (w' : World) : Prop := ∃ x y : Int, e = .returned (.tuple #[.int .i64 x, .int .i64 y]) ∧ -9223372036854775808 ≤ x ∧ x ≤ 9223372036854775807 ∧ -1 ≤ y ∧ y ≤ 8 ∧ Below w.heap.size w w'
theorem Code.later {w w' : World} {A : Option Addr} {len : Nat} (c : Code w w.heap.size A len) (hb : Below w.heap.size w w') : Code w' w'.heap.size A len := by
  intro j hj
  obtain ⟨b, off, n, hA, hlt, h0, h1, hc⟩ := (c.keep (fun k hk => hb.block k hk)) j hj
  exact ⟨b, off, n, hA, Nat.lt_of_lt_of_le hlt hb.size, h0, h1, hc⟩
end Go.Proofs.Ytjohbfdifdjldac
