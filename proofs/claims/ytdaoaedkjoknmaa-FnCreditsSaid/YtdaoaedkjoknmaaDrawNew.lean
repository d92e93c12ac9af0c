/-
  What the drawing function spec.l1New returns: a cursor in a new block; and the forms of what other drawing functions return.
-/
import Derived.Test.YtdaoaedkjoknmaaDrawNum
namespace Go.Proofs.Ytdaoaedkjoknmaa
open Go.RowKit Go.Deep Go.Proofs.Ytdaoaedkjoknmaa.Num

/-- A cursor in a new block comes back. -/
def NewP (A : Option Addr) (len cap : Nat) (w : World) (e : Ending) (w' : World) : Prop :=
  ∃ g : Nat, e = .returned (.pointer (some ⟨g, 0, none⟩)) ∧ w.heap.size ≤ g ∧ Draw w' g w.heap.size A len cap ∧ Below w.heap.size w w'

set_option maxRecDepth 100000 in
set_option maxHeartbeats 800000 in
/-- spec.l1New -/
theorem dnew (A : Option Addr) (len cap : Nat) (w : World) (hlen : len ≤ maxLen) (hcode : Code w w.heap.size A len) :
    Calls Try.prog 32 #[.slice A len cap] w (NewP A len cap w) := by
  have HC := Lib.hid hcode
  have HL := Lib.hid hlen
  clear hcode
  unfold maxLen at hlen
  go_enter Try.func32, Try.ntmps32
  go_wp2
  go_loop [3, 4] (fun h i => ∃ (k : Nat) (x : Int), k ≤ len ∧ k ≤ 4000 ∧ i = .int .i64 k ∧ h = .int .i64 x) (fun _ i => 4000 - (intOf i).toNat)
  case atStart => exact ⟨0, _, by omega, by omega, rfl, rfl⟩
  case round =>
    obtain ⟨k, x, hk, hk4, rfl, rfl⟩ := hrel
    by_cases hlt : k < len ∧ k < 4000
    · obtain ⟨hl, hl4⟩ := hlt
      obtain ⟨b, off, n, rfl, hb, n0, n1, hc⟩ := HC.out k hl
      go_wp2
      refine ⟨⟨k + 1, _, by omega, by omega, by go_num, rfl⟩, ?_⟩
      simp [intOf]
      omega
    · go_wp2
      all_goals go_ret
      all_goals exact ⟨w.heap.size, rfl, Nat.le_refl _, ⟨Nat.le_refl _, HL.out, HC.out.keep (fun k hk => Below.heap_alloc w _ k hk), 0, x, Nat.zero_le _, heap_alloc_new w _⟩, (Below.refl _ _).alloc (Nat.le_refl _) _⟩

theorem only_then {a b c : World} {g : Nat} (h : a.grownBy b (some g)) (k : Below a.heap.size b c) : a.grownBy c (some g) :=
  ⟨k.os.trans h.os, k.tape.trans h.tape, k.output.trans h.output, Nat.le_trans h.size k.size, fun i hi hne => (k.block i hi).trans (h.block i hi hne)⟩
theorem OwnB.only {w w' : World} {base g : Nat} {v : Value} {l : List UInt8} (h : OwnB w base v l) (hg : w.grownBy w' (some g)) (hb : g < base) : OwnB w' base v l :=
  World.ownsRow.kept h hg (by
    cases hv : v.ownBlock with
    | none => exact .inl rfl
    | some k =>
      refine .inr (fun e => ?_)
      have := (World.ownsRow.lt h k hv).1
      have := Option.some.inj e
      omega)
theorem cell_int (W : World) (x : Int) (h0 : 0 ≤ x) (h1 : x ≤ 255) : ∀ j (hj : j < [UInt8.ofNat x.toNat].length), (W.alloc (.cells #[.int .u8 x] 5)).cell? ⟨W.heap.size, j, none⟩ = some (.int .u8 ([UInt8.ofNat x.toNat][j].toNat : Int)) := by
  intro j hj
  obtain rfl : j = 0 := by rw [List.length_singleton] at hj; omega
  obtain ⟨n, rfl⟩ := Int.eq_ofNat_of_zero_le h0
  have e : (UInt8.ofNat n).toNat = n := by rw [UInt8.toNat_ofNat']; omega
  rw [World.cell?_alloc_at _ _ _ _ rfl, List.getElem_singleton, Int.toNat_natCast, e]
  rfl

/-- A string of at most 'most' bytes comes back; of what was there only the cursor has changed. -/
def TextP (most : Nat) (g B : Nat) (A : Option Addr) (len cap : Nat) (w : World) (e : Ending) (w' : World) : Prop :=
  ∃ l : List UInt8, e = .returned (.string ⟨l.toArray⟩) ∧ l.length ≤ most ∧ Draw w' g B A len cap ∧ w.grownBy w' (some g)

/-- An int comes back; nothing that was there has changed. -/
def IntP (w : World) (e : Ending) (w' : World) : Prop := ∃ x : Int, e = .returned (.int .i64 x) ∧ -9223372036854775808 ≤ x ∧ x ≤ 9223372036854775807 ∧ Below w.heap.size w w'
def StrP (most : Nat) (w : World) (e : Ending) (w' : World) : Prop := ∃ l : List UInt8, e = .returned (.string ⟨l.toArray⟩) ∧ l.length ≤ most ∧ Below w.heap.size w w'
def IntsP (w : World) (e : Ending) (w' : World) : Prop := ∃ x y : Int, e = .returned (.tuple #[.int .i64 x, .int .i64 y]) ∧ -9223372036854775808 ≤ x ∧ x ≤ 9223372036854775807 ∧ -1 ≤ y ∧ y ≤ 8 ∧ Below w.heap.size w w'
theorem Code.later {w w' : World} {A : Option Addr} {len : Nat} (c : Code w w.heap.size A len) (hb : Below w.heap.size w w') : Code w' w'.heap.size A len := by
  intro j hj
  obtain ⟨b, off, n, hA, hlt, h0, h1, hc⟩ := (c.keep (fun k hk => hb.block k hk)) j hj
  exact ⟨b, off, n, hA, Nat.lt_of_lt_of_le hlt hb.size, h0, h1, hc⟩
end Go.Proofs.Ytdaoaedkjoknmaa
