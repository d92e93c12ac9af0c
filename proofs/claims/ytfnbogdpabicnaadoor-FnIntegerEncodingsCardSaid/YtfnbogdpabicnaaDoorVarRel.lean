/-
  What holds at each round of the loops of EncodeVarint.
-/
import Derived.Test.YtfnbogdpabicnaaDoorBytes
namespace Go.Proofs.YtfnbogdpabicnaaDoor
open Go.RowKit Go.Deep Go.Proofs.YtfnbogdpabicnaaDoor.Num

/-- What holds at each round of the loop of EncodeVarint. -/
def VarRel (n : Nat) (w : World) (x v : Value) (wr : World) : Prop :=
  ∃ (m f : Nat) (l : List UInt8), x = .int .i64 m ∧ m ≤ 562949953421311 ∧ m < 128 ^ (f + 1) ∧ l.length + f ≤ 7 ∧ l ++ encV f m = encV 7 n ∧ OwnB wr w.heap.size v l ∧ Below w.heap.size w wr

theorem VarRel.mk {n : Nat} {w wr : World} {v : Value} (m f : Nat) (l : List UInt8) (h1 : m ≤ 562949953421311) (h2 : m < 128 ^ (f + 1)) (h3 : l.length + f ≤ 7) (h4 : l ++ encV f m = encV 7 n)
    (h5 : OwnB wr w.heap.size v l) (h6 : Below w.heap.size w wr) : VarRel n w (.int .i64 (m : Int)) v wr := ⟨m, f, l, rfl, h1, h2, h3, h4, h5, h6⟩

theorem byte_hi (m : Nat) : (UInt8.ofNat (128 + m % 128)).toNat = 128 + m % 128 := by rw [UInt8.toNat_ofNat']; omega

theorem byte_lo (m : Nat) (h : m < 128) : (UInt8.ofNat m).toNat = m := by rw [UInt8.toNat_ofNat']; omega

theorem cell_hi (W : World) (m : Nat) : ∀ j (hj : j < [UInt8.ofNat (128 + m % 128)].length), (W.alloc (.cells #[.int .u8 (128 + (m : Int) % 128)] 5)).cell? ⟨W.heap.size, j, none⟩ = some (.int .u8 ([UInt8.ofNat (128 + m % 128)][j].toNat : Int)) := by
  intro j hj
  obtain rfl : j = 0 := by rw [List.length_singleton] at hj; omega
  rw [World.cell?_alloc_at _ _ _ _ rfl, List.getElem_singleton, byte_hi]
  rfl

theorem cell_lo (W : World) (m : Nat) (h : m < 128) : ∀ j (hj : j < [UInt8.ofNat m].length), (W.alloc (.cells #[.int .u8 (m : Int)] 5)).cell? ⟨W.heap.size, j, none⟩ = some (.int .u8 ([UInt8.ofNat m][j].toNat : Int)) := by
  intro j hj
  obtain rfl : j = 0 := by rw [List.length_singleton] at hj; omega
  rw [World.cell?_alloc_at _ _ _ _ rfl, List.getElem_singleton, byte_lo m h]
  rfl
end Go.Proofs.YtfnbogdpabicnaaDoor
