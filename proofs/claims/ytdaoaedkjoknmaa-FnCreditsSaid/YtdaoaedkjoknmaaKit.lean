/-
  Small words for the walks of this seat: results as bytes, and what holds below a block number.
-/
import Derived.Test.YtdaoaedkjoknmaaKitA
namespace Go.Proofs.Ytdaoaedkjoknmaa
open Go.RowKit Go.Deep

/-- A string of one byte, out of a slice of one byte that was just made. -/
theorem conv_one (W : World) (n : Nat) (hn : n < 256) :
    (convert 22 9 (.slice (some ⟨W.heap.size, 0, none⟩) 1 1)).run Try.prog (W.alloc (.cells #[.int .u8 (n : Int)] 5)) = .ok (.string ⟨[UInt8.ofNat n].toArray⟩) (W.alloc (.cells #[.int .u8 (n : Int)] 5)) := by
  have h := run_convert_bytes_back (P := Try.prog) (W.alloc (.cells #[.int .u8 (n : Int)] 5)) 22 9 5 ⟨W.heap.size, 0, none⟩ 1 [UInt8.ofNat n] Try.underlying22 Try.underlying5 Try.underlying9 (fun j hj => by
    obtain rfl : j = 0 := by rw [List.length_singleton] at hj; omega
    have e : (UInt8.ofNat n).toNat = n := by rw [UInt8.toNat_ofNat']; omega
    simp [Addr.add, e])
  exact h
theorem conv_low (W : World) (m : Nat) :
    (convert 22 9 (.slice (some ⟨W.heap.size, 0, none⟩) 1 1)).run Try.prog (W.alloc (.cells #[.int .u8 ((m : Int) % 256)] 5)) = .ok (.string ⟨[UInt8.ofNat (m % 256)].toArray⟩) (W.alloc (.cells #[.int .u8 ((m : Int) % 256)] 5)) :=
  conv_one W (m % 256) (by omega)
/-- 'string(b)' of a row of bytes that was made by the call. -/
theorem conv_row (W : World) (g : Nat) (l : List UInt8) (cap : Nat) (hc : ∀ j, j < l.length → W.cell? ⟨g, j, none⟩ = (cellsB l)[j]?) :
    (convert 22 9 (.slice (some ⟨g, 0, none⟩) l.length cap)).run Try.prog W = .ok (.string ⟨l.toArray⟩) W := by
  refine run_convert_bytes_back (P := Try.prog) W 22 9 5 ⟨g, 0, none⟩ cap l Try.underlying22 Try.underlying5 Try.underlying9 (fun j hj => ?_)
  have e : (⟨g, 0, none⟩ : Addr).add j = ⟨g, j, none⟩ := by simp [Addr.add]; omega
  rw [e, hc j hj, cellsB_at l j hj]
theorem make_row (n : Nat) (hn : n ≤ 281474976710656) (W : World) :
    (Instr.makeSlice 22 (.int .i64 (n : Int)) (.int .i64 (n : Int))).run Try.prog W = .ok (.slice (some ⟨W.heap.size, 0, none⟩) n n) (W.alloc (.cells (cellsB (List.replicate n 0)) 5)) := by
  rw [← cellsB_made]
  exact run_make_row' 22 5 (.int .u8 0) 1 Try.underlying22 infoB rfl .i64 .i64 n (by omega) (by omega) W
end Go.Proofs.Ytdaoaedkjoknmaa
