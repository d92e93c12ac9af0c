/-
  What impl.EncodeQuic returns.
-/
import Derived.Test.YtjbppociogoopaaDoorWrite
namespace Go.Proofs.YtjbppociogoopaaDoor
open Go.RowKit Go.Deep Go.Proofs.YtjbppociogoopaaDoor.Num

theorem formV_parts (n : Int) : ∃ mk most : Int, formV (qsz n) = .agg #[.int .u8 mk, .int .i64 (qsz n : Int), .int .i64 most] := by
  rcases qsz_cases n with h | h | h | h | h <;> rw [h.1] <;> exact ⟨_, _, rfl⟩

theorem arrLen : Tryd.prog.arrayLen 112 = 8 := by kernel_rfl
theorem arrElem : Tryd.prog.elem 112 = 5 := by kernel_rfl
/-- The first k bytes of an array of eight. -/
theorem slice8 (k : Nat) (hk : k ≤ 8) (g : Nat) (W : World) : (Instr.sliceAt 112 (.pointer (some ⟨g, 0, none⟩)) none (some (.int .i64 (k : Int))) none).run Tryd.prog W = .ok (.slice (some ⟨g, 0, none⟩) k 8) W := by
  rw [run_sliceAt_array_h W 112 ⟨g, 0, none⟩ (by rw [arrLen, arrElem]; exact Tryd.underlying112) .i64 (k : Int) (by omega) (by rw [arrLen]; omega), arrElem, arrLen]
  simp [Tryd.sizeOf5, slicedAt, go_sem]
/-- What impl.writeForm makes of a number and its shortest form. -/
def shortB (n : Int) : List UInt8 := encQ n ++ List.replicate (8 - qsz n) 0
theorem shortB_len (n : Int) : (shortB n).length = 8 := by
  rw [shortB, List.length_append, encQ_len, List.length_replicate]
  rcases qsz_cases n with h | h | h | h | h <;> omega
theorem iwrite_any (n : Int) (w : World) :
    Calls Tryd.prog 84 #[.int .i64 n, formV (qsz n)] w fun e w' => e = .returned (.agg (cellsB (shortB n))) ∧ Below w.heap.size w w' := by
  by_cases hz : qsz n = 0
  · rw [shortB, encQ_nil n hz, hz]
    exact iwrite0 n w
  · obtain ⟨hk, hd⟩ := qfit n hz
    have h0 : 0 ≤ n ∧ n ≤ 4611686018427387903 := by have := qsz_zero n; omega
    obtain ⟨m, rfl⟩ := Int.eq_ofNat_of_zero_le h0.1
    rw [Int.toNat_natCast] at hd
    exact iwrite m (qsz (m : Int)) w (by omega) hk hd

set_option maxRecDepth 100000 in
/-- impl.EncodeQuic -/
theorem iencq (n : Int) (w : World) (hF : Forms w) :
    Calls Tryd.prog 71 #[.int .i64 n] w fun e w' => e = .returned (.string ⟨(encQ n).toArray⟩) ∧ Below w.heap.size w w' := by
  obtain ⟨mk, most, hf⟩ := formV_parts n
  have HC := Lib.hid (ishort n w hF)
  have HW := Lib.hid fun w1 => iwrite_any n w1
  obtain ⟨b0, b1, b2, b3, b4, b5, b6, b7, h8⟩ := eight (shortB n) (shortB_len n)
  have hcs : cellsB (shortB n) = #[.int .u8 b0.toNat, .int .u8 b1.toNat, .int .u8 b2.toNat, .int .u8 b3.toNat, .int .u8 b4.toNat, .int .u8 b5.toNat, .int .u8 b6.toNat, .int .u8 b7.toNat] := by rw [h8]; rfl
  have hcv : ∀ W : World, (convert 22 9 (.slice (some ⟨W.heap.size, 0, none⟩) (qsz n) 8)).run Tryd.prog (W.alloc (.cells #[.int .u8 b0.toNat, .int .u8 b1.toNat, .int .u8 b2.toNat, .int .u8 b3.toNat, .int .u8 b4.toNat, .int .u8 b5.toNat, .int .u8 b6.toNat, .int .u8 b7.toNat] 112)) = .ok (.string ⟨(encQ n).toArray⟩) (W.alloc (.cells #[.int .u8 b0.toNat, .int .u8 b1.toNat, .int .u8 b2.toNat, .int .u8 b3.toNat, .int .u8 b4.toNat, .int .u8 b5.toNat, .int .u8 b6.toNat, .int .u8 b7.toNat] 112)) := fun W => by
    rw [← hcs, ← encQ_len n]
    refine conv_row _ W.heap.size (encQ n) 8 (fun j hj => ?_)
    rw [World.cell?_alloc_at _ _ _ _ rfl, cellsB_at _ _ hj, cellsB_at _ _ (by rw [shortB, List.length_append]; omega)]
    simp [shortB, List.getElem_append_left hj]
  have h8k : qsz n ≤ 8 := by rcases qsz_cases n with h | h | h | h | h <;> omega
  rw [hcs, hf] at HW
  rw [hf] at HC
  have hsl := slice8 (qsz n) h8k
  clear hf hF h8 hcs
  generalize qsz n = k at *
  go_enter Tryd.func71, Tryd.ntmps71
  go_wp2_with fail
  refine HC.out.mono ?_
  rintro e w1 ⟨rfl, hb1⟩
  go_wp2_with fail
  refine (HW.out _).mono ?_
  rintro e w2 ⟨rfl, hb2⟩
  have hc1 : ∀ o : Obj, (w2.alloc o).cell? ⟨w1.heap.size, 1, none⟩ = some (.int .i64 (k : Int)) := fun o => by
    have hlt : w1.heap.size < (w1.alloc (.cells #[.int .u8 mk, .int .i64 (k : Int), .int .i64 most] 109)).heap.size := by simp
    rw [World.cell?_of_block (w := w2) (Below.heap_alloc _ o _ (Nat.lt_of_lt_of_le hlt hb2.size)), hb2.cell hlt, World.cell?_alloc_at _ _ _ _ rfl]
    rfl
  have HB := Lib.hid ((hb1.alloc hb1.size _).trans (hb2.mono (Nat.le_trans hb1.size (by simp))))
  clear hb1 hb2
  go_wp2
  go_ret
  exact ⟨rfl, HB.out.alloc HB.out.size _⟩
end Go.Proofs.YtjbppociogoopaaDoor
