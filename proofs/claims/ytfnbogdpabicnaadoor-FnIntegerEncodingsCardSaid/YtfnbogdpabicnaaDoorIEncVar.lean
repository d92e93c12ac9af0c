/-
  What impl.EncodeVarint returns.
-/
import Derived.Test.YtfnbogdpabicnaaDoorVarRel
namespace Go.Proofs.YtfnbogdpabicnaaDoor
open Go.RowKit Go.Deep Go.Proofs.YtfnbogdpabicnaaDoor.Num

/-- impl.EncodeVarint, where it is not. -/
theorem ivar_no (n : Int) (w : World) (hn : n < 0 ∨ 562949953421311 < n) :
    Calls Tryd.prog 9 #[.int .i64 n] w fun e w' => e = .returned (.string ⟨[].toArray⟩) ∧ w = w' := by
  by_cases h0 : n < 0
  · go_enter Tryd.func9, Tryd.ntmps9
    go_wp2
    go_ret
    exact ⟨rfl, rfl⟩
  · have h1 : 562949953421311 < n := by omega
    go_enter Tryd.func9, Tryd.ntmps9
    go_wp2
    go_ret
    exact ⟨rfl, rfl⟩

theorem or_128 (m : Nat) : bits .or .i64 ((m : Int) % 128) 128 = 128 + (m : Int) % 128 := by
  have h := i64_or_join 7 128 (m % 128) (by decide) (by omega) (by decide) (by omega)
  have hc := i64_or_nat (m % 128) 128 (by omega) (by decide)
  have hd := i64_or_nat 128 (m % 128) (by decide) (by omega)
  rw [Nat.or_comm] at hc
  rw [hd, ← hc] at h
  exact h

theorem make_seven (W : World) : (Instr.makeSlice 22 (.int .i64 0) (.int .i64 7)).run Tryd.prog W = .ok (.slice (some ⟨W.heap.size, 0, none⟩) 0 7) (W.alloc (.cells (madeCells #[.int .u8 0] 7) 5)) := by
  obtain ⟨i0, hi, hz0, hz1, hz2⟩ := info_parts infoB
  have h := run_make (P := Tryd.prog) W 22 5 i0 (.int .u8 0) Tryd.underlying22 hi hz0 .i64 .i64 0 7 (by decide) (by decide) (by rw [hz2]; decide) (by decide)
  rw [hz1] at h
  exact h

set_option maxRecDepth 100000 in
set_option maxHeartbeats 400000 in
/-- impl.EncodeVarint, where the number is in range. -/
theorem ivar_yes (n : Nat) (w : World) (hn : n ≤ 562949953421311) :
    Calls Tryd.prog 9 #[.int .i64 n] w fun e w' => e = .returned (.string ⟨(encV 7 n).toArray⟩) ∧ Below w.heap.size w w' := by
  have hmk := make_seven
  go_enter Tryd.func9, Tryd.ntmps9
  go_wp2
  clear hmk
  go_loopw [0, 3] (fun x v wr => VarRel n w x v wr) (fun x _ _ => (intOf x).toNat)
  case atStart => exact VarRel.mk n 7 [] hn (by simp; omega) (by simp) rfl (OwnB.lit w _ 7 _ (Nat.le_refl _) (by decide) (size_madeCells _ _)) ((Below.refl _ _).alloc (Nat.le_refl _) _)
  case round =>
    obtain ⟨m, f, l, rfl, h1, h2, h3, h4, h5, h6⟩ := hrel
    by_cases hlt : 128 ≤ m
    · obtain ⟨g, rfl, h7, h8⟩ := encV_next f m hlt h2
      have H4 := Lib.hid h4
      have H8 := Lib.hid h8
      have H7 := Lib.hid h7
      clear h4 h8 h2 h7
      have hb1 := i64_and127 (m : Int)
      have hb2 := or_128 m
      go_wp2_with (at_builtin; refine wpList_append_bytes _ rfl (.tmp 13) (.tmp 18) rfl w.heap.size _ l rfl (h5.alloc _) wr.heap.size 1 1 [UInt8.ofNat (128 + m % 128)] rfl rfl (cell_hi wr m) (by omega) (by have := h6.size; simp; omega) ?_; intro v' w' hown hbel)
      have hB : Below w.heap.size w w' := (h6.alloc h6.size _).trans hbel
      go_roundw
      case rel => exact VarRel.mk (m / 128) g _ (by omega) H7.out (by simp; omega) (by rw [List.append_assoc, ← H4.out, H8.out]; rfl) hown hB
      case measure => simp [intOf]; omega
    · have hm : m < 128 := by omega
      rw [encV_small f m hm] at h4
      have H4 := Lib.hid h4
      clear h4 h2
      go_wp2_with (at_builtin; refine wpList_append_bytes _ rfl (.tmp 22) (.tmp 25) rfl w.heap.size _ l rfl (h5.alloc _) wr.heap.size 1 1 [UInt8.ofNat m] rfl rfl (cell_lo wr m hm) (by omega) (by have := h6.size; simp; omega) ?_; intro v' w' hown hbel; have HC := conv_own w' _ v' _ hown; rw [H4.out] at HC)
      go_ret
      exact ⟨rfl, (h6.alloc h6.size _).trans hbel⟩
end Go.Proofs.YtfnbogdpabicnaaDoor
