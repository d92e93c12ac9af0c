/-
  What the two forms of EncodeVarint return: the shortest groups of seven bits, or the empty string.
-/
import Derived.Test.YtfnbogdpabicnaaBytes
namespace Go.Proofs.Ytfnbogdpabicnaa
open Go.RowKit Go.Deep Go.Proofs.Ytfnbogdpabicnaa.Num

/-- What holds at each round of the loop of EncodeVarint. -/
def VarRel (n : Nat) (w : World) (x v : Value) (wr : World) : Prop :=
  ∃ (m f : Nat) (l : List UInt8), x = .int .i64 m ∧ m ≤ 562949953421311 ∧ m < 128 ^ (f + 1) ∧ l.length + f ≤ 7 ∧ l ++ encV f m = encV 7 n ∧ OwnB wr w.heap.size v l ∧ Below w.heap.size w wr
theorem VarRel.mk {n : Nat} {w wr : World} {v : Value} (m f : Nat) (l : List UInt8) (h1 : m ≤ 562949953421311) (h2 : m < 128 ^ (f + 1)) (h3 : l.length + f ≤ 7) (h4 : l ++ encV f m = encV 7 n)
    (h5 : OwnB wr w.heap.size v l) (h6 : Below w.heap.size w wr) : VarRel n w (.int .i64 (m : Int)) v wr := ⟨m, f, l, rfl, h1, h2, h3, h4, h5, h6⟩

theorem byte_hi (m : Nat) : (UInt8.ofNat (128 + m % 128)).toNat = 128 + m % 128 := by rw [UInt8.toNat_ofNat']; omega
theorem byte_lo (m : Nat) (h : m < 128) : (UInt8.ofNat m).toNat = m := by rw [UInt8.toNat_ofNat']; omega

theorem cell_hi (W : World) (m : Nat) : ∀ j (hj : j < [UInt8.ofNat (128 + m % 128)].length), (W.alloc (.cells #[.int .u8 (128 + (m : Int) % 128)] 5)).cell? ⟨W.heap.size, j, none⟩ = some (.int .u8 ([UInt8.ofNat (128 + m % 128)][j].toNat : Int)) := by
  intro j hj
  obtain rfl : j = 0 := by rw [List.length_singleton] at hj; omega
  rw [World.cell?_alloc_at _ _ _ _ rfl, List.getElem_singleton, byte_hi]
  rfl
theorem cell_lo (W : World) (m : Nat) (h : m < 128) : ∀ j (hj : j < [UInt8.ofNat m].length), (W.alloc (.cells #[.int .u8 (m : Int)] 5)).cell? ⟨W.heap.size, j, none⟩ = some (.int .u8 ([UInt8.ofNat m][j].toNat : Int)) := by
  intro j hj
  obtain rfl : j = 0 := by rw [List.length_singleton] at hj; omega
  rw [World.cell?_alloc_at _ _ _ _ rfl, List.getElem_singleton, byte_lo m h]
  rfl

set_option maxRecDepth 100000 in
set_option maxHeartbeats 400000 in
/-- spec.EncodeVarint, where the number is in range. -/
theorem svar_yes (n : Nat) (w : World) (hn : n ≤ 562949953421311) :
    Calls Try.prog 13 #[.int .i64 n] w fun e w' => e = .returned (.string ⟨(encV 7 n).toArray⟩) ∧ Below w.heap.size w w' := by
  go_enter Try.func13, Try.ntmps13
  go_wp2_with (go_at_call 21; refine (in_yes _ _ _ _ (by omega) (by omega)).mono ?_; rintro e w' ⟨rfl, rfl⟩)
  go_loopw [0, 3] (fun x v wr => VarRel n w x v wr) (fun x _ _ => (intOf x).toNat)
  case atStart => exact VarRel.mk n 7 [] hn (by simp; omega) (by simp) rfl (OwnB.lit w _ 0 _ (Nat.le_refl _) (by decide) rfl) ((Below.refl _ _).alloc (Nat.le_refl _) _)
  case round =>
    obtain ⟨m, f, l, rfl, h1, h2, h3, h4, h5, h6⟩ := hrel
    by_cases hlt : 128 ≤ m
    · obtain ⟨g, rfl, h7, h8⟩ := encV_next f m hlt h2
      have H4 := Lib.hid h4
      have H8 := Lib.hid h8
      have H7 := Lib.hid h7
      clear h4 h8 h2 h7
      go_wp2_with (at_builtin; refine wpList_append_bytes _ rfl (.tmp 10) (.tmp 15) rfl w.heap.size _ l rfl (h5.alloc _) wr.heap.size 1 1 [UInt8.ofNat (128 + m % 128)] rfl rfl (cell_hi wr m) (by omega) (by have := h6.size; simp; omega) ?_; intro v' w' hown hbel)
      have hB : Below w.heap.size w w' := (h6.alloc h6.size _).trans hbel
      go_roundw
      case rel => exact VarRel.mk (m / 128) g _ (by omega) H7.out (by simp; omega) (by rw [List.append_assoc, ← H4.out, H8.out]; rfl) hown hB
      case measure => simp [intOf]; omega
    · have hm : m < 128 := by omega
      rw [encV_small f m hm] at h4
      have H4 := Lib.hid h4
      clear h4 h2
      go_wp2_with (at_builtin; refine wpList_append_bytes _ rfl (.tmp 19) (.tmp 22) rfl w.heap.size _ l rfl (h5.alloc _) wr.heap.size 1 1 [UInt8.ofNat m] rfl rfl (cell_lo wr m hm) (by omega) (by have := h6.size; simp; omega) ?_; intro v' w' hown hbel; have HC := conv_own w' _ v' _ hown; rw [H4.out] at HC)
      go_ret
      exact ⟨rfl, (h6.alloc h6.size _).trans hbel⟩

/-- spec.EncodeVarint, where it is not. -/
theorem svar_no (n : Int) (w : World) (hn : n < 0 ∨ 562949953421311 < n) :
    Calls Try.prog 13 #[.int .i64 n] w fun e w' => e = .returned (.string ⟨[].toArray⟩) ∧ w = w' := by
  go_enter Try.func13, Try.ntmps13
  go_wp2_with (go_at_call 21; refine (in_no _ _ _ _ hn).mono ?_; rintro e w' ⟨rfl, rfl⟩)
  go_ret
  exact ⟨rfl, rfl⟩

/-- impl.EncodeVarint, where it is not. -/
theorem ivar_no (n : Int) (w : World) (hn : n < 0 ∨ 562949953421311 < n) :
    Calls Try.prog 14 #[.int .i64 n] w fun e w' => e = .returned (.string ⟨[].toArray⟩) ∧ w = w' := by
  by_cases h0 : n < 0
  · go_enter Try.func14, Try.ntmps14
    go_wp2
    go_ret
    exact ⟨rfl, rfl⟩
  · have h1 : 562949953421311 < n := by omega
    go_enter Try.func14, Try.ntmps14
    go_wp2
    go_ret
    exact ⟨rfl, rfl⟩

theorem or_128 (m : Nat) : bits .or .i64 ((m : Int) % 128) 128 = 128 + (m : Int) % 128 := by
  have h := i64_or_join 7 128 (m % 128) (by decide) (by omega) (by decide) (by omega)
  have hc := i64_or_nat (m % 128) 128 (by omega) (by decide)
  have hd := i64_or_nat 128 (m % 128) (by decide) (by omega)
  rw [Nat.or_comm] at hc
  rw [hd, ← hc] at h
  exact h
theorem make_seven (W : World) : (Instr.makeSlice 36 (.int .i64 0) (.int .i64 7)).run Try.prog W = .ok (.slice (some ⟨W.heap.size, 0, none⟩) 0 7) (W.alloc (.cells (madeCells #[.int .u8 0] 7) 5)) := by
  obtain ⟨i0, hi, hz0, hz1, hz2⟩ := info_parts infoB
  have h := run_make (P := Try.prog) W 36 5 i0 (.int .u8 0) Try.underlying36 hi hz0 .i64 .i64 0 7 (by decide) (by decide) (by rw [hz2]; decide) (by decide)
  rw [hz1] at h
  exact h

set_option maxRecDepth 100000 in
set_option maxHeartbeats 400000 in
/-- impl.EncodeVarint, where the number is in range. -/
theorem ivar_yes (n : Nat) (w : World) (hn : n ≤ 562949953421311) :
    Calls Try.prog 14 #[.int .i64 n] w fun e w' => e = .returned (.string ⟨(encV 7 n).toArray⟩) ∧ Below w.heap.size w w' := by
  have hmk := make_seven
  go_enter Try.func14, Try.ntmps14
  go_wp2
  clear hmk
  go_loopw [0, 3] (fun x v wr => VarRel n w x v wr) (fun x _ _ => (intOf x).toNat)
  case atStart => exact VarRel.mk n 7 [] hn (by simp; omega) (by simp) rfl (OwnB.lit w _ 7 _ (Nat.le_refl _) (by decide) (size_madeCells _ _)) ((Below.refl _ _).alloc (Nat.le_refl _) _)
  case round =>
    obtain ⟨m, f, l, rfl, h1, h2, h3, h4, h5, h6⟩ := hrel
    by_cases hlt : 128 ≤ m
    · obtain ⟨g, rfl, h7, h8⟩ := encV_next f m hlt h2
      have H4 := Lib.hid h4
      have H8 := Lib.hid h8
      have H7 := Lib.hid h7
      clear h4 h8 h2 h7
      have hb1 := i64_and127 (m : Int)
      have hb2 := or_128 m
      go_wp2_with (at_builtin; refine wpList_append_bytes _ rfl (.tmp 13) (.tmp 18) rfl w.heap.size _ l rfl (h5.alloc _) wr.heap.size 1 1 [UInt8.ofNat (128 + m % 128)] rfl rfl (cell_hi wr m) (by omega) (by have := h6.size; simp; omega) ?_; intro v' w' hown hbel)
      have hB : Below w.heap.size w w' := (h6.alloc h6.size _).trans hbel
      go_roundw
      case rel => exact VarRel.mk (m / 128) g _ (by omega) H7.out (by simp; omega) (by rw [List.append_assoc, ← H4.out, H8.out]; rfl) hown hB
      case measure => simp [intOf]; omega
    · have hm : m < 128 := by omega
      rw [encV_small f m hm] at h4
      have H4 := Lib.hid h4
      clear h4 h2
      go_wp2_with (at_builtin; refine wpList_append_bytes _ rfl (.tmp 22) (.tmp 25) rfl w.heap.size _ l rfl (h5.alloc _) wr.heap.size 1 1 [UInt8.ofNat m] rfl rfl (cell_lo wr m hm) (by omega) (by have := h6.size; simp; omega) ?_; intro v' w' hown hbel; have HC := conv_own w' _ v' _ hown; rw [H4.out] at HC)
      go_ret
      exact ⟨rfl, (h6.alloc h6.size _).trans hbel⟩

/-- The law. -/
theorem law_EncodeVarint (n : Int) (w : World) :
    Calls Try.prog 5 #[.int .i64 n] w fun e w' => e = .returned (.bool true) ∧ Below w.heap.size w w' := by
  by_cases h : n < 0 ∨ 562949953421311 < n
  · go_enter Try.func5, Try.ntmps5
    go_wp2_with (first | (go_at_call 13; refine (svar_no _ _ h).mono ?_; rintro e w' ⟨rfl, rfl⟩) | (go_at_call 14; refine (ivar_no _ _ h).mono ?_; rintro e w' ⟨rfl, rfl⟩))
    go_ret
    exact ⟨rfl, Below.refl _ _⟩
  · obtain ⟨m, rfl⟩ := Int.eq_ofNat_of_zero_le (a := n) (by omega)
    have hm : m ≤ 562949953421311 := by omega
    clear h
    go_enter Try.func5, Try.ntmps5
    go_wp2_with (first | (go_at_call 13; refine (svar_yes m _ hm).mono ?_; rintro e w1 ⟨rfl, hb1⟩) | (go_at_call 14; refine (ivar_yes m _ hm).mono ?_; rintro e w2 ⟨rfl, hb2⟩))
    go_ret
    exact ⟨rfl, hb1.trans (hb2.mono hb1.size)⟩
end Go.Proofs.Ytfnbogdpabicnaa
