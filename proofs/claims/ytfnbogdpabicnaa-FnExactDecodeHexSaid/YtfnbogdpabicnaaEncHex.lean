/-
  What the two forms of EncodeHex return: two hexadecimal digits for each byte.
-/
import Derived.Test.YtfnbogdpabicnaaBytes
import Derived.Deep.RegionLaw
namespace Go.Proofs.Ytfnbogdpabicnaa
open Go.RowKit Go.Deep Go.Proofs.Ytfnbogdpabicnaa.Num

def digs : ByteArray := ⟨#[48, 49, 50, 51, 52, 53, 54, 55, 56, 57, 97, 98, 99, 100, 101, 102]⟩
theorem digs_fin : ∀ k : Fin 16, digs.data[k.val]? = some (hexD k.val) := by decide
theorem digs_at (k : Nat) (h : k < digs.size) : digs[k] = hexD k := by
  have h16 : k < 16 := h
  have h1 := digs_fin ⟨k, h16⟩
  rw [Array.getElem?_eq_getElem (by exact h)] at h1
  exact Option.some.inj h1

/-- spec.l1Digit -/
theorem digit_any (k : Nat) (w : World) (h : k < 16) :
    Calls Try.prog 22 #[.int .i64 k] w fun e w' => e = .returned (.int .u8 ((hexD k).toNat : Int)) ∧ w = w' := by
  go_enter Try.func22, Try.ntmps22
  go_wp2
  go_ret
  exact ⟨ret_int (congrArg (fun b : UInt8 => (b.toNat : Int)) (digs_at k h)), rfl⟩
theorem digit_hi (b : UInt8) (w : World) :
    Calls Try.prog 22 #[.int .i64 (IntKind.i64.wrap ((IntKind.i64.wrap (b.toNat : Int)).tdiv 16))] w fun e w' => e = .returned (.int .u8 ((hexD (b.toNat / 16)).toNat : Int)) ∧ w = w' := by
  have hb := b.toNat_lt
  have e : IntKind.i64.wrap ((IntKind.i64.wrap (b.toNat : Int)).tdiv 16) = ((b.toNat / 16 : Nat) : Int) := by
    have e1 : IntKind.i64.wrap (b.toNat : Int) = (b.toNat : Int) := by rw [IntKind.wrap_i64]; omega
    have e2 : ((b.toNat : Int)).tdiv 16 = ((b.toNat / 16 : Nat) : Int) := by rw [Int.tdiv_eq_ediv_of_nonneg (by omega)]; rfl
    rw [e1, e2, IntKind.wrap_i64]; omega
  rw [e]
  exact digit_any (b.toNat / 16) w (by omega)
theorem digit_lo (b : UInt8) (w : World) :
    Calls Try.prog 22 #[.int .i64 ((IntKind.i64.wrap (b.toNat : Int)).tmod 16)] w fun e w' => e = .returned (.int .u8 ((hexD (b.toNat % 16)).toNat : Int)) ∧ w = w' := by
  have hb := b.toNat_lt
  have e : (IntKind.i64.wrap (b.toNat : Int)).tmod 16 = ((b.toNat % 16 : Nat) : Int) := by
    have e1 : IntKind.i64.wrap (b.toNat : Int) = (b.toNat : Int) := by rw [IntKind.wrap_i64]; omega
    have e2 : ((b.toNat : Int)).tmod 16 = ((b.toNat % 16 : Nat) : Int) := by rw [Int.tmod_eq_emod_of_nonneg (by omega)]; rfl
    rw [e1, e2]
  rw [e]
  exact digit_any (b.toNat % 16) w (by omega)

set_option maxRecDepth 100000 in
set_option maxHeartbeats 400000 in
/-- spec.EncodeHex -/
theorem shex (s : ByteArray) (w : World) (hs : s.size ≤ 1048576) :
    Calls Try.prog 17 #[.string s] w fun e w' => e = .returned (.string ⟨(hexL s.data.toList).toArray⟩) ∧ Below w.heap.size w w' := by
  go_enter Try.func17, Try.ntmps17
  go_wp2
  go_loopw [3, 4] (fun v i wr => ∃ k : Nat, k ≤ s.size ∧ i = .int .i64 k ∧ OwnB wr w.heap.size v (hexL (s.data.toList.take k)) ∧ Below w.heap.size w wr) (fun _ i _ => s.size - (intOf i).toNat)
  case atStart => exact ⟨0, Nat.zero_le _, rfl, OwnB.lit w _ 0 _ (Nat.le_refl _) (by decide) rfl, (Below.refl _ _).alloc (Nat.le_refl _) _⟩
  case round =>
    obtain ⟨k, hk, rfl, hown, hb⟩ := hrel
    by_cases hlt : k < s.size
    · have hcc := s[k].toNat_lt
      go_wp2
      go_region_law (first | (refine step_append_bytes _ rfl (.tmp 12) (.tmp 25) rfl w.heap.size _ _ rfl (hown.drew.alloc _) wr.heap.size 2 2 [hexD (s[k].toNat / 16), hexD (s[k].toNat % 16)] rfl rfl (cell_new wr.drew _) (by rw [hexL_len]; simp; omega) (by have := hb.size; simp; omega) ?_; intro v' w' hown' hbel) | (go_simp; go_at_call 22; (with_reducible refine (digit_hi _ _).mono ?_); rintro e w' ⟨rfl, rfl⟩) | (go_simp; go_at_call 22; (with_reducible refine (digit_lo _ _).mono ?_); rintro e w' ⟨rfl, rfl⟩))
      all_goals
        have hB : Below w.heap.size w w' := ((hb.drew).alloc (by exact hb.size) _).trans hbel
        go_wp2
        go_roundw
        case rel => exact ⟨k + 1, by omega, by go_num, by rw [take_snoc s k hlt, hexL_snoc]; exact hown', hB⟩
        case measure => simp [intOf]; omega
    · obtain rfl : k = s.size := by omega
      have HC := conv_own wr _ _ _ hown
      rw [List.take_of_length_le (by simp)] at HC
      go_wp2
      go_ret
      exact ⟨rfl, hb⟩

set_option maxRecDepth 100000 in
set_option maxHeartbeats 400000 in
/-- impl.EncodeHex -/
theorem ihex (s : ByteArray) (w : World) (hs : s.size ≤ 1048576) :
    Calls Try.prog 18 #[.string s] w fun e w' => e = .returned (.string ⟨(hexL s.data.toList).toArray⟩) ∧ Below w.heap.size w w' := by
  have hmk := make_cap (2 * (s.size : Int)) (by omega) (by omega)
  go_enter Try.func18, Try.ntmps18
  go_wp2
  clear hmk
  go_loopw [3, 11] (fun v i wr => ∃ k : Nat, k ≤ s.size ∧ i = .int .i64 k ∧ OwnB wr w.heap.size v (hexL (s.data.toList.take k)) ∧ Below w.heap.size w wr) (fun _ i _ => s.size - (intOf i).toNat)
  case atStart => exact ⟨0, Nat.zero_le _, rfl, OwnB.lit w _ _ _ (Nat.le_refl _) (by unfold maxLen; omega) (size_madeCells _ _), (Below.refl _ _).alloc (Nat.le_refl _) _⟩
  case round =>
    obtain ⟨k, hk, rfl, hown, hb⟩ := hrel
    by_cases hlt : k < s.size
    · have hcc := s[k].toNat_lt
      go_wp2
      have q0 : (0 : Int) ≤ (s[k].toNat : Int) / 16 := by omega
      have q1 : (s[k].toNat : Int) / 16 < 16 := by omega
      have r0 : (0 : Int) ≤ (s[k].toNat : Int) % 16 := by omega
      have r1 : (s[k].toNat : Int) % 16 < 16 := by omega
      have hb15 : bits .and .u8 (s[k].toNat : Int) 15 = (s[k].toNat : Int) % 16 := by
        have h := u8_and_nat s[k].toNat 15 (by omega) (by decide)
        rw [nat_mask4] at h
        exact h
      go_region_law (refine step_append_bytes _ rfl (.tmp 14) (.tmp 25) rfl w.heap.size _ _ rfl (hown.drew.alloc _) wr.heap.size 2 2 [digs[((s[k].toNat : Int) / 16).toNat]'(by show _ < 16; omega), digs[((s[k].toNat : Int) % 16).toNat]'(by show _ < 16; omega)] rfl rfl (cell_new wr.drew _) (by rw [hexL_len]; simp; omega) (by have := hb.size; simp; omega) ?_; intro v' w' hown' hbel)
      all_goals
        have hB : Below w.heap.size w w' := ((hb.drew).alloc (by exact hb.size) _).trans hbel
        rw [digs_at, digs_at] at hown'
        clear hb15
        go_wp2
        go_roundw
        case rel => exact ⟨k + 1, by omega, by go_num, by rw [take_snoc s k hlt, hexL_snoc]; exact hown', hB⟩
        case measure => simp [intOf]; omega
    · obtain rfl : k = s.size := by omega
      have HC := conv_own wr _ _ _ hown
      rw [List.take_of_length_le (by simp)] at HC
      go_wp2
      go_ret
      exact ⟨rfl, hb⟩

/-- The law. -/
theorem law_EncodeHex (s : ByteArray) (w : World) :
    Calls Try.prog 7 #[.string s] w fun e w' => e = .returned (.bool true) ∧ Below w.heap.size w w' := by
  by_cases hb : 1048576 < s.size
  · go_enter Try.func7, Try.ntmps7
    go_wp2
    go_ret
    exact ⟨rfl, Below.refl _ _⟩
  · go_enter Try.func7, Try.ntmps7
    go_wp2_with (first | (go_at_call 17; refine (shex s _ (by omega)).mono ?_; rintro e w1 ⟨rfl, hb1⟩) | (go_at_call 18; refine (ihex s _ (by omega)).mono ?_; rintro e w2 ⟨rfl, hb2⟩))
    go_ret
    exact ⟨rfl, hb1.trans (hb2.mono hb1.size)⟩
end Go.Proofs.Ytfnbogdpabicnaa
