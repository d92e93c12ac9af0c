/-
  What the two forms of DecodeFixed return: the number of the first bytes, or 0 and false.
-/
import Derived.Test.YtfnbogdpabicnaaKit
namespace Go.Proofs.Ytfnbogdpabicnaa
open Go.RowKit Go.Proofs.Ytfnbogdpabicnaa.Num

theorem val_bound (l : List UInt8) (k : Nat) (hk : k < 7) : val256 (l.take k) 0 < 281474976710656 := by
  have h := val256_lt (l.take k) 0 1 (by omega)
  have hl : (l.take k).length ≤ 6 := Nat.le_trans (List.length_take_le _ _) (by omega)
  have hp : 256 ^ (l.take k).length ≤ 256 ^ 6 := Nat.pow_le_pow_right (by omega) hl
  omega
theorem val_snoc (s : ByteArray) (k : Nat) (h : k < s.size) : val256 (s.data.toList.take (k + 1)) 0 = val256 (s.data.toList.take k) 0 * 256 + s[k].toNat := by
  rw [take_snoc s k h, val256_snoc]

/-- spec.DecodeFixed, where there is a number. -/
theorem sdec_yes (s : ByteArray) (wd : Nat) (w : World) (h1 : 1 ≤ wd) (h7 : wd ≤ 7) (hs : s.size ≤ maxLen) (hw : wd ≤ s.size) :
    Calls Try.prog 11 #[.string s, .int .i64 wd] w fun e w' => e = .returned (.tuple #[.int .i64 (val256 (s.data.toList.take wd) 0), .bool true]) ∧ w = w' := by
  unfold maxLen at hs
  have hlt : decide (s.size < wd) = false := by simpa using hw
  go_enter Try.func11, Try.ntmps11
  go_wp2_with (go_at_call 21; refine (in_yes _ _ _ _ (by omega) (by omega)).mono ?_; rintro e w' ⟨rfl, rfl⟩)
  go_loop [6, 7] (fun n i => ∃ k : Nat, k ≤ wd ∧ i = .int .i64 k ∧ n = .int .i64 (val256 (s.data.toList.take k) 0)) (fun _ i => wd - (intOf i).toNat)
  case atStart => exact ⟨0, Nat.zero_le _, rfl, rfl⟩
  case round =>
    obtain ⟨k, hk, rfl, rfl⟩ := hrel
    by_cases hlt : k < wd
    · have hb := val_bound s.data.toList k (by omega)
      have hks : k < s.size := by omega
      have HS := Lib.hid (val_snoc s k hks)
      have hc := s[k].toNat_lt
      go_wp2
      go_round
      case rel => exact ⟨k + 1, by omega, by go_num, by rw [HS.out]; go_num⟩
      case measure => simp [intOf]; omega
    · obtain rfl : k = wd := by omega
      go_wp2
      go_ret2
      exact ⟨rfl, rfl⟩

/-- spec.DecodeFixed, where there is none. -/
theorem sdec_no (s : ByteArray) (wd : Int) (w : World) (h : wd < 1 ∨ 7 < wd ∨ (s.size : Int) < wd) :
    Calls Try.prog 11 #[.string s, .int .i64 wd] w fun e w' => e = .returned (.tuple #[.int .i64 0, .bool false]) ∧ w = w' := by
  by_cases hr : wd < 1 ∨ 7 < wd
  · go_enter Try.func11, Try.ntmps11
    go_wp2_with (go_at_call 21; refine (in_no _ _ _ _ (by omega)).mono ?_; rintro e w' ⟨rfl, rfl⟩)
    go_ret2
    exact ⟨rfl, rfl⟩
  · have hlt : (s.size : Int) < wd := by omega
    go_enter Try.func11, Try.ntmps11
    go_wp2_with (go_at_call 21; refine (in_yes _ _ _ _ (by omega) (by omega)).mono ?_; rintro e w' ⟨rfl, rfl⟩)
    go_ret2
    exact ⟨rfl, rfl⟩

/-- impl.DecodeFixed, where there is a number. -/
theorem idec_yes (s : ByteArray) (wd : Nat) (w : World) (h1 : 1 ≤ wd) (h7 : wd ≤ 7) (hs : s.size ≤ maxLen) (hw : wd ≤ s.size) :
    Calls Try.prog 12 #[.string s, .int .i64 wd] w fun e w' => e = .returned (.tuple #[.int .i64 (val256 (s.data.toList.take wd) 0), .bool true]) ∧ w = w' := by
  unfold maxLen at hs
  have hlt : decide (s.size < wd) = false := by simpa using hw
  go_enter Try.func12, Try.ntmps12
  go_wp2
  go_loop [6, 21] (fun n i => ∃ k : Nat, k ≤ wd ∧ i = .int .i64 k ∧ n = .int .i64 (val256 (s.data.toList.take k) 0)) (fun _ i => wd - (intOf i).toNat)
  case atStart => exact ⟨0, Nat.zero_le _, rfl, rfl⟩
  case round =>
    obtain ⟨k, hk, rfl, rfl⟩ := hrel
    by_cases hlt : k < wd
    · have hb := val_bound s.data.toList k (by omega)
      have hks : k < s.size := by omega
      have HS := Lib.hid (val_snoc s k hks)
      have hc := s[k].toNat_lt
      go_wp2
      go_round
      case rel => exact ⟨k + 1, by omega, by go_num, by rw [HS.out, i64_or_256 _ _ hb hc]; go_num⟩
      case measure => simp [intOf]; omega
    · obtain rfl : k = wd := by omega
      go_wp2
      go_ret2
      exact ⟨rfl, rfl⟩

/-- impl.DecodeFixed, where there is none. -/
theorem idec_no (s : ByteArray) (wd : Int) (w : World) (h : wd < 1 ∨ 7 < wd ∨ (s.size : Int) < wd) :
    Calls Try.prog 12 #[.string s, .int .i64 wd] w fun e w' => e = .returned (.tuple #[.int .i64 0, .bool false]) ∧ w = w' := by
  by_cases h1 : wd < 1
  · go_enter Try.func12, Try.ntmps12
    go_wp2
    go_ret2
    exact ⟨rfl, rfl⟩
  · by_cases h7 : 7 < wd
    · go_enter Try.func12, Try.ntmps12
      go_wp2
      go_ret2
      exact ⟨rfl, rfl⟩
    · have hlt : (s.size : Int) < wd := by omega
      go_enter Try.func12, Try.ntmps12
      go_wp2
      go_ret2
      exact ⟨rfl, rfl⟩

/-- The law. -/
theorem law_DecodeFixed (s : ByteArray) (wd : Int) (w : World) (hs : s.size ≤ maxLen) :
    Calls Try.prog 4 #[.string s, .int .i64 wd] w fun e w' => e = .returned (.bool true) ∧ Below w.heap.size w w' := by
  by_cases hb : 1048576 < s.size
  · go_enter Try.func4, Try.ntmps4
    go_wp2
    go_ret
    exact ⟨rfl, Below.refl _ _⟩
  · by_cases h : wd < 1 ∨ 7 < wd ∨ (s.size : Int) < wd
    · go_enter Try.func4, Try.ntmps4
      go_wp2_with (first | (go_at_call 11; refine (sdec_no _ _ _ h).mono ?_; rintro e w' ⟨rfl, rfl⟩) | (go_at_call 12; refine (idec_no _ _ _ h).mono ?_; rintro e w' ⟨rfl, rfl⟩))
      go_ret
      exact ⟨rfl, Below.refl _ _⟩
    · obtain ⟨n, rfl⟩ := Int.eq_ofNat_of_zero_le (a := wd) (by omega)
      go_enter Try.func4, Try.ntmps4
      go_wp2_with (first | (go_at_call 11; refine (sdec_yes s n _ (by omega) (by omega) hs (by omega)).mono ?_; rintro e w' ⟨rfl, rfl⟩) | (go_at_call 12; refine (idec_yes s n _ (by omega) (by omega) hs (by omega)).mono ?_; rintro e w' ⟨rfl, rfl⟩))
      go_ret
      exact ⟨rfl, Below.refl _ _⟩
end Go.Proofs.Ytfnbogdpabicnaa
