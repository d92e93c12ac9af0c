/-
  What the two forms of EncodeFixed return: the low bytes of the number, or the empty string.
-/
import Derived.Test.YtfnbogdpabicnaaKit
namespace Go.Proofs.Ytfnbogdpabicnaa
open Go.RowKit Go.Proofs.Ytfnbogdpabicnaa.Num

/-- spec.EncodeFixed, where the width and the sign are right. -/
theorem senc_any (n wd : Nat) (w : World) (h1 : 1 ≤ wd) (h7 : wd ≤ 7) (hn : n ≤ 9223372036854775807) :
    Calls Try.prog 9 #[.int .i64 n, .int .i64 wd] w fun e w' => e = .returned (.string ⟨(if 0 < dn wd n then [] else fixB wd n).toArray⟩) ∧ Below w.heap.size w w' := by
  go_enter Try.func9, Try.ntmps9
  go_wp2_with (go_at_call 21; refine (in_yes _ _ _ _ (by omega) (by omega)).mono ?_; rintro e w' ⟨rfl, rfl⟩)
  go_loopw [0, 5, 6] (fun x out i wr => ∃ k : Nat, k ≤ wd ∧ i = .int .i64 k ∧ x = .int .i64 (dn k n) ∧ out = .string ⟨(fixB k n).toArray⟩ ∧ Below w.heap.size w wr) (fun _ _ i _ => wd - (intOf i).toNat)
  case atStart => exact ⟨0, Nat.zero_le _, rfl, rfl, rfl, Below.refl _ _⟩
  case round =>
    obtain ⟨k, hk, rfl, rfl, rfl, hb⟩ := hrel
    by_cases hlt : k < wd
    · have hd := dn_le k n
      have hc := conv_low wr (dn k n)
      have hl : (fixB k n).length ≤ 7 := by rw [fixB_len]; omega
      have hadd : ∀ W : World, (Op.stringOp .add ⟨[UInt8.ofNat (dn k n % 256)].toArray⟩ ⟨(fixB k n).toArray⟩).run Try.prog W = .ok (.string ⟨(fixB (k + 1) n).toArray⟩) W := fun W => by
        rw [run_string_add_lists W _ _ (by simp) (by omega), fixB_cons]; rfl
      go_wp2
      go_roundw
      case rel => exact ⟨k + 1, by omega, by go_num, by go_num, rfl, hb.alloc hb.size _⟩
      case measure => simp [intOf]; omega
    · obtain rfl : k = wd := by omega
      by_cases hz : 0 < dn k n
      · go_wp2
        go_ret
        exact ⟨by simp, hb⟩
      · go_wp2
        go_ret
        exact ⟨by simp, hb⟩
/-- spec.EncodeFixed, where they are not. -/
theorem senc_no (n wd : Int) (w : World) (h : wd < 1 ∨ 7 < wd ∨ n < 0) :
    Calls Try.prog 9 #[.int .i64 n, .int .i64 wd] w fun e w' => e = .returned (.string ⟨[].toArray⟩) ∧ w = w' := by
  by_cases hr : wd < 1 ∨ 7 < wd
  · go_enter Try.func9, Try.ntmps9
    go_wp2_with (go_at_call 21; refine (in_no _ _ _ _ (by omega)).mono ?_; rintro e w' ⟨rfl, rfl⟩)
    go_ret
    exact ⟨rfl, rfl⟩
  · have hn : n < 0 := by omega
    go_enter Try.func9, Try.ntmps9
    go_wp2_with (go_at_call 21; refine (in_yes _ _ _ _ (by omega) (by omega)).mono ?_; rintro e w' ⟨rfl, rfl⟩)
    go_ret
    exact ⟨rfl, rfl⟩

/-- impl.EncodeFixed, where the width or the sign is wrong. -/
theorem ienc_no (n wd : Int) (w : World) (h : wd < 1 ∨ 7 < wd ∨ n < 0) :
    Calls Try.prog 10 #[.int .i64 n, .int .i64 wd] w fun e w' => e = .returned (.string ⟨[].toArray⟩) ∧ w = w' := by
  by_cases h1 : wd < 1
  · go_enter Try.func10, Try.ntmps10
    go_wp2
    go_ret
    exact ⟨rfl, rfl⟩
  · by_cases h7 : 7 < wd
    · go_enter Try.func10, Try.ntmps10
      go_wp2
      go_ret
      exact ⟨rfl, rfl⟩
    · have hn : n < 0 := by omega
      go_enter Try.func10, Try.ntmps10
      go_wp2
      go_ret
      exact ⟨rfl, rfl⟩

theorem pow_shift (n wd : Nat) (h7 : wd ≤ 7) : (wrap64 (2 ^ (8 * wd)) ≤ (n : Int)) ↔ 0 < dn wd n := by
  rw [dn_pos]
  have h : wd = 0 ∨ wd = 1 ∨ wd = 2 ∨ wd = 3 ∨ wd = 4 ∨ wd = 5 ∨ wd = 6 ∨ wd = 7 := by omega
  rcases h with rfl | rfl | rfl | rfl | rfl | rfl | rfl | rfl <;> simp [wrap64] <;> omega

/-- impl.EncodeFixed, where they are right, but the number is too large. -/
theorem ienc_big (n wd : Nat) (w : World) (h1 : 1 ≤ wd) (h7 : wd ≤ 7) (hz : 0 < dn wd n) :
    Calls Try.prog 10 #[.int .i64 n, .int .i64 wd] w fun e w' => e = .returned (.string ⟨[].toArray⟩) ∧ w = w' := by
  have ht : decide (wrap64 (2 ^ (8 * wd)) ≤ (n : Int)) = true := decide_eq_true ((pow_shift n wd h7).2 hz)
  clear hz
  go_enter Try.func10, Try.ntmps10
  go_wp2
  go_ret
  exact ⟨rfl, rfl⟩

/-- impl.EncodeFixed, where all is right. -/
theorem ienc_yes (n wd : Nat) (w : World) (h1 : 1 ≤ wd) (h7 : wd ≤ 7) (hn : n ≤ 9223372036854775807) (hz : ¬ 0 < dn wd n) :
    Calls Try.prog 10 #[.int .i64 n, .int .i64 wd] w fun e w' => e = .returned (.string ⟨(fixB wd n).toArray⟩) ∧ Below w.heap.size w w' := by
  have ht : decide (wrap64 (2 ^ (8 * wd)) ≤ (n : Int)) = false := decide_eq_false (fun h => hz ((pow_shift n wd h7).1 h))
  have hmk := make_row wd (by omega)
  clear hz
  go_enter Try.func10, Try.ntmps10
  go_wp2
  clear hmk
  go_loopw [0, 6] (fun x i wr => ∃ m k : Nat, m + k = wd ∧ i = .int .i64 ((m : Int) - 1) ∧ x = .int .i64 (dn k n) ∧ wr = w.alloc (.cells (cellsB (List.replicate m 0 ++ fixB k n)) 5)) (fun _ i _ => (intOf i + 1).toNat)
  case atStart => exact ⟨wd, 0, by omega, rfl, rfl, by simp [fixB]⟩
  case round =>
    obtain ⟨m, k, hk, rfl, rfl, rfl⟩ := hrel
    have hd := dn_le k n
    cases m with
    | zero =>
      obtain rfl : k = wd := by omega
      have hcv := conv_row (w.alloc (.cells (cellsB (fixB k n)) 5)) w.heap.size (fixB k n) k (fun j _ => by go_simp)
      rw [fixB_len] at hcv
      go_wp2
      go_ret
      exact ⟨rfl, (Below.refl _ _).alloc (Nat.le_refl _) _⟩
    | succ m =>
      rw [show ((m + 1 : Nat) : Int) - 1 = (m : Int) from by omega]
      have hlt : m < wd := by omega
      have hcell : (cellsB (List.replicate (m + 1) 0 ++ fixB k n))[m]? = some (.int .u8 0) := by
        rw [cellsB_at _ _ (by simp; omega)]; simp
      have hset : (cellsB (List.replicate (m + 1) 0 ++ fixB k n)).setIfInBounds m (.int .u8 ((dn k n : Int) % 256)) = cellsB (List.replicate m 0 ++ fixB (k + 1) n) := by
        have h := cellsB_set (List.replicate m 0) (fixB k n) 0 (dn k n % 256) (by omega)
        rw [List.length_replicate] at h
        rw [fixB_cons, ← h, List.replicate_succ', List.append_assoc]; rfl
      have HS := Lib.hid hset
      clear hset
      go_wp2
      go_roundw
      case rel => exact ⟨m, k + 1, by omega, rfl, by go_num, by rw [HS.out]⟩
      case measure => simp [intOf]

/-- The law. -/
theorem law_EncodeFixed (n wd : Int) (w : World) (hn : (Lit.int .i64 n).wf = true) :
    Calls Try.prog 3 #[.int .i64 n, .int .i64 wd] w fun e w' => e = .returned (.bool true) ∧ Below w.heap.size w w' := by
  have hn' : n ≤ 9223372036854775807 := by
    simp [Lit.wf, IntKind.min, IntKind.max, IntKind.signed, IntKind.bits] at hn; omega
  clear hn
  by_cases h : wd < 1 ∨ 7 < wd ∨ n < 0
  · go_enter Try.func3, Try.ntmps3
    go_wp2_with (first | (go_at_call 9; refine (senc_no _ _ _ h).mono ?_; rintro e w' ⟨rfl, rfl⟩) | (go_at_call 10; refine (ienc_no _ _ _ h).mono ?_; rintro e w' ⟨rfl, rfl⟩))
    go_ret
    exact ⟨rfl, Below.refl _ _⟩
  · obtain ⟨d, rfl⟩ := Int.eq_ofNat_of_zero_le (a := wd) (by omega)
    obtain ⟨m, rfl⟩ := Int.eq_ofNat_of_zero_le (a := n) (by omega)
    have h1 : 1 ≤ d := by omega
    have h7 : d ≤ 7 := by omega
    have hm : m ≤ 9223372036854775807 := by omega
    clear h hn'
    by_cases hz : 0 < dn d m
    · have sc := senc_any m d w h1 h7 hm
      rw [if_pos hz] at sc
      have SC := Lib.hid sc
      clear sc
      go_enter Try.func3, Try.ntmps3
      go_wp2_with (first | (go_at_call 9; refine SC.out.mono ?_; rintro e w1 ⟨rfl, hb1⟩) | (go_at_call 10; refine (ienc_big m d _ h1 h7 hz).mono ?_; rintro e w' ⟨rfl, rfl⟩))
      go_ret
      exact ⟨rfl, hb1⟩
    · have sc := senc_any m d w h1 h7 hm
      rw [if_neg hz] at sc
      have SC := Lib.hid sc
      clear sc
      go_enter Try.func3, Try.ntmps3
      go_wp2_with (first | (go_at_call 9; refine SC.out.mono ?_; rintro e w1 ⟨rfl, hb1⟩) | (go_at_call 10; refine (ienc_yes m d _ h1 h7 hm hz).mono ?_; rintro e w2 ⟨rfl, hb2⟩))
      go_ret
      exact ⟨rfl, hb1.trans (hb2.mono hb1.size)⟩
end Go.Proofs.Ytfnbogdpabicnaa
