/-
  What spec.EncodeFixed returns.
-/
import Derived.Test.YtkhekbfakloaoaaIn
import Derived.Test.YtkhekbfakloaoaaKit
namespace Go.Proofs.Ytkhekbfakloaoaa
open Go.RowKit Go.Deep Go.Proofs.Ytkhekbfakloaoaa.Num

/-- spec.EncodeFixed, where the width and the sign are right. -/
theorem senc_any (n wd : Nat) (w : World) (h1 : 1 ≤ wd) (h7 : wd ≤ 7) (hn : n ≤ 9223372036854775807) :
    Calls Try.prog 69 #[.int .i64 n, .int .i64 wd] w fun e w' => e = .returned (.string ⟨(if 0 < dn wd n then [] else fixB wd n).toArray⟩) ∧ Below w.heap.size w w' := by
  go_enter Try.func69, Try.ntmps69
  go_wp2_with (go_at_call 48; refine (in_yes _ _ _ _ (by omega) (by omega)).mono ?_; rintro e w' ⟨rfl, rfl⟩)
  go_loopw [0, 5, 6] (fun x out i wr => ∃ k : Nat, k ≤ wd ∧ i = .int .i64 k ∧ x = .int .i64 (dn k n) ∧ out = .string ⟨(fixB k n).toArray⟩ ∧ Below w.heap.size w wr) (fun _ _ i _ => wd - (intOf i).toNat)
  case atStart => exact ⟨0, Nat.zero_le _, rfl, rfl, rfl, Below.refl _ _⟩
  case round =>
    obtain ⟨k, hk, rfl, rfl, rfl, hb⟩ := hrel
    by_cases hlt : k < wd
    · have hd := dn_le k n
      have hc := conv_low wr (dn k n)
      have hl : (fixB k n).length ≤ 7 := by rw [fixB_len]; omega
      have hadd : ∀ W : World, (Op.stringOp .add ⟨[UInt8.ofNat (dn k n % 256)].toArray⟩ ⟨(fixB k n).toArray⟩).run Try.prog W = .ok (.string ⟨(fixB (k + 1) n).toArray⟩) W := fun W => by
        rw [run_string_add_lists W _ _ (by simp) (by omega), fixB_cons]; rfl
      go_wp2
      go_roundw
      case rel => exact ⟨k + 1, by omega, by go_num, by go_num, rfl, hb.alloc hb.size _⟩
      case measure => simp [intOf]; omega
    · obtain rfl : k = wd := by omega
      by_cases hz : 0 < dn k n
      · go_wp2
        go_ret
        exact ⟨by simp, hb⟩
      · go_wp2
        go_ret
        exact ⟨by simp, hb⟩

/-- spec.EncodeFixed, where they are not. -/
theorem senc_no (n wd : Int) (w : World) (h : wd < 1 ∨ 7 < wd ∨ n < 0) :
    Calls Try.prog 69 #[.int .i64 n, .int .i64 wd] w fun e w' => e = .returned (.string ⟨[].toArray⟩) ∧ w = w' := by
  by_cases hr : wd < 1 ∨ 7 < wd
  · go_enter Try.func69, Try.ntmps69
    go_wp2_with (go_at_call 48; refine (in_no _ _ _ _ (by omega)).mono ?_; rintro e w' ⟨rfl, rfl⟩)
    go_ret
    exact ⟨rfl, rfl⟩
  · have hn : n < 0 := by omega
    go_enter Try.func69, Try.ntmps69
    go_wp2_with (go_at_call 48; refine (in_yes _ _ _ _ (by omega) (by omega)).mono ?_; rintro e w' ⟨rfl, rfl⟩)
    go_ret
    exact ⟨rfl, rfl⟩
end Go.Proofs.Ytkhekbfakloaoaa
