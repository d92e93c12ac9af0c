/-
  What impl.DecodeFixed returns.
-/
import Derived.Test.YtfnbogdpabicnaaDoorValFixed
namespace Go.Proofs.YtfnbogdpabicnaaDoor
open Go.RowKit Go.Deep Go.Proofs.YtfnbogdpabicnaaDoor.Num

/-- impl.DecodeFixed, where there is a number. -/
theorem idec_yes (s : ByteArray) (wd : Nat) (w : World) (h1 : 1 ≤ wd) (h7 : wd ≤ 7) (hs : s.size ≤ maxLen) (hw : wd ≤ s.size) :
    Calls Tryd.prog 13 #[.string s, .int .i64 wd] w fun e w' => e = .returned (.tuple #[.int .i64 (val256 (s.data.toList.take wd) 0), .bool true]) ∧ w = w' := by
  unfold maxLen at hs
  have hlt : decide (s.size < wd) = false := by simpa using hw
  go_enter Tryd.func13, Tryd.ntmps13
  go_wp2
  go_loop [6, 21] (fun n i => ∃ k : Nat, k ≤ wd ∧ i = .int .i64 k ∧ n = .int .i64 (val256 (s.data.toList.take k) 0)) (fun _ i => wd - (intOf i).toNat)
  case atStart => exact ⟨0, Nat.zero_le _, rfl, rfl⟩
  case round =>
    obtain ⟨k, hk, rfl, rfl⟩ := hrel
    by_cases hlt : k < wd
    · have hb := val_bound s.data.toList k (by omega)
      have hks : k < s.size := by omega
      have HS := Lib.hid (val_snoc s k hks)
      have hc := s[k].toNat_lt
      go_wp2
      go_round
      case rel => exact ⟨k + 1, by omega, by go_num, by rw [HS.out, i64_or_256 _ _ hb hc]; go_num⟩
      case measure => simp [intOf]; omega
    · obtain rfl : k = wd := by omega
      go_wp2
      go_ret2
      exact ⟨rfl, rfl⟩

/-- impl.DecodeFixed, where there is none. -/
theorem idec_no (s : ByteArray) (wd : Int) (w : World) (h : wd < 1 ∨ 7 < wd ∨ (s.size : Int) < wd) :
    Calls Tryd.prog 13 #[.string s, .int .i64 wd] w fun e w' => e = .returned (.tuple #[.int .i64 0, .bool false]) ∧ w = w' := by
  by_cases h1 : wd < 1
  · go_enter Tryd.func13, Tryd.ntmps13
    go_wp2
    go_ret2
    exact ⟨rfl, rfl⟩
  · by_cases h7 : 7 < wd
    · go_enter Tryd.func13, Tryd.ntmps13
      go_wp2
      go_ret2
      exact ⟨rfl, rfl⟩
    · have hlt : (s.size : Int) < wd := by omega
      go_enter Tryd.func13, Tryd.ntmps13
      go_wp2
      go_ret2
      exact ⟨rfl, rfl⟩
end Go.Proofs.YtfnbogdpabicnaaDoor
