/-
  What impl.EncodeHex returns.
-/
import Derived.Test.YtfnbogdpabicnaaDoorDigs
import Derived.Deep.RegionLaw
namespace Go.Proofs.YtfnbogdpabicnaaDoor
open Go.RowKit Go.Deep Go.Proofs.YtfnbogdpabicnaaDoor.Num

set_option maxRecDepth 100000 in
set_option maxHeartbeats 400000 in
/-- impl.EncodeHex -/
theorem ihex (s : ByteArray) (w : World) (hs : s.size ≤ 1048576) :
    Calls Tryd.prog 15 #[.string s] w fun e w' => e = .returned (.string ⟨(hexL s.data.toList).toArray⟩) ∧ Below w.heap.size w w' := by
  have hmk := make_cap (2 * (s.size : Int)) (by omega) (by omega)
  go_enter Tryd.func15, Tryd.ntmps15
  go_wp2
  clear hmk
  go_loopw [3, 11] (fun v i wr => ∃ k : Nat, k ≤ s.size ∧ i = .int .i64 k ∧ OwnB wr w.heap.size v (hexL (s.data.toList.take k)) ∧ Below w.heap.size w wr) (fun _ i _ => s.size - (intOf i).toNat)
  case atStart => exact ⟨0, Nat.zero_le _, rfl, OwnB.lit w _ _ _ (Nat.le_refl _) (by unfold maxLen; omega) (size_madeCells _ _), (Below.refl _ _).alloc (Nat.le_refl _) _⟩
  case round =>
    obtain ⟨k, hk, rfl, hown, hb⟩ := hrel
    by_cases hlt : k < s.size
    · have hcc := s[k].toNat_lt
      go_wp2
      have q0 : (0 : Int) ≤ (s[k].toNat : Int) / 16 := by omega
      have q1 : (s[k].toNat : Int) / 16 < 16 := by omega
      have r0 : (0 : Int) ≤ (s[k].toNat : Int) % 16 := by omega
      have r1 : (s[k].toNat : Int) % 16 < 16 := by omega
      have hb15 : bits .and .u8 (s[k].toNat : Int) 15 = (s[k].toNat : Int) % 16 := by
        have h := u8_and_nat s[k].toNat 15 (by omega) (by decide)
        rw [nat_mask4] at h
        exact h
      go_region_law (refine step_append_bytes _ rfl (.tmp 14) (.tmp 25) rfl w.heap.size _ _ rfl (hown.drew.alloc _) wr.heap.size 2 2 [digs[((s[k].toNat : Int) / 16).toNat]'(by show _ < 16; omega), digs[((s[k].toNat : Int) % 16).toNat]'(by show _ < 16; omega)] rfl rfl (cell_new wr.drew _) (by rw [hexL_len]; simp; omega) (by have := hb.size; simp; omega) ?_; intro v' w' hown' hbel)
      all_goals
        have hB : Below w.heap.size w w' := ((hb.drew).alloc (by exact hb.size) _).trans hbel
        rw [digs_at, digs_at] at hown'
        clear hb15
        go_wp2
        go_roundw
        case rel => exact ⟨k + 1, by omega, by go_num, by rw [take_snoc s k hlt, hexL_snoc]; exact hown', hB⟩
        case measure => simp [intOf]; omega
    · obtain rfl : k = s.size := by omega
      have HC := conv_own wr _ _ _ hown
      rw [List.take_of_length_le (by simp)] at HC
      go_wp2
      go_ret
      exact ⟨rfl, hb⟩
end Go.Proofs.YtfnbogdpabicnaaDoor
