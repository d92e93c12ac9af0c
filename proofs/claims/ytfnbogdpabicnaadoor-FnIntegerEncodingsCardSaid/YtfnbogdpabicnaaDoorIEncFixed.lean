/-
  What impl.EncodeFixed returns.
-/
import Derived.Test.YtfnbogdpabicnaaDoorKit
namespace Go.Proofs.YtfnbogdpabicnaaDoor
open Go.RowKit Go.Deep Go.Proofs.YtfnbogdpabicnaaDoor.Num

/-- impl.EncodeFixed, where the width or the sign is wrong. -/
theorem ienc_no (n wd : Int) (w : World) (h : wd < 1 ∨ 7 < wd ∨ n < 0) :
    Calls Tryd.prog 12 #[.int .i64 n, .int .i64 wd] w fun e w' => e = .returned (.string ⟨[].toArray⟩) ∧ w = w' := by
  by_cases h1 : wd < 1
  · go_enter Tryd.func12, Tryd.ntmps12
    go_wp2
    go_ret
    exact ⟨rfl, rfl⟩
  · by_cases h7 : 7 < wd
    · go_enter Tryd.func12, Tryd.ntmps12
      go_wp2
      go_ret
      exact ⟨rfl, rfl⟩
    · have hn : n < 0 := by omega
      go_enter Tryd.func12, Tryd.ntmps12
      go_wp2
      go_ret
      exact ⟨rfl, rfl⟩

theorem pow_shift (n wd : Nat) (h7 : wd ≤ 7) : (wrap64 (2 ^ (8 * wd)) ≤ (n : Int)) ↔ 0 < dn wd n := by
  rw [dn_pos]
  have h : wd = 0 ∨ wd = 1 ∨ wd = 2 ∨ wd = 3 ∨ wd = 4 ∨ wd = 5 ∨ wd = 6 ∨ wd = 7 := by omega
  rcases h with rfl | rfl | rfl | rfl | rfl | rfl | rfl | rfl <;> simp [wrap64] <;> omega

/-- impl.EncodeFixed, where they are right, but the number is too large. -/
theorem ienc_big (n wd : Nat) (w : World) (h1 : 1 ≤ wd) (h7 : wd ≤ 7) (hz : 0 < dn wd n) :
    Calls Tryd.prog 12 #[.int .i64 n, .int .i64 wd] w fun e w' => e = .returned (.string ⟨[].toArray⟩) ∧ w = w' := by
  have ht : decide (wrap64 (2 ^ (8 * wd)) ≤ (n : Int)) = true := decide_eq_true ((pow_shift n wd h7).2 hz)
  clear hz
  go_enter Tryd.func12, Tryd.ntmps12
  go_wp2
  go_ret
  exact ⟨rfl, rfl⟩

/-- impl.EncodeFixed, where all is right. -/
theorem ienc_yes (n wd : Nat) (w : World) (h1 : 1 ≤ wd) (h7 : wd ≤ 7) (hn : n ≤ 9223372036854775807) (hz : ¬ 0 < dn wd n) :
    Calls Tryd.prog 12 #[.int .i64 n, .int .i64 wd] w fun e w' => e = .returned (.string ⟨(fixB wd n).toArray⟩) ∧ Below w.heap.size w w' := by
  have ht : decide (wrap64 (2 ^ (8 * wd)) ≤ (n : Int)) = false := decide_eq_false (fun h => hz ((pow_shift n wd h7).1 h))
  have hmk := make_row wd (by omega)
  clear hz
  go_enter Tryd.func12, Tryd.ntmps12
  go_wp2
  clear hmk
  go_loopw [0, 6] (fun x i wr => ∃ m k : Nat, m + k = wd ∧ i = .int .i64 ((m : Int) - 1) ∧ x = .int .i64 (dn k n) ∧ wr = w.alloc (.cells (cellsB (List.replicate m 0 ++ fixB k n)) 5)) (fun _ i _ => (intOf i + 1).toNat)
  case atStart => exact ⟨wd, 0, by omega, rfl, rfl, by simp [fixB]⟩
  case round =>
    obtain ⟨m, k, hk, rfl, rfl, rfl⟩ := hrel
    have hd := dn_le k n
    cases m with
    | zero =>
      obtain rfl : k = wd := by omega
      have hcv := conv_row (w.alloc (.cells (cellsB (fixB k n)) 5)) w.heap.size (fixB k n) k (fun j _ => by go_simp)
      rw [fixB_len] at hcv
      go_wp2
      go_ret
      exact ⟨rfl, (Below.refl _ _).alloc (Nat.le_refl _) _⟩
    | succ m =>
      rw [show ((m + 1 : Nat) : Int) - 1 = (m : Int) from by omega]
      have hlt : m < wd := by omega
      have hcell : (cellsB (List.replicate (m + 1) 0 ++ fixB k n))[m]? = some (.int .u8 0) := by
        rw [cellsB_at _ _ (by simp; omega)]; simp
      have hset : (cellsB (List.replicate (m + 1) 0 ++ fixB k n)).setIfInBounds m (.int .u8 ((dn k n : Int) % 256)) = cellsB (List.replicate m 0 ++ fixB (k + 1) n) := by
        have h := cellsB_set (List.replicate m 0) (fixB k n) 0 (dn k n % 256) (by omega)
        rw [List.length_replicate] at h
        rw [fixB_cons, ← h, List.replicate_succ', List.append_assoc]; rfl
      have HS := Lib.hid hset
      clear hset
      go_wp2
      go_roundw
      case rel => exact ⟨m, k + 1, by omega, rfl, by go_num, by rw [HS.out]⟩
      case measure => simp [intOf]
end Go.Proofs.YtfnbogdpabicnaaDoor
