/-
  What impl.DecodeVarint returns.
-/
import Derived.Test.YtfnbogdpabicnaaDoorKit
namespace Go.Proofs.YtfnbogdpabicnaaDoor
open Go.RowKit Go.Deep Go.Proofs.YtfnbogdpabicnaaDoor.Num

theorem wrap_small (n : Nat) (h : n < 9223372036854775808) : wrap64 (n : Int) = n := by
  unfold wrap64; omega

theorem or_step (l : List UInt8) (k : Nat) (hk : k < l.length) (h7 : k < 7) :
    bits .or .i64 (vval (l.take k) : Int) (wrap64 (wrap64 (bits .and .u8 (l[k].toNat : Int) 127) * 2 ^ (7 * k))) = (vval (l.take (k + 1)) : Int) := by
  have hb := l[k].toNat_lt
  have e1 : bits .and .u8 (l[k].toNat : Int) 127 = ((l[k].toNat % 128 : Nat) : Int) := by
    have h := u8_and_nat l[k].toNat 127 (by omega) (by decide)
    rw [nat_mask7] at h
    exact h
  have e2 : vval (l.take (k + 1)) = vval (l.take k) + 128 ^ k * (l[k].toNat % 128) := by
    rw [List.take_succ_eq_append_getElem hk, vval_snoc]
    have : (l.take k).length = k := by simp; omega
    rw [this]
  have hv := vval_lt (l.take k)
  have hlen : (l.take k).length = k := by simp; omega
  rw [hlen] at hv
  have hp : (128 : Nat) ^ k = 2 ^ (7 * k) := by rw [Nat.pow_mul]
  rw [hp] at hv e2
  have hple : (2 : Nat) ^ (7 * k) ≤ 2 ^ 42 := Nat.pow_le_pow_right (by omega) (by omega)
  have e3 : ((l[k].toNat % 128 : Nat) : Int) * 2 ^ (7 * k) = ((2 ^ (7 * k) * (l[k].toNat % 128) : Nat) : Int) := by
    rw [Int.natCast_mul, Int.mul_comm]; congr 1
  have hmul : 2 ^ (7 * k) * (l[k].toNat % 128) ≤ 2 ^ 42 * 127 := Nat.mul_le_mul hple (by omega)
  rw [e1, wrap_small _ (by omega), e3, wrap_small _ (by omega), e2]
  rw [i64_or_nat (vval (l.take k)) (2 ^ (7 * k) * (l[k].toNat % 128)) (by omega) (by omega), Nat.or_comm, nat_join (7 * k) _ _ (Nat.mul_mod_right _ _) hv]
  omega

set_option maxRecDepth 100000 in
set_option maxHeartbeats 800000 in
/-- impl.DecodeVarint -/
theorem idv (s : ByteArray) (w : World) (hs : s.size ≤ maxLen) :
    Calls Tryd.prog 10 #[.string s] w fun e w' => ∃ n k : Nat, e = .returned (.tuple #[.int .i64 n, .int .i64 k]) ∧ IsDec s.data.toList n k ∧ Below w.heap.size w w' := by
  unfold maxLen at hs
  go_enter Tryd.func10, Tryd.ntmps10
  by_cases hm : s.size ≤ 7
  all_goals
    go_wp2
    go_loop [4, 9] (fun n i => ∃ k : Nat, k ≤ 7 ∧ k ≤ s.size ∧ i = .int .i64 k ∧ n = .int .i64 (vval (s.data.toList.take k)) ∧ (∀ a ∈ s.data.toList.take k, 128 ≤ a.toNat) ∧ ∀ j, 1 ≤ j → j < k + 1 → ¬ okV (s.data.toList.take j)) (fun _ i => 7 - (intOf i).toNat)
    case atStart => exact ⟨0, by omega, by omega, rfl, rfl, by simp, fun j a b => absurd a (by omega)⟩
    case round =>
      obtain ⟨k, h7, hks, rfl, rfl, hge, hno⟩ := hrel
      have HGE := Lib.hid hge
      have HNO := Lib.hid hno
      clear hge hno
      by_cases hlt : k < 7 ∧ k < s.size
      · obtain ⟨hl7, hls⟩ := hlt
        have hcc := s[k].toNat_lt
        by_cases hbig : 128 ≤ s[k].toNat
        · go_wp2
          go_round
          case rel => exact ⟨k + 1, by omega, by omega, by go_num, congrArg (Value.int .i64) (or_step s.data.toList k (by simpa using hls) hl7), ge_more (by simpa using hls) HGE.out hbig, no_big (by simpa using hls) HNO.out hbig⟩
          case measure => simp [intOf]; omega
        · have hsm : s[k].toNat < 128 := by omega
          clear hbig
          by_cases hk0 : k = 0
          · have HK := Lib.hid hk0
            have hk1 : ¬ 0 < k := by omega
            clear hk0
            go_wp2
            go_ret2
            exact ⟨vval (s.data.toList.take (k + 1)), k + 1, by rw [← or_step s.data.toList k (by simpa using hls) hl7]; rfl, .inl ⟨by omega, by omega, by simp; omega, ok_small (by simpa using hls) HGE.out hsm (.inl HK.out), rfl, fun j a b => HNO.out j a b⟩, Below.refl _ _⟩
          · by_cases hz : s[k].toNat = 0
            · have hzb : ((s[k].toNat : Int) == 0) = true := by simpa using hz
              have HZ := Lib.hid hz
              clear hz
              go_wp2
              go_ret2
              exact ⟨0, 0, rfl, .inr ⟨rfl, rfl, no_zero (by simpa using hls) (by omega) HNO.out HZ.out⟩, Below.refl _ _⟩
            · have hzb : ((s[k].toNat : Int) == 0) = false := by simpa using hz
              go_wp2
              go_ret2
              exact ⟨vval (s.data.toList.take (k + 1)), k + 1, by rw [← or_step s.data.toList k (by simpa using hls) hl7]; rfl, .inl ⟨by omega, by omega, by simp; omega, ok_small (by simpa using hls) HGE.out hsm (.inr hz), rfl, fun j a b => HNO.out j a b⟩, Below.refl _ _⟩
      · go_wp2
        go_ret2
        exact ⟨0, 0, rfl, .inr ⟨rfl, rfl, fun j a b c => HNO.out j a (by simp at c; omega)⟩, Below.refl _ _⟩
end Go.Proofs.YtfnbogdpabicnaaDoor
