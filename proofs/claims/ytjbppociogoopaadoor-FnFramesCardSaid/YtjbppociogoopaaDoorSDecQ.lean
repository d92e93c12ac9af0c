/-
  What spec.DecodeQuic returns.
-/
import Derived.Test.YtjbppociogoopaaDoorSSize
import Derived.OwnWalk
namespace Go.Proofs.YtjbppociogoopaaDoor
open Go.RowKit Go.Deep Go.Proofs.YtjbppociogoopaaDoor.Num

theorem u8_and63 (b : UInt8) : bits .and .u8 (b.toNat : Int) 63 = ((b.toNat % 64 : Nat) : Int) := by
  have h63 : (BitVec.ofInt 8 63).toNat = 2 ^ 6 - 1 := by decide
  have hb := b.toNat_lt
  show IntKind.u8.wrap ((BitVec.ofInt 8 (b.toNat : Int) &&& BitVec.ofInt 8 63).toNat : Nat) = _
  rw [BitVec.toNat_and, BitVec.toNat_ofInt, h63, Nat.and_two_pow_sub_one_eq_mod]
  have e : ((b.toNat : Int) % ((2 ^ 8 : Nat) : Int)).toNat = b.toNat := by omega
  rw [e]
  simp [IntKind.wrap, IntKind.signed, IntKind.bits]
  omega
theorem i64_or_256' (a b : Nat) (ha : a < 18014398509481984) (hb : b < 256) : bits .or .i64 ((a : Int) * 256) (b : Int) = (a : Int) * 256 + (b : Int) := by
  have h := i64_or_join 8 (a * 256) b (by omega) (by omega) (by omega) (by omega)
  rw [Int.natCast_mul] at h
  exact h
theorem drop_at (s : ByteArray) (a : Nat) (h : a < s.size) : s.data.toList.drop a = s[a] :: s.data.toList.drop (a + 1) :=
  List.drop_eq_getElem_cons (by simpa using h)
theorem qlen_quot (b : UInt8) : (qlen b = 1 ∧ (b.toNat : Int) / 64 = 0) ∨ (qlen b = 2 ∧ (b.toNat : Int) / 64 = 1) ∨ (qlen b = 4 ∧ (b.toNat : Int) / 64 = 2) ∨ (qlen b = 8 ∧ (b.toNat : Int) / 64 = 3) := by
  have := b.toNat_lt
  rcases qlen_cases b with h | h | h | h <;> omega

set_option maxRecDepth 100000 in
/-- spec.DecodeQuic, where a form begins there. -/
theorem sdecq_yes (s : ByteArray) (a n k : Nat) (w : World) (hs : s.size ≤ maxLen) (h : decL (s.data.toList.drop a) = some (n, k)) :
    Calls Tryd.prog 80 #[.string s, .int .i64 a] w fun e w' => e = .returned (.tuple #[.int .i64 n, .int .i64 (a + k : Nat), .bool true]) ∧ w = w' := by
  unfold maxLen at hs
  have h3 : s.data.toList.length = s.size := by simp
  have hk := decL_some h
  have hl : k + a ≤ s.size := by
    have h2 := hk.2.1
    rw [List.length_drop, h3] at h2
    omega
  have ha : a < s.size := by omega
  rw [drop_at s a ha] at h
  obtain ⟨e1, e2, _⟩ := decL_parts h
  have h63 := u8_and63 s[a]
  have hc := s[a].toNat_lt
  have HL : Hid ((s.data.toList.drop (a + 1)).length = s.size - (a + 1)) := Lib.hid (by rw [List.length_drop, h3])
  have HV := Lib.hid fun j => val_step (s.data.toList.drop (a + 1)) (s[a].toNat % 64) j
  have HR := Lib.hid fun j => val_room (s.data.toList.drop (a + 1)) (s[a].toNat % 64) j (by omega)
  have E2 := Lib.hid e2
  have HG : Hid (∀ j (hj : j < (s.data.toList.drop (a + 1)).length) (hj2 : a + (j + 1) < s.size), (s.data.toList.drop (a + 1))[j] = s[a + (j + 1)]) := Lib.hid fun j hj hj2 => by
    rw [List.getElem_drop]
    simp only [show a + 1 + j = a + (j + 1) from by omega]
    rfl
  have hq := qlen_quot s[a]
  rw [← e1] at hq
  have hk' := hk.1
  clear h hk e1 e2
  have hge : ¬ (s.size : Int) ≤ (a : Int) := by omega
  have hcut : ¬ ((s.size : Int) - (a : Int) < (k : Int)) := by omega
  rcases hq with ⟨rfl, h64⟩ | ⟨rfl, h64⟩ | ⟨rfl, h64⟩ | ⟨rfl, h64⟩
  · go_enter Tryd.func80, Tryd.ntmps80
    go_wp2
    go_loop [8, 9] (fun x i => ∃ j : Nat, j + 1 ≤ 1 ∧ i = .int .i64 ((j + 1 : Nat) : Int) ∧ x = .int .i64 (val256 ((s.data.toList.drop (a + 1)).take j) (s[a].toNat % 64) : Nat)) (fun _ i => 1 - (intOf i).toNat)
    case atStart => exact ⟨0, by omega, rfl, rfl⟩
    case round =>
      obtain ⟨j, hj, rfl, rfl⟩ := hrel
      obtain rfl : j = 0 := by omega
      go_wp2
      go_ret3
      exact ⟨by rw [E2.out]; go_num, rfl⟩
  · go_enter Tryd.func80, Tryd.ntmps80
    go_wp2
    go_loop [8, 9] (fun x i => ∃ j : Nat, j + 1 ≤ 2 ∧ i = .int .i64 ((j + 1 : Nat) : Int) ∧ x = .int .i64 (val256 ((s.data.toList.drop (a + 1)).take j) (s[a].toNat % 64) : Nat)) (fun _ i => 2 - (intOf i).toNat)
    case atStart => exact ⟨0, by omega, rfl, rfl⟩
    case round =>
      obtain ⟨j, hj, rfl, rfl⟩ := hrel
      by_cases hlt : j + 1 < 2
      · have hb := HR.out j (by omega)
        have hjs : a + (j + 1) < s.size := by omega
        have hjl : j < (s.data.toList.drop (a + 1)).length := by rw [HL.out]; omega
        have HS := Lib.hid (HV.out j hjl)
        have HN := Lib.hid (HG.out j hjl hjs)
        have hc2 := s[a + (j + 1)].toNat_lt
        go_wp2
        go_round
        case rel => exact ⟨j + 1, by omega, by go_num, by rw [HS.out, HN.out, i64_or_256' _ _ hb hc2]; go_num⟩
        case measure => simp [intOf]; omega
      · obtain rfl : j = 1 := by omega
        go_wp2
        go_ret3
        exact ⟨by rw [E2.out]; go_num, rfl⟩
  · go_enter Tryd.func80, Tryd.ntmps80
    go_wp2
    go_loop [8, 9] (fun x i => ∃ j : Nat, j + 1 ≤ 4 ∧ i = .int .i64 ((j + 1 : Nat) : Int) ∧ x = .int .i64 (val256 ((s.data.toList.drop (a + 1)).take j) (s[a].toNat % 64) : Nat)) (fun _ i => 4 - (intOf i).toNat)
    case atStart => exact ⟨0, by omega, rfl, rfl⟩
    case round =>
      obtain ⟨j, hj, rfl, rfl⟩ := hrel
      by_cases hlt : j + 1 < 4
      · have hb := HR.out j (by omega)
        have hjs : a + (j + 1) < s.size := by omega
        have hjl : j < (s.data.toList.drop (a + 1)).length := by rw [HL.out]; omega
        have HS := Lib.hid (HV.out j hjl)
        have HN := Lib.hid (HG.out j hjl hjs)
        have hc2 := s[a + (j + 1)].toNat_lt
        go_wp2
        go_round
        case rel => exact ⟨j + 1, by omega, by go_num, by rw [HS.out, HN.out, i64_or_256' _ _ hb hc2]; go_num⟩
        case measure => simp [intOf]; omega
      · obtain rfl : j = 3 := by omega
        go_wp2
        go_ret3
        exact ⟨by rw [E2.out]; go_num, rfl⟩
  · go_enter Tryd.func80, Tryd.ntmps80
    go_wp2
    go_loop [8, 9] (fun x i => ∃ j : Nat, j + 1 ≤ 8 ∧ i = .int .i64 ((j + 1 : Nat) : Int) ∧ x = .int .i64 (val256 ((s.data.toList.drop (a + 1)).take j) (s[a].toNat % 64) : Nat)) (fun _ i => 8 - (intOf i).toNat)
    case atStart => exact ⟨0, by omega, rfl, rfl⟩
    case round =>
      obtain ⟨j, hj, rfl, rfl⟩ := hrel
      by_cases hlt : j + 1 < 8
      · have hb := HR.out j (by omega)
        have hjs : a + (j + 1) < s.size := by omega
        have hjl : j < (s.data.toList.drop (a + 1)).length := by rw [HL.out]; omega
        have HS := Lib.hid (HV.out j hjl)
        have HN := Lib.hid (HG.out j hjl hjs)
        have hc2 := s[a + (j + 1)].toNat_lt
        go_wp2
        go_round
        case rel => exact ⟨j + 1, by omega, by go_num, by rw [HS.out, HN.out, i64_or_256' _ _ hb hc2]; go_num⟩
        case measure => simp [intOf]; omega
      · obtain rfl : j = 7 := by omega
        go_wp2
        go_ret3
        exact ⟨by rw [E2.out]; go_num, rfl⟩

/-- spec.DecodeQuic, where none begins there. -/
theorem sdecq_no (s : ByteArray) (a : Int) (w : World) (hs : s.size ≤ maxLen) (h : a < 0 ∨ decL (s.data.toList.drop a.toNat) = none) :
    Calls Tryd.prog 80 #[.string s, .int .i64 a] w fun e w' => e = .returned (.tuple #[.int .i64 0, .int .i64 0, .bool false]) ∧ w = w' := by
  have _h9 : s.size ≤ 2 ^ 63 - 1 := hs
  by_cases h0 : a < 0
  · go_enter Tryd.func80, Tryd.ntmps80
    go_wp2
    go_ret3
    exact ⟨rfl, rfl⟩
  · obtain ⟨m, rfl⟩ := Int.eq_ofNat_of_zero_le (by omega : 0 ≤ a)
    by_cases hge : (s.size : Int) ≤ (m : Int)
    · clear h
      go_enter Tryd.func80, Tryd.ntmps80
      go_wp2
      go_ret3
      exact ⟨rfl, rfl⟩
    · have ha : m < s.size := by omega
      have h3 : s.data.toList.length = s.size := by simp
      have h : decL (s.data.toList.drop m) = none := by
        rcases h with h | h
        · omega
        · rwa [Int.toNat_natCast] at h
      rw [drop_at s m ha] at h
      have hk := decL_no h
      rw [List.length_drop, h3] at hk
      clear h
      have hq := qlen_quot s[m]
      generalize qlen s[m] = k at hk hq
      have hcut : (s.size : Int) - (m : Int) < (k : Int) := by omega
      clear hk
      rcases hq with ⟨rfl, h64⟩ | ⟨rfl, h64⟩ | ⟨rfl, h64⟩ | ⟨rfl, h64⟩
      all_goals
        go_enter Tryd.func80, Tryd.ntmps80
        go_wp2
        all_goals go_ret3
        all_goals exact ⟨rfl, rfl⟩
end Go.Proofs.YtjbppociogoopaaDoor
