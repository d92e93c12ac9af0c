/-
  What impl.DecodeQuic returns.
-/
import Derived.Test.YtjbppociogoopaaDoorFormAt
import Derived.Deep.QuietTactic
import Derived.BigQuiet
namespace Go.Proofs.YtjbppociogoopaaDoor
open Go.RowKit Go.Deep Go.Proofs.YtjbppociogoopaaDoor.Num

theorem below_drewN {B : Nat} {a w : World} (h : Below B a w) (n : Nat) : Below B a (w.drewN n) := ⟨h.os, h.tape, h.output, h.size, h.block⟩
theorem formK (k : Nat) (hk : k = 1 ∨ k = 2 ∨ k = 4 ∨ k = 8) : ∃ most : Int, formV k = .agg #[.int .u8 (qmk k : Int), .int .i64 (k : Int), .int .i64 most] := by
  rcases hk with rfl | rfl | rfl | rfl <;> exact ⟨_, rfl⟩

set_option maxRecDepth 100000 in
/-- impl.DecodeQuic, where none begins there. -/
theorem idecq_no (s : ByteArray) (a : Int) (w : World) (hF : Forms w) (hs : s.size ≤ maxLen) (h : a < 0 ∨ decL (s.data.toList.drop a.toNat) = none) :
    Calls Tryd.prog 74 #[.string s, .int .i64 a] w fun e w' => e = .returned (.tuple #[.int .i64 0, .int .i64 0, .bool false]) ∧ Below w.heap.size w w' := by
  have HC := Lib.hid (iform_no s a w hF hs h)
  rw [show formV 0 = .agg #[.int .u8 0, .int .i64 0, .int .i64 0] from rfl] at HC
  clear hF h
  go_enter Tryd.func74, Tryd.ntmps74
  go_wp2_with fail
  refine HC.out.mono ?_
  rintro e w1 ⟨rfl, hb1⟩
  go_wp2
  go_ret3
  exact ⟨rfl, hb1.alloc hb1.size _⟩

set_option maxRecDepth 100000 in
/-- impl.DecodeQuic, where a form begins there. -/
theorem idecq_yes (s : ByteArray) (a n k : Nat) (w : World) (hF : Forms w) (hs : s.size ≤ maxLen) (h : decL (s.data.toList.drop a) = some (n, k)) :
    Calls Tryd.prog 74 #[.string s, .int .i64 a] w fun e w' => e = .returned (.tuple #[.int .i64 n, .int .i64 (a + k : Nat), .bool true]) ∧ Below w.heap.size w w' := by
  have HC := Lib.hid (iform_yes s a n k w hF hs h)
  unfold maxLen at hs
  have h3 : s.data.toList.length = s.size := by simp
  have hk := decL_some h
  have hl : k + a ≤ s.size := by
    have h2 := hk.2.1
    rw [List.length_drop, h3] at h2
    omega
  have ha : a < s.size := by omega
  rw [drop_at s a ha] at h
  obtain ⟨e1, e2, _⟩ := decL_parts h
  have hc := s[a].toNat_lt
  have HL : Hid ((s.data.toList.drop (a + 1)).length = s.size - (a + 1)) := Lib.hid (by rw [List.length_drop, h3])
  have HV := Lib.hid fun j => val_step (s.data.toList.drop (a + 1)) (s[a].toNat % 64) j
  have HR := Lib.hid fun j => val_room (s.data.toList.drop (a + 1)) (s[a].toNat % 64) j (by omega)
  have E2 := Lib.hid e2
  have HG : Hid (∀ j (hj : j < (s.data.toList.drop (a + 1)).length) (hj2 : a + (j + 1) < s.size), (s.data.toList.drop (a + 1))[j] = s[a + (j + 1)]) := Lib.hid fun j hj hj2 => by
    rw [List.getElem_drop]
    simp only [show a + 1 + j = a + (j + 1) from by omega]
    rfl
  have hqc := qlen_cases s[a]
  rw [← e1] at hqc
  clear h e1 e2 hF
  obtain ⟨most, hf⟩ := formK k hk.1
  rw [hf] at HC
  have hmk : Hid ((s[a].toNat : Int) - (qmk k : Int) = ((s[a].toNat % 64 : Nat) : Int)) := Lib.hid (by
    rcases hqc with ⟨rfl, h⟩ | ⟨rfl, h⟩ | ⟨rfl, h⟩ | ⟨rfl, h⟩ <;> simp [qmk] <;> omega)
  have hk0 := hk.1
  clear hk hqc hf
  generalize qmk k = mk at *
  go_enter Tryd.func74, Tryd.ntmps74
  go_wp2_with fail
  refine HC.out.mono ?_
  rintro e w1 ⟨rfl, hb1⟩
  have HB := Lib.hid hb1
  clear hb1
  go_wp2
  go_quiet (fail)
  go_wp2
  have hm2 : Hid (((s[a].toNat : Int) - (mk : Int)) % 256 = (s[a].toNat : Int) % 64) := Lib.hid (by rw [hmk.out]; omega)
  rw [hm2.out]
  go_loop [8, 10] (fun x i => ∃ j : Nat, j + 1 ≤ k ∧ i = .int .i64 ((a + (j + 1) : Nat) : Int) ∧ x = .int .i64 (val256 ((s.data.toList.drop (a + 1)).take j) (s[a].toNat % 64) : Nat)) (fun _ i => a + k - (intOf i).toNat)
  case atStart => exact ⟨0, by omega, by go_num, by simp [val256]⟩
  case round =>
    obtain ⟨j, hj, rfl, rfl⟩ := hrel
    by_cases hlt : j + 1 < k
    · have hb := HR.out j (by omega)
      have hjs : a + (j + 1) < s.size := by omega
      have hjl : j < (s.data.toList.drop (a + 1)).length := by rw [HL.out]; omega
      have HS := Lib.hid (HV.out j hjl)
      have HN := Lib.hid (HG.out j hjl hjs)
      have hc2 := s[a + (j + 1)].toNat_lt
      have hk8 : k ≤ 8 := by omega
      clear hk0
      go_wp2
      go_round
      case rel => exact ⟨j + 1, by omega, by go_num, by rw [HS.out, HN.out, i64_or_256' _ _ hb hc2]; go_num⟩
      case measure => simp [intOf]; omega
    · obtain rfl : k = j + 1 := by omega
      go_wp2
      go_ret3
      exact ⟨by rw [E2.out]; go_num, below_drewN (HB.out.alloc HB.out.size _) _⟩
end Go.Proofs.YtjbppociogoopaaDoor
