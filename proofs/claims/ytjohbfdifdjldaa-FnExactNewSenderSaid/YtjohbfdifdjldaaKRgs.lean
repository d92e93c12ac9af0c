/-
  Ranges of the call's own, in whatever block they lie: what laws.markRangeS, heldRangeS return.
-/
import Derived.Test.YtjohbfdifdjldaaRgMark
import Derived.Test.YtjohbfdifdjldaaRgAid
import Derived.Test.YtjohbfdifdjldaaKInts
import Derived.Test.YtjohbfdifdjldaaKOwnP
namespace Go.Proofs.Ytjohbfdifdjldaa
open Go.RowKit Go.Deep Go.Proofs.Ytjohbfdifdjldaa.Num

set_option maxRecDepth 100000 in
/-- laws.markRangeS, on a stretch of ranges of the call's own. -/
theorem markP (l : List Rg) (k : Int) (base g off n cap : Nat) (w : World) (hln : l.length = n) (ho : MidP w base g off l) (hn : n ≤ 1000000000000) (hk : 0 ≤ k ∧ k ≤ 1000000000000) :
    Calls Try.prog 19 #[.slice (some ⟨g, off, none⟩) n cap, .int .i64 k] w fun e w' => e = .returned (.int .i64 (k + 2 * (n : Int))) ∧ MidP w' base g off (marksR k n) ∧ Below base w w' ∧ w.grownBy w' (some g) := by
  have HO := Lib.hid ho
  have hbg := ho.ge.1
  clear ho
  go_enter Try.func19, Try.ntmps19
  go_wp2
  go_loopw [1, 5] (fun kk i wr => ∃ (j : Nat) (m : List Rg), j ≤ n ∧ i = .int .i64 j ∧ kk = .int .i64 (k + 2 * (j : Int)) ∧ m.length = n ∧ MidP wr base g off m ∧ m.take j = (marksR k n).take j ∧ Below base w wr ∧ w.grownBy wr (some g)) (fun _ i _ => n - (intOf i).toNat)
  case atStart => exact ⟨0, l, Nat.zero_le _, rfl, by simp, hln, HO.out, rfl, Below.refl _ _, grown_refl _ _⟩
  case round =>
    obtain ⟨j, m, hj, rfl, rfl, hm, hown, ht, hb, hg⟩ := hrel
    have HW := Lib.hid hown
    have HB := Lib.hid hb
    have HT := Lib.hid ht
    have HG := Lib.hid hg
    have HM := Lib.hid hm
    clear hown hb ht hg hm hln
    by_cases hlt : j < n
    · have hjm : j < m.length := by rw [HM.out]; exact hlt
      have hjk : j < (marksR k n).length := by rw [marksR_len]; exact hlt
      obtain ⟨q1, q2⟩ := HW.out.cell j hjm
      have hfz := HW.out.free
      have HS := Lib.hid (set_take (l := marksR k n) (m := m) (by rw [marksR_len]; exact HM.out) HT.out hjk _ (marksR_at n k j hjk))
      have hw1 : IntKind.i64.wrap (k + 2 * (j : Int) + 1) = k + 2 * (j : Int) + 1 := by rw [IntKind.wrap_i64]; omega
      have hw2 : IntKind.i64.wrap (k + 2 * (j : Int) + 1 + 1) = k + 2 * ((j + 1 : Nat) : Int) := by rw [IntKind.wrap_i64]; omega
      go_wp2
      go_roundw
      case rel => exact ⟨j + 1, _, hlt, by go_num, rfl, (List.length_set ..).trans HM.out, HW.out.store j hjm (k + 2 * (j : Int)) (k + 2 * (j : Int) + 1), HS.out, (HB.out.setCell (p := ⟨_, _, _⟩) hbg _).setCell (p := ⟨_, _, _⟩) hbg _, only_moreI (only_moreI HG.out _ _) _ _⟩
      case measure => simp [intOf]; omega
    · obtain rfl : j = n := by omega
      have HE : Hid (m = marksR k j) := Lib.hid (by
        have h := HT.out
        rw [List.take_of_length_le (by rw [HM.out]; exact Nat.le_refl _), List.take_of_length_le (by rw [marksR_len]; exact Nat.le_refl _)] at h
        exact h)
      rw [HE.out] at HW
      go_wp2
      go_ret
      exact ⟨rfl, HW.out, HB.out, HG.out⟩

/-- laws.markRangeS, on a slice of the call's own. -/
theorem markQ (l : List Rg) (k : Int) (v : Value) (base : Nat) (w : World) (ho : OwnP w base v l) (hn : l.length ≤ 1000000000000) (hk : 0 ≤ k ∧ k ≤ 1000000000000) :
    Calls Try.prog 19 #[v, .int .i64 k] w fun e w' => e = .returned (.int .i64 (k + 2 * (l.length : Int))) ∧ OwnP w' base v (marksR k l.length) ∧ Below base w w' ∧ w.grownBy w' v.ownBlock := by
  rcases ho with ⟨rfl, rfl⟩ | ⟨g, off, cap, rfl, hle, h⟩
  · refine (marknone k w).mono ?_
    rintro e w' ⟨rfl, rfl⟩
    exact ⟨by simp, .inl ⟨rfl, rfl⟩, Below.refl _ _, only_reflI _ _⟩
  · refine (markP l k base g off l.length cap w rfl h hn hk).mono ?_
    rintro e w' ⟨rfl, h1, h2, h3⟩
    exact ⟨rfl, .inr ⟨g, off, cap, by rw [marksR_len], by rw [marksR_len]; exact hle, h1⟩, h2, h3⟩

set_option maxRecDepth 100000 in
/-- laws.heldRangeS, of a slice that holds the marks from k on. -/
theorem heldP (k : Int) (n : Nat) (A : Option Addr) (cap B : Nat) (w : World) (hr : Rgs w B A (marksR k n)) (hn : n ≤ 1000000000000) (hk : 0 ≤ k ∧ k ≤ 1000000000000) :
    Calls Try.prog 21 #[.slice A n cap, .int .i64 k] w fun e w' => e = .returned (.int .i64 (k + 2 * (n : Int))) ∧ w' = w := by
  have HR := Lib.hid hr
  clear hr
  go_enter Try.func21, Try.ntmps21
  go_wp2
  go_loop [1, 5] (fun kk i => ∃ j : Nat, j ≤ n ∧ i = .int .i64 j ∧ kk = .int .i64 (k + 2 * (j : Int))) (fun _ i => n - (intOf i).toNat)
  case atStart => exact ⟨0, Nat.zero_le _, rfl, by simp⟩
  case round =>
    obtain ⟨j, hj, rfl, rfl⟩ := hrel
    by_cases hlt : j < n
    · obtain ⟨b, off, rfl, hbB, hc, hd⟩ := HR.out j (by rw [marksR_len]; exact hlt)
      rw [marksR_at] at hc hd
      have hw1 : IntKind.i64.wrap (k + 2 * (j : Int) + 1) = k + 2 * (j : Int) + 1 := by rw [IntKind.wrap_i64]; omega
      have hw2 : IntKind.i64.wrap (k + 2 * (j : Int) + 1 + 1) = k + 2 * ((j + 1 : Nat) : Int) := by rw [IntKind.wrap_i64]; omega
      go_wp2
      go_round
      case rel => exact ⟨j + 1, by omega, by go_num, rfl⟩
      case measure => simp [intOf]; omega
    · obtain rfl : j = n := by omega
      go_wp2
      go_ret
      exact ⟨rfl, rfl⟩
end Go.Proofs.Ytjohbfdifdjldaa
