/-
  Ints of the call's own, in whatever block they lie: what laws.szIntS, markIntS return.
-/
import Derived.Test.YtjohbfdifdjldaaMarks
import Derived.Test.YtjohbfdifdjldaaKOwn
namespace Go.Proofs.Ytjohbfdifdjldaa
open Go.RowKit Go.Deep Go.Proofs.Ytjohbfdifdjldaa.Num

set_option maxRecDepth 100000 in
/-- laws.markIntS, on a stretch of ints of the call's own. -/
theorem markK (zs : List Int) (base g off n cap : Nat) (w : World) (hzn : zs.length = n) (ho : MidI w base g off zs) (hn : n ≤ 10000000) :
    Calls Try.prog 46 #[.slice (some ⟨g, off, none⟩) n cap, .int .i64 1] w fun e w' => e = .returned (.int .i64 (1 + (n : Int))) ∧ MidI w' base g off (marks 1 n) ∧ Below base w w' ∧ w.grownBy w' (some g) := by
  have HO := Lib.hid ho
  have hbg : base ≤ g := ho.ge.1
  clear ho
  go_enter Try.func46, Try.ntmps46
  go_wp2
  go_loopw [1, 5] (fun k i wr => ∃ (j : Nat) (r : List Int), j + r.length = n ∧ i = .int .i64 j ∧ k = .int .i64 (1 + (j : Int)) ∧ MidI wr base g off (marks 1 j ++ r) ∧ Below base w wr ∧ w.grownBy wr (some g)) (fun _ i _ => n - (intOf i).toNat)
  case atStart => exact ⟨0, zs, by omega, rfl, rfl, by simpa [marks] using HO.out, Below.refl _ _, only_reflI _ _⟩
  case round =>
    obtain ⟨j, r, hj, rfl, rfl, hown, hb, hgb⟩ := hrel
    have HW := Lib.hid hown
    have HB := Lib.hid hb
    have HG := Lib.hid hgb
    clear hgb
    cases r with
    | nil =>
      obtain rfl : j = n := by simpa using hj
      clear hown hb
      go_wp2
      go_ret
      exact ⟨rfl, by simpa using HW.out, HB.out, HG.out⟩
    | cons c r =>
      have hlt : j < n := by rw [List.length_cons] at hj; omega
      have hml : (marks 1 j).length = j := marks_len j 1
      have hll : (marks 1 j ++ c :: r).length = n := by rw [List.length_append, hml, hj]
      have hjl : j < (marks 1 j ++ c :: r).length := by omega
      have hc := hown.cell j hjl
      generalize (marks 1 j ++ c :: r)[j] = u at hc
      have hfz : wr.frozen? ⟨g, off + j, none⟩ = false := hown.free (off + j)
      have hst := hown.store j hjl (1 + (j : Int))
      rw [show (marks 1 j ++ c :: r).set j (1 + (j : Int)) = marks 1 (j + 1) ++ r by rw [marks_snoc, List.append_assoc, List.set_append_right _ _ (by omega), hml, Nat.sub_self]; rfl] at hst
      have HS := Lib.hid hst
      clear hown hb hll hst hjl HW
      go_wp2
      go_roundw
      case rel => exact ⟨j + 1, r, by rw [List.length_cons] at hj; omega, by go_num, by go_num, HS.out, HB.out.setCell (p := ⟨g, off + j, none⟩) hbg _, only_moreI HG.out _ _⟩
      case measure => simp [intOf]; omega

/-- laws.markIntS, on a slice of the call's own. -/
theorem markO (zs : List Int) (v : Value) (base : Nat) (w : World) (ho : OwnK w base v zs) (hn : zs.length ≤ 10000000) :
    Calls Try.prog 46 #[v, .int .i64 1] w fun e w' => e = .returned (.int .i64 (1 + (zs.length : Int))) ∧ OwnK w' base v (marks 1 zs.length) ∧ Below base w w' ∧ w.grownBy w' v.ownBlock := by
  rcases ho with ⟨rfl, rfl⟩ | ⟨g, off, cap, rfl, hle, h⟩
  · refine (mark_nil w).mono ?_
    rintro e w' ⟨rfl, rfl⟩
    exact ⟨rfl, .inl ⟨rfl, rfl⟩, Below.refl _ _, only_reflI _ _⟩
  · refine (markK zs base g off zs.length cap w rfl h hn).mono ?_
    rintro e w' ⟨rfl, h1, h2, h3⟩
    exact ⟨rfl, .inr ⟨g, off, cap, by rw [marks_len], by rw [marks_len]; exact hle, h1⟩, h2, h3⟩
/-- What laws.szIntS returns. -/
def szI (N : Int) (zs : List Int) : Int := if N < (zs.length : Int) then -1 else N - zs.length
theorem szI_low (N : Int) (zs : List Int) (hN : N ≤ 1048576) : -1 ≤ szI N zs ∧ szI N zs ≤ 1048576 := by
  unfold szI
  split <;> omega
theorem szI_ok {N : Int} {zs : List Int} (hN : N ≤ 1048576) (h : 0 ≤ szI N zs) : zs.length ≤ 1048576 := by
  unfold szI at h
  split at h <;> omega
set_option maxRecDepth 100000 in
/-- laws.szIntS -/
theorem lszi (N : Int) (hN0 : 0 ≤ N) (hN1 : N ≤ 1048576) (zs : List Int) (A : Option Addr) (cap : Nat) (w : World) (hn : zs.length ≤ 9223372036854775807) :
    Calls Try.prog 48 #[.slice A zs.length cap, .int .i64 N] w fun e w' => e = .returned (.int .i64 (szI N zs)) ∧ w' = w := by
  obtain ⟨q, hq⟩ : ∃ q, N - (zs.length : Int) = q := ⟨_, rfl⟩
  have hw : wrap64 (N - (zs.length : Int)) = q := by rw [← hq]; unfold wrap64; omega
  by_cases h : N < (zs.length : Int)
  · have hv : szI N zs = -1 := if_pos h
    have hd : decide (q < 0) = true := decide_eq_true (by omega)
    rw [hv]
    clear hN0 hN1 hn h hv hq
    go_enter Try.func48, Try.ntmps48
    go_wp2
    go_ret
    exact ⟨rfl, rfl⟩
  · have hv : szI N zs = q := (if_neg h).trans hq
    have hd : decide (q < 0) = false := decide_eq_false (by omega)
    rw [hv]
    clear hN0 hN1 hn h hv hq
    go_enter Try.func48, Try.ntmps48
    go_wp2
    go_ret
    exact ⟨congrArg (fun z => Ending.returned (.int .i64 z)) hw, rfl⟩
end Go.Proofs.Ytjohbfdifdjldaa
