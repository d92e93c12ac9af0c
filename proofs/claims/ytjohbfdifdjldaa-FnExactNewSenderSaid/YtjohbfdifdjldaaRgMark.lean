/-
  What laws.markRangeS and laws.heldRangeS return.
-/
import Derived.Test.YtjohbfdifdjldaaRgLite
namespace Go.Proofs.Ytjohbfdifdjldaa
open Go.RowKit Go.Deep Go.Proofs.Ytjohbfdifdjldaa.Num

/-- The marks from k on: n ranges of them. -/
def marksR (k : Int) : Nat → List Rg
  | 0 => []
  | n + 1 => (k, k + 1) :: marksR (k + 2) n
theorem marksR_len (n : Nat) : ∀ k, (marksR k n).length = n := by
  induction n with
  | zero => intro k; rfl
  | succ n ih => intro k; simp [marksR, ih]
theorem marksR_at (n : Nat) : ∀ k j (h : j < (marksR k n).length), (marksR k n)[j] = (k + 2 * (j : Int), k + 2 * (j : Int) + 1) := by
  induction n with
  | zero => intro k j h; simp [marksR] at h
  | succ n ih =>
    intro k j h
    cases j with
    | zero => simp [marksR]
    | succ j =>
      have h2 := ih (k + 2) j (by simpa [marksR] using h)
      simp only [marksR, List.getElem_cons_succ]
      rw [h2]
      refine Prod.ext ?_ ?_
      · show k + 2 + 2 * (j : Int) = k + 2 * ((j + 1 : Nat) : Int); omega
      · show k + 2 + 2 * (j : Int) + 1 = k + 2 * ((j + 1 : Nat) : Int) + 1; omega

theorem grown_refl (w : World) (g : Option Nat) : w.grownBy w g := ⟨rfl, rfl, rfl, Nat.le_refl _, fun _ _ _ => rfl⟩
theorem grown_more {w w' : World} {g : Nat} (h : w.grownBy w' (some g)) (j : Nat) (u v : Value) : w.grownBy ((w'.setCell ⟨g, j, none⟩ u).setCell ⟨g, j + 1, none⟩ v) (some g) :=
  ⟨h.os, h.tape, h.output, by simpa [World.setCell] using h.size, fun i hi hne => by
    have hg : i ≠ g := by rintro rfl; exact hne rfl
    exact ((Below.heap_setCell _ ⟨g, j + 1, none⟩ v i hg).trans (Below.heap_setCell _ ⟨g, j, none⟩ u i hg)).trans (h.block i hi hne)⟩

set_option maxRecDepth 100000 in
/-- laws.markRangeS, on a row of the call's own. -/
theorem markrow (l : List Rg) (k : Int) (base g n cap : Nat) (w : World) (ho : RowR w base g n cap l) (hn : n ≤ 1000000000000) (hk : 0 ≤ k ∧ k ≤ 1000000000000) :
    Calls Try.prog 19 #[.slice (some ⟨g, 0, none⟩) n cap, .int .i64 k] w fun e w' => e = .returned (.int .i64 (k + 2 * (n : Int))) ∧ RowR w' base g n cap (marksR k n) ∧ Below base w w' ∧ w.grownBy w' (some g) := by
  have HO := Lib.hid ho
  have hbg := ho.ge.1
  clear ho
  go_enter Try.func19, Try.ntmps19
  go_wp2
  go_loopw [1, 5] (fun kk i wr => ∃ (j : Nat) (m : List Rg), j ≤ n ∧ i = .int .i64 j ∧ kk = .int .i64 (k + 2 * (j : Int)) ∧ RowR wr base g n cap m ∧ m.take j = (marksR k n).take j ∧ Below base w wr ∧ w.grownBy wr (some g)) (fun _ i _ => n - (intOf i).toNat)
  case atStart => exact ⟨0, l, Nat.zero_le _, rfl, by simp, HO.out, rfl, Below.refl _ _, grown_refl _ _⟩
  case round =>
    obtain ⟨j, m, hj, rfl, rfl, hown, ht, hb, hg⟩ := hrel
    have HW := Lib.hid hown
    have HB := Lib.hid hb
    have HT := Lib.hid ht
    have HG := Lib.hid hg
    clear hown hb ht hg
    by_cases hlt : j < n
    · have hjm : j < m.length := by rw [HW.out.1]; exact hlt
      have hjk : j < (marksR k n).length := by rw [marksR_len]; exact hlt
      obtain ⟨q1, q2⟩ := HW.out.cells j hjm
      have hfz := HW.out.free
      have HS := Lib.hid (set_take (l := marksR k n) (m := m) (by rw [marksR_len]; exact HW.out.1) HT.out hjk _ (marksR_at n k j hjk))
      have hw1 : IntKind.i64.wrap (k + 2 * (j : Int) + 1) = k + 2 * (j : Int) + 1 := by rw [IntKind.wrap_i64]; omega
      have hw2 : IntKind.i64.wrap (k + 2 * (j : Int) + 1 + 1) = k + 2 * ((j + 1 : Nat) : Int) := by rw [IntKind.wrap_i64]; omega
      go_wp2
      go_roundw
      case rel => exact ⟨j + 1, _, hlt, by go_num, rfl, HW.out.store j hjm (k + 2 * (j : Int)) (k + 2 * (j : Int) + 1), HS.out, (HB.out.setCell (p := ⟨_, _, _⟩) hbg _).setCell (p := ⟨_, _, _⟩) hbg _, grown_more HG.out _ _ _⟩
      case measure => simp [intOf]; omega
    · obtain rfl : j = n := by omega
      have HE : Hid (m = marksR k j) := Lib.hid (by
        have h := HT.out
        rw [List.take_of_length_le (by rw [HW.out.1]; exact Nat.le_refl _), List.take_of_length_le (by rw [marksR_len]; exact Nat.le_refl _)] at h
        exact h)
      rw [HE.out] at HW
      go_wp2
      go_ret
      exact ⟨rfl, HW.out, HB.out, HG.out⟩

set_option maxRecDepth 100000 in
/-- laws.markRangeS, on no slice. -/
theorem marknone (k : Int) (w : World) :
    Calls Try.prog 19 #[.slice none 0 0, .int .i64 k] w fun e w' => e = .returned (.int .i64 k) ∧ w' = w := by
  go_enter Try.func19, Try.ntmps19
  go_wp2
  go_loop [1, 5] (fun kk i => i = .int .i64 0 ∧ kk = .int .i64 k) (fun _ i => (intOf i).toNat)
  case atStart => exact ⟨rfl, rfl⟩
  case round =>
    obtain ⟨rfl, rfl⟩ := hrel
    go_wp2
    go_ret
    exact ⟨rfl, rfl⟩

/-- The marks of a slice of the call's own: nothing, or a row. -/
theorem markany (l : List Rg) (k : Int) (v : Value) (base : Nat) (w : World) (ho : OwnR w base v l) (hn : l.length ≤ 1000000000000) (hk : 0 ≤ k ∧ k ≤ 1000000000000) :
    Calls Try.prog 19 #[v, .int .i64 k] w fun e w' => e = .returned (.int .i64 (k + 2 * (l.length : Int))) ∧ OwnR w' base v (marksR k l.length) ∧ Below base w w' := by
  have h0 := ho
  obtain ⟨_, h⟩ := h0
  rcases h with ⟨rfl, hz⟩ | ⟨g, cap, cur, rfl, _, _, _, _, _, _⟩
  · obtain rfl : l = [] := List.eq_nil_of_length_eq_zero hz
    refine (marknone k w).mono ?_
    rintro e w' ⟨rfl, rfl⟩
    exact ⟨by simp, OwnR.empty, Below.refl _ _⟩
  · refine (markrow l k base g l.length cap w (OwnR.row ho) hn hk).mono ?_
    rintro e w' ⟨rfl, h1, h2, _⟩
    exact ⟨rfl, h1.own, h2⟩

set_option maxRecDepth 100000 in
/-- laws.heldRangeS, of a slice that holds the marks. -/
theorem heldany (n : Nat) (A : Option Addr) (cap B : Nat) (w : World) (hr : Rgs w B A (marksR 1 n)) (hn : n ≤ 1000000000000) :
    Calls Try.prog 21 #[.slice A n cap, .int .i64 1] w fun e w' => e = .returned (.int .i64 (1 + 2 * (n : Int))) ∧ w' = w := by
  have HR := Lib.hid hr
  clear hr
  go_enter Try.func21, Try.ntmps21
  go_wp2
  go_loop [1, 5] (fun k i => ∃ j : Nat, j ≤ n ∧ i = .int .i64 j ∧ k = .int .i64 (1 + 2 * (j : Int))) (fun _ i => n - (intOf i).toNat)
  case atStart => exact ⟨0, Nat.zero_le _, rfl, rfl⟩
  case round =>
    obtain ⟨j, hj, rfl, rfl⟩ := hrel
    by_cases hlt : j < n
    · obtain ⟨b, off, rfl, hbB, hc, hd⟩ := HR.out j (by rw [marksR_len]; exact hlt)
      rw [marksR_at] at hc hd
      have hw1 : IntKind.i64.wrap (1 + 2 * (j : Int) + 1) = 1 + 2 * (j : Int) + 1 := by rw [IntKind.wrap_i64]; omega
      have hw2 : IntKind.i64.wrap (1 + 2 * (j : Int) + 1 + 1) = 1 + 2 * ((j + 1 : Nat) : Int) := by rw [IntKind.wrap_i64]; omega
      go_wp2
      go_round
      case rel => exact ⟨j + 1, by omega, by go_num, rfl⟩
      case measure => simp [intOf]; omega
    · obtain rfl : j = n := by omega
      go_wp2
      go_ret
      exact ⟨rfl, rfl⟩
end Go.Proofs.Ytjohbfdifdjldaa
