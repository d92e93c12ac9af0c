/-
  What spec.HasNumber, CountNumbers and FirstGap return.
-/
import Derived.Test.YtjgabiklmloogaaDoorSRng
namespace Go.Proofs.YtjgabiklmloogaaDoor
open Go.RowKit Go.Deep Go.Proofs.YtjgabiklmloogaaDoor.Num

namespace Num
instance decHasR (l : List Rg) (n : Int) : Decidable (hasR l n) :=
  decidable_of_iff (l.any (fun x => decide (x.1 ≤ n) && decide (n < x.2)) = true) (by simp [hasR, List.any_eq_true])
theorem hasR_step (l : List Rg) (j : Nat) (h : j < l.length) (n : Int) : hasR (l.take (j + 1)) n ↔ hasR (l.take j) n ∨ (l[j].1 ≤ n ∧ n < l[j].2) := by
  rw [List.take_succ_eq_append_getElem h, hasR_append, hasR_cons]
  simp [hasR_nil]
theorem cntR_step (l : List Rg) (j : Nat) (h : j < l.length) : cntR (l.take (j + 1)) = cntR (l.take j) + (l[j].2 - l[j].1) := by
  rw [List.take_succ_eq_append_getElem h, cntR_append]
  simp [cntR]
theorem gapR_append (a b : List Rg) : ∀ n, gapR (a ++ b) n = gapR b (gapR a n) := by
  induction a with
  | nil => intro n; rfl
  | cons x a ih => intro n; exact ih _
theorem gapR_step (l : List Rg) (j : Nat) (h : j < l.length) (n : Int) : gapR (l.take (j + 1)) n = if l[j].1 ≤ gapR (l.take j) n ∧ gapR (l.take j) n < l[j].2 then l[j].2 else gapR (l.take j) n := by
  rw [List.take_succ_eq_append_getElem h, gapR_append]
  rfl
theorem okR.take {l : List Rg} {p : Int} (h : okR p l) (j : Nat) : okR p (l.take j) := by
  rw [← List.take_append_drop j l] at h
  exact h.prefix
end Num

set_option maxRecDepth 100000 in
/-- spec.HasNumber -/
theorem shas (l : List Rg) (n : Int) (A : Option Addr) (cap B : Nat) (w : World) (hB : B ≤ w.heap.size) (hr : Rgs w B A l) (hn : l.length ≤ 1000000000) :
    Calls Tryd.prog 19 #[.slice A l.length cap, .int .i64 n] w fun e w' => e = .returned (.bool (decide (hasR l n))) ∧ Below w.heap.size w w' := by
  have HR := Lib.hid hr
  clear hr
  go_enter Tryd.func19, Tryd.ntmps19
  go_wp2
  go_loopw [5] (fun i wr => ∃ j : Nat, j ≤ l.length ∧ i = .int .i64 j ∧ ¬ hasR (l.take j) n ∧ Below w.heap.size w wr) (fun i _ => l.length - (intOf i).toNat)
  case atStart => exact ⟨0, Nat.zero_le _, rfl, hasR_nil n, Below.refl _ _⟩
  case round =>
    obtain ⟨j, hj, rfl, hp, hb⟩ := hrel
    have HP := Lib.hid hp
    have HB := Lib.hid hb
    clear hp hb
    by_cases hlt : j < l.length
    · have HRW := Lib.hid (HR.out.below hB HB.out)
      obtain ⟨b, off, rfl, hbB, c1, c2⟩ := HRW.out j hlt
      by_cases h1 : l[j].1 ≤ n
      · have hd1 : decide (l[j].1 ≤ n) = true := decide_eq_true h1
        by_cases h2 : n < l[j].2
        · have hd2 : decide (n < l[j].2) = true := decide_eq_true h2
          have HH : Hid (hasR l n) := Lib.hid ⟨l[j], List.getElem_mem hlt, h1, h2⟩
          clear h1 h2
          go_wp2
          go_ret
          exact ⟨by rw [decide_eq_true HH.out]; rfl, HB.out⟩
        · have hd2 : decide (n < l[j].2) = false := decide_eq_false h2
          have HH : Hid (¬ hasR (l.take (j + 1)) n) := Lib.hid (by rw [hasR_step l j hlt]; rintro (h | ⟨_, h⟩); exact HP.out h; exact h2 h)
          clear h1 h2
          go_wp2
          go_roundw
          case rel => exact ⟨j + 1, hlt, by go_num, HH.out, HB.out⟩
          case measure => simp [intOf]; omega
      · have hd1 : decide (l[j].1 ≤ n) = false := decide_eq_false h1
        have HH : Hid (¬ hasR (l.take (j + 1)) n) := Lib.hid (by rw [hasR_step l j hlt]; rintro (h | ⟨h, _⟩); exact HP.out h; exact h1 h)
        clear h1
        go_wp2
        go_roundw
        case rel => exact ⟨j + 1, hlt, by go_num, HH.out, HB.out⟩
        case measure => simp [intOf]; omega
    · obtain rfl : j = l.length := by omega
      have HP2 := Lib.hid HP.out
      rw [List.take_of_length_le (Nat.le_refl _)] at HP2
      go_wp2
      go_ret
      exact ⟨by rw [decide_eq_false HP2.out]; rfl, HB.out⟩
end Go.Proofs.YtjgabiklmloogaaDoor
