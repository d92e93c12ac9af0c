/-
  What laws.span returns.
-/
import Derived.Test.YtjgabiklmloogaaDoorSRng2
namespace Go.Proofs.YtjgabiklmloogaaDoor
open Go.RowKit Go.Deep Go.Proofs.YtjgabiklmloogaaDoor.Num

set_option maxRecDepth 100000 in
/-- laws.span -/
theorem lspan (l : List Rg) (n : Int) (A : Option Addr) (cap B : Nat) (w : World) (hB : B ≤ w.heap.size) (hr : Rgs w B A l) (hn : l.length ≤ 1000000000000) :
    Calls Tryd.prog 15 #[.slice A l.length cap, .int .i64 n] w fun e w' => e = .returned (.bool (decide (hasR l n))) ∧ Below w.heap.size w w' := by
  have HR := Lib.hid hr
  clear hr
  go_enter Tryd.func15, Tryd.ntmps15
  go_wp2
  go_loopw [5] (fun i wr => ∃ j : Nat, j ≤ l.length ∧ i = .int .i64 j ∧ ¬ hasR (l.take j) n ∧ Below w.heap.size w wr) (fun i _ => l.length - (intOf i).toNat)
  case atStart => exact ⟨0, Nat.zero_le _, rfl, hasR_nil n, Below.refl _ _⟩
  case round =>
    obtain ⟨j, hj, rfl, hp, hb⟩ := hrel
    have HP := Lib.hid hp
    have HB := Lib.hid hb
    clear hp hb
    by_cases hlt : j < l.length
    · have HRW := Lib.hid (HR.out.below hB HB.out)
      obtain ⟨b, off, rfl, hbB, c1, c2⟩ := HRW.out j hlt
      by_cases h1 : l[j].1 ≤ n
      · have hd1 : decide (l[j].1 ≤ n) = true := decide_eq_true h1
        by_cases h2 : n < l[j].2
        · have hd2 : decide (n < l[j].2) = true := decide_eq_true h2
          have HH : Hid (hasR l n) := Lib.hid ⟨l[j], List.getElem_mem hlt, h1, h2⟩
          clear h1 h2
          go_wp2
          go_ret
          exact ⟨by rw [decide_eq_true HH.out]; rfl, HB.out⟩
        · have hd2 : decide (n < l[j].2) = false := decide_eq_false h2
          have HH : Hid (¬ hasR (l.take (j + 1)) n) := Lib.hid (by rw [hasR_step l j hlt]; rintro (h | ⟨_, h⟩); exact HP.out h; exact h2 h)
          clear h1 h2
          go_wp2
          go_roundw
          case rel => exact ⟨j + 1, hlt, by go_num, HH.out, HB.out⟩
          case measure => simp [intOf]; omega
      · have hd1 : decide (l[j].1 ≤ n) = false := decide_eq_false h1
        have HH : Hid (¬ hasR (l.take (j + 1)) n) := Lib.hid (by rw [hasR_step l j hlt]; rintro (h | ⟨h, _⟩); exact HP.out h; exact h1 h)
        clear h1
        go_wp2
        go_roundw
        case rel => exact ⟨j + 1, hlt, by go_num, HH.out, HB.out⟩
        case measure => simp [intOf]; omega
    · obtain rfl : j = l.length := by omega
      have HP2 := Lib.hid HP.out
      rw [List.take_of_length_le (Nat.le_refl _)] at HP2
      go_wp2
      go_ret
      exact ⟨by rw [decide_eq_false HP2.out]; rfl, HB.out⟩
end Go.Proofs.YtjgabiklmloogaaDoor
