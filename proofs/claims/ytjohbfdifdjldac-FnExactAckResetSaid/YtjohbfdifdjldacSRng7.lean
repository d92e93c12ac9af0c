/-
  What spec.EqualRanges returns.
-/
import Derived.Test.YtjohbfdifdjldacSRngK
namespace Go.Proofs.Ytjohbfdifdjldac
open Go.RowKit Go.Deep Go.Proofs.Ytjohbfdifdjldac.Num

/-- '==' of two ranges. -/
theorem eqR (a b c d : Int) (w : World) : (Op.equalIn 10000 56 (.agg #[.int .i64 a, .int .i64 b]) (.agg #[.int .i64 c, .int .i64 d])).run Try.prog w = .ok (a == c && b == d) w := by
  rw [show (10000 : Nat) = 9999 + 1 from rfl, run_equalIn_agg w 9999 56 _ _ (by kernel_rfl) (by kernel_rfl)]
  simp only [Program.fieldsOf, Try.underlying56]
  go_simp
  by_cases h1 : a = c <;> by_cases h2 : b = d <;> simp [h1, h2]

set_option maxRecDepth 100000 in
/-- spec.EqualRanges -/
theorem seqr (l m : List Rg) (A A' : Option Addr) (cap cap' B : Nat) (w : World) (hB : B ≤ w.heap.size) (hr : Rgs w B A l) (hr' : Rgs w B A' m) (hn : l.length ≤ 1000000000) (hm : m.length ≤ 1000000000) :
    Calls Try.prog 49 #[.slice A l.length cap, .slice A' m.length cap'] w fun e w' => e = .returned (.bool (decide (l = m))) ∧ Below w.heap.size w w' := by
  have HR := Lib.hid hr
  have HR' := Lib.hid hr'
  clear hr hr'
  by_cases hl : l.length = m.length
  · have hd : ((l.length : Int) == (m.length : Int)) = true := by simp [hl]
    have HL := Lib.hid hl
    clear hl
    go_enter Try.func49, Try.ntmps49
    go_wp2
    go_loopw [5] (fun i wr => ∃ j : Nat, j ≤ l.length ∧ i = .int .i64 j ∧ l.take j = m.take j ∧ Below w.heap.size w wr) (fun i _ => l.length - (intOf i).toNat)
    case atStart => exact ⟨0, Nat.zero_le _, rfl, rfl, Below.refl _ _⟩
    case round =>
      obtain ⟨j, hj, rfl, hp, hb⟩ := hrel
      have HP := Lib.hid hp
      have HB := Lib.hid hb
      clear hp hb
      by_cases hlt : j < l.length
      · have hlt' : j < m.length := by have := HL.out; omega
        have HRW := Lib.hid (HR.out.below hB HB.out)
        have HRW' := Lib.hid (HR'.out.below hB HB.out)
        obtain ⟨b, off, rfl, hbB, c1, c2⟩ := HRW.out j hlt
        obtain ⟨b', off', rfl, hbB', c1', c2'⟩ := HRW'.out j hlt'
        have HT : Hid (l.take (j + 1) = l.take j ++ [l[j]] ∧ m.take (j + 1) = m.take j ++ [m[j]]) := Lib.hid ⟨List.take_succ_eq_append_getElem hlt, List.take_succ_eq_append_getElem hlt'⟩
        by_cases he : l[j] = m[j]
        · have HE : Hid (l.take (j + 1) = m.take (j + 1)) := Lib.hid (by rw [HT.out.1, HT.out.2, HP.out, he])
          rw [he] at c1 c2
          clear he
          go_wp2
          go_quiet (fail)
          go_wp2
          go_roundw
          case rel => exact ⟨j + 1, hlt, by go_num, HE.out, belowR_drewN HB.out _⟩
          case measure => simp [intOf]; omega
        · have HE : Hid (l ≠ m) := Lib.hid (fun e => by subst e; exact he rfl)
          generalize l[j] = x at *
          generalize m[j] = y at *
          have hq : ∀ W : World, (Op.equalIn 10000 56 (.agg #[.int .i64 x.1, .int .i64 x.2]) (.agg #[.int .i64 y.1, .int .i64 y.2])).run Try.prog W = .ok false W := fun W => by
            rw [eqR]
            congr 1
            rw [Bool.eq_false_iff]
            intro h
            simp at h
            exact he (Prod.ext h.1 h.2)
          clear he
          go_wp2
          go_quiet (fail)
          go_wp2
          go_ret
          exact ⟨by rw [decide_eq_false HE.out]; rfl, belowR_drewN HB.out _⟩
      · obtain rfl : j = l.length := by omega
        have HE : Hid (l = m) := Lib.hid (by
          have h := HP.out
          rw [List.take_of_length_le (Nat.le_refl _), HL.out, List.take_of_length_le (Nat.le_refl _)] at h
          exact h)
        go_wp2
        go_ret
        exact ⟨by rw [decide_eq_true HE.out]; rfl, HB.out⟩
  · have hd : ((l.length : Int) == (m.length : Int)) = false := by simp; omega
    have HE : Hid (l ≠ m) := Lib.hid (fun e => hl (by rw [e]))
    clear hl
    go_enter Try.func49, Try.ntmps49
    go_wp2
    go_ret
    exact ⟨by rw [decide_eq_false HE.out]; rfl, Below.refl _ _⟩
end Go.Proofs.Ytjohbfdifdjldac
