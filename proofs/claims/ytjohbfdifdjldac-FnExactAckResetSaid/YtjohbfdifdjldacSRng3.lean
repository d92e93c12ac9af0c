/-
  What spec.FirstGap returns.
-/
import Derived.Test.YtjohbfdifdjldacSRngK
namespace Go.Proofs.Ytjohbfdifdjldac
open Go.RowKit Go.Deep Go.Proofs.Ytjohbfdifdjldac.Num


set_option maxRecDepth 100000 in
/-- spec.FirstGap -/
theorem sgap (l : List Rg) (n : Int) (A : Option Addr) (cap B : Nat) (w : World) (hB : B ≤ w.heap.size) (hr : Rgs w B A l) (hn : l.length ≤ 1000000000) :
    Calls Try.prog 59 #[.slice A l.length cap, .int .i64 n] w fun e w' => e = .returned (.int .i64 (if okR (-1) l ∧ 0 ≤ n then gapR l n else -1)) ∧ Below w.heap.size w w' := by
  have HR := Lib.hid hr
  have HC := Lib.hid (sisr l A cap B w hB hr hn)
  clear hr
  by_cases hk : okR (-1) l
  · have HK := Lib.hid hk
    rw [decide_eq_true hk] at HC
    by_cases h0 : 0 ≤ n
    · rw [if_pos ⟨hk, h0⟩]
      have hd0 : decide (n < 0) = false := decide_eq_false (by omega)
      clear hk
      go_enter Try.func59, Try.ntmps59
      go_wp2_with fail
      refine HC.out.mono ?_
      rintro e w1 ⟨rfl, hb1⟩
      have HB1 := Lib.hid hb1
      clear hb1
      go_wp2
      go_loopw [1, 5] (fun c i wr => ∃ j : Nat, j ≤ l.length ∧ i = .int .i64 j ∧ c = .int .i64 (gapR (l.take j) n) ∧ Below w.heap.size w wr) (fun _ i _ => l.length - (intOf i).toNat)
      case atStart => exact ⟨0, Nat.zero_le _, rfl, rfl, HB1.out⟩
      case round =>
        obtain ⟨j, hj, rfl, rfl, hb⟩ := hrel
        have HB := Lib.hid hb
        clear hb
        by_cases hlt : j < l.length
        · have HRW := Lib.hid (HR.out.below hB HB.out)
          obtain ⟨b, off, rfl, hbB, c1, c2⟩ := HRW.out j hlt
          have hs := gapR_step l j hlt n
          generalize hy : gapR (l.take j) n = y at *
          generalize hx : l[j] = x at *
          by_cases h1 : x.1 ≤ y
          · have hd1 : decide (x.1 ≤ y) = true := decide_eq_true h1
            by_cases h2 : y < x.2
            · have hd2 : decide (y < x.2) = true := decide_eq_true h2
              rw [if_pos ⟨h1, h2⟩] at hs
              have HE := Lib.hid hs
              clear hs h1 h2
              go_wp2
              go_roundw
              case rel => exact ⟨j + 1, hlt, by go_num, by rw [HE.out], HB.out⟩
              case measure => simp [intOf]; omega
            · have hd2 : decide (y < x.2) = false := decide_eq_false h2
              rw [if_neg (fun h => h2 h.2)] at hs
              have HE := Lib.hid hs
              clear hs h1 h2
              go_wp2
              go_roundw
              case rel => exact ⟨j + 1, hlt, by go_num, by rw [HE.out], HB.out⟩
              case measure => simp [intOf]; omega
          · have hd1 : decide (x.1 ≤ y) = false := decide_eq_false h1
            rw [if_neg (fun h => h1 h.1)] at hs
            have HE := Lib.hid hs
            clear hs h1
            go_wp2
            go_roundw
            case rel => exact ⟨j + 1, hlt, by go_num, by rw [HE.out], HB.out⟩
            case measure => simp [intOf]; omega
        · obtain rfl : j = l.length := by omega
          have e : l.take l.length = l := List.take_of_length_le (Nat.le_refl _)
          rw [e]
          go_wp2
          go_ret
          exact ⟨rfl, HB.out⟩
    · rw [if_neg (fun h => h0 h.2)]
      have hd0 : decide (n < 0) = true := decide_eq_true (by omega)
      clear hk h0
      go_enter Try.func59, Try.ntmps59
      go_wp2_with fail
      refine HC.out.mono ?_
      rintro e w1 ⟨rfl, hb1⟩
      have HB1 := Lib.hid hb1
      clear hb1
      go_wp2
      go_ret
      exact ⟨rfl, HB1.out⟩
  · rw [decide_eq_false hk] at HC
    rw [if_neg (fun h => hk h.1)]
    clear hk
    go_enter Try.func59, Try.ntmps59
    go_wp2_with fail
    refine HC.out.mono ?_
    rintro e w1 ⟨rfl, hb1⟩
    have HB1 := Lib.hid hb1
    clear hb1
    go_wp2
    go_ret
    exact ⟨rfl, HB1.out⟩
end Go.Proofs.Ytjohbfdifdjldac
