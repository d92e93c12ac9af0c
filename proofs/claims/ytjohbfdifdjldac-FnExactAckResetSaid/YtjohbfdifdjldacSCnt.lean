/-
  What spec.CountNumbers returns.
-/
import Derived.Test.YtjohbfdifdjldacSRng3
namespace Go.Proofs.Ytjohbfdifdjldac
open Go.RowKit Go.Deep Go.Proofs.Ytjohbfdifdjldac.Num

set_option maxRecDepth 100000 in
/-- spec.CountNumbers -/
theorem scnt (l : List Rg) (A : Option Addr) (cap B : Nat) (w : World) (hB : B ≤ w.heap.size) (hr : Rgs w B A l) (hn : l.length ≤ 1000000000) :
    Calls Try.prog 58 #[.slice A l.length cap] w fun e w' => e = .returned (.int .i64 (if okR (-1) l then cntR l else -1)) ∧ Below w.heap.size w w' := by
  have HR := Lib.hid hr
  have HC := Lib.hid (sisr l A cap B w hB hr hn)
  clear hr
  by_cases hk : okR (-1) l
  · have HK := Lib.hid hk
    rw [decide_eq_true hk] at HC
    rw [if_pos hk]
    clear hk
    go_enter Try.func58, Try.ntmps58
    go_wp2_with fail
    refine HC.out.mono ?_
    rintro e w1 ⟨rfl, hb1⟩
    have HB1 := Lib.hid hb1
    clear hb1
    go_wp2
    go_loopw [3, 4] (fun c i wr => ∃ j : Nat, j ≤ l.length ∧ i = .int .i64 j ∧ c = .int .i64 (cntR (l.take j)) ∧ Below w.heap.size w wr) (fun _ i _ => l.length - (intOf i).toNat)
    case atStart => exact ⟨0, Nat.zero_le _, rfl, rfl, HB1.out⟩
    case round =>
      obtain ⟨j, hj, rfl, rfl, hb⟩ := hrel
      have HB := Lib.hid hb
      clear hb
      by_cases hlt : j < l.length
      · have HRW := Lib.hid (HR.out.below hB HB.out)
        obtain ⟨b, off, rfl, hbB, c1, c2⟩ := HRW.out j hlt
        have hl := cntR_le _ _ (HK.out.take j) (by omega)
        have hf := HK.out.below l[j] (List.getElem_mem hlt)
        have hs := cntR_step l j hlt
        generalize hy : cntR (l.take j) = y at *
        generalize hx : l[j] = x at *
        have hw1 : IntKind.i64.wrap (y + x.2) = y + x.2 := by rw [IntKind.wrap_i64]; omega
        have hw2 : IntKind.i64.wrap (y + x.2 - x.1) = y + x.2 - x.1 := by rw [IntKind.wrap_i64]; omega
        have HE : Hid (y + x.2 - x.1 = cntR (l.take (j + 1))) := Lib.hid (by rw [hs]; omega)
        clear hs hl hf
        go_wp2
        go_quiet (fail)
        go_wp2
        go_roundw
        case rel => exact ⟨j + 1, hlt, by go_num, by rw [← HE.out], belowR_drewN HB.out _⟩
        case measure => simp [intOf]; omega
      · obtain rfl : j = l.length := by omega
        have e : l.take l.length = l := List.take_of_length_le (Nat.le_refl _)
        rw [e]
        go_wp2
        go_ret
        exact ⟨rfl, HB.out⟩
  · rw [decide_eq_false hk] at HC
    rw [if_neg hk]
    clear hk
    go_enter Try.func58, Try.ntmps58
    go_wp2_with fail
    refine HC.out.mono ?_
    rintro e w1 ⟨rfl, hb1⟩
    have HB1 := Lib.hid hb1
    clear hb1
    go_wp2
    go_ret
    exact ⟨rfl, HB1.out⟩
end Go.Proofs.Ytjohbfdifdjldac
