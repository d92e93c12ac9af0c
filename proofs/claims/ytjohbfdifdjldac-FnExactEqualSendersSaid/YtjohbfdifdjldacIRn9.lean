/-
  What slices.Equal of ints, impl.EqualRings and NewRing return.
-/
import Derived.Test.YtjohbfdifdjldacSRn2
import Derived.Test.YtjohbfdifdjldacIRn1
namespace Go.Proofs.Ytjohbfdifdjldac
open Go.RowKit Go.Deep Go.Proofs.Ytjohbfdifdjldac.Num

theorem belowI_drewN {B : Nat} {a w : World} (h : Below B a w) (n : Nat) : Below B a (w.drewN n) := ⟨h.os, h.tape, h.output, h.size, h.block⟩
set_option maxRecDepth 100000 in
/-- slices.Equal -/
theorem ieqi (l m : List Int) (A A' : Option Addr) (cap cap' B : Nat) (w : World) (hB : B ≤ w.heap.size) (hr : Ints w B A l) (hr' : Ints w B A' m) (hn : l.length ≤ 1000000000) (hm : m.length ≤ 1000000000) :
    Calls Try.prog 81 #[.slice A l.length cap, .slice A' m.length cap'] w fun e w' => e = .returned (.bool (decide (l = m))) ∧ Below w.heap.size w w' := by
  have HR := Lib.hid hr
  have HR' := Lib.hid hr'
  clear hr hr'
  by_cases hl : l.length = m.length
  · have hd : ((l.length : Int) == (m.length : Int)) = true := by simp [hl]
    have HL := Lib.hid hl
    clear hl
    go_enter Try.func81, Try.ntmps81
    go_wp2
    go_loopw [13] (fun i wr => ∃ j : Nat, j ≤ l.length ∧ i = .int .i64 j ∧ l.take j = m.take j ∧ Below w.heap.size w wr) (fun i _ => l.length - (intOf i).toNat)
    case atStart => exact ⟨0, Nat.zero_le _, rfl, rfl, Below.refl _ _⟩
    case round =>
      obtain ⟨j, hj, rfl, hp, hb⟩ := hrel
      have HP := Lib.hid hp
      have HB := Lib.hid hb
      clear hp hb
      by_cases hlt : j < l.length
      · have hlt' : j < m.length := by have := HL.out; omega
        have HRW := Lib.hid (HR.out.below hB HB.out)
        have HRW' := Lib.hid (HR'.out.below hB HB.out)
        obtain ⟨b, off, rfl, hbB, c1⟩ := HRW.out j hlt
        obtain ⟨b', off', rfl, hbB', c1'⟩ := HRW'.out j hlt'
        have HT : Hid (l.take (j + 1) = l.take j ++ [l[j]] ∧ m.take (j + 1) = m.take j ++ [m[j]]) := Lib.hid ⟨List.take_succ_eq_append_getElem hlt, List.take_succ_eq_append_getElem hlt'⟩
        by_cases he : l[j] = m[j]
        · have HE : Hid (l.take (j + 1) = m.take (j + 1)) := Lib.hid (by rw [HT.out.1, HT.out.2, HP.out, he])
          have hbn : (l[j] != m[j]) = false := by simpa using he
          generalize l[j] = x at *
          generalize m[j] = y at *
          clear he
          go_wp2
          go_quiet (fail)
          go_wp2
          go_roundw
          case rel => exact ⟨j + 1, hlt, by go_num, HE.out, belowI_drewN HB.out _⟩
          case measure => simp [intOf]; omega
        · have HE : Hid (l ≠ m) := Lib.hid (fun e => by subst e; exact he rfl)
          have hbn : (l[j] != m[j]) = true := by simpa using he
          generalize l[j] = x at *
          generalize m[j] = y at *
          clear he
          go_wp2
          go_quiet (fail)
          go_wp2
          go_ret
          exact ⟨by rw [decide_eq_false HE.out]; rfl, belowI_drewN HB.out _⟩
      · obtain rfl : j = l.length := by omega
        have HE : Hid (l = m) := Lib.hid (by
          have h := HP.out
          rw [List.take_of_length_le (Nat.le_refl _), HL.out, List.take_of_length_le (Nat.le_refl _)] at h
          exact h)
        go_wp2
        go_ret
        exact ⟨by rw [decide_eq_true HE.out]; rfl, HB.out⟩
  · have hd : ((l.length : Int) == (m.length : Int)) = false := by simp; omega
    have HE : Hid (l ≠ m) := Lib.hid (fun e => hl (by rw [e]))
    clear hl
    go_enter Try.func81, Try.ntmps81
    go_wp2
    go_ret
    exact ⟨by rw [decide_eq_false HE.out]; rfl, Below.refl _ _⟩

set_option maxRecDepth 100000 in
set_option maxHeartbeats 2000000 in
/-- impl.EqualRings -/
theorem ieqrn (r s : Rn) (A A' : Option Addr) (cap cap' B : Nat) (w : World) (hB : B ≤ w.heap.size) (hr : Ints w B A r.cs) (hr' : Ints w B A' s.cs) (hn : r.cs.length ≤ 1000000000) (hn' : s.cs.length ≤ 1000000000) :
    Calls Try.prog 50 #[rnV r (.slice A r.cs.length cap), rnV s (.slice A' s.cs.length cap')] w fun e w' => e = .returned (.bool (decide (sameRn r s))) ∧ Below w.heap.size w w' := by
  have HH := Lib.hid (InRn2.start w r A cap s A' cap' (hr.up hB) (hr'.up hB))
  have HEQ : Hid (∀ W, InRn2 w r A cap s A' cap' W → Calls Try.prog 81 #[.slice A r.cs.length cap, .slice A' s.cs.length cap'] W fun e w' => e = .returned (.bool (decide (r.cs = s.cs))) ∧ Below W.heap.size W w') := Lib.hid fun W h => ieqi r.cs s.cs A A' cap cap' (w.heap.size + 1) W (Nat.le_of_lt h.2.2.2.1) (h.1.2.1.up (Nat.le_succ _)) h.2.2.1 hn hn'
  clear hr hr' hn hn'
  by_cases h0 : r.size = s.size
  rotate_left
  · have HV : Hid (decide (sameRn r s) = false) := Lib.hid (decide_eq_false (fun h => h0 h.1))
    have t0 : (r.size == s.size) = false := by simpa using h0
    clear h0
    go_enter Try.func50, Try.ntmps50
    obtain ⟨⟨a0, a1, a2, a3⟩, ⟨b0, b1, b2, b3⟩⟩ : (_ ∧ _) := ⟨HH.out.1.1, HH.out.2.1⟩
    go_wp2
    go_ret
    exact ⟨by rw [HV.out] <;> rfl, HH.out.1.2.2.2⟩
  have t0 : (r.size == s.size) = true := by simpa using h0
  by_cases h1 : r.base = s.base
  rotate_left
  · have HV : Hid (decide (sameRn r s) = false) := Lib.hid (decide_eq_false (fun h => h1 h.2.1))
    have t1 : (r.base == s.base) = false := by simpa using h1
    clear h0 h1
    go_enter Try.func50, Try.ntmps50
    obtain ⟨⟨a0, a1, a2, a3⟩, ⟨b0, b1, b2, b3⟩⟩ : (_ ∧ _) := ⟨HH.out.1.1, HH.out.2.1⟩
    go_wp2
    go_ret
    exact ⟨by rw [HV.out] <;> rfl, HH.out.1.2.2.2⟩
  have t1 : (r.base == s.base) = true := by simpa using h1
  by_cases h2 : r.en = s.en
  rotate_left
  · have HV : Hid (decide (sameRn r s) = false) := Lib.hid (decide_eq_false (fun h => h2 h.2.2.1))
    have t2 : (r.en == s.en) = false := by simpa using h2
    clear h0 h1 h2
    go_enter Try.func50, Try.ntmps50
    obtain ⟨⟨a0, a1, a2, a3⟩, ⟨b0, b1, b2, b3⟩⟩ : (_ ∧ _) := ⟨HH.out.1.1, HH.out.2.1⟩
    go_wp2
    go_ret
    exact ⟨by rw [HV.out] <;> rfl, HH.out.1.2.2.2⟩
  have t2 : (r.en == s.en) = true := by simpa using h2
  have HV : Hid (decide (sameRn r s) = decide (r.cs = s.cs)) := Lib.hid (decide_eq_decide.2 ⟨fun h => h.2.2.2, fun h => ⟨h0, h1, h2, h⟩⟩)
  rw [HV.out]
  clear h0 h1 h2 HV
  go_enter Try.func50, Try.ntmps50
  obtain ⟨⟨a0, a1, a2, a3⟩, ⟨b0, b1, b2, b3⟩⟩ : (_ ∧ _) := ⟨HH.out.1.1, HH.out.2.1⟩
  go_wp2_with fail
  refine (HEQ.out _ HH.out).mono ?_
  rintro e w1 ⟨rfl, hb1⟩
  have HH := Lib.hid (HH.out.next hb1)
  clear hb1 a0 a1 a2 a3 b0 b1 b2 b3
  go_wp2
  go_ret
  exact ⟨rfl, HH.out.1.2.2.2⟩

end Go.Proofs.Ytjohbfdifdjldac
