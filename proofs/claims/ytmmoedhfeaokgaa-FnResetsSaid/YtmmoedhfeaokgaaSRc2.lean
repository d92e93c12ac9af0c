/-
  What spec.IsReceived, NewBytes return.
-/
import Derived.Test.YtmmoedhfeaokgaaSRc1
namespace Go.Proofs.Ytmmoedhfeaokgaa
open Go.RowKit Go.Deep Go.Proofs.Ytmmoedhfeaokgaa.Num

set_option maxRecDepth 100000 in
set_option maxHeartbeats 4000000 in
/-- spec.IsReceived -/
theorem sgotrc (r : Rc) (A : Option Addr) (cap B : Nat) (w : World) (hB : B ≤ w.heap.size) (hr : Chs w B A r.buf.chs) (hn : r.buf.chs.length ≤ 1000000000) (hi : inB r.buf.chs) (hx : inRc r) :
    Calls Try.prog 36 #[rcV r (.slice A r.buf.chs.length cap)] w fun e w' => e = .returned (.bool (decide (gotRc r))) ∧ Below w.heap.size w w' := by
  have HH := Lib.hid (InRc.start w r A cap 28 (hr.up hB))
  have HIR : Hid (∀ W, InRc w w.heap.size r A cap W → Calls Try.prog 19 #[rcV r (.slice A r.buf.chs.length cap)] W fun e w' => e = .returned (.bool (decide (okRc r))) ∧ Below W.heap.size W w') := Lib.hid fun W h => sisrc r A cap w.heap.size W (Nat.le_of_lt h.2.2.1) h.2.1 hn hi hx
  by_cases hok : okRc r
  · rw [decide_eq_true hok] at HIR
    have HOK := Lib.hid hok
    clear hok hr hi hx hn
    by_cases h3 : r.st = 3
    · have t3 : (r.st == 3) = true := by simpa using h3
      have HV : Hid (decide (gotRc r) = true) := Lib.hid (decide_eq_true ⟨HOK.out, .inl h3⟩)
      clear h3
      go_enter Try.func36, Try.ntmps36
      obtain ⟨a0, a1, a2, a3, a4, a5⟩ := HH.out.1
      go_wp2_with fail
      refine (HIR.out _ HH.out).mono ?_
      rintro e w1 ⟨rfl, hb1⟩
      have HH := Lib.hid (HH.out.next hb1)
      clear hb1 a0 a1 a2 a3 a4 a5
      obtain ⟨a0, a1, a2, a3, a4, a5⟩ := HH.out.1
      go_wp2
      go_ret
      exact ⟨by rw [HV.out]; rfl, HH.out.2.2.2⟩
    · have t3 : (r.st == 3) = false := by simpa using h3
      have HV : Hid (decide (gotRc r) = (r.st == 5)) := Lib.hid (by rw [show (r.st == 5) = decide (r.st = 5) from rfl]; exact decide_eq_decide.2 ⟨fun h => h.2.resolve_left h3, fun h => ⟨HOK.out, .inr h⟩⟩)
      clear h3
      go_enter Try.func36, Try.ntmps36
      obtain ⟨a0, a1, a2, a3, a4, a5⟩ := HH.out.1
      go_wp2_with fail
      refine (HIR.out _ HH.out).mono ?_
      rintro e w1 ⟨rfl, hb1⟩
      have HH := Lib.hid (HH.out.next hb1)
      clear hb1 a0 a1 a2 a3 a4 a5
      obtain ⟨a0, a1, a2, a3, a4, a5⟩ := HH.out.1
      go_wp2
      go_ret
      exact ⟨by rw [HV.out]; rfl, HH.out.2.2.2⟩
  · rw [decide_eq_false hok] at HIR
    have HV : Hid (decide (gotRc r) = false) := Lib.hid (decide_eq_false (fun h => hok h.1))
    clear hok hr hi hx hn
    go_enter Try.func36, Try.ntmps36
    obtain ⟨a0, a1, a2, a3, a4, a5⟩ := HH.out.1
    go_wp2_with fail
    refine (HIR.out _ HH.out).mono ?_
    rintro e w1 ⟨rfl, hb1⟩
    have HH := Lib.hid (HH.out.next hb1)
    clear hb1 a0 a1 a2 a3 a4 a5
    obtain ⟨a0, a1, a2, a3, a4, a5⟩ := HH.out.1
    go_wp2
    go_ret
    exact ⟨by rw [HV.out]; rfl, HH.out.2.2.2⟩
set_option maxRecDepth 100000 in
set_option maxHeartbeats 4000000 in
/-- spec.NewBytes -/
theorem snewb (r : Rc) (n : Int) (A : Option Addr) (cap B : Nat) (w : World) (hB : B ≤ w.heap.size) (hr : Chs w B A r.buf.chs) (hn : r.buf.chs.length ≤ 1000000000) (hi : inB r.buf.chs) (hx : inRc r) :
    Calls Try.prog 32 #[rcV r (.slice A r.buf.chs.length cap), .int .i64 n] w fun e w' => e = .returned (.int .i64 (newRc r n)) ∧ Below w.heap.size w w' := by
  have HH := Lib.hid (InRc.start w r A cap 28 (hr.up hB))
  have HIR : Hid (∀ W, InRc w w.heap.size r A cap W → Calls Try.prog 19 #[rcV r (.slice A r.buf.chs.length cap)] W fun e w' => e = .returned (.bool (decide (okRc r))) ∧ Below W.heap.size W w') := Lib.hid fun W h => sisrc r A cap w.heap.size W (Nat.le_of_lt h.2.2.1) h.2.1 hn hi hx
  have HQE : Hid (∀ W, InRc w w.heap.size r A cap W → Calls Try.prog 47 #[.int .i64 n] W fun e w' => e = .returned (.bool (decide (0 ≤ n ∧ n ≤ 4611686018427387903))) ∧ Below W.heap.size W w') := Lib.hid fun W _ => squicW n W
  by_cases hok : okRc r
  · by_cases hq : 0 ≤ n ∧ n ≤ 4611686018427387903
    · have hw : wrap64 (n - r.hi) = n - r.hi := by have := hok.1.2.1; clear hx; unfold wrap64; omega
      have HV0 : newRc r n = max 0 (n - r.hi) := if_pos ⟨hok, hq⟩
      rw [decide_eq_true hok] at HIR
      rw [decide_eq_true hq] at HQE
      by_cases hlt : r.hi < n
      · have HV : Hid (newRc r n = n - r.hi) := Lib.hid (by omega)
        clear HV0 hok hq hr hi hx hn
        go_enter Try.func32, Try.ntmps32
        obtain ⟨a0, a1, a2, a3, a4, a5⟩ := HH.out.1
        go_wp2_with fail
        refine (HIR.out _ HH.out).mono ?_
        rintro e w1 ⟨rfl, hb1⟩
        have HH := Lib.hid (HH.out.next hb1)
        clear hb1 a0 a1 a2 a3 a4 a5
        obtain ⟨a0, a1, a2, a3, a4, a5⟩ := HH.out.1
        go_wp2_with fail
        refine (HQE.out _ HH.out).mono ?_
        rintro e w1 ⟨rfl, hb1⟩
        have HH := Lib.hid (HH.out.next hb1)
        clear hb1 a0 a1 a2 a3 a4 a5
        obtain ⟨a0, a1, a2, a3, a4, a5⟩ := HH.out.1
        go_wp2
        go_ret
        exact ⟨by rw [HV.out]; rfl, HH.out.2.2.2⟩
      · have HV : Hid (newRc r n = 0) := Lib.hid (by omega)
        clear HV0 hok hq hr hi hx hn
        go_enter Try.func32, Try.ntmps32
        obtain ⟨a0, a1, a2, a3, a4, a5⟩ := HH.out.1
        go_wp2_with fail
        refine (HIR.out _ HH.out).mono ?_
        rintro e w1 ⟨rfl, hb1⟩
        have HH := Lib.hid (HH.out.next hb1)
        clear hb1 a0 a1 a2 a3 a4 a5
        obtain ⟨a0, a1, a2, a3, a4, a5⟩ := HH.out.1
        go_wp2_with fail
        refine (HQE.out _ HH.out).mono ?_
        rintro e w1 ⟨rfl, hb1⟩
        have HH := Lib.hid (HH.out.next hb1)
        clear hb1 a0 a1 a2 a3 a4 a5
        obtain ⟨a0, a1, a2, a3, a4, a5⟩ := HH.out.1
        go_wp2
        go_ret
        exact ⟨by rw [HV.out]; rfl, HH.out.2.2.2⟩
    · have HV : Hid (newRc r n = 0) := Lib.hid (if_neg (fun h => hq h.2))
      rw [decide_eq_true hok] at HIR
      rw [decide_eq_false hq] at HQE
      clear hok hq hr hi hx hn
      go_enter Try.func32, Try.ntmps32
      obtain ⟨a0, a1, a2, a3, a4, a5⟩ := HH.out.1
      go_wp2_with fail
      refine (HIR.out _ HH.out).mono ?_
      rintro e w1 ⟨rfl, hb1⟩
      have HH := Lib.hid (HH.out.next hb1)
      clear hb1 a0 a1 a2 a3 a4 a5
      obtain ⟨a0, a1, a2, a3, a4, a5⟩ := HH.out.1
      go_wp2_with fail
      refine (HQE.out _ HH.out).mono ?_
      rintro e w1 ⟨rfl, hb1⟩
      have HH := Lib.hid (HH.out.next hb1)
      clear hb1 a0 a1 a2 a3 a4 a5
      obtain ⟨a0, a1, a2, a3, a4, a5⟩ := HH.out.1
      go_wp2
      go_ret
      exact ⟨by rw [HV.out]; rfl, HH.out.2.2.2⟩
  · have HV : Hid (newRc r n = 0) := Lib.hid (if_neg (fun h => hok h.1))
    rw [decide_eq_false hok] at HIR
    clear hok hr hi hx hn
    go_enter Try.func32, Try.ntmps32
    obtain ⟨a0, a1, a2, a3, a4, a5⟩ := HH.out.1
    go_wp2_with fail
    refine (HIR.out _ HH.out).mono ?_
    rintro e w1 ⟨rfl, hb1⟩
    have HH := Lib.hid (HH.out.next hb1)
    clear hb1 a0 a1 a2 a3 a4 a5
    obtain ⟨a0, a1, a2, a3, a4, a5⟩ := HH.out.1
    go_wp2
    go_ret
    exact ⟨by rw [HV.out]; rfl, HH.out.2.2.2⟩
end Go.Proofs.Ytmmoedhfeaokgaa
