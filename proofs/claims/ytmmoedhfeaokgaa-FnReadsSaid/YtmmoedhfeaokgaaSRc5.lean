/-
  What spec.EqualReceivers returns.
-/
import Derived.Test.YtmmoedhfeaokgaaRcV
import Derived.Test.YtmmoedhfeaokgaaSBuf2
namespace Go.Proofs.Ytmmoedhfeaokgaa
open Go.RowKit Go.Deep Go.Proofs.Ytmmoedhfeaokgaa.Num

/-- Two that came in, boxed. -/
def InRc2 (w : World) (r : Rc) (A : Option Addr) (cap : Nat) (s : Rc) (A' : Option Addr) (cap' : Nat) (W : World) : Prop :=
  InRc w w.heap.size r A cap W ∧ InRc (w.alloc (.cells (rcC r.st r.buf.next (.slice A r.buf.chs.length cap) r.fin r.hi r.code) 28)) (w.heap.size + 1) s A' cap' W
theorem InRc2.start (w : World) (r : Rc) (A : Option Addr) (cap : Nat) (s : Rc) (A' : Option Addr) (cap' : Nat) (hr : Chs w w.heap.size A r.buf.chs) (hr' : Chs w w.heap.size A' s.buf.chs) :
    InRc2 w r A cap s A' cap' ((w.alloc (.cells (rcC r.st r.buf.next (.slice A r.buf.chs.length cap) r.fin r.hi r.code) 28)).alloc (.cells (rcC s.st s.buf.next (.slice A' s.buf.chs.length cap') s.fin s.hi s.code) 28)) := by
  have hs : (w.alloc (.cells (rcC r.st r.buf.next (.slice A r.buf.chs.length cap) r.fin r.hi r.code) 28)).heap.size = w.heap.size + 1 := by simp
  refine ⟨(InRc.start w r A cap _ hr).alloc _, ?_⟩
  rw [← hs]
  exact InRc.start _ s A' cap' _ ((hr'.below (Nat.le_refl _) ((Below.refl _ _).alloc (Nat.le_refl _) _)).up (by rw [hs]; omega))
theorem InRc2.next {w : World} {r : Rc} {A : Option Addr} {cap : Nat} {s : Rc} {A' : Option Addr} {cap' : Nat} {W W' : World} (h : InRc2 w r A cap s A' cap' W) (hb : Below W.heap.size W W') : InRc2 w r A cap s A' cap' W' :=
  ⟨h.1.next hb, h.2.next hb⟩
set_option maxRecDepth 100000 in
set_option maxHeartbeats 8000000 in
/-- spec.EqualReceivers -/
theorem seqrc (r s : Rc) (A A' : Option Addr) (cap cap' B : Nat) (w : World) (hB : B ≤ w.heap.size) (hr : Chs w B A r.buf.chs) (hr' : Chs w B A' s.buf.chs) (hn : r.buf.chs.length ≤ 1000000000) :
    Calls Try.prog 18 #[rcV r (.slice A r.buf.chs.length cap), rcV s (.slice A' s.buf.chs.length cap')] w fun e w' => e = .returned (.bool (decide (sameRc r s))) ∧ Below w.heap.size w w' := by
  have HH := Lib.hid (InRc2.start w r A cap s A' cap' (hr.up hB) (hr'.up hB))
  have HEQ : Hid (∀ W, InRc2 w r A cap s A' cap' W → Calls Try.prog 49 #[bfV r.buf.next (.slice A r.buf.chs.length cap), bfV s.buf.next (.slice A' s.buf.chs.length cap')] W fun e w' => e = .returned (.bool (decide (r.buf.next = s.buf.next ∧ r.buf.chs = s.buf.chs))) ∧ Below W.heap.size W w') := Lib.hid fun W h => sequal r.buf.next s.buf.next r.buf.chs s.buf.chs A A' cap cap' (w.heap.size + 1) W (Nat.le_of_lt h.2.2.2.1) (h.1.2.1.up (Nat.le_succ _)) h.2.2.1 hn
  clear hr hr' hn
  by_cases h0 : r.st = s.st
  rotate_left
  · have HV : Hid (decide (sameRc r s) = false) := Lib.hid (decide_eq_false (fun h => h0 h.1))
    have t0 : (r.st == s.st) = false := by simpa using h0
    clear h0
    go_enter Try.func18, Try.ntmps18
    obtain ⟨⟨a0, a1, a2, a3, a4, a5⟩, ⟨b0, b1, b2, b3, b4, b5⟩⟩ : (_ ∧ _) := ⟨HH.out.1.1, HH.out.2.1⟩
    go_wp2
    go_ret
    exact ⟨by rw [HV.out] <;> rfl, HH.out.1.2.2.2⟩
  have t0 : (r.st == s.st) = true := by simpa using h0
  by_cases h1 : r.buf.next = s.buf.next ∧ r.buf.chs = s.buf.chs
  rotate_left
  · have HV : Hid (decide (sameRc r s) = false) := Lib.hid (decide_eq_false (fun h => h1 h.2.1))
    rw [decide_eq_false h1] at HEQ
    clear h0 h1
    go_enter Try.func18, Try.ntmps18
    obtain ⟨⟨a0, a1, a2, a3, a4, a5⟩, ⟨b0, b1, b2, b3, b4, b5⟩⟩ : (_ ∧ _) := ⟨HH.out.1.1, HH.out.2.1⟩
    go_wp2_with fail
    refine (HEQ.out _ HH.out).mono ?_
    rintro e w1 ⟨rfl, hb1⟩
    have HH := Lib.hid (HH.out.next hb1)
    clear hb1 a0 a1 a2 a3 a4 a5 b0 b1 b2 b3 b4 b5
    obtain ⟨⟨a0, a1, a2, a3, a4, a5⟩, ⟨b0, b1, b2, b3, b4, b5⟩⟩ : (_ ∧ _) := ⟨HH.out.1.1, HH.out.2.1⟩
    go_wp2
    go_ret
    exact ⟨by rw [HV.out] <;> rfl, HH.out.1.2.2.2⟩
  rw [decide_eq_true h1] at HEQ
  by_cases h2 : r.fin = s.fin
  rotate_left
  · have HV : Hid (decide (sameRc r s) = false) := Lib.hid (decide_eq_false (fun h => h2 h.2.2.1))
    have t2 : (r.fin == s.fin) = false := by simpa using h2
    clear h0 h1 h2
    go_enter Try.func18, Try.ntmps18
    obtain ⟨⟨a0, a1, a2, a3, a4, a5⟩, ⟨b0, b1, b2, b3, b4, b5⟩⟩ : (_ ∧ _) := ⟨HH.out.1.1, HH.out.2.1⟩
    go_wp2_with fail
    refine (HEQ.out _ HH.out).mono ?_
    rintro e w1 ⟨rfl, hb1⟩
    have HH := Lib.hid (HH.out.next hb1)
    clear hb1 a0 a1 a2 a3 a4 a5 b0 b1 b2 b3 b4 b5
    obtain ⟨⟨a0, a1, a2, a3, a4, a5⟩, ⟨b0, b1, b2, b3, b4, b5⟩⟩ : (_ ∧ _) := ⟨HH.out.1.1, HH.out.2.1⟩
    go_wp2
    go_ret
    exact ⟨by rw [HV.out] <;> rfl, HH.out.1.2.2.2⟩
  have t2 : (r.fin == s.fin) = true := by simpa using h2
  by_cases h3 : r.hi = s.hi
  rotate_left
  · have HV : Hid (decide (sameRc r s) = false) := Lib.hid (decide_eq_false (fun h => h3 h.2.2.2.1))
    have t3 : (r.hi == s.hi) = false := by simpa using h3
    clear h0 h1 h2 h3
    go_enter Try.func18, Try.ntmps18
    obtain ⟨⟨a0, a1, a2, a3, a4, a5⟩, ⟨b0, b1, b2, b3, b4, b5⟩⟩ : (_ ∧ _) := ⟨HH.out.1.1, HH.out.2.1⟩
    go_wp2_with fail
    refine (HEQ.out _ HH.out).mono ?_
    rintro e w1 ⟨rfl, hb1⟩
    have HH := Lib.hid (HH.out.next hb1)
    clear hb1 a0 a1 a2 a3 a4 a5 b0 b1 b2 b3 b4 b5
    obtain ⟨⟨a0, a1, a2, a3, a4, a5⟩, ⟨b0, b1, b2, b3, b4, b5⟩⟩ : (_ ∧ _) := ⟨HH.out.1.1, HH.out.2.1⟩
    go_wp2
    go_ret
    exact ⟨by rw [HV.out] <;> rfl, HH.out.1.2.2.2⟩
  have t3 : (r.hi == s.hi) = true := by simpa using h3
  have HV : Hid (decide (sameRc r s) = (r.code == s.code)) := Lib.hid (by rw [show (r.code == s.code) = decide (r.code = s.code) from rfl]; exact decide_eq_decide.2 ⟨fun h => h.2.2.2.2, fun h => ⟨h0, h1, h2, h3, h⟩⟩)
  clear h0 h1 h2 h3
  go_enter Try.func18, Try.ntmps18
  obtain ⟨⟨a0, a1, a2, a3, a4, a5⟩, ⟨b0, b1, b2, b3, b4, b5⟩⟩ : (_ ∧ _) := ⟨HH.out.1.1, HH.out.2.1⟩
  go_wp2_with fail
  refine (HEQ.out _ HH.out).mono ?_
  rintro e w1 ⟨rfl, hb1⟩
  have HH := Lib.hid (HH.out.next hb1)
  clear hb1 a0 a1 a2 a3 a4 a5 b0 b1 b2 b3 b4 b5
  obtain ⟨⟨a0, a1, a2, a3, a4, a5⟩, ⟨b0, b1, b2, b3, b4, b5⟩⟩ : (_ ∧ _) := ⟨HH.out.1.1, HH.out.2.1⟩
  go_wp2
  go_ret
  exact ⟨by rw [HV.out] <;> rfl, HH.out.1.2.2.2⟩
end Go.Proofs.Ytmmoedhfeaokgaa
