/-
  What the laws' words on senders return: szSender, eqSender, markSender, heldSender.
-/
import Derived.Test.YtjohbfdifdjldaaSnV
import Derived.Test.YtjohbfdifdjldaaLRn
import Derived.Test.YtjohbfdifdjldaaKRgs
namespace Go.Proofs.Ytjohbfdifdjldaa
open Go.RowKit Go.Deep Go.Proofs.Ytjohbfdifdjldaa.Num

/-- What laws.szSender returns. -/
def szS (N : Int) (s : Sn) : Int := if N < (s.rn.cs.length : Int) + s.pe.length + s.fl.length + s.ac.length then -1 else N - ((s.rn.cs.length : Int) + s.pe.length + s.fl.length + s.ac.length)
theorem szS_low (N : Int) (s : Sn) (hN : N ≤ 1048576) : -1 ≤ szS N s ∧ szS N s ≤ 1048576 := by
  unfold szS
  split <;> omega
theorem szS_ok {N : Int} {s : Sn} (hN : N ≤ 1048576) (h : 0 ≤ szS N s) : s.rn.cs.length ≤ 1048576 ∧ s.pe.length ≤ 1048576 ∧ s.fl.length ≤ 1048576 ∧ s.ac.length ≤ 1048576 := by
  unfold szS at h
  split at h <;> omega
def szP (k : Int) (n : Nat) : Int := if k < (n : Int) then -1 else k - n
set_option maxRecDepth 100000 in
set_option maxHeartbeats 1000000 in
/-- laws.szSender -/
theorem lszs (N : Int) (hN0 : 0 ≤ N) (hN1 : N ≤ 1048576) (s : Sn) (A1 A2 A3 A4 : Option Addr) (c1 c2 c3 c4 : Nat) (w : World) (hr : ReadS w w.heap.size A1 A2 A3 A4 s) (hn : s.rn.cs.length ≤ 9223372036854775807 ∧ s.pe.length ≤ 9223372036854775807 ∧ s.fl.length ≤ 9223372036854775807 ∧ s.ac.length ≤ 9223372036854775807) :
    Calls Try.prog 10 #[snV s (.slice A1 s.rn.cs.length c1) (.slice A2 s.pe.length c2) (.slice A3 s.fl.length c3) (.slice A4 s.ac.length c4), .int .i64 N] w fun e w' => e = .returned (.int .i64 (szS N s)) ∧ Below w.heap.size w w' := by
  obtain ⟨n1, n2, n3, n4⟩ := hn
  have HW := Lib.hid (InSn.start w s A1 A2 A3 A4 c1 c2 c3 c4 36 hr)
  have HZ1 := Lib.hid (fun W (h : InSn w w.heap.size s A1 A2 A3 A4 c1 c2 c3 c4 W) => lszn N hN0 hN1 s.rn A1 c1 W.heap.size W (Nat.le_refl _) (h.2.1.1.up (Nat.le_of_lt h.2.2.1)) n1)
  have HZ : Hid (∀ (k : Int) (n : Nat) A c W, 0 ≤ k ∧ k ≤ 1048576 → n ≤ 9223372036854775807 → Calls Try.prog 23 #[.slice A n c, .int .i64 k] W fun e w' => e = .returned (.int .i64 (szP k n)) ∧ Below W.heap.size W w') := Lib.hid fun k n A c W hk h => szrange n A c k W h hk
  have HV : Hid (szS N s = (if szI N s.rn.cs < 0 then -1 else if szP (szI N s.rn.cs) s.pe.length < 0 then -1 else if szP (szP (szI N s.rn.cs) s.pe.length) s.fl.length < 0 then -1 else szP (szP (szP (szI N s.rn.cs) s.pe.length) s.fl.length) s.ac.length)) := Lib.hid (by
    unfold szS szI szP
    repeat' split
    all_goals omega)
  have h1 := (szI_low N s.rn.cs hN1)
  rw [HV.out]
  clear hr HV hN0 hN1
  generalize szI N s.rn.cs = q1 at *
  have HQ2 : Hid (0 ≤ q1 → -1 ≤ szP q1 s.pe.length ∧ szP q1 s.pe.length ≤ q1) := Lib.hid fun h => by unfold szP; split <;> omega
  by_cases d1 : q1 < 0
  · rw [if_pos d1]
    obtain rfl : q1 = -1 := by omega
    clear d1 h1
    go_enter Try.func10, Try.ntmps10
    go_wp2_with fail
    refine (HZ1.out _ HW.out).mono ?_
    rintro e w1 ⟨rfl, hb⟩
    have H1 := Lib.hid (HW.out.next hb)
    clear hb HW HQ2
    go_wp2
    go_ret
    exact ⟨rfl, H1.out.2.2.2⟩
  rw [if_neg d1]
  have e1 : decide (q1 < 0) = false := decide_eq_false d1
  have h2 := HQ2.out (by omega)
  have HC2 := Lib.hid (fun W => HZ.out q1 s.pe.length A2 c2 W (by omega) n2)
  generalize szP q1 s.pe.length = q2 at *
  clear HQ2
  have HQ3 : Hid (0 ≤ q2 → -1 ≤ szP q2 s.fl.length ∧ szP q2 s.fl.length ≤ q2) := Lib.hid fun h => by unfold szP; split <;> omega
  by_cases d2 : q2 < 0
  · rw [if_pos d2]
    obtain rfl : q2 = -1 := by omega
    clear d2 h2 h1 d1
    go_enter Try.func10, Try.ntmps10
    go_wp2_with fail
    refine (HZ1.out _ HW.out).mono ?_
    rintro e w1 ⟨rfl, hb⟩
    have H1 := Lib.hid (HW.out.next hb)
    clear hb HW HQ3
    obtain ⟨a0, a1, a2, a3, a4, a5, a6, a7, a8, a9, a10, a11⟩ := H1.out.1
    go_wp2_with fail
    refine (HC2.out _).mono ?_
    rintro e w2 ⟨rfl, hb⟩
    have H2 := Lib.hid (H1.out.next hb)
    clear hb H1 a0 a1 a2 a3 a4 a5 a6 a7 a8 a9 a10 a11
    go_wp2
    go_ret
    exact ⟨rfl, H2.out.2.2.2⟩
  rw [if_neg d2]
  have e2 : decide (q2 < 0) = false := decide_eq_false d2
  have h3 := HQ3.out (by omega)
  have HC3 := Lib.hid (fun W => HZ.out q2 s.fl.length A3 c3 W (by omega) n3)
  generalize szP q2 s.fl.length = q3 at *
  clear HQ3
  by_cases d3 : q3 < 0
  · rw [if_pos d3]
    obtain rfl : q3 = -1 := by omega
    clear d3 h3 h2 h1 d1 d2
    go_enter Try.func10, Try.ntmps10
    go_wp2_with fail
    refine (HZ1.out _ HW.out).mono ?_
    rintro e w1 ⟨rfl, hb⟩
    have H1 := Lib.hid (HW.out.next hb)
    clear hb HW 
    obtain ⟨a0, a1, a2, a3, a4, a5, a6, a7, a8, a9, a10, a11⟩ := H1.out.1
    go_wp2_with fail
    refine (HC2.out _).mono ?_
    rintro e w2 ⟨rfl, hb⟩
    have H2 := Lib.hid (H1.out.next hb)
    clear hb H1 a0 a1 a2 a3 a4 a5 a6 a7 a8 a9 a10 a11
    obtain ⟨a0, a1, a2, a3, a4, a5, a6, a7, a8, a9, a10, a11⟩ := H2.out.1
    go_wp2_with fail
    refine (HC3.out _).mono ?_
    rintro e w3 ⟨rfl, hb⟩
    have H3 := Lib.hid (H2.out.next hb)
    clear hb H2 a0 a1 a2 a3 a4 a5 a6 a7 a8 a9 a10 a11
    go_wp2
    go_ret
    exact ⟨rfl, H3.out.2.2.2⟩
  rw [if_neg d3]
  have e3 : decide (q3 < 0) = false := decide_eq_false d3
  have HC4 := Lib.hid (fun W => HZ.out q3 s.ac.length A4 c4 W (by omega) n4)
  have h4 : -1 ≤ szP q3 s.ac.length := by unfold szP; split <;> omega
  generalize szP q3 s.ac.length = q4 at *
  clear h1 h2 h3 d1 d2 d3 HZ
  by_cases d4 : q4 < 0
  · obtain rfl : q4 = -1 := by omega
    clear d4 h4
    go_enter Try.func10, Try.ntmps10
    go_wp2_with fail
    refine (HZ1.out _ HW.out).mono ?_
    rintro e w1 ⟨rfl, hb⟩
    have H1 := Lib.hid (HW.out.next hb)
    clear hb HW 
    obtain ⟨a0, a1, a2, a3, a4, a5, a6, a7, a8, a9, a10, a11⟩ := H1.out.1
    go_wp2_with fail
    refine (HC2.out _).mono ?_
    rintro e w2 ⟨rfl, hb⟩
    have H2 := Lib.hid (H1.out.next hb)
    clear hb H1 a0 a1 a2 a3 a4 a5 a6 a7 a8 a9 a10 a11
    obtain ⟨a0, a1, a2, a3, a4, a5, a6, a7, a8, a9, a10, a11⟩ := H2.out.1
    go_wp2_with fail
    refine (HC3.out _).mono ?_
    rintro e w3 ⟨rfl, hb⟩
    have H3 := Lib.hid (H2.out.next hb)
    clear hb H2 a0 a1 a2 a3 a4 a5 a6 a7 a8 a9 a10 a11
    obtain ⟨a0, a1, a2, a3, a4, a5, a6, a7, a8, a9, a10, a11⟩ := H3.out.1
    go_wp2_with fail
    refine (HC4.out _).mono ?_
    rintro e w4 ⟨rfl, hb⟩
    have H4 := Lib.hid (H3.out.next hb)
    clear hb H3 a0 a1 a2 a3 a4 a5 a6 a7 a8 a9 a10 a11
    go_wp2
    go_ret
    exact ⟨rfl, H4.out.2.2.2⟩
  have e4 : decide (q4 < 0) = false := decide_eq_false d4
  clear d4 h4
  go_enter Try.func10, Try.ntmps10
  go_wp2_with fail
  refine (HZ1.out _ HW.out).mono ?_
  rintro e w1 ⟨rfl, hb⟩
  have H1 := Lib.hid (HW.out.next hb)
  clear hb HW 
  obtain ⟨a0, a1, a2, a3, a4, a5, a6, a7, a8, a9, a10, a11⟩ := H1.out.1
  go_wp2_with fail
  refine (HC2.out _).mono ?_
  rintro e w2 ⟨rfl, hb⟩
  have H2 := Lib.hid (H1.out.next hb)
  clear hb H1 a0 a1 a2 a3 a4 a5 a6 a7 a8 a9 a10 a11
  obtain ⟨a0, a1, a2, a3, a4, a5, a6, a7, a8, a9, a10, a11⟩ := H2.out.1
  go_wp2_with fail
  refine (HC3.out _).mono ?_
  rintro e w3 ⟨rfl, hb⟩
  have H3 := Lib.hid (H2.out.next hb)
  clear hb H2 a0 a1 a2 a3 a4 a5 a6 a7 a8 a9 a10 a11
  obtain ⟨a0, a1, a2, a3, a4, a5, a6, a7, a8, a9, a10, a11⟩ := H3.out.1
  go_wp2_with fail
  refine (HC4.out _).mono ?_
  rintro e w4 ⟨rfl, hb⟩
  have H4 := Lib.hid (H3.out.next hb)
  clear hb H3 a0 a1 a2 a3 a4 a5 a6 a7 a8 a9 a10 a11
  go_wp2
  go_ret
  exact ⟨rfl, H4.out.2.2.2⟩

/-- Two senders in neighbouring blocks: all that was made since lies behind them. -/
def TwoS (w0 : World) (s : Sn) (v1 v2 v3 v4 u1 u2 u3 u4 : Value) (W : World) : Prop := CellS W w0.heap.size s v1 v2 v3 v4 ∧ CellS W (w0.heap.size + 1) s u1 u2 u3 u4 ∧ w0.heap.size + 1 < W.heap.size ∧ Below w0.heap.size w0 W
theorem TwoS.next {w0 : World} {s : Sn} {v1 v2 v3 v4 u1 u2 u3 u4 : Value} {W W' : World} (h : TwoS w0 s v1 v2 v3 v4 u1 u2 u3 u4 W) (hb : Below W.heap.size W W') : TwoS w0 s v1 v2 v3 v4 u1 u2 u3 u4 W' :=
  ⟨h.1.below hb (by have := h.2.2.1; omega), h.2.1.below hb h.2.2.1, Nat.lt_of_lt_of_le h.2.2.1 hb.size, h.2.2.2.trans (hb.mono (by have := h.2.2.1; omega))⟩
theorem TwoS.start (w : World) (s : Sn) (v1 v2 v3 v4 u1 u2 u3 u4 : Value) (t : TypeId) : TwoS w s v1 v2 v3 v4 u1 u2 u3 u4 ((w.alloc (.cells (snB s v1 v2 v3 v4) t)).alloc (.cells (snB s u1 u2 u3 u4) t)) := by
  have hs : (w.alloc (.cells (snB s v1 v2 v3 v4) t)).heap.size = w.heap.size + 1 := by simp
  have h2 := Cell12.new (w.alloc (.cells (snB s v1 v2 v3 v4) t)) s.st s.rn.size s.rn.base s.rn.en u1 u2 u3 u4 s.fin s.fi s.sent s.code t
  rw [hs] at h2
  exact ⟨(Cell12.new w _ _ _ _ _ _ _ _ _ _ _ _ t).below ((Below.refl _ _).alloc (Nat.le_refl _) _) (by simp), h2, by simp, ((Below.refl _ _).alloc (Nat.le_refl _) _).alloc (by simp) _⟩
set_option maxRecDepth 100000 in
set_option maxHeartbeats 1000000 in
/-- laws.eqSender, of two senders that hold the same. -/
theorem eqsn (s : Sn) (A1 A2 A3 A4 : Option Addr) (c1 c2 c3 c4 : Nat) (B1 B2 B3 B4 : Option Addr) (d1 d2 d3 d4 : Nat) (w : World) (hr : ReadS w w.heap.size A1 A2 A3 A4 s) (hr' : ReadS w w.heap.size B1 B2 B3 B4 s) (hn : s.rn.cs.length ≤ 10000000 ∧ s.pe.length ≤ 10000000 ∧ s.fl.length ≤ 10000000 ∧ s.ac.length ≤ 10000000) :
    Calls Try.prog 7 #[snV s (.slice A1 s.rn.cs.length c1) (.slice A2 s.pe.length c2) (.slice A3 s.fl.length c3) (.slice A4 s.ac.length c4), snV s (.slice B1 s.rn.cs.length d1) (.slice B2 s.pe.length d2) (.slice B3 s.fl.length d3) (.slice B4 s.ac.length d4)] w fun e w' => e = .returned (.bool true) ∧ Below w.heap.size w w' := by
  obtain ⟨n1, n2, n3, n4⟩ := hn
  have HW := Lib.hid (TwoS.start w s (.slice A1 s.rn.cs.length c1) (.slice A2 s.pe.length c2) (.slice A3 s.fl.length c3) (.slice A4 s.ac.length c4) (.slice B1 s.rn.cs.length d1) (.slice B2 s.pe.length d2) (.slice B3 s.fl.length d3) (.slice B4 s.ac.length d4) 27)
  have HE : Hid (∀ W, w.heap.size ≤ W.heap.size → Below w.heap.size w W → Calls Try.prog 16 #[rnV s.rn (.slice A1 s.rn.cs.length c1), rnV s.rn (.slice B1 s.rn.cs.length d1)] W fun e w' => e = .returned (.bool true) ∧ Below W.heap.size W w') := Lib.hid fun W h1 h2 => eqrn s.rn A1 B1 c1 d1 W.heap.size W (Nat.le_refl _) ((hr.below (Nat.le_refl _) h2).up h1).1 ((hr'.below (Nat.le_refl _) h2).up h1).1 (by omega)
  have HE2 : Hid (∀ W, w.heap.size ≤ W.heap.size → Below w.heap.size w W → Calls Try.prog 17 #[(.slice A2 s.pe.length c2), (.slice B2 s.pe.length d2)] W fun e w' => e = .returned (.bool true) ∧ Below W.heap.size W w') := Lib.hid fun W h1 h2 => eqranges s.pe A2 B2 c2 d2 W.heap.size W (Nat.le_refl _) ((hr.below (Nat.le_refl _) h2).up h1).2.1 ((hr'.below (Nat.le_refl _) h2).up h1).2.1 (by omega)
  have HE3 : Hid (∀ W, w.heap.size ≤ W.heap.size → Below w.heap.size w W → Calls Try.prog 17 #[(.slice A3 s.fl.length c3), (.slice B3 s.fl.length d3)] W fun e w' => e = .returned (.bool true) ∧ Below W.heap.size W w') := Lib.hid fun W h1 h2 => eqranges s.fl A3 B3 c3 d3 W.heap.size W (Nat.le_refl _) ((hr.below (Nat.le_refl _) h2).up h1).2.2.1 ((hr'.below (Nat.le_refl _) h2).up h1).2.2.1 (by omega)
  have HE4 : Hid (∀ W, w.heap.size ≤ W.heap.size → Below w.heap.size w W → Calls Try.prog 17 #[(.slice A4 s.ac.length c4), (.slice B4 s.ac.length d4)] W fun e w' => e = .returned (.bool true) ∧ Below W.heap.size W w') := Lib.hid fun W h1 h2 => eqranges s.ac A4 B4 c4 d4 W.heap.size W (Nat.le_refl _) ((hr.below (Nat.le_refl _) h2).up h1).2.2.2 ((hr'.below (Nat.le_refl _) h2).up h1).2.2.2 (by omega)
  have e0 := bne_int s.st
  have e1 := bne_int s.fin
  have e2 := bne_int s.fi
  have e3 := bne_int s.sent
  have e4 := bne_int s.code
  clear hr hr'
  go_enter Try.func7, Try.ntmps7
  go_wp2_with fail
  refine (HE.out _ (by have := HW.out.2.2.1; omega) HW.out.2.2.2).mono ?_
  rintro e w0 ⟨rfl, hb⟩
  have H0 := Lib.hid (HW.out.next hb)
  clear hb HW 
  obtain ⟨a0, a1, a2, a3, a4, a5, a6, a7, a8, a9, a10, a11⟩ := H0.out.1
  obtain ⟨b0, b1, b2, b3, b4, b5, b6, b7, b8, b9, b10, b11⟩ := H0.out.2.1
  go_wp2_with fail
  refine (HE2.out _ (by have := H0.out.2.2.1; omega) H0.out.2.2.2).mono ?_
  rintro e w1 ⟨rfl, hb⟩
  have H1 := Lib.hid (H0.out.next hb)
  clear hb H0 a0 a1 a2 a3 a4 a5 a6 a7 a8 a9 a10 a11 b0 b1 b2 b3 b4 b5 b6 b7 b8 b9 b10 b11
  obtain ⟨a0, a1, a2, a3, a4, a5, a6, a7, a8, a9, a10, a11⟩ := H1.out.1
  obtain ⟨b0, b1, b2, b3, b4, b5, b6, b7, b8, b9, b10, b11⟩ := H1.out.2.1
  go_wp2_with fail
  refine (HE3.out _ (by have := H1.out.2.2.1; omega) H1.out.2.2.2).mono ?_
  rintro e w2 ⟨rfl, hb⟩
  have H2 := Lib.hid (H1.out.next hb)
  clear hb H1 a0 a1 a2 a3 a4 a5 a6 a7 a8 a9 a10 a11 b0 b1 b2 b3 b4 b5 b6 b7 b8 b9 b10 b11
  obtain ⟨a0, a1, a2, a3, a4, a5, a6, a7, a8, a9, a10, a11⟩ := H2.out.1
  obtain ⟨b0, b1, b2, b3, b4, b5, b6, b7, b8, b9, b10, b11⟩ := H2.out.2.1
  go_wp2_with fail
  refine (HE4.out _ (by have := H2.out.2.2.1; omega) H2.out.2.2.2).mono ?_
  rintro e w3 ⟨rfl, hb⟩
  have H3 := Lib.hid (H2.out.next hb)
  clear hb H2 a0 a1 a2 a3 a4 a5 a6 a7 a8 a9 a10 a11 b0 b1 b2 b3 b4 b5 b6 b7 b8 b9 b10 b11
  obtain ⟨a0, a1, a2, a3, a4, a5, a6, a7, a8, a9, a10, a11⟩ := H3.out.1
  obtain ⟨b0, b1, b2, b3, b4, b5, b6, b7, b8, b9, b10, b11⟩ := H3.out.2.1
  go_wp2
  go_ret
  exact ⟨rfl, H3.out.2.2.2⟩

/-- The marks of a sender: the ring's, and then the ranges'. -/
def mk2 (s : Sn) : Int := 1 + (s.rn.cs.length : Int)
def mk3 (s : Sn) : Int := mk2 s + 2 * (s.pe.length : Int)
def mk4 (s : Sn) : Int := mk3 s + 2 * (s.fl.length : Int)
def mk5 (s : Sn) : Int := mk4 s + 2 * (s.ac.length : Int)
/-- The blocks of four slices are written; all else is as it was. -/
def Four (w w' : World) (v1 v2 v3 v4 : Value) : Prop := w'.os = w.os ∧ w'.tape = w.tape ∧ w'.output = w.output ∧ w.heap.size ≤ w'.heap.size ∧ ∀ k, k < w.heap.size → v1.ownBlock ≠ some k → v2.ownBlock ≠ some k → v3.ownBlock ≠ some k → v4.ownBlock ≠ some k → w'.heap[k]? = w.heap[k]?
theorem Four.of {w w1 w2 w3 w4 : World} {v1 v2 v3 v4 : Value} (h1 : w.grownBy w1 v1.ownBlock) (h2 : w1.grownBy w2 v2.ownBlock) (h3 : w2.grownBy w3 v3.ownBlock) (h4 : w3.grownBy w4 v4.ownBlock) : Four w w4 v1 v2 v3 v4 := by
  have s1 := h1.size
  have s2 := h2.size
  have s3 := h3.size
  have s4 := h4.size
  exact ⟨h4.os.trans (h3.os.trans (h2.os.trans h1.os)), h4.tape.trans (h3.tape.trans (h2.tape.trans h1.tape)), h4.output.trans (h3.output.trans (h2.output.trans h1.output)), by omega, fun k hk a1 a2 a3 a4 =>
    (h4.block k (by omega) (fun e => a4 e.symm)).trans ((h3.block k (by omega) (fun e => a3 e.symm)).trans ((h2.block k (by omega) (fun e => a2 e.symm)).trans (h1.block k hk (fun e => a1 e.symm))))⟩
set_option maxRecDepth 100000 in
set_option maxHeartbeats 1000000 in
/-- laws.markSender, on a sender of the call's own. -/
theorem marksn (s : Sn) (v1 v2 v3 v4 : Value) (base : Nat) (w : World) (ho : OwnSn w base v1 v2 v3 v4 s) (hbs : base ≤ w.heap.size) (hn : s.rn.cs.length ≤ 10000000 ∧ s.pe.length ≤ 10000000 ∧ s.fl.length ≤ 10000000 ∧ s.ac.length ≤ 10000000) :
    Calls Try.prog 8 #[snV s v1 v2 v3 v4, .int .i64 1] w fun e w' => e = .returned (.int .i64 (mk5 s)) ∧ OwnS w' base v1 v2 v3 v4 (marks 1 s.rn.cs.length) (marksR (mk2 s) s.pe.length) (marksR (mk3 s) s.fl.length) (marksR (mk4 s) s.ac.length) ∧ Below base w w' ∧ Four w w' v1 v2 v3 v4 := by
  obtain ⟨n1, n2, n3, n4⟩ := hn
  have X0 := Cell12.new w s.st s.rn.size s.rn.base s.rn.en v1 v2 v3 v4 s.fin s.fi s.sent s.code 27
  have B0 := (Below.refl base w).alloc hbs (.cells (snB s v1 v2 v3 v4) 27)
  have hz : (w.alloc (.cells (snB s v1 v2 v3 v4) 27)).heap.size = w.heap.size + 1 := by simp
  have U0 := ho.under
  have O0 := ho.alloc (.cells (snB s v1 v2 v3 v4) 27)
  have k2 : 0 ≤ mk2 s ∧ mk2 s ≤ 1000000000000 := by unfold mk2; omega
  have k3 : 0 ≤ mk3 s ∧ mk3 s ≤ 1000000000000 := by unfold mk3 mk2; omega
  have k4 : 0 ≤ mk4 s ∧ mk4 s ≤ 1000000000000 := by unfold mk4 mk3 mk2; omega
  have HX0 := Lib.hid X0
  have HB0 := Lib.hid B0
  have HO0 := Lib.hid O0
  have HU := Lib.hid U0
  have HZ := Lib.hid hz
  have K2 := Lib.hid (show (1 : Int) + (s.rn.cs.length : Int) = mk2 s from rfl)
  have K3 := Lib.hid (show mk2 s + 2 * (s.pe.length : Int) = mk3 s from rfl)
  have K4 := Lib.hid (show mk3 s + 2 * (s.fl.length : Int) = mk4 s from rfl)
  have K5 := Lib.hid (show mk4 s + 2 * (s.ac.length : Int) = mk5 s from rfl)
  have HF : Hid (∀ W, w.alloc (.cells (snB s v1 v2 v3 v4) 27) = W → ∀ W1 ob, W.grownBy W1 ob → w.grownBy W1 ob) := Lib.hid fun W e W1 ob h => only_firstI (o := .cells (snB s v1 v2 v3 v4) 27) (by rw [e]; exact h)
  clear X0 B0 O0 U0 hz ho
  go_enter Try.func8, Try.ntmps8
  go_upto_region 1 with fail
  obtain ⟨w0, hw0⟩ : ∃ w0, w.alloc (.cells (snB s v1 v2 v3 v4) 27) = w0 := ⟨_, rfl⟩
  have HF0 := Lib.hid (HF.out w0 hw0)
  have HW0 := Lib.hid hw0
  rw [hw0] at HX0 HB0 HO0 HZ
  rw [hw0]
  clear hw0 HF HW0
  obtain ⟨a0, a1, a2, a3, a4, a5, a6, a7, a8, a9, a10, a11⟩ := HX0.out
  go_wp2_with fail
  refine (markrn s.rn v1 base w0 HO0.out.1.1 (by have := HB0.out.size; have := HZ.out; omega) (by omega)).mono ?_
  rintro e w1 ⟨rfl, ho, hb, hg⟩
  rw [K2.out]
  have HO1 := Lib.hid (show OwnS w1 base v1 v2 v3 v4 (marks 1 s.rn.cs.length) s.pe s.fl s.ac from ⟨⟨ho, HO0.out.1.2.1.kept hg (HO0.out.2.1.1.symm), HO0.out.1.2.2.1.kept hg (HO0.out.2.1.2.1.symm), HO0.out.1.2.2.2.kept hg (HO0.out.2.1.2.2.symm)⟩, HO0.out.2⟩)
  have HX1 := Lib.hid (HX0.out.of (hg.block w.heap.size (by have := HZ.out; have := HB0.out.size; omega) (fun e => by have := HU.out.1 _ e.symm; omega)))
  have HS1 := Lib.hid (show w.heap.size + 1 ≤ w1.heap.size by have := hg.size; have := HZ.out; omega)
  have HB1 := Lib.hid (HB0.out.trans hb)
  have HG1 := Lib.hid (HF0.out _ _ hg)
  clear ho hb hg a0 a1 a2 a3 a4 a5 a6 a7 a8 a9 a10 a11 HX0 HO0
  obtain ⟨a0, a1, a2, a3, a4, a5, a6, a7, a8, a9, a10, a11⟩ := HX1.out
  go_wp2_with fail
  refine (markQ s.pe (mk2 s) v2 base w1 HO1.out.1.2.1 (by omega) k2).mono ?_
  rintro e w2 ⟨rfl, ho, hb, hg⟩
  rw [K3.out]
  have HO2 := Lib.hid (show OwnS w2 base v1 v2 v3 v4 (marks 1 s.rn.cs.length) (marksR (mk2 s) s.pe.length) s.fl s.ac from ⟨⟨HO1.out.1.1.kept hg (HO1.out.2.1.1), ho, HO1.out.1.2.2.1.kept hg (HO1.out.2.2.1.1.symm), HO1.out.1.2.2.2.kept hg (HO1.out.2.2.1.2.symm)⟩, HO1.out.2⟩)
  have HX2 := Lib.hid (HX1.out.of (hg.block w.heap.size (by have := HZ.out; have := HB0.out.size; have := HS1.out; omega) (fun e => by have := HU.out.2.1 _ e.symm; omega)))
  have HS2 := Lib.hid (show w.heap.size + 1 ≤ w2.heap.size by have := hg.size; have := HZ.out; have := HS1.out; omega)
  have HB2 := Lib.hid (HB1.out.trans hb)
  have HG2 := Lib.hid hg
  clear ho hb hg a0 a1 a2 a3 a4 a5 a6 a7 a8 a9 a10 a11 HX1 HO1
  obtain ⟨a0, a1, a2, a3, a4, a5, a6, a7, a8, a9, a10, a11⟩ := HX2.out
  go_wp2_with fail
  refine (markQ s.fl (mk3 s) v3 base w2 HO2.out.1.2.2.1 (by omega) k3).mono ?_
  rintro e w3 ⟨rfl, ho, hb, hg⟩
  rw [K4.out]
  have HO3 := Lib.hid (show OwnS w3 base v1 v2 v3 v4 (marks 1 s.rn.cs.length) (marksR (mk2 s) s.pe.length) (marksR (mk3 s) s.fl.length) s.ac from ⟨⟨HO2.out.1.1.kept hg (HO2.out.2.1.2.1), HO2.out.1.2.1.kept hg (HO2.out.2.2.1.1), ho, HO2.out.1.2.2.2.kept hg (HO2.out.2.2.2.symm)⟩, HO2.out.2⟩)
  have HX3 := Lib.hid (HX2.out.of (hg.block w.heap.size (by have := HZ.out; have := HB0.out.size; have := HS2.out; omega) (fun e => by have := HU.out.2.2.1 _ e.symm; omega)))
  have HS3 := Lib.hid (show w.heap.size + 1 ≤ w3.heap.size by have := hg.size; have := HZ.out; have := HS2.out; omega)
  have HB3 := Lib.hid (HB2.out.trans hb)
  have HG3 := Lib.hid hg
  clear ho hb hg a0 a1 a2 a3 a4 a5 a6 a7 a8 a9 a10 a11 HX2 HO2
  obtain ⟨a0, a1, a2, a3, a4, a5, a6, a7, a8, a9, a10, a11⟩ := HX3.out
  go_wp2_with fail
  refine (markQ s.ac (mk4 s) v4 base w3 HO3.out.1.2.2.2 (by omega) k4).mono ?_
  rintro e w4 ⟨rfl, ho, hb, hg⟩
  rw [K5.out]
  have HO4 := Lib.hid (show OwnS w4 base v1 v2 v3 v4 (marks 1 s.rn.cs.length) (marksR (mk2 s) s.pe.length) (marksR (mk3 s) s.fl.length) (marksR (mk4 s) s.ac.length) from ⟨⟨HO3.out.1.1.kept hg (HO3.out.2.1.2.2), HO3.out.1.2.1.kept hg (HO3.out.2.2.1.2), HO3.out.1.2.2.1.kept hg (HO3.out.2.2.2), ho⟩, HO3.out.2⟩)
  have HX4 := Lib.hid (HX3.out.of (hg.block w.heap.size (by have := HZ.out; have := HB0.out.size; have := HS3.out; omega) (fun e => by have := HU.out.2.2.2 _ e.symm; omega)))
  have HS4 := Lib.hid (show w.heap.size + 1 ≤ w4.heap.size by have := hg.size; have := HZ.out; have := HS3.out; omega)
  have HB4 := Lib.hid (HB3.out.trans hb)
  have HG4 := Lib.hid hg
  clear ho hb hg a0 a1 a2 a3 a4 a5 a6 a7 a8 a9 a10 a11 HX3 HO3
  go_wp2
  go_ret
  exact ⟨rfl, HO4.out, HB4.out, Four.of HG1.out HG2.out HG3.out HG4.out⟩

set_option maxRecDepth 100000 in
set_option maxHeartbeats 1000000 in
/-- laws.heldSender, of a sender that holds the marks. -/
theorem heldsn (s : Sn) (A1 A2 A3 A4 : Option Addr) (c1 c2 c3 c4 : Nat) (w : World) (h1 : Ints w w.heap.size A1 (marks 1 s.rn.cs.length)) (h2 : Rgs w w.heap.size A2 (marksR (mk2 s) s.pe.length)) (h3 : Rgs w w.heap.size A3 (marksR (mk3 s) s.fl.length)) (h4 : Rgs w w.heap.size A4 (marksR (mk4 s) s.ac.length)) (hn : s.rn.cs.length ≤ 10000000 ∧ s.pe.length ≤ 10000000 ∧ s.fl.length ≤ 10000000 ∧ s.ac.length ≤ 10000000) :
    Calls Try.prog 9 #[snV s (.slice A1 s.rn.cs.length c1) (.slice A2 s.pe.length c2) (.slice A3 s.fl.length c3) (.slice A4 s.ac.length c4), .int .i64 1] w fun e w' => e = .returned (.int .i64 (mk5 s)) ∧ Below w.heap.size w w' := by
  obtain ⟨n1, n2, n3, n4⟩ := hn
  have HX := Lib.hid (show CellS (w.alloc (.cells (snB s (.slice A1 s.rn.cs.length c1) (.slice A2 s.pe.length c2) (.slice A3 s.fl.length c3) (.slice A4 s.ac.length c4)) 27)) w.heap.size s (.slice A1 s.rn.cs.length c1) (.slice A2 s.pe.length c2) (.slice A3 s.fl.length c3) (.slice A4 s.ac.length c4) ∧ w.heap.size < (w.alloc (.cells (snB s (.slice A1 s.rn.cs.length c1) (.slice A2 s.pe.length c2) (.slice A3 s.fl.length c3) (.slice A4 s.ac.length c4)) 27)).heap.size ∧ Below w.heap.size w (w.alloc (.cells (snB s (.slice A1 s.rn.cs.length c1) (.slice A2 s.pe.length c2) (.slice A3 s.fl.length c3) (.slice A4 s.ac.length c4)) 27)) from ⟨Cell12.new w _ _ _ _ _ _ _ _ _ _ _ _ _, by simp, (Below.refl _ _).alloc (Nat.le_refl _) _⟩)
  have k2 : 0 ≤ mk2 s ∧ mk2 s ≤ 1000000000000 := by unfold mk2; omega
  have k3 : 0 ≤ mk3 s ∧ mk3 s ≤ 1000000000000 := by unfold mk3 mk2; omega
  have k4 : 0 ≤ mk4 s ∧ mk4 s ≤ 1000000000000 := by unfold mk4 mk3 mk2; omega
  have k5 : 0 ≤ mk5 s := by unfold mk5 mk4 mk3 mk2; omega
  have HC1 : Hid (∀ W, w.heap.size ≤ W.heap.size → Below w.heap.size w W → Calls Try.prog 20 #[rnV s.rn (.slice A1 s.rn.cs.length c1), .int .i64 1] W fun e w' => e = .returned (.int .i64 (mk2 s)) ∧ Below W.heap.size W w') := Lib.hid fun W a b => heldrn s.rn s.rn.cs.length A1 c1 W.heap.size W (Nat.le_refl _) ((h1.below (Nat.le_refl _) b).up a) (by omega)
  have HC2 : Hid (∀ W, w.heap.size ≤ W.heap.size → Below w.heap.size w W → Calls Try.prog 21 #[(.slice A2 s.pe.length c2), .int .i64 (mk2 s)] W fun e w' => e = .returned (.int .i64 (mk3 s)) ∧ w' = W) := Lib.hid fun W a b => heldP (mk2 s) s.pe.length A2 c2 W.heap.size W ((h2.below (Nat.le_refl _) b).up a) (by omega) k2
  have HC3 : Hid (∀ W, w.heap.size ≤ W.heap.size → Below w.heap.size w W → Calls Try.prog 21 #[(.slice A3 s.fl.length c3), .int .i64 (mk3 s)] W fun e w' => e = .returned (.int .i64 (mk4 s)) ∧ w' = W) := Lib.hid fun W a b => heldP (mk3 s) s.fl.length A3 c3 W.heap.size W ((h3.below (Nat.le_refl _) b).up a) (by omega) k3
  have HC4 : Hid (∀ W, w.heap.size ≤ W.heap.size → Below w.heap.size w W → Calls Try.prog 21 #[(.slice A4 s.ac.length c4), .int .i64 (mk4 s)] W fun e w' => e = .returned (.int .i64 (mk5 s)) ∧ w' = W) := Lib.hid fun W a b => heldP (mk4 s) s.ac.length A4 c4 W.heap.size W ((h4.below (Nat.le_refl _) b).up a) (by omega) k4
  have e2 : decide (mk2 s < 0) = false := decide_eq_false (by omega)
  have e3 : decide (mk3 s < 0) = false := decide_eq_false (by omega)
  have e4 : decide (mk4 s < 0) = false := decide_eq_false (by omega)
  have e5 : decide (mk5 s < 0) = false := decide_eq_false (by omega)
  clear h1 h2 h3 h4
  generalize mk2 s = m2 at *
  generalize mk3 s = m3 at *
  generalize mk4 s = m4 at *
  generalize mk5 s = m5 at *
  clear k2 k3 k4 k5 n1 n2 n3 n4
  go_enter Try.func9, Try.ntmps9
  go_wp2_with fail
  refine (HC1.out _ (Nat.le_of_lt HX.out.2.1) HX.out.2.2).mono ?_
  rintro e w1 ⟨rfl, hb⟩
  have H1 := Lib.hid (show CellS w1 w.heap.size s (.slice A1 s.rn.cs.length c1) (.slice A2 s.pe.length c2) (.slice A3 s.fl.length c3) (.slice A4 s.ac.length c4) ∧ w.heap.size < w1.heap.size ∧ Below w.heap.size w w1 from ⟨HX.out.1.below hb HX.out.2.1, Nat.lt_of_lt_of_le HX.out.2.1 hb.size, HX.out.2.2.trans (hb.mono (Nat.le_of_lt HX.out.2.1))⟩)
  clear hb HX HC1
  obtain ⟨a0, a1, a2, a3, a4, a5, a6, a7, a8, a9, a10, a11⟩ := H1.out.1
  go_wp2_with fail
  refine (HC2.out _ (Nat.le_of_lt H1.out.2.1) H1.out.2.2).mono ?_
  rintro e w2 ⟨rfl, rfl⟩
  go_wp2_with fail
  refine (HC3.out _ (Nat.le_of_lt H1.out.2.1) H1.out.2.2).mono ?_
  rintro e w3 ⟨rfl, rfl⟩
  go_wp2_with fail
  refine (HC4.out _ (Nat.le_of_lt H1.out.2.1) H1.out.2.2).mono ?_
  rintro e w4 ⟨rfl, rfl⟩
  go_wp2
  go_ret
  exact ⟨rfl, H1.out.2.2⟩
end Go.Proofs.Ytjohbfdifdjldaa
