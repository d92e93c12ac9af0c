/-
  What spec.ReceiveReset, ReadReceiver return.
-/
import Derived.Test.YtmmoedhfeaokgaaSRc2
import Derived.Test.YtmmoedhfeaokgaaSFin
import Derived.Test.YtmmoedhfeaokgaaRcX
namespace Go.Proofs.Ytmmoedhfeaokgaa
open Go.RowKit Go.Deep Go.Proofs.Ytmmoedhfeaokgaa.Num

set_option maxRecDepth 100000 in
set_option maxHeartbeats 8000000 in
/-- spec.ReceiveReset -/
theorem srstrc (r : Rc) (c n : Int) (A : Option Addr) (cap B : Nat) (w : World) (hB : B ≤ w.heap.size) (hr : Chs w B A r.buf.chs) (hn : r.buf.chs.length ≤ 10000000) (hi : inB r.buf.chs) (hx : inRc r) :
    Calls Try.prog 17 #[rcV r (.slice A r.buf.chs.length cap), .int .i64 c, .int .i64 n] w fun e w' => ∃ v, e = .returned (.tuple #[rcV (rstRc r c n).1 v, .int .i64 (rstRc r c n).2]) ∧ OwnX w' w.heap.size v (rstRc r c n).1.buf.chs ∧ Below w.heap.size w w' := by
  have s1 : ∀ o1, (w.alloc o1).heap.size = w.heap.size + 1 := fun _ => by simp
  have s2 : ∀ o1 o2, ((w.alloc o1).alloc o2).heap.size = w.heap.size + 2 := fun _ _ => by simp
  have HI1 := Lib.hid ((InRc.start w r A cap 28 (hr.up hB)).alloc (.cells (rcC 0 0 (.slice none 0 0) 0 0 0) 28))
  have X2 := BoxR.new (w.alloc (.cells (rcC r.st r.buf.next (.slice A r.buf.chs.length cap) r.fin r.hi r.code) 28)) 0 0 (.slice none 0 0) 0 0 0
  rw [s1] at X2
  have HS2 := Lib.hid (s2 (.cells (rcC r.st r.buf.next (.slice A r.buf.chs.length cap) r.fin r.hi r.code) 28) (.cells (rcC 0 0 (.slice none 0 0) 0 0 0) 28))
  have HO1 := Lib.hid X2
  have HCP : Hid (∀ W, InRc w w.heap.size r A cap W → Calls Try.prog 46 #[rcV r (.slice A r.buf.chs.length cap)] W fun e w' => ∃ v, e = .returned (rcV r v) ∧ OwnC w' W.heap.size v r.buf.chs ∧ Below W.heap.size W w') := Lib.hid fun W h => scopyrc r A cap w.heap.size W (Nat.le_of_lt h.2.2.1) h.2.1 (by omega)
  have HIR : Hid (∀ W, InRc w w.heap.size r A cap W → Calls Try.prog 19 #[rcV r (.slice A r.buf.chs.length cap)] W fun e w' => e = .returned (.bool (decide (okRc r))) ∧ Below W.heap.size W w') := Lib.hid fun W h => sisrc r A cap w.heap.size W (Nat.le_of_lt h.2.2.1) h.2.1 (by omega) hi hx
  clear X2 s1 s2
  have HQC : Hid (∀ W, InRc w w.heap.size r A cap W → Calls Try.prog 47 #[.int .i64 c] W fun e w' => e = .returned (.bool (decide (0 ≤ c ∧ c ≤ 4611686018427387903))) ∧ Below W.heap.size W w') := Lib.hid fun W _ => squicW c W
  have HQF : Hid (∀ W, InRc w w.heap.size r A cap W → Calls Try.prog 47 #[.int .i64 n] W fun e w' => e = .returned (.bool (decide (0 ≤ n ∧ n ≤ 4611686018427387903))) ∧ Below W.heap.size W w') := Lib.hid fun W _ => squicW n W
  have HFN : Hid (∀ W, InRc w w.heap.size r A cap W → Calls Try.prog 48 #[rcV r (.slice A r.buf.chs.length cap), .int .i64 n, .bool true] W fun e w' => e = .returned (.int .i64 (if badRc r n true then 6 else 0)) ∧ Below W.heap.size W w') := Lib.hid fun W h => sfin r n true A cap w.heap.size W (Nat.le_of_lt h.2.2.1) h.2.1
  by_cases hok : okRc r
  rotate_left
  · have hv : rstRc r c n = (r, 7) := if_pos (fun h => hok h.1)
    rw [hv]
    rw [decide_eq_false hok] at HIR
    clear hok
    clear hv hr hi hx hn
    go_enter Try.func17, Try.ntmps17
    obtain ⟨a0, a1, a2, a3, a4, a5⟩ := HI1.out.1
    go_wp2_with fail
    refine (HCP.out _ HI1.out).mono ?_
    rintro e w3 ⟨v, rfl, ho, hb⟩
    have HH := Lib.hid (FrX.start HI1.out HO1.out HS2.out hb ho.x)
    obtain ⟨A3, c3, rfl, _, _⟩ := ho.frs
    clear ho hb a0 a1 a2 a3 a4 a5
    go_upto_region 2 with fail
    generalize w3.alloc (.cells (rcC r.st r.buf.next (.slice A3 r.buf.chs.length c3) r.fin r.hi r.code) 28) = w4 at *
    generalize w3.heap.size = gx at *
    obtain ⟨a0, a1, a2, a3, a4, a5⟩ := HH.out.i.1
    go_wp2_with fail
    refine (HIR.out _ HH.out.i).mono ?_
    rintro e w1 ⟨rfl, hb1⟩
    have HH := Lib.hid (HH.out.next hb1)
    clear hb1 a0 a1 a2 a3 a4 a5
    obtain ⟨a0, a1, a2, a3, a4, a5⟩ := HH.out.i.1
    obtain ⟨b0, b1, b2, b3, b4, b5⟩ := HH.out.b.cells
    obtain ⟨p0, p1, p2, p3, p4, p5⟩ := HH.out.o.cells
    have pf := HH.out.o.free
    have bf := HH.out.b.free
    go_wp2
    refine bodyPost_ret (results_cell_tmp rfl _ _ (w.heap.size + 1) _ _ _ _ rfl HH.out.out.1 Try.underlying28 rfl (by kernel_rfl)) rfl ?_
    exact ⟨_, rfl, HH.out.out.2.1, HH.out.out.2.2⟩
  rw [decide_eq_true hok] at HIR
  by_cases hc : 0 ≤ c ∧ c ≤ 4611686018427387903
  rotate_left
  · have hv : rstRc r c n = (r, 7) := if_pos (fun h => hc h.2.1)
    rw [hv]
    rw [decide_eq_false hc] at HQC
    clear hok hc
    clear hv hr hi hx hn
    go_enter Try.func17, Try.ntmps17
    obtain ⟨a0, a1, a2, a3, a4, a5⟩ := HI1.out.1
    go_wp2_with fail
    refine (HCP.out _ HI1.out).mono ?_
    rintro e w3 ⟨v, rfl, ho, hb⟩
    have HH := Lib.hid (FrX.start HI1.out HO1.out HS2.out hb ho.x)
    obtain ⟨A3, c3, rfl, _, _⟩ := ho.frs
    clear ho hb a0 a1 a2 a3 a4 a5
    go_upto_region 2 with fail
    generalize w3.alloc (.cells (rcC r.st r.buf.next (.slice A3 r.buf.chs.length c3) r.fin r.hi r.code) 28) = w4 at *
    generalize w3.heap.size = gx at *
    obtain ⟨a0, a1, a2, a3, a4, a5⟩ := HH.out.i.1
    go_wp2_with fail
    refine (HIR.out _ HH.out.i).mono ?_
    rintro e w1 ⟨rfl, hb1⟩
    have HH := Lib.hid (HH.out.next hb1)
    clear hb1 a0 a1 a2 a3 a4 a5
    obtain ⟨a0, a1, a2, a3, a4, a5⟩ := HH.out.i.1
    go_wp2_with fail
    refine (HQC.out _ HH.out.i).mono ?_
    rintro e w1 ⟨rfl, hb1⟩
    have HH := Lib.hid (HH.out.next hb1)
    clear hb1 a0 a1 a2 a3 a4 a5
    obtain ⟨a0, a1, a2, a3, a4, a5⟩ := HH.out.i.1
    obtain ⟨b0, b1, b2, b3, b4, b5⟩ := HH.out.b.cells
    obtain ⟨p0, p1, p2, p3, p4, p5⟩ := HH.out.o.cells
    have pf := HH.out.o.free
    have bf := HH.out.b.free
    go_wp2
    refine bodyPost_ret (results_cell_tmp rfl _ _ (w.heap.size + 1) _ _ _ _ rfl HH.out.out.1 Try.underlying28 rfl (by kernel_rfl)) rfl ?_
    exact ⟨_, rfl, HH.out.out.2.1, HH.out.out.2.2⟩
  rw [decide_eq_true hc] at HQC
  by_cases hf : 0 ≤ n ∧ n ≤ 4611686018427387903
  rotate_left
  · have hv : rstRc r c n = (r, 7) := if_pos (fun h => hf h.2.2)
    rw [hv]
    rw [decide_eq_false hf] at HQF
    clear hok hc hf
    clear hv hr hi hx hn
    go_enter Try.func17, Try.ntmps17
    obtain ⟨a0, a1, a2, a3, a4, a5⟩ := HI1.out.1
    go_wp2_with fail
    refine (HCP.out _ HI1.out).mono ?_
    rintro e w3 ⟨v, rfl, ho, hb⟩
    have HH := Lib.hid (FrX.start HI1.out HO1.out HS2.out hb ho.x)
    obtain ⟨A3, c3, rfl, _, _⟩ := ho.frs
    clear ho hb a0 a1 a2 a3 a4 a5
    go_upto_region 2 with fail
    generalize w3.alloc (.cells (rcC r.st r.buf.next (.slice A3 r.buf.chs.length c3) r.fin r.hi r.code) 28) = w4 at *
    generalize w3.heap.size = gx at *
    obtain ⟨a0, a1, a2, a3, a4, a5⟩ := HH.out.i.1
    go_wp2_with fail
    refine (HIR.out _ HH.out.i).mono ?_
    rintro e w1 ⟨rfl, hb1⟩
    have HH := Lib.hid (HH.out.next hb1)
    clear hb1 a0 a1 a2 a3 a4 a5
    obtain ⟨a0, a1, a2, a3, a4, a5⟩ := HH.out.i.1
    go_wp2_with fail
    refine (HQC.out _ HH.out.i).mono ?_
    rintro e w1 ⟨rfl, hb1⟩
    have HH := Lib.hid (HH.out.next hb1)
    clear hb1 a0 a1 a2 a3 a4 a5
    obtain ⟨a0, a1, a2, a3, a4, a5⟩ := HH.out.i.1
    go_wp2_with fail
    refine (HQF.out _ HH.out.i).mono ?_
    rintro e w1 ⟨rfl, hb1⟩
    have HH := Lib.hid (HH.out.next hb1)
    clear hb1 a0 a1 a2 a3 a4 a5
    obtain ⟨a0, a1, a2, a3, a4, a5⟩ := HH.out.i.1
    obtain ⟨b0, b1, b2, b3, b4, b5⟩ := HH.out.b.cells
    obtain ⟨p0, p1, p2, p3, p4, p5⟩ := HH.out.o.cells
    have pf := HH.out.o.free
    have bf := HH.out.b.free
    go_wp2
    refine bodyPost_ret (results_cell_tmp rfl _ _ (w.heap.size + 1) _ _ _ _ rfl HH.out.out.1 Try.underlying28 rfl (by kernel_rfl)) rfl ?_
    exact ⟨_, rfl, HH.out.out.2.1, HH.out.out.2.2⟩
  rw [decide_eq_true hf] at HQF
  by_cases hb : badRc r n true
  · have hv : rstRc r c n = (r, 6) := (if_neg (fun h => h ⟨hok, hc, hf⟩)).trans (if_pos hb)
    rw [hv]
    rw [if_pos hb] at HFN
    clear hv hok hc hf hb
    clear hr hi hx hn
    go_enter Try.func17, Try.ntmps17
    obtain ⟨a0, a1, a2, a3, a4, a5⟩ := HI1.out.1
    go_wp2_with fail
    refine (HCP.out _ HI1.out).mono ?_
    rintro e w3 ⟨v, rfl, ho, hb⟩
    have HH := Lib.hid (FrX.start HI1.out HO1.out HS2.out hb ho.x)
    obtain ⟨A3, c3, rfl, _, _⟩ := ho.frs
    clear ho hb a0 a1 a2 a3 a4 a5
    go_upto_region 2 with fail
    generalize w3.alloc (.cells (rcC r.st r.buf.next (.slice A3 r.buf.chs.length c3) r.fin r.hi r.code) 28) = w4 at *
    generalize w3.heap.size = gx at *
    obtain ⟨a0, a1, a2, a3, a4, a5⟩ := HH.out.i.1
    go_wp2_with fail
    refine (HIR.out _ HH.out.i).mono ?_
    rintro e w1 ⟨rfl, hb1⟩
    have HH := Lib.hid (HH.out.next hb1)
    clear hb1 a0 a1 a2 a3 a4 a5
    obtain ⟨a0, a1, a2, a3, a4, a5⟩ := HH.out.i.1
    go_wp2_with fail
    refine (HQC.out _ HH.out.i).mono ?_
    rintro e w1 ⟨rfl, hb1⟩
    have HH := Lib.hid (HH.out.next hb1)
    clear hb1 a0 a1 a2 a3 a4 a5
    obtain ⟨a0, a1, a2, a3, a4, a5⟩ := HH.out.i.1
    go_wp2_with fail
    refine (HQF.out _ HH.out.i).mono ?_
    rintro e w1 ⟨rfl, hb1⟩
    have HH := Lib.hid (HH.out.next hb1)
    clear hb1 a0 a1 a2 a3 a4 a5
    obtain ⟨a0, a1, a2, a3, a4, a5⟩ := HH.out.i.1
    go_wp2_with fail
    refine (HFN.out _ HH.out.i).mono ?_
    rintro e w6 ⟨rfl, hb6⟩
    have HH := Lib.hid (HH.out.next hb6)
    clear hb6 a0 a1 a2 a3 a4 a5
    obtain ⟨a0, a1, a2, a3, a4, a5⟩ := HH.out.i.1
    obtain ⟨b0, b1, b2, b3, b4, b5⟩ := HH.out.b.cells
    obtain ⟨p0, p1, p2, p3, p4, p5⟩ := HH.out.o.cells
    have pf := HH.out.o.free
    have bf := HH.out.b.free
    go_wp2
    refine bodyPost_ret (results_cell_tmp rfl _ _ (w.heap.size + 1) _ _ _ _ rfl HH.out.out.1 Try.underlying28 rfl (by kernel_rfl)) rfl ?_
    exact ⟨_, rfl, HH.out.out.2.1, HH.out.out.2.2⟩
  rw [if_neg hb] at HFN
  by_cases hs : 1 < r.st
  · have hv : rstRc r c n = (r, 0) := (if_neg (fun h => h ⟨hok, hc, hf⟩)).trans ((if_neg hb).trans (if_pos hs))
    rw [hv]
    have ds : decide (1 < r.st) = true := decide_eq_true hs
    clear hv hok hc hf hb hs
    clear hr hi hx hn
    go_enter Try.func17, Try.ntmps17
    obtain ⟨a0, a1, a2, a3, a4, a5⟩ := HI1.out.1
    go_wp2_with fail
    refine (HCP.out _ HI1.out).mono ?_
    rintro e w3 ⟨v, rfl, ho, hb⟩
    have HH := Lib.hid (FrX.start HI1.out HO1.out HS2.out hb ho.x)
    obtain ⟨A3, c3, rfl, _, _⟩ := ho.frs
    clear ho hb a0 a1 a2 a3 a4 a5
    go_upto_region 2 with fail
    generalize w3.alloc (.cells (rcC r.st r.buf.next (.slice A3 r.buf.chs.length c3) r.fin r.hi r.code) 28) = w4 at *
    generalize w3.heap.size = gx at *
    obtain ⟨a0, a1, a2, a3, a4, a5⟩ := HH.out.i.1
    go_wp2_with fail
    refine (HIR.out _ HH.out.i).mono ?_
    rintro e w1 ⟨rfl, hb1⟩
    have HH := Lib.hid (HH.out.next hb1)
    clear hb1 a0 a1 a2 a3 a4 a5
    obtain ⟨a0, a1, a2, a3, a4, a5⟩ := HH.out.i.1
    go_wp2_with fail
    refine (HQC.out _ HH.out.i).mono ?_
    rintro e w1 ⟨rfl, hb1⟩
    have HH := Lib.hid (HH.out.next hb1)
    clear hb1 a0 a1 a2 a3 a4 a5
    obtain ⟨a0, a1, a2, a3, a4, a5⟩ := HH.out.i.1
    go_wp2_with fail
    refine (HQF.out _ HH.out.i).mono ?_
    rintro e w1 ⟨rfl, hb1⟩
    have HH := Lib.hid (HH.out.next hb1)
    clear hb1 a0 a1 a2 a3 a4 a5
    obtain ⟨a0, a1, a2, a3, a4, a5⟩ := HH.out.i.1
    go_wp2_with fail
    refine (HFN.out _ HH.out.i).mono ?_
    rintro e w6 ⟨rfl, hb6⟩
    have HH := Lib.hid (HH.out.next hb6)
    clear hb6 a0 a1 a2 a3 a4 a5
    obtain ⟨a0, a1, a2, a3, a4, a5⟩ := HH.out.i.1
    obtain ⟨b0, b1, b2, b3, b4, b5⟩ := HH.out.b.cells
    obtain ⟨p0, p1, p2, p3, p4, p5⟩ := HH.out.o.cells
    have pf := HH.out.o.free
    have bf := HH.out.b.free
    go_wp2
    refine bodyPost_ret (results_cell_tmp rfl _ _ (w.heap.size + 1) _ _ _ _ rfl HH.out.out.1 Try.underlying28 rfl (by kernel_rfl)) rfl ?_
    exact ⟨_, rfl, HH.out.out.2.1, HH.out.out.2.2⟩
  have hv : rstRc r c n = (⟨4, ⟨r.buf.next, []⟩, n, n, c⟩, 0) := (if_neg (fun h => h ⟨hok, hc, hf⟩)).trans ((if_neg hb).trans (if_neg hs))
  rw [hv]
  have ds : decide (1 < r.st) = false := decide_eq_false hs
  clear hv hok hc hf hb hs
  clear hr hi hx hn
  go_enter Try.func17, Try.ntmps17
  obtain ⟨a0, a1, a2, a3, a4, a5⟩ := HI1.out.1
  go_wp2_with fail
  refine (HCP.out _ HI1.out).mono ?_
  rintro e w3 ⟨v, rfl, ho, hb⟩
  have HH := Lib.hid (FrX.start HI1.out HO1.out HS2.out hb ho.x)
  obtain ⟨A3, c3, rfl, _, _⟩ := ho.frs
  clear ho hb a0 a1 a2 a3 a4 a5
  go_upto_region 2 with fail
  generalize w3.alloc (.cells (rcC r.st r.buf.next (.slice A3 r.buf.chs.length c3) r.fin r.hi r.code) 28) = w4 at *
  generalize w3.heap.size = gx at *
  obtain ⟨a0, a1, a2, a3, a4, a5⟩ := HH.out.i.1
  go_wp2_with fail
  refine (HIR.out _ HH.out.i).mono ?_
  rintro e w1 ⟨rfl, hb1⟩
  have HH := Lib.hid (HH.out.next hb1)
  clear hb1 a0 a1 a2 a3 a4 a5
  obtain ⟨a0, a1, a2, a3, a4, a5⟩ := HH.out.i.1
  go_wp2_with fail
  refine (HQC.out _ HH.out.i).mono ?_
  rintro e w1 ⟨rfl, hb1⟩
  have HH := Lib.hid (HH.out.next hb1)
  clear hb1 a0 a1 a2 a3 a4 a5
  obtain ⟨a0, a1, a2, a3, a4, a5⟩ := HH.out.i.1
  go_wp2_with fail
  refine (HQF.out _ HH.out.i).mono ?_
  rintro e w1 ⟨rfl, hb1⟩
  have HH := Lib.hid (HH.out.next hb1)
  clear hb1 a0 a1 a2 a3 a4 a5
  obtain ⟨a0, a1, a2, a3, a4, a5⟩ := HH.out.i.1
  go_wp2_with fail
  refine (HFN.out _ HH.out.i).mono ?_
  rintro e w6 ⟨rfl, hb6⟩
  have HH := Lib.hid (HH.out.next hb6)
  clear hb6 a0 a1 a2 a3 a4 a5
  obtain ⟨a0, a1, a2, a3, a4, a5⟩ := HH.out.i.1
  obtain ⟨b0, b1, b2, b3, b4, b5⟩ := HH.out.b.cells
  obtain ⟨p0, p1, p2, p3, p4, p5⟩ := HH.out.o.cells
  have pf := HH.out.o.free
  have bf := HH.out.b.free
  go_wp2
  refine bodyPost_ret (results_cell_tmp rfl _ _ (w.heap.size + 1) _ _ _ _ rfl ((((((HH.out.o.set0 _).set1 _).set2 _).set3 _).set4 _).set5 _) Try.underlying28 rfl (by kernel_rfl)) rfl ?_
  have hq : w.heap.size ≤ w.heap.size + 1 := Nat.le_succ _
  exact ⟨_, rfl, OwnC.empty.x, (((((HH.out.i.2.2.2.setCell (p := ⟨_, _, _⟩) hq _).setCell (p := ⟨_, _, _⟩) hq _).setCell (p := ⟨_, _, _⟩) hq _).setCell (p := ⟨_, _, _⟩) hq _).setCell (p := ⟨_, _, _⟩) hq _).setCell (p := ⟨_, _, _⟩) hq _⟩
set_option maxRecDepth 100000 in
set_option maxHeartbeats 8000000 in
/-- spec.ReadReceiver -/
theorem sreadrc (r : Rc) (m : Int) (A : Option Addr) (cap B : Nat) (w : World) (hB : B ≤ w.heap.size) (hr : Chs w B A r.buf.chs) (hn : r.buf.chs.length ≤ 10000000) (hi : inB r.buf.chs) (hx : inRc r) (hm : -9223372036854775808 ≤ m ∧ m ≤ 9223372036854775807) :
    Calls Try.prog 23 #[rcV r (.slice A r.buf.chs.length cap), .int .i64 m] w fun e w' => ∃ v, e = .returned (.tuple #[.string (readRc r m).1, rcV (readRc r m).2 v]) ∧ OwnX w' w.heap.size v (readRc r m).2.buf.chs ∧ Below w.heap.size w w' := by
  have s1 : ∀ o1, (w.alloc o1).heap.size = w.heap.size + 1 := fun _ => by simp
  have s2 : ∀ o1 o2, ((w.alloc o1).alloc o2).heap.size = w.heap.size + 2 := fun _ _ => by simp
  have HI1 := Lib.hid ((InRc.start w r A cap 28 (hr.up hB)).alloc (.cells (rcC 0 0 (.slice none 0 0) 0 0 0) 28))
  have X2 := BoxR.new (w.alloc (.cells (rcC r.st r.buf.next (.slice A r.buf.chs.length cap) r.fin r.hi r.code) 28)) 0 0 (.slice none 0 0) 0 0 0
  rw [s1] at X2
  have HS2 := Lib.hid (s2 (.cells (rcC r.st r.buf.next (.slice A r.buf.chs.length cap) r.fin r.hi r.code) 28) (.cells (rcC 0 0 (.slice none 0 0) 0 0 0) 28))
  have HO1 := Lib.hid X2
  have HCP : Hid (∀ W, InRc w w.heap.size r A cap W → Calls Try.prog 46 #[rcV r (.slice A r.buf.chs.length cap)] W fun e w' => ∃ v, e = .returned (rcV r v) ∧ OwnC w' W.heap.size v r.buf.chs ∧ Below W.heap.size W w') := Lib.hid fun W h => scopyrc r A cap w.heap.size W (Nat.le_of_lt h.2.2.1) h.2.1 (by omega)
  have HIR : Hid (∀ W, InRc w w.heap.size r A cap W → Calls Try.prog 19 #[rcV r (.slice A r.buf.chs.length cap)] W fun e w' => e = .returned (.bool (decide (okRc r))) ∧ Below W.heap.size W w') := Lib.hid fun W h => sisrc r A cap w.heap.size W (Nat.le_of_lt h.2.2.1) h.2.1 (by omega) hi hx
  clear X2 s1 s2
  have HTK : Hid (∀ W, InRc w w.heap.size r A cap W → Calls Try.prog 57 #[bfV r.buf.next (.slice A r.buf.chs.length cap), .int .i64 m] W fun e w' => ∃ v, e = .returned (.tuple #[.string (headT r.buf (cntT r.buf m)), bfV (dropT r.buf (cntT r.buf m)).next v]) ∧ OwnC w' W.heap.size v (dropT r.buf (cntT r.buf m)).chs ∧ Below W.heap.size W w') := Lib.hid fun W h => stake r.buf m A cap w.heap.size W (Nat.le_of_lt h.2.2.1) h.2.1 hn hi hx.2.1 hm
  by_cases hok : okRc r
  rotate_left
  · have hv : readRc r m = (⟨#[]⟩, r) := if_pos hok
    rw [hv]
    rw [decide_eq_false hok] at HIR
    clear hv hok hr hi hx hn hm
    go_enter Try.func23, Try.ntmps23
    obtain ⟨a0, a1, a2, a3, a4, a5⟩ := HI1.out.1
    go_wp2_with fail
    refine (HCP.out _ HI1.out).mono ?_
    rintro e w3 ⟨v, rfl, ho, hb⟩
    have HH := Lib.hid (FrX.start HI1.out HO1.out HS2.out hb ho.x)
    obtain ⟨A3, c3, rfl, _, _⟩ := ho.frs
    clear ho hb a0 a1 a2 a3 a4 a5
    go_upto_region 2 with fail
    generalize w3.alloc (.cells (rcC r.st r.buf.next (.slice A3 r.buf.chs.length c3) r.fin r.hi r.code) 28) = w4 at *
    generalize w3.heap.size = gx at *
    obtain ⟨a0, a1, a2, a3, a4, a5⟩ := HH.out.i.1
    go_wp2_with fail
    refine (HIR.out _ HH.out.i).mono ?_
    rintro e w5 ⟨rfl, hb5⟩
    have HH := Lib.hid (HH.out.next hb5)
    clear hb5 a0 a1 a2 a3 a4 a5
    go_upto_region 3 with fail
    obtain ⟨a0, a1, a2, a3, a4, a5⟩ := HH.out.i.1
    obtain ⟨b0, b1, b2, b3, b4, b5⟩ := HH.out.b.cells
    obtain ⟨p0, p1, p2, p3, p4, p5⟩ := HH.out.o.cells
    have pf := HH.out.o.free
    have bf := HH.out.b.free
    go_region
    go_wp2
    refine bodyPost_ret (results_tmp_cell rfl _ _ (w.heap.size + 1) _ _ _ _ rfl HH.out.out.1.drew Try.underlying28 rfl (by kernel_rfl)) rfl ?_
    exact ⟨_, rfl, HH.out.out.2.1.later (Below.refl _ _).drew, HH.out.out.2.2.drew⟩
  rw [decide_eq_true hok] at HIR
  by_cases h4 : r.st = 4
  · have hv : readRc r m = (⟨#[]⟩, ⟨5, r.buf, r.fin, r.hi, r.code⟩) := (if_neg (fun h => h hok)).trans (if_pos h4)
    rw [hv]
    have t4 : (r.st == 4) = true := by simpa using h4
    clear hv hok h4 hr hi hx hn hm
    go_enter Try.func23, Try.ntmps23
    obtain ⟨a0, a1, a2, a3, a4, a5⟩ := HI1.out.1
    go_wp2_with fail
    refine (HCP.out _ HI1.out).mono ?_
    rintro e w3 ⟨v, rfl, ho, hb⟩
    have HH := Lib.hid (FrX.start HI1.out HO1.out HS2.out hb ho.x)
    obtain ⟨A3, c3, rfl, _, _⟩ := ho.frs
    clear ho hb a0 a1 a2 a3 a4 a5
    go_upto_region 2 with fail
    generalize w3.alloc (.cells (rcC r.st r.buf.next (.slice A3 r.buf.chs.length c3) r.fin r.hi r.code) 28) = w4 at *
    generalize w3.heap.size = gx at *
    obtain ⟨a0, a1, a2, a3, a4, a5⟩ := HH.out.i.1
    go_wp2_with fail
    refine (HIR.out _ HH.out.i).mono ?_
    rintro e w5 ⟨rfl, hb5⟩
    have HH := Lib.hid (HH.out.next hb5)
    clear hb5 a0 a1 a2 a3 a4 a5
    obtain ⟨a0, a1, a2, a3, a4, a5⟩ := HH.out.i.1
    obtain ⟨b0, b1, b2, b3, b4, b5⟩ := HH.out.b.cells
    obtain ⟨p0, p1, p2, p3, p4, p5⟩ := HH.out.o.cells
    have pf := HH.out.o.free
    have bf := HH.out.b.free
    go_upto_region 6 with fail
    have HH := Lib.hid (HH.out.put0 5)
    clear a0 a1 a2 a3 a4 a5 b0 b1 b2 b3 b4 b5 p0 p1 p2 p3 p4 p5 pf bf
    obtain ⟨a0, a1, a2, a3, a4, a5⟩ := HH.out.i.1
    obtain ⟨b0, b1, b2, b3, b4, b5⟩ := HH.out.b.cells
    obtain ⟨p0, p1, p2, p3, p4, p5⟩ := HH.out.o.cells
    have pf := HH.out.o.free
    have bf := HH.out.b.free
    go_region
    go_wp2
    refine bodyPost_ret (results_tmp_cell rfl _ _ (w.heap.size + 1) _ _ _ _ rfl HH.out.out.1.drew Try.underlying28 rfl (by kernel_rfl)) rfl ?_
    exact ⟨_, rfl, HH.out.out.2.1.later (Below.refl _ _).drew, HH.out.out.2.2.drew⟩
  have t4 : (r.st == 4) = false := by simpa using h4
  have hv0 : readRc r m = (headT r.buf (cntT r.buf m), ⟨if r.st = 2 ∧ (dropT r.buf (cntT r.buf m)).next = r.fin then 3 else r.st, dropT r.buf (cntT r.buf m), r.fin, r.hi, r.code⟩) := (if_neg (fun h => h hok)).trans (if_neg h4)
  rw [hv0]
  clear hv0 hok h4 hr hi hx hn hm
  generalize headT r.buf (cntT r.buf m) = s at *
  generalize dropT r.buf (cntT r.buf m) = b at *
  by_cases h2 : r.st = 2
  · have t2 : (r.st == 2) = true := by simpa using h2
    by_cases hf : b.next = r.fin
    · rw [if_pos ⟨h2, hf⟩]
      have tf : (b.next == r.fin) = true := by simpa using hf
      clear h2 hf
      go_enter Try.func23, Try.ntmps23
      obtain ⟨a0, a1, a2, a3, a4, a5⟩ := HI1.out.1
      go_wp2_with fail
      refine (HCP.out _ HI1.out).mono ?_
      rintro e w3 ⟨v, rfl, ho, hb⟩
      have HH := Lib.hid (FrX.start HI1.out HO1.out HS2.out hb ho.x)
      obtain ⟨A3, c3, rfl, _, _⟩ := ho.frs
      clear ho hb a0 a1 a2 a3 a4 a5
      go_upto_region 2 with fail
      generalize w3.alloc (.cells (rcC r.st r.buf.next (.slice A3 r.buf.chs.length c3) r.fin r.hi r.code) 28) = w4 at *
      generalize w3.heap.size = gx at *
      obtain ⟨a0, a1, a2, a3, a4, a5⟩ := HH.out.i.1
      go_wp2_with fail
      refine (HIR.out _ HH.out.i).mono ?_
      rintro e w5 ⟨rfl, hb5⟩
      have HH := Lib.hid (HH.out.next hb5)
      clear hb5 a0 a1 a2 a3 a4 a5
      obtain ⟨a0, a1, a2, a3, a4, a5⟩ := HH.out.i.1
      go_wp2_with fail
      refine (HTK.out _ HH.out.i).mono ?_
      rintro e w6 ⟨v6, rfl, ho6, hb6⟩
      obtain ⟨A6, c6, rfl, _, _⟩ := ho6.frs
      have HB6 := Lib.hid ((BoxB.new w6 b.next (.slice A6 b.chs.length c6)))
      have HL6 := Lib.hid (show gx < w6.heap.size from Nat.lt_of_lt_of_le HH.out.b.lt hb6.size)
      have HX6 := Lib.hid ((HH.out.next hb6).alloc (.cells #[.int .i64 b.next, .slice A6 b.chs.length c6] 26))
      have HH := Lib.hid (HH.out.putB (hb6.alloc hb6.size (.cells #[.int .i64 b.next, .slice A6 b.chs.length c6] 26)) b (.slice A6 b.chs.length c6) (ho6.x.alloc _))
      clear ho6 hb6 a0 a1 a2 a3 a4 a5
      obtain ⟨a0, a1, a2, a3, a4, a5⟩ := HX6.out.i.1
      obtain ⟨b0, b1, b2, b3, b4, b5⟩ := HX6.out.b.cells
      obtain ⟨z0, z1⟩ := HB6.out.cells
      have bf := HX6.out.b.free
      go_upto_region 9 with fail
      have HB7 := Lib.hid ((HB6.out.other gx 1 (.int .i64 b.next) (by have := HL6.out; omega)).other gx 2 (.slice A6 b.chs.length c6) (by have := HL6.out; omega))
      clear a0 a1 a2 a3 a4 a5 b0 b1 b2 b3 b4 b5 z0 z1 bf HX6 HB6
      generalize ((w6.alloc (.cells #[.int .i64 b.next, .slice A6 b.chs.length c6] 26)).setCell ⟨gx, 1, none⟩ (.int .i64 b.next)).setCell ⟨gx, 2, none⟩ (.slice A6 b.chs.length c6) = w7 at *
      generalize w6.heap.size = gb at *
      obtain ⟨z0, z1⟩ := HB7.out.cells
      obtain ⟨a0, a1, a2, a3, a4, a5⟩ := HH.out.i.1
      obtain ⟨b0, b1, b2, b3, b4, b5⟩ := HH.out.b.cells
      obtain ⟨p0, p1, p2, p3, p4, p5⟩ := HH.out.o.cells
      have pf := HH.out.o.free
      have bf := HH.out.b.free
      go_upto_region 11 with fail
      have HH := Lib.hid (HH.out.put0 3)
      clear a0 a1 a2 a3 a4 a5 b0 b1 b2 b3 b4 b5 p0 p1 p2 p3 p4 p5 pf bf
      obtain ⟨a0, a1, a2, a3, a4, a5⟩ := HH.out.i.1
      obtain ⟨b0, b1, b2, b3, b4, b5⟩ := HH.out.b.cells
      obtain ⟨p0, p1, p2, p3, p4, p5⟩ := HH.out.o.cells
      have pf := HH.out.o.free
      have bf := HH.out.b.free
      go_region
      go_wp2
      refine bodyPost_ret (results_tmp_cell rfl _ _ (w.heap.size + 1) _ _ _ _ rfl HH.out.out.1.drew Try.underlying28 rfl (by kernel_rfl)) rfl ?_
      exact ⟨_, rfl, HH.out.out.2.1.later (Below.refl _ _).drew, HH.out.out.2.2.drew⟩
    · rw [if_neg (fun h => hf h.2)]
      have tf : (b.next == r.fin) = false := by simpa using hf
      clear h2 hf
      go_enter Try.func23, Try.ntmps23
      obtain ⟨a0, a1, a2, a3, a4, a5⟩ := HI1.out.1
      go_wp2_with fail
      refine (HCP.out _ HI1.out).mono ?_
      rintro e w3 ⟨v, rfl, ho, hb⟩
      have HH := Lib.hid (FrX.start HI1.out HO1.out HS2.out hb ho.x)
      obtain ⟨A3, c3, rfl, _, _⟩ := ho.frs
      clear ho hb a0 a1 a2 a3 a4 a5
      go_upto_region 2 with fail
      generalize w3.alloc (.cells (rcC r.st r.buf.next (.slice A3 r.buf.chs.length c3) r.fin r.hi r.code) 28) = w4 at *
      generalize w3.heap.size = gx at *
      obtain ⟨a0, a1, a2, a3, a4, a5⟩ := HH.out.i.1
      go_wp2_with fail
      refine (HIR.out _ HH.out.i).mono ?_
      rintro e w5 ⟨rfl, hb5⟩
      have HH := Lib.hid (HH.out.next hb5)
      clear hb5 a0 a1 a2 a3 a4 a5
      obtain ⟨a0, a1, a2, a3, a4, a5⟩ := HH.out.i.1
      go_wp2_with fail
      refine (HTK.out _ HH.out.i).mono ?_
      rintro e w6 ⟨v6, rfl, ho6, hb6⟩
      obtain ⟨A6, c6, rfl, _, _⟩ := ho6.frs
      have HB6 := Lib.hid ((BoxB.new w6 b.next (.slice A6 b.chs.length c6)))
      have HL6 := Lib.hid (show gx < w6.heap.size from Nat.lt_of_lt_of_le HH.out.b.lt hb6.size)
      have HX6 := Lib.hid ((HH.out.next hb6).alloc (.cells #[.int .i64 b.next, .slice A6 b.chs.length c6] 26))
      have HH := Lib.hid (HH.out.putB (hb6.alloc hb6.size (.cells #[.int .i64 b.next, .slice A6 b.chs.length c6] 26)) b (.slice A6 b.chs.length c6) (ho6.x.alloc _))
      clear ho6 hb6 a0 a1 a2 a3 a4 a5
      obtain ⟨a0, a1, a2, a3, a4, a5⟩ := HX6.out.i.1
      obtain ⟨b0, b1, b2, b3, b4, b5⟩ := HX6.out.b.cells
      obtain ⟨z0, z1⟩ := HB6.out.cells
      have bf := HX6.out.b.free
      go_upto_region 9 with fail
      have HB7 := Lib.hid ((HB6.out.other gx 1 (.int .i64 b.next) (by have := HL6.out; omega)).other gx 2 (.slice A6 b.chs.length c6) (by have := HL6.out; omega))
      clear a0 a1 a2 a3 a4 a5 b0 b1 b2 b3 b4 b5 z0 z1 bf HX6 HB6
      generalize ((w6.alloc (.cells #[.int .i64 b.next, .slice A6 b.chs.length c6] 26)).setCell ⟨gx, 1, none⟩ (.int .i64 b.next)).setCell ⟨gx, 2, none⟩ (.slice A6 b.chs.length c6) = w7 at *
      generalize w6.heap.size = gb at *
      obtain ⟨z0, z1⟩ := HB7.out.cells
      obtain ⟨a0, a1, a2, a3, a4, a5⟩ := HH.out.i.1
      obtain ⟨b0, b1, b2, b3, b4, b5⟩ := HH.out.b.cells
      obtain ⟨p0, p1, p2, p3, p4, p5⟩ := HH.out.o.cells
      have pf := HH.out.o.free
      have bf := HH.out.b.free
      go_upto_region 11 with fail
      go_region
      go_wp2
      refine bodyPost_ret (results_tmp_cell rfl _ _ (w.heap.size + 1) _ _ _ _ rfl HH.out.out.1.drew Try.underlying28 rfl (by kernel_rfl)) rfl ?_
      exact ⟨_, rfl, HH.out.out.2.1.later (Below.refl _ _).drew, HH.out.out.2.2.drew⟩
  have t2 : (r.st == 2) = false := by simpa using h2
  rw [if_neg (fun h => h2 h.1)]
  clear h2
  go_enter Try.func23, Try.ntmps23
  obtain ⟨a0, a1, a2, a3, a4, a5⟩ := HI1.out.1
  go_wp2_with fail
  refine (HCP.out _ HI1.out).mono ?_
  rintro e w3 ⟨v, rfl, ho, hb⟩
  have HH := Lib.hid (FrX.start HI1.out HO1.out HS2.out hb ho.x)
  obtain ⟨A3, c3, rfl, _, _⟩ := ho.frs
  clear ho hb a0 a1 a2 a3 a4 a5
  go_upto_region 2 with fail
  generalize w3.alloc (.cells (rcC r.st r.buf.next (.slice A3 r.buf.chs.length c3) r.fin r.hi r.code) 28) = w4 at *
  generalize w3.heap.size = gx at *
  obtain ⟨a0, a1, a2, a3, a4, a5⟩ := HH.out.i.1
  go_wp2_with fail
  refine (HIR.out _ HH.out.i).mono ?_
  rintro e w5 ⟨rfl, hb5⟩
  have HH := Lib.hid (HH.out.next hb5)
  clear hb5 a0 a1 a2 a3 a4 a5
  obtain ⟨a0, a1, a2, a3, a4, a5⟩ := HH.out.i.1
  go_wp2_with fail
  refine (HTK.out _ HH.out.i).mono ?_
  rintro e w6 ⟨v6, rfl, ho6, hb6⟩
  obtain ⟨A6, c6, rfl, _, _⟩ := ho6.frs
  have HB6 := Lib.hid ((BoxB.new w6 b.next (.slice A6 b.chs.length c6)))
  have HL6 := Lib.hid (show gx < w6.heap.size from Nat.lt_of_lt_of_le HH.out.b.lt hb6.size)
  have HX6 := Lib.hid ((HH.out.next hb6).alloc (.cells #[.int .i64 b.next, .slice A6 b.chs.length c6] 26))
  have HH := Lib.hid (HH.out.putB (hb6.alloc hb6.size (.cells #[.int .i64 b.next, .slice A6 b.chs.length c6] 26)) b (.slice A6 b.chs.length c6) (ho6.x.alloc _))
  clear ho6 hb6 a0 a1 a2 a3 a4 a5
  obtain ⟨a0, a1, a2, a3, a4, a5⟩ := HX6.out.i.1
  obtain ⟨b0, b1, b2, b3, b4, b5⟩ := HX6.out.b.cells
  obtain ⟨z0, z1⟩ := HB6.out.cells
  have bf := HX6.out.b.free
  go_upto_region 9 with fail
  have HB7 := Lib.hid ((HB6.out.other gx 1 (.int .i64 b.next) (by have := HL6.out; omega)).other gx 2 (.slice A6 b.chs.length c6) (by have := HL6.out; omega))
  clear a0 a1 a2 a3 a4 a5 b0 b1 b2 b3 b4 b5 z0 z1 bf HX6 HB6
  generalize ((w6.alloc (.cells #[.int .i64 b.next, .slice A6 b.chs.length c6] 26)).setCell ⟨gx, 1, none⟩ (.int .i64 b.next)).setCell ⟨gx, 2, none⟩ (.slice A6 b.chs.length c6) = w7 at *
  generalize w6.heap.size = gb at *
  obtain ⟨z0, z1⟩ := HB7.out.cells
  obtain ⟨a0, a1, a2, a3, a4, a5⟩ := HH.out.i.1
  obtain ⟨b0, b1, b2, b3, b4, b5⟩ := HH.out.b.cells
  obtain ⟨p0, p1, p2, p3, p4, p5⟩ := HH.out.o.cells
  have pf := HH.out.o.free
  have bf := HH.out.b.free
  go_upto_region 11 with fail
  go_region
  go_wp2
  refine bodyPost_ret (results_tmp_cell rfl _ _ (w.heap.size + 1) _ _ _ _ rfl HH.out.out.1.drew Try.underlying28 rfl (by kernel_rfl)) rfl ?_
  exact ⟨_, rfl, HH.out.out.2.1.later (Below.refl _ _).drew, HH.out.out.2.2.drew⟩
end Go.Proofs.Ytmmoedhfeaokgaa
