/-
  What impl.cloneReceiver and ReceiveReset return.
-/
import Derived.Test.YtmmoedhfeaokgaaIRcX
import Derived.Test.YtmmoedhfeaokgaaIRc2
import Derived.Test.YtmmoedhfeaokgaaIBuf2
namespace Go.Proofs.Ytmmoedhfeaokgaa
open Go.RowKit Go.Deep Go.Proofs.Ytmmoedhfeaokgaa.Num

theorem bad_true {r : Rc} {n : Int} : badRc r n true ↔ (n < r.hi ∨ (r.fin ≠ -1 ∧ n ≠ r.fin)) := by
  unfold badRc
  constructor
  · rintro (⟨h1, h2 | ⟨_, h2⟩⟩ | ⟨_, h⟩)
    · exact .inr ⟨h1, by omega⟩
    · exact .inr ⟨h1, h2⟩
    · exact .inl h
  · rintro (h | ⟨h1, h2⟩)
    · exact .inr ⟨rfl, h⟩
    · exact .inl ⟨h1, .inr ⟨rfl, h2⟩⟩
theorem okRc_st {r : Rc} (h : okRc r) : 0 ≤ r.st ∧ r.st ≤ 5 := by
  rcases h.2 with ⟨h0, _⟩ | ⟨h0, _⟩ | ⟨h0, _⟩ | ⟨h0, _⟩ | ⟨h0 | h0, _⟩ <;> omega
set_option maxRecDepth 100000 in
set_option maxHeartbeats 4000000 in
/-- impl.cloneReceiver -/
theorem iclonerc (r : Rc) (A : Option Addr) (cap B : Nat) (w : World) (hB : B ≤ w.heap.size) (hr : Chs w B A r.buf.chs) (hn : r.buf.chs.length ≤ 1000000000) :
    Calls Try.prog 43 #[rcV r (.slice A r.buf.chs.length cap)] w fun e w' => ∃ v, e = .returned (rcV r v) ∧ OwnX w' w.heap.size v r.buf.chs ∧ Below w.heap.size w w' := by
  have HH := Lib.hid (IrX.start w r (.slice A r.buf.chs.length cap))
  have HCB : Hid (∀ W, Below w.heap.size w W → Calls Try.prog 73 #[bfV r.buf.next (.slice A r.buf.chs.length cap)] W fun e w' => ∃ v, e = .returned (bfV r.buf.next v) ∧ OwnC w' W.heap.size v r.buf.chs ∧ Below W.heap.size W w') := Lib.hid fun W h => icloneb r.buf.next r.buf.chs A cap B W (Nat.le_trans hB h.size) (hr.below hB h) hn
  clear hr hn
  go_enter Try.func43, Try.ntmps43
  obtain ⟨a0, a1, a2, a3, a4, a5⟩ := HH.out.b.cells
  go_wp2_with fail
  refine (HCB.out _ HH.out.bl).mono ?_
  rintro e w3 ⟨v3, rfl, ho3, hb3⟩
  have HO := Lib.hid (ho3.x.weaken (base' := w.heap.size + 2) HH.out.o.lt)
  have HH := Lib.hid (HH.out.next hb3)
  obtain ⟨A3, c3, rfl, _, _⟩ := HO.out.frs
  clear ho3 hb3 a0 a1 a2 a3 a4 a5
  obtain ⟨a0, a1, a2, a3, a4, a5⟩ := HH.out.b.cells
  have bf := HH.out.b.free
  go_upto_region 2 with fail
  have HO := Lib.hid ((HO.out.apart w.heap.size 1 (.int .i64 r.buf.next) (by omega)).apart w.heap.size 2 (.slice A3 r.buf.chs.length c3) (by omega))
  have HH := Lib.hid (HH.out.putB r.buf.next r.buf.chs (.slice A3 r.buf.chs.length c3))
  clear bf a0 a1 a2 a3 a4 a5
  generalize (w3.setCell ⟨w.heap.size, 1, none⟩ (.int .i64 r.buf.next)).setCell ⟨w.heap.size, 2, none⟩ (.slice A3 r.buf.chs.length c3) = w4 at *
  obtain ⟨a0, a1, a2, a3, a4, a5⟩ := HH.out.b.cells
  simp only at a0 a1 a2 a3 a4 a5
  obtain ⟨p0, p1, p2, p3, p4, p5⟩ := HH.out.o.cells
  have pf := HH.out.o.free
  go_wp2
  refine bodyPost_ret (results_cell_row rfl _ _ (w.heap.size + 1) _ _ _ _ rfl (HH.out.out r.st r.buf.next _ r.fin r.hi r.code r.buf.chs HO.out).1 Try.underlying28 rfl (by kernel_rfl)) rfl ?_
  exact ⟨_, rfl, (HH.out.out r.st r.buf.next _ r.fin r.hi r.code r.buf.chs HO.out).2.1, (HH.out.out r.st r.buf.next _ r.fin r.hi r.code r.buf.chs HO.out).2.2⟩
set_option maxRecDepth 100000 in
set_option maxHeartbeats 4000000 in
/-- impl.ReceiveReset -/
theorem irstrc (r : Rc) (c n : Int) (A : Option Addr) (cap B : Nat) (w : World) (hB : B ≤ w.heap.size) (hr : Chs w B A r.buf.chs) (hn : r.buf.chs.length ≤ 10000000) (hi : inB r.buf.chs) (hx : inRc r) :
    Calls Try.prog 16 #[rcV r (.slice A r.buf.chs.length cap), .int .i64 c, .int .i64 n] w fun e w' => ∃ v, e = .returned (.tuple #[rcV (rstRc r c n).1 v, .int .i64 (rstRc r c n).2]) ∧ OwnX w' w.heap.size v (rstRc r c n).1.buf.chs ∧ Below w.heap.size w w' := by
  have HH := Lib.hid (IrX.start w r (.slice A r.buf.chs.length cap))
  have HIR : Hid (∀ W, Below w.heap.size w W → Calls Try.prog 20 #[rcV r (.slice A r.buf.chs.length cap)] W fun e w' => e = .returned (.bool (decide (okRc r))) ∧ Below W.heap.size W w') := Lib.hid fun W h => iisrc r A cap B W (Nat.le_trans hB h.size) (hr.below hB h) (by omega) hi hx
  have HCL : Hid (∀ W, Below w.heap.size w W → Calls Try.prog 43 #[rcV r (.slice A r.buf.chs.length cap)] W fun e w' => ∃ v, e = .returned (rcV r v) ∧ OwnX w' W.heap.size v r.buf.chs ∧ Below W.heap.size W w') := Lib.hid fun W h => iclonerc r A cap B W (Nat.le_trans hB h.size) (hr.below hB h) (by omega)
  have HCO : Hid (∀ W, Below w.heap.size w W → Calls Try.prog 44 #[rcV r (.slice A r.buf.chs.length cap), .int .i64 n] W fun e w' => e = .returned (.bool (decide (badRc r n true))) ∧ Below W.heap.size W w') := Lib.hid fun W h => by
    rw [show decide (badRc r n true) = decide (n < r.hi ∨ (r.fin ≠ -1 ∧ n ≠ r.fin)) from decide_eq_decide.2 bad_true]
    exact icon r n A cap B W (Nat.le_trans hB h.size) (hr.below hB h)
  have HUN : Hid (∀ W, Below w.heap.size w W → Calls Try.prog 45 #[rcV r (.slice A r.buf.chs.length cap)] W fun e w' => e = .returned (.bool (decide (r.st = 0 ∨ r.st = 1))) ∧ Below W.heap.size W w') := Lib.hid fun W h => iunf r A cap B W (Nat.le_trans hB h.size) (hr.below hB h)
  by_cases hok : okRc r
  rotate_left
  · have hv : rstRc r c n = (r, 7) := if_pos (fun h => hok h.1)
    rw [hv]
    rw [decide_eq_false hok] at HIR
    clear hv hok
    clear hr hi hx hn
    go_enter Try.func16, Try.ntmps16
    obtain ⟨a0, a1, a2, a3, a4, a5⟩ := HH.out.b.cells
    go_wp2_with fail
    refine (HIR.out _ HH.out.bl).mono ?_
    rintro e w1 ⟨rfl, hb1⟩
    have HH := Lib.hid (HH.out.next hb1)
    clear hb1 a0 a1 a2 a3 a4 a5
    obtain ⟨a0, a1, a2, a3, a4, a5⟩ := HH.out.b.cells
    go_wp2_with fail
    refine (HCL.out _ HH.out.bl).mono ?_
    rintro e w3 ⟨v3, rfl, ho3, hb3⟩
    have HO := Lib.hid (ho3.weaken (base' := w.heap.size + 2) HH.out.o.lt)
    have HH := Lib.hid (HH.out.next hb3)
    obtain ⟨A3, c3, rfl, _, _⟩ := HO.out.frs
    clear ho3 hb3 a0 a1 a2 a3 a4 a5
    obtain ⟨p0, p1, p2, p3, p4, p5⟩ := HH.out.o.cells
    have pf := HH.out.o.free
    go_wp2
    refine bodyPost_ret (results_cell_tmp rfl _ _ (w.heap.size + 1) _ _ _ _ rfl (HH.out.out r.st r.buf.next _ r.fin r.hi r.code r.buf.chs HO.out).1 Try.underlying28 rfl (by kernel_rfl)) rfl ?_
    exact ⟨_, rfl, (HH.out.out r.st r.buf.next _ r.fin r.hi r.code r.buf.chs HO.out).2.1, (HH.out.out r.st r.buf.next _ r.fin r.hi r.code r.buf.chs HO.out).2.2⟩
  rw [decide_eq_true hok] at HIR
  by_cases hc0 : c < 0
  · have hv : rstRc r c n = (r, 7) := if_pos (fun h => by have := h.2.1.1; omega)
    rw [hv]
    have d0 : decide (c < 0) = true := decide_eq_true hc0
    clear hv hok hc0
    clear hr hi hx hn
    go_enter Try.func16, Try.ntmps16
    obtain ⟨a0, a1, a2, a3, a4, a5⟩ := HH.out.b.cells
    go_wp2_with fail
    refine (HIR.out _ HH.out.bl).mono ?_
    rintro e w1 ⟨rfl, hb1⟩
    have HH := Lib.hid (HH.out.next hb1)
    clear hb1 a0 a1 a2 a3 a4 a5
    obtain ⟨a0, a1, a2, a3, a4, a5⟩ := HH.out.b.cells
    go_wp2_with fail
    refine (HCL.out _ HH.out.bl).mono ?_
    rintro e w3 ⟨v3, rfl, ho3, hb3⟩
    have HO := Lib.hid (ho3.weaken (base' := w.heap.size + 2) HH.out.o.lt)
    have HH := Lib.hid (HH.out.next hb3)
    obtain ⟨A3, c3, rfl, _, _⟩ := HO.out.frs
    clear ho3 hb3 a0 a1 a2 a3 a4 a5
    obtain ⟨p0, p1, p2, p3, p4, p5⟩ := HH.out.o.cells
    have pf := HH.out.o.free
    go_wp2
    refine bodyPost_ret (results_cell_tmp rfl _ _ (w.heap.size + 1) _ _ _ _ rfl (HH.out.out r.st r.buf.next _ r.fin r.hi r.code r.buf.chs HO.out).1 Try.underlying28 rfl (by kernel_rfl)) rfl ?_
    exact ⟨_, rfl, (HH.out.out r.st r.buf.next _ r.fin r.hi r.code r.buf.chs HO.out).2.1, (HH.out.out r.st r.buf.next _ r.fin r.hi r.code r.buf.chs HO.out).2.2⟩
  have d0 : decide (c < 0) = false := decide_eq_false hc0
  by_cases hc1 : 4611686018427387903 < c
  · have hv : rstRc r c n = (r, 7) := if_pos (fun h => by have := h.2.1.2; omega)
    rw [hv]
    have d1 : decide (4611686018427387903 < c) = true := decide_eq_true hc1
    clear hv hok hc0 hc1
    clear hr hi hx hn
    go_enter Try.func16, Try.ntmps16
    obtain ⟨a0, a1, a2, a3, a4, a5⟩ := HH.out.b.cells
    go_wp2_with fail
    refine (HIR.out _ HH.out.bl).mono ?_
    rintro e w1 ⟨rfl, hb1⟩
    have HH := Lib.hid (HH.out.next hb1)
    clear hb1 a0 a1 a2 a3 a4 a5
    obtain ⟨a0, a1, a2, a3, a4, a5⟩ := HH.out.b.cells
    go_wp2_with fail
    refine (HCL.out _ HH.out.bl).mono ?_
    rintro e w3 ⟨v3, rfl, ho3, hb3⟩
    have HO := Lib.hid (ho3.weaken (base' := w.heap.size + 2) HH.out.o.lt)
    have HH := Lib.hid (HH.out.next hb3)
    obtain ⟨A3, c3, rfl, _, _⟩ := HO.out.frs
    clear ho3 hb3 a0 a1 a2 a3 a4 a5
    obtain ⟨p0, p1, p2, p3, p4, p5⟩ := HH.out.o.cells
    have pf := HH.out.o.free
    go_wp2
    refine bodyPost_ret (results_cell_tmp rfl _ _ (w.heap.size + 1) _ _ _ _ rfl (HH.out.out r.st r.buf.next _ r.fin r.hi r.code r.buf.chs HO.out).1 Try.underlying28 rfl (by kernel_rfl)) rfl ?_
    exact ⟨_, rfl, (HH.out.out r.st r.buf.next _ r.fin r.hi r.code r.buf.chs HO.out).2.1, (HH.out.out r.st r.buf.next _ r.fin r.hi r.code r.buf.chs HO.out).2.2⟩
  have d1 : decide (4611686018427387903 < c) = false := decide_eq_false hc1
  by_cases hf0 : n < 0
  · have hv : rstRc r c n = (r, 7) := if_pos (fun h => by have := h.2.2.1; omega)
    rw [hv]
    have d2 : decide (n < 0) = true := decide_eq_true hf0
    clear hv hok hc0 hc1 hf0
    clear hr hi hx hn
    go_enter Try.func16, Try.ntmps16
    obtain ⟨a0, a1, a2, a3, a4, a5⟩ := HH.out.b.cells
    go_wp2_with fail
    refine (HIR.out _ HH.out.bl).mono ?_
    rintro e w1 ⟨rfl, hb1⟩
    have HH := Lib.hid (HH.out.next hb1)
    clear hb1 a0 a1 a2 a3 a4 a5
    obtain ⟨a0, a1, a2, a3, a4, a5⟩ := HH.out.b.cells
    go_wp2_with fail
    refine (HCL.out _ HH.out.bl).mono ?_
    rintro e w3 ⟨v3, rfl, ho3, hb3⟩
    have HO := Lib.hid (ho3.weaken (base' := w.heap.size + 2) HH.out.o.lt)
    have HH := Lib.hid (HH.out.next hb3)
    obtain ⟨A3, c3, rfl, _, _⟩ := HO.out.frs
    clear ho3 hb3 a0 a1 a2 a3 a4 a5
    obtain ⟨p0, p1, p2, p3, p4, p5⟩ := HH.out.o.cells
    have pf := HH.out.o.free
    go_wp2
    refine bodyPost_ret (results_cell_tmp rfl _ _ (w.heap.size + 1) _ _ _ _ rfl (HH.out.out r.st r.buf.next _ r.fin r.hi r.code r.buf.chs HO.out).1 Try.underlying28 rfl (by kernel_rfl)) rfl ?_
    exact ⟨_, rfl, (HH.out.out r.st r.buf.next _ r.fin r.hi r.code r.buf.chs HO.out).2.1, (HH.out.out r.st r.buf.next _ r.fin r.hi r.code r.buf.chs HO.out).2.2⟩
  have d2 : decide (n < 0) = false := decide_eq_false hf0
  by_cases hf1 : 4611686018427387903 < n
  · have hv : rstRc r c n = (r, 7) := if_pos (fun h => by have := h.2.2.2; omega)
    rw [hv]
    have d3 : decide (4611686018427387903 < n) = true := decide_eq_true hf1
    clear hv hok hc0 hc1 hf0 hf1
    clear hr hi hx hn
    go_enter Try.func16, Try.ntmps16
    obtain ⟨a0, a1, a2, a3, a4, a5⟩ := HH.out.b.cells
    go_wp2_with fail
    refine (HIR.out _ HH.out.bl).mono ?_
    rintro e w1 ⟨rfl, hb1⟩
    have HH := Lib.hid (HH.out.next hb1)
    clear hb1 a0 a1 a2 a3 a4 a5
    obtain ⟨a0, a1, a2, a3, a4, a5⟩ := HH.out.b.cells
    go_wp2_with fail
    refine (HCL.out _ HH.out.bl).mono ?_
    rintro e w3 ⟨v3, rfl, ho3, hb3⟩
    have HO := Lib.hid (ho3.weaken (base' := w.heap.size + 2) HH.out.o.lt)
    have HH := Lib.hid (HH.out.next hb3)
    obtain ⟨A3, c3, rfl, _, _⟩ := HO.out.frs
    clear ho3 hb3 a0 a1 a2 a3 a4 a5
    obtain ⟨p0, p1, p2, p3, p4, p5⟩ := HH.out.o.cells
    have pf := HH.out.o.free
    go_wp2
    refine bodyPost_ret (results_cell_tmp rfl _ _ (w.heap.size + 1) _ _ _ _ rfl (HH.out.out r.st r.buf.next _ r.fin r.hi r.code r.buf.chs HO.out).1 Try.underlying28 rfl (by kernel_rfl)) rfl ?_
    exact ⟨_, rfl, (HH.out.out r.st r.buf.next _ r.fin r.hi r.code r.buf.chs HO.out).2.1, (HH.out.out r.st r.buf.next _ r.fin r.hi r.code r.buf.chs HO.out).2.2⟩
  have d3 : decide (4611686018427387903 < n) = false := decide_eq_false hf1
  have hin : okRc r ∧ (0 ≤ c ∧ c ≤ 4611686018427387903) ∧ 0 ≤ n ∧ n ≤ 4611686018427387903 := ⟨hok, by omega, by omega⟩
  by_cases hb : badRc r n true
  · have hv : rstRc r c n = (r, 6) := (if_neg (fun h => h hin)).trans (if_pos hb)
    rw [hv]
    rw [decide_eq_true hb] at HCO
    clear hv hok hin hb hc0 hc1 hf0 hf1
    clear hr hi hx hn
    go_enter Try.func16, Try.ntmps16
    obtain ⟨a0, a1, a2, a3, a4, a5⟩ := HH.out.b.cells
    go_wp2_with fail
    refine (HIR.out _ HH.out.bl).mono ?_
    rintro e w1 ⟨rfl, hb1⟩
    have HH := Lib.hid (HH.out.next hb1)
    clear hb1 a0 a1 a2 a3 a4 a5
    obtain ⟨a0, a1, a2, a3, a4, a5⟩ := HH.out.b.cells
    go_wp2_with fail
    refine (HCO.out _ HH.out.bl).mono ?_
    rintro e w1 ⟨rfl, hb1⟩
    have HH := Lib.hid (HH.out.next hb1)
    clear hb1 a0 a1 a2 a3 a4 a5
    obtain ⟨a0, a1, a2, a3, a4, a5⟩ := HH.out.b.cells
    go_wp2_with fail
    refine (HCL.out _ HH.out.bl).mono ?_
    rintro e w3 ⟨v3, rfl, ho3, hb3⟩
    have HO := Lib.hid (ho3.weaken (base' := w.heap.size + 2) HH.out.o.lt)
    have HH := Lib.hid (HH.out.next hb3)
    obtain ⟨A3, c3, rfl, _, _⟩ := HO.out.frs
    clear ho3 hb3 a0 a1 a2 a3 a4 a5
    obtain ⟨p0, p1, p2, p3, p4, p5⟩ := HH.out.o.cells
    have pf := HH.out.o.free
    go_wp2
    refine bodyPost_ret (results_cell_tmp rfl _ _ (w.heap.size + 1) _ _ _ _ rfl (HH.out.out r.st r.buf.next _ r.fin r.hi r.code r.buf.chs HO.out).1 Try.underlying28 rfl (by kernel_rfl)) rfl ?_
    exact ⟨_, rfl, (HH.out.out r.st r.buf.next _ r.fin r.hi r.code r.buf.chs HO.out).2.1, (HH.out.out r.st r.buf.next _ r.fin r.hi r.code r.buf.chs HO.out).2.2⟩
  rw [decide_eq_false hb] at HCO
  have hst := okRc_st hok
  by_cases hs : 1 < r.st
  · have hv : rstRc r c n = (r, 0) := (if_neg (fun h => h hin)).trans ((if_neg hb).trans (if_pos hs))
    rw [hv]
    rw [decide_eq_false (show ¬ (r.st = 0 ∨ r.st = 1) by omega)] at HUN
    clear hv hok hin hb hst hs hc0 hc1 hf0 hf1
    clear hr hi hx hn
    go_enter Try.func16, Try.ntmps16
    obtain ⟨a0, a1, a2, a3, a4, a5⟩ := HH.out.b.cells
    go_wp2_with fail
    refine (HIR.out _ HH.out.bl).mono ?_
    rintro e w1 ⟨rfl, hb1⟩
    have HH := Lib.hid (HH.out.next hb1)
    clear hb1 a0 a1 a2 a3 a4 a5
    obtain ⟨a0, a1, a2, a3, a4, a5⟩ := HH.out.b.cells
    go_wp2_with fail
    refine (HCO.out _ HH.out.bl).mono ?_
    rintro e w1 ⟨rfl, hb1⟩
    have HH := Lib.hid (HH.out.next hb1)
    clear hb1 a0 a1 a2 a3 a4 a5
    obtain ⟨a0, a1, a2, a3, a4, a5⟩ := HH.out.b.cells
    go_wp2_with fail
    refine (HUN.out _ HH.out.bl).mono ?_
    rintro e w1 ⟨rfl, hb1⟩
    have HH := Lib.hid (HH.out.next hb1)
    clear hb1 a0 a1 a2 a3 a4 a5
    obtain ⟨a0, a1, a2, a3, a4, a5⟩ := HH.out.b.cells
    go_wp2_with fail
    refine (HCL.out _ HH.out.bl).mono ?_
    rintro e w3 ⟨v3, rfl, ho3, hb3⟩
    have HO := Lib.hid (ho3.weaken (base' := w.heap.size + 2) HH.out.o.lt)
    have HH := Lib.hid (HH.out.next hb3)
    obtain ⟨A3, c3, rfl, _, _⟩ := HO.out.frs
    clear ho3 hb3 a0 a1 a2 a3 a4 a5
    obtain ⟨p0, p1, p2, p3, p4, p5⟩ := HH.out.o.cells
    have pf := HH.out.o.free
    go_wp2
    refine bodyPost_ret (results_cell_tmp rfl _ _ (w.heap.size + 1) _ _ _ _ rfl (HH.out.out r.st r.buf.next _ r.fin r.hi r.code r.buf.chs HO.out).1 Try.underlying28 rfl (by kernel_rfl)) rfl ?_
    exact ⟨_, rfl, (HH.out.out r.st r.buf.next _ r.fin r.hi r.code r.buf.chs HO.out).2.1, (HH.out.out r.st r.buf.next _ r.fin r.hi r.code r.buf.chs HO.out).2.2⟩
  have hv : rstRc r c n = (⟨4, ⟨r.buf.next, []⟩, n, n, c⟩, 0) := (if_neg (fun h => h hin)).trans ((if_neg hb).trans (if_neg hs))
  rw [hv]
  rw [decide_eq_true (show r.st = 0 ∨ r.st = 1 by omega)] at HUN
  clear hv hok hin hb hst hs hc0 hc1 hf0 hf1
  clear hr hi hx hn
  go_enter Try.func16, Try.ntmps16
  obtain ⟨a0, a1, a2, a3, a4, a5⟩ := HH.out.b.cells
  go_wp2_with fail
  refine (HIR.out _ HH.out.bl).mono ?_
  rintro e w1 ⟨rfl, hb1⟩
  have HH := Lib.hid (HH.out.next hb1)
  clear hb1 a0 a1 a2 a3 a4 a5
  obtain ⟨a0, a1, a2, a3, a4, a5⟩ := HH.out.b.cells
  go_wp2_with fail
  refine (HCO.out _ HH.out.bl).mono ?_
  rintro e w1 ⟨rfl, hb1⟩
  have HH := Lib.hid (HH.out.next hb1)
  clear hb1 a0 a1 a2 a3 a4 a5
  obtain ⟨a0, a1, a2, a3, a4, a5⟩ := HH.out.b.cells
  go_wp2_with fail
  refine (HUN.out _ HH.out.bl).mono ?_
  rintro e w1 ⟨rfl, hb1⟩
  have HH := Lib.hid (HH.out.next hb1)
  clear hb1 a0 a1 a2 a3 a4 a5
  obtain ⟨a0, a1, a2, a3, a4, a5⟩ := HH.out.b.cells
  obtain ⟨p0, p1, p2, p3, p4, p5⟩ := HH.out.o.cells
  have pf := HH.out.o.free
  go_wp2
  refine bodyPost_ret (results_cell_tmp rfl _ _ (w.heap.size + 1) _ _ _ _ rfl (HH.out.out 4 r.buf.next _ n n c [] OwnC.empty.x).1 Try.underlying28 rfl (by kernel_rfl)) rfl ?_
  exact ⟨_, rfl, (HH.out.out 4 r.buf.next _ n n c [] OwnC.empty.x).2.1, (HH.out.out 4 r.buf.next _ n n c [] OwnC.empty.x).2.2⟩
end Go.Proofs.Ytmmoedhfeaokgaa
