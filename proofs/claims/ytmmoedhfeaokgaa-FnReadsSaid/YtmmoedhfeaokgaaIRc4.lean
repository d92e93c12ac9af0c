/-
  What impl.ReadReceiver returns.
-/
import Derived.Test.YtmmoedhfeaokgaaIRc3
import Derived.Test.YtmmoedhfeaokgaaITake
namespace Go.Proofs.Ytmmoedhfeaokgaa
open Go.RowKit Go.Deep Go.Proofs.Ytmmoedhfeaokgaa.Num

theorem read_beh {r : Rc} (m : Int) (h : okRc r) : readRc r m = (headT r.buf (cntT r.buf m), ⟨behRc ⟨r.st, dropT r.buf (cntT r.buf m), r.fin, r.hi, r.code⟩, dropT r.buf (cntT r.buf m), r.fin, r.hi, r.code⟩) := by
  unfold readRc
  rw [if_neg (fun h2 => h2 h)]
  by_cases h4 : r.st = 4
  · have hc : r.buf.chs = [] := by
      rcases h.2 with ⟨h0, _⟩ | ⟨h0, _⟩ | ⟨h0, _⟩ | ⟨h0, _⟩ | ⟨_, _, _, h0⟩
      · omega
      · omega
      · omega
      · omega
      · exact h0
    have hr : rdyB r.buf = 0 := by
      by_cases h5 : rdyB r.buf = 0
      · exact h5
      · obtain ⟨_, c, l, hl, _, _⟩ := rdyB_pos h5
        rw [hc] at hl
        cases hl
    have h0 : cntT r.buf m = 0 := by unfold cntT; omega
    rw [if_pos h4, h0, show dropT r.buf 0 = r.buf from if_pos rfl, show headT r.buf 0 = ⟨#[]⟩ from if_pos rfl]
    have hb : behRc ⟨r.st, r.buf, r.fin, r.hi, r.code⟩ = 5 := (if_neg (fun h3 => by have h6 : r.st = 2 := h3.1; omega)).trans (if_pos h4)
    rw [hb]
  · rw [if_neg h4]
    have hb : behRc ⟨r.st, dropT r.buf (cntT r.buf m), r.fin, r.hi, r.code⟩ = if r.st = 2 ∧ (dropT r.buf (cntT r.buf m)).next = r.fin then 3 else r.st := by
      unfold behRc
      by_cases h2 : r.st = 2 ∧ (dropT r.buf (cntT r.buf m)).next = r.fin
      · exact (if_pos h2).trans (if_pos h2).symm
      · exact (if_neg h2).trans ((if_neg h4).trans (if_neg h2).symm)
    rw [hb]
set_option maxRecDepth 100000 in
set_option maxHeartbeats 4000000 in
/-- impl.ReadReceiver -/
theorem ireadrc (r : Rc) (m : Int) (A : Option Addr) (cap B : Nat) (w : World) (hB : B ≤ w.heap.size) (hr : Chs w B A r.buf.chs) (hn : r.buf.chs.length ≤ 10000000) (hi : inB r.buf.chs) (hx : inRc r) (hm : -9223372036854775808 ≤ m ∧ m ≤ 9223372036854775807) :
    Calls Try.prog 22 #[rcV r (.slice A r.buf.chs.length cap), .int .i64 m] w fun e w' => ∃ v, e = .returned (.tuple #[.string (readRc r m).1, rcV (readRc r m).2 v]) ∧ OwnX w' w.heap.size v (readRc r m).2.buf.chs ∧ Below w.heap.size w w' := by
  have HH := Lib.hid (IrX.start w r (.slice A r.buf.chs.length cap))
  have HIR : Hid (∀ W, Below w.heap.size w W → Calls Try.prog 20 #[rcV r (.slice A r.buf.chs.length cap)] W fun e w' => e = .returned (.bool (decide (okRc r))) ∧ Below W.heap.size W w') := Lib.hid fun W h => iisrc r A cap B W (Nat.le_trans hB h.size) (hr.below hB h) (by omega) hi hx
  have HCL : Hid (∀ W, Below w.heap.size w W → Calls Try.prog 43 #[rcV r (.slice A r.buf.chs.length cap)] W fun e w' => ∃ v, e = .returned (rcV r v) ∧ OwnX w' W.heap.size v r.buf.chs ∧ Below W.heap.size W w') := Lib.hid fun W h => iclonerc r A cap B W (Nat.le_trans hB h.size) (hr.below hB h) (by omega)
  have HTK : Hid (∀ W, Below w.heap.size w W → Calls Try.prog 55 #[bfV r.buf.next (.slice A r.buf.chs.length cap), .int .i64 m] W fun e w' => ∃ v, e = .returned (.tuple #[.string (headT r.buf (cntT r.buf m)), bfV (dropT r.buf (cntT r.buf m)).next v]) ∧ OwnX w' W.heap.size v (dropT r.buf (cntT r.buf m)).chs ∧ Below W.heap.size W w') := Lib.hid fun W h => itake r.buf m A cap B W (Nat.le_trans hB h.size) (hr.below hB h) hn hi hx.2.1 hm
  by_cases hok : okRc r
  rotate_left
  · have hv : readRc r m = (⟨#[]⟩, r) := if_pos hok
    rw [hv]
    rw [decide_eq_false hok] at HIR
    clear hv hok hm
    clear hr hi hx hn
    go_enter Try.func22, Try.ntmps22
    obtain ⟨a0, a1, a2, a3, a4, a5⟩ := HH.out.b.cells
    go_wp2_with fail
    refine (HIR.out _ HH.out.bl).mono ?_
    rintro e w1 ⟨rfl, hb1⟩
    have HH := Lib.hid (HH.out.next hb1)
    clear hb1 a0 a1 a2 a3 a4 a5
    obtain ⟨a0, a1, a2, a3, a4, a5⟩ := HH.out.b.cells
    go_wp2_with fail
    refine (HCL.out _ HH.out.bl).mono ?_
    rintro e w3 ⟨v3, rfl, ho3, hb3⟩
    have HO := Lib.hid (ho3.weaken (base' := w.heap.size + 2) HH.out.o.lt)
    have HH := Lib.hid (HH.out.next hb3)
    obtain ⟨A3, c3, rfl, _, _⟩ := HO.out.frs
    clear ho3 hb3 a0 a1 a2 a3 a4 a5
    obtain ⟨p0, p1, p2, p3, p4, p5⟩ := HH.out.o.cells
    have pf := HH.out.o.free
    go_wp2
    refine bodyPost_ret (results_tmp_cell rfl _ _ (w.heap.size + 1) _ _ _ _ rfl (HH.out.out r.st r.buf.next _ r.fin r.hi r.code r.buf.chs HO.out).1 Try.underlying28 rfl (by kernel_rfl)) rfl ?_
    exact ⟨_, rfl, (HH.out.out r.st r.buf.next _ r.fin r.hi r.code r.buf.chs HO.out).2.1, (HH.out.out r.st r.buf.next _ r.fin r.hi r.code r.buf.chs HO.out).2.2⟩
  rw [read_beh m hok]
  rw [decide_eq_true hok] at HIR
  clear hok hm
  clear hr hi hx hn
  generalize headT r.buf (cntT r.buf m) = s at *
  generalize dropT r.buf (cntT r.buf m) = b at *
  obtain ⟨nx, L⟩ := b
  dsimp only at *
  obtain ⟨q, hq⟩ : ∃ q, behRc ⟨r.st, ⟨nx, L⟩, r.fin, r.hi, r.code⟩ = q := ⟨_, rfl⟩
  have HBE : Hid (∀ A3 c3 W, Chs W W.heap.size A3 L → Calls Try.prog 56 #[rcV ⟨r.st, ⟨nx, L⟩, r.fin, r.hi, r.code⟩ (.slice A3 L.length c3)] W fun e w' => e = .returned (.int .i64 q) ∧ Below W.heap.size W w') := Lib.hid fun A3 c3 W h => by
    rw [← hq]
    exact ibeh ⟨r.st, ⟨nx, L⟩, r.fin, r.hi, r.code⟩ A3 c3 W.heap.size W (Nat.le_refl _) h
  rw [hq]
  clear hq
  go_enter Try.func22, Try.ntmps22
  obtain ⟨a0, a1, a2, a3, a4, a5⟩ := HH.out.b.cells
  go_wp2_with fail
  refine (HIR.out _ HH.out.bl).mono ?_
  rintro e w1 ⟨rfl, hb1⟩
  have HH := Lib.hid (HH.out.next hb1)
  clear hb1 a0 a1 a2 a3 a4 a5
  obtain ⟨a0, a1, a2, a3, a4, a5⟩ := HH.out.b.cells
  go_wp2_with fail
  refine (HTK.out _ HH.out.bl).mono ?_
  rintro e w3 ⟨v3, rfl, ho3, hb3⟩
  have HO := Lib.hid ((ho3.weaken (base' := w.heap.size + 2) HH.out.o.lt).alloc (.cells #[.int .i64 nx, v3] 26))
  obtain ⟨A3, c3, rfl, _, _⟩ := HO.out.frs
  have HH := Lib.hid ((HH.out.next hb3).alloc (.cells #[.int .i64 nx, .slice A3 L.length c3] 26))
  have HK := Lib.hid (BoxB.new w3 nx (.slice A3 L.length c3))
  clear ho3 hb3 a0 a1 a2 a3 a4 a5
  go_upto_region 4 with fail
  generalize w3.alloc (.cells #[.int .i64 nx, .slice A3 L.length c3] 26) = w4 at *
  generalize w3.heap.size = gk at *
  obtain ⟨a0, a1, a2, a3, a4, a5⟩ := HH.out.b.cells
  obtain ⟨k0, k1⟩ := HK.out.cells
  have bf := HH.out.b.free
  go_upto_region 5 with fail
  have HO := Lib.hid ((HO.out.apart w.heap.size 1 (.int .i64 nx) (by omega)).apart w.heap.size 2 (.slice A3 L.length c3) (by omega))
  have HH := Lib.hid (HH.out.putB nx L (.slice A3 L.length c3))
  clear bf k0 k1 a0 a1 a2 a3 a4 a5
  generalize (w4.setCell ⟨w.heap.size, 1, none⟩ (.int .i64 nx)).setCell ⟨w.heap.size, 2, none⟩ (.slice A3 L.length c3) = w5 at *
  obtain ⟨a0, a1, a2, a3, a4, a5⟩ := HH.out.b.cells
  simp only at a0 a1 a2 a3 a4 a5
  go_wp2_with fail
  refine (HBE.out A3 c3 w5 HO.out.chs).mono ?_
  rintro e w6 ⟨rfl, hb6⟩
  have HH := Lib.hid (HH.out.next hb6)
  have HO := Lib.hid (HO.out.later hb6)
  clear hb6 a0 a1 a2 a3 a4 a5
  obtain ⟨a0, a1, a2, a3, a4, a5⟩ := HH.out.b.cells
  have bf := HH.out.b.free
  go_upto_region 6 with fail
  have HO := Lib.hid (HO.out.apart w.heap.size 0 (.int .i64 q) (by omega))
  have HH := Lib.hid (HH.out.put0 q)
  clear bf a0 a1 a2 a3 a4 a5
  generalize w6.setCell ⟨w.heap.size, 0, none⟩ (.int .i64 q) = w7 at *
  obtain ⟨a0, a1, a2, a3, a4, a5⟩ := HH.out.b.cells
  simp only at a0 a1 a2 a3 a4 a5
  obtain ⟨p0, p1, p2, p3, p4, p5⟩ := HH.out.o.cells
  have pf := HH.out.o.free
  go_region
  go_wp2
  have X := HH.out.out q nx (.slice A3 L.length c3) r.fin r.hi r.code L HO.out
  refine bodyPost_ret (results_tmp_cell rfl _ _ (w.heap.size + 1) _ _ _ _ rfl (BoxR.drew X.1) Try.underlying28 rfl (by kernel_rfl)) rfl ?_
  exact ⟨_, rfl, OwnX.later X.2.1 (Below.refl _ _).drew, X.2.2.drew⟩
end Go.Proofs.Ytmmoedhfeaokgaa
