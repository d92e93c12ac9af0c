/-
  Contracts and lemmas for the law on draining.
-/
import Derived.Test.YtdaoaedkjoknmaaGreatDrZ0
import Derived.Test.YtdaoaedkjoknmaaGreatDrZ21
import Derived.Test.YtdaoaedkjoknmaaGreatDrZ26
set_option maxRecDepth 1000000
set_option maxHeartbeats 8000000
namespace Go.Proofs.YtdaoaedkjoknmaaGreat
open Go.RowKit Go.Deep Go.Proofs.YtdaoaedkjoknmaaGreat.Num

theorem okB_inb {b : Bf} (h : okB b) (hs : sumC b.chs ≤ 8000000) : inB b.chs := by
  intro c hc
  have h1 := okB_off h c hc
  have h2 := sumC_mem _ c hc
  exact ⟨by unfold maxLen; omega, by omega, by omega⟩
set_option linter.unusedVariables false in
theorem ircv_no (r : Rc) (o : Int) (d : ByteArray) (f : Bool) (A : Option Addr) (cap B : Nat) (w : World) (hB : B ≤ w.heap.size) (hr : Chs w B A r.buf.chs) (hn : r.buf.chs.length ≤ 1048576) (hcap : r.buf.chs.length ≤ cap) (hi : inB r.buf.chs) (hx : inRc r) (ho : -9223372036854775808 ≤ o ∧ o ≤ 9223372036854775807) (hsum : sumC r.buf.chs + d.size ≤ 2097152) (hno : ¬ (okRc r ∧ 0 ≤ o ∧ o ≤ 4611686018427387903 - (d.size : Int)) ∨ badRc r (o + d.size) f ∨ 1 < r.st) :
    Calls Tryz.prog 16 #[rcV r (.slice A r.buf.chs.length cap), .int .i64 o, .string d, .bool f] w fun e w' => ∃ v, e = .returned (.tuple #[rcV (rcvRc r o d f).1 v, .int .i64 (rcvRc r o d f).2]) ∧ OwnX w' w.heap.size v (rcvRc r o d f).1.buf.chs ∧ Below w.heap.size w w' := by
  have hdm : d.size ≤ maxLen := by have := sumC_nonneg r.buf.chs; unfold maxLen; omega
  have hn1 : r.buf.chs.length ≤ 10000000 := by omega
  have HH := LH (IrX.start w r (.slice A r.buf.chs.length cap))
  have HIR : Hid (∀ W, Below w.heap.size w W → Calls Tryz.prog 46 #[rcV r (.slice A r.buf.chs.length cap)] W fun e w' => e = .returned (.bool (decide (okRc r))) ∧ Below W.heap.size W w') := LH fun W h => iisrc r A cap B W (Nat.le_trans hB h.size) (hr.below hB h) (by omega) hi hx
  have HCL : Hid (∀ W, Below w.heap.size w W → Calls Tryz.prog 48 #[rcV r (.slice A r.buf.chs.length cap)] W fun e w' => ∃ v, e = .returned (rcV r v) ∧ OwnX w' W.heap.size v r.buf.chs ∧ Below W.heap.size W w') := LH fun W h => iclonerc r A cap B W (Nat.le_trans hB h.size) (hr.below hB h) (by omega)
  have HUN : Hid (∀ W, Below w.heap.size w W → Calls Tryz.prog 51 #[rcV r (.slice A r.buf.chs.length cap)] W fun e w' => e = .returned (.bool (decide (r.st = 0 ∨ r.st = 1))) ∧ Below W.heap.size W w') := LH fun W h => iunf r A cap B W (Nat.le_trans hB h.size) (hr.below hB h)
  have HFI : Hid (∀ W, Calls Tryz.prog 47 #[.int .i64 o, .string d] W fun e w' => e = .returned (.bool (decide (o ≤ 4611686018427387903 - (d.size : Int)))) ∧ w' = W) := LH fun W => ifits o d W hdm
  by_cases hok : okRc r
  rotate_left
  · have hv : rcvRc r o d f = (r, 7) := if_pos (fun h => hok h.1)
    rw [hv]
    rw [decide_eq_false hok] at HIR
    clear hv hok hno
    clear hr hi hx hn hn1 hcap ho hsum hdm
    go_enter Tryz.func16, Tryz.ntmps16
    obtain ⟨a0, a1, a2, a3, a4, a5⟩ := HH.out.b.cells
    go_wp2_with fail
    refine (HIR.out _ HH.out.bl).mono ?_
    rintro e w1 ⟨rfl, hb1⟩
    have HH := LH (HH.out.next hb1)
    clear hb1 a0 a1 a2 a3 a4 a5
    obtain ⟨a0, a1, a2, a3, a4, a5⟩ := HH.out.b.cells
    go_wp2_with fail
    refine (HCL.out _ HH.out.bl).mono ?_
    rintro e w3 ⟨v3, rfl, ho3, hb3⟩
    have HO := LH (ho3.weaken (base' := w.heap.size + 2) HH.out.o.lt)
    have HH := LH (HH.out.next hb3)
    obtain ⟨A3, c3, rfl, _, _⟩ := HO.out.frs
    clear ho3 hb3 a0 a1 a2 a3 a4 a5
    obtain ⟨p0, p1, p2, p3, p4, p5⟩ := HH.out.o.cells
    have pf := HH.out.o.free
    go_wp2
    refine bodyPost_ret (results_cell_tmp rfl _ _ (w.heap.size + 1) _ _ _ _ rfl (HH.out.out r.st r.buf.next _ r.fin r.hi r.code r.buf.chs HO.out).1 Tryz.underlying40 rfl (by kernel_rfl)) rfl ?_
    exact ⟨_, rfl, (HH.out.out r.st r.buf.next _ r.fin r.hi r.code r.buf.chs HO.out).2.1, (HH.out.out r.st r.buf.next _ r.fin r.hi r.code r.buf.chs HO.out).2.2⟩
  rw [decide_eq_true hok] at HIR
  by_cases h0 : o < 0
  · have hv : rcvRc r o d f = (r, 7) := if_pos (fun h => by have := h.2.1; omega)
    rw [hv]
    have d0 : decide (o < 0) = true := decide_eq_true h0
    clear hv hok hno h0
    clear hr hi hx hn hn1 hcap ho hsum hdm
    go_enter Tryz.func16, Tryz.ntmps16
    obtain ⟨a0, a1, a2, a3, a4, a5⟩ := HH.out.b.cells
    go_wp2_with fail
    refine (HIR.out _ HH.out.bl).mono ?_
    rintro e w1 ⟨rfl, hb1⟩
    have HH := LH (HH.out.next hb1)
    clear hb1 a0 a1 a2 a3 a4 a5
    obtain ⟨a0, a1, a2, a3, a4, a5⟩ := HH.out.b.cells
    go_wp2_with fail
    refine (HCL.out _ HH.out.bl).mono ?_
    rintro e w3 ⟨v3, rfl, ho3, hb3⟩
    have HO := LH (ho3.weaken (base' := w.heap.size + 2) HH.out.o.lt)
    have HH := LH (HH.out.next hb3)
    obtain ⟨A3, c3, rfl, _, _⟩ := HO.out.frs
    clear ho3 hb3 a0 a1 a2 a3 a4 a5
    obtain ⟨p0, p1, p2, p3, p4, p5⟩ := HH.out.o.cells
    have pf := HH.out.o.free
    go_wp2
    refine bodyPost_ret (results_cell_tmp rfl _ _ (w.heap.size + 1) _ _ _ _ rfl (HH.out.out r.st r.buf.next _ r.fin r.hi r.code r.buf.chs HO.out).1 Tryz.underlying40 rfl (by kernel_rfl)) rfl ?_
    exact ⟨_, rfl, (HH.out.out r.st r.buf.next _ r.fin r.hi r.code r.buf.chs HO.out).2.1, (HH.out.out r.st r.buf.next _ r.fin r.hi r.code r.buf.chs HO.out).2.2⟩
  have d0 : decide (o < 0) = false := decide_eq_false h0
  by_cases h1 : o ≤ 4611686018427387903 - (d.size : Int)
  rotate_left
  · have hv : rcvRc r o d f = (r, 7) := if_pos (fun h => h1 h.2.2)
    rw [hv]
    rw [decide_eq_false h1] at HFI
    clear hv hok hno h0 h1
    clear hr hi hx hn hn1 hcap ho hsum hdm
    go_enter Tryz.func16, Tryz.ntmps16
    obtain ⟨a0, a1, a2, a3, a4, a5⟩ := HH.out.b.cells
    go_wp2_with fail
    refine (HIR.out _ HH.out.bl).mono ?_
    rintro e w1 ⟨rfl, hb1⟩
    have HH := LH (HH.out.next hb1)
    clear hb1 a0 a1 a2 a3 a4 a5
    obtain ⟨a0, a1, a2, a3, a4, a5⟩ := HH.out.b.cells
    go_wp2_with fail
    refine (HFI.out _).mono ?_
    rintro e w1 ⟨rfl, rfl⟩
    clear a0 a1 a2 a3 a4 a5
    obtain ⟨a0, a1, a2, a3, a4, a5⟩ := HH.out.b.cells
    go_wp2_with fail
    refine (HCL.out _ HH.out.bl).mono ?_
    rintro e w3 ⟨v3, rfl, ho3, hb3⟩
    have HO := LH (ho3.weaken (base' := w.heap.size + 2) HH.out.o.lt)
    have HH := LH (HH.out.next hb3)
    obtain ⟨A3, c3, rfl, _, _⟩ := HO.out.frs
    clear ho3 hb3 a0 a1 a2 a3 a4 a5
    obtain ⟨p0, p1, p2, p3, p4, p5⟩ := HH.out.o.cells
    have pf := HH.out.o.free
    go_wp2
    refine bodyPost_ret (results_cell_tmp rfl _ _ (w.heap.size + 1) _ _ _ _ rfl (HH.out.out r.st r.buf.next _ r.fin r.hi r.code r.buf.chs HO.out).1 Tryz.underlying40 rfl (by kernel_rfl)) rfl ?_
    exact ⟨_, rfl, (HH.out.out r.st r.buf.next _ r.fin r.hi r.code r.buf.chs HO.out).2.1, (HH.out.out r.st r.buf.next _ r.fin r.hi r.code r.buf.chs HO.out).2.2⟩
  rw [decide_eq_true h1] at HFI
  have hin : okRc r ∧ 0 ≤ o ∧ o ≤ 4611686018427387903 - (d.size : Int) := ⟨hok, by omega, h1⟩
  obtain ⟨n, hnn⟩ : ∃ n, o + (d.size : Int) = n := ⟨_, rfl⟩
  have hw : wrap64 (o + (d.size : Int)) = n := by rw [← hnn]; clear hx; unfold wrap64; omega
  have HEX : Hid (∀ W, Below w.heap.size w W → Calls Tryz.prog 49 #[rcV r (.slice A r.buf.chs.length cap), .int .i64 n] W fun e w' => e = .returned (.bool (decide (r.fin ≠ -1 ∧ r.fin < n))) ∧ Below W.heap.size W w') := LH fun W h => iexc r n A cap B W (Nat.le_trans hB h.size) (hr.below hB h)
  have HCO : Hid (∀ W, Below w.heap.size w W → Calls Tryz.prog 50 #[rcV r (.slice A r.buf.chs.length cap), .int .i64 n] W fun e w' => e = .returned (.bool (decide (n < r.hi ∨ (r.fin ≠ -1 ∧ n ≠ r.fin)))) ∧ Below W.heap.size W w') := LH fun W h => icon r n A cap B W (Nat.le_trans hB h.size) (hr.below hB h)
  by_cases hb : badRc r n f
  · have hv : rcvRc r o d f = (r, 6) := (if_neg (fun h => h hin)).trans (if_pos (by rw [hnn]; exact hb))
    rw [hv]
    by_cases hex : r.fin ≠ -1 ∧ r.fin < n
    · rw [decide_eq_true hex] at HEX
      clear hv hok hin hno h0 h1 hb hex hnn
      clear hr hi hx hn hn1 hcap ho hsum hdm
      go_enter Tryz.func16, Tryz.ntmps16
      obtain ⟨a0, a1, a2, a3, a4, a5⟩ := HH.out.b.cells
      go_wp2_with fail
      refine (HIR.out _ HH.out.bl).mono ?_
      rintro e w1 ⟨rfl, hb1⟩
      have HH := LH (HH.out.next hb1)
      clear hb1 a0 a1 a2 a3 a4 a5
      obtain ⟨a0, a1, a2, a3, a4, a5⟩ := HH.out.b.cells
      go_wp2_with fail
      refine (HFI.out _).mono ?_
      rintro e w1 ⟨rfl, rfl⟩
      clear a0 a1 a2 a3 a4 a5
      obtain ⟨a0, a1, a2, a3, a4, a5⟩ := HH.out.b.cells
      go_wp2_with fail
      refine (HEX.out _ HH.out.bl).mono ?_
      rintro e w1 ⟨rfl, hb1⟩
      have HH := LH (HH.out.next hb1)
      clear hb1 a0 a1 a2 a3 a4 a5
      obtain ⟨a0, a1, a2, a3, a4, a5⟩ := HH.out.b.cells
      go_wp2_with fail
      refine (HCL.out _ HH.out.bl).mono ?_
      rintro e w3 ⟨v3, rfl, ho3, hb3⟩
      have HO := LH (ho3.weaken (base' := w.heap.size + 2) HH.out.o.lt)
      have HH := LH (HH.out.next hb3)
      obtain ⟨A3, c3, rfl, _, _⟩ := HO.out.frs
      clear ho3 hb3 a0 a1 a2 a3 a4 a5
      obtain ⟨p0, p1, p2, p3, p4, p5⟩ := HH.out.o.cells
      have pf := HH.out.o.free
      go_wp2
      refine bodyPost_ret (results_cell_tmp rfl _ _ (w.heap.size + 1) _ _ _ _ rfl (HH.out.out r.st r.buf.next _ r.fin r.hi r.code r.buf.chs HO.out).1 Tryz.underlying40 rfl (by kernel_rfl)) rfl ?_
      exact ⟨_, rfl, (HH.out.out r.st r.buf.next _ r.fin r.hi r.code r.buf.chs HO.out).2.1, (HH.out.out r.st r.buf.next _ r.fin r.hi r.code r.buf.chs HO.out).2.2⟩
    have hf : f = true := by
      rcases hb with ⟨g1, g2 | ⟨g2, _⟩⟩ | ⟨g2, _⟩
      · exact absurd ⟨g1, g2⟩ hex
      · exact g2
      · exact g2
    have hco : n < r.hi ∨ (r.fin ≠ -1 ∧ n ≠ r.fin) := bad_true.1 (by rw [hf] at hb; exact hb)
    rw [decide_eq_false hex] at HEX
    rw [decide_eq_true hco] at HCO
    clear hv hok hin hno h0 h1 hb hex hco hnn
    clear hr hi hx hn hn1 hcap ho hsum hdm
    subst hf
    go_enter Tryz.func16, Tryz.ntmps16
    obtain ⟨a0, a1, a2, a3, a4, a5⟩ := HH.out.b.cells
    go_wp2_with fail
    refine (HIR.out _ HH.out.bl).mono ?_
    rintro e w1 ⟨rfl, hb1⟩
    have HH := LH (HH.out.next hb1)
    clear hb1 a0 a1 a2 a3 a4 a5
    obtain ⟨a0, a1, a2, a3, a4, a5⟩ := HH.out.b.cells
    go_wp2_with fail
    refine (HFI.out _).mono ?_
    rintro e w1 ⟨rfl, rfl⟩
    clear a0 a1 a2 a3 a4 a5
    obtain ⟨a0, a1, a2, a3, a4, a5⟩ := HH.out.b.cells
    go_wp2_with fail
    refine (HEX.out _ HH.out.bl).mono ?_
    rintro e w1 ⟨rfl, hb1⟩
    have HH := LH (HH.out.next hb1)
    clear hb1 a0 a1 a2 a3 a4 a5
    obtain ⟨a0, a1, a2, a3, a4, a5⟩ := HH.out.b.cells
    go_wp2_with fail
    refine (HCO.out _ HH.out.bl).mono ?_
    rintro e w1 ⟨rfl, hb1⟩
    have HH := LH (HH.out.next hb1)
    clear hb1 a0 a1 a2 a3 a4 a5
    obtain ⟨a0, a1, a2, a3, a4, a5⟩ := HH.out.b.cells
    go_wp2_with fail
    refine (HCL.out _ HH.out.bl).mono ?_
    rintro e w3 ⟨v3, rfl, ho3, hb3⟩
    have HO := LH (ho3.weaken (base' := w.heap.size + 2) HH.out.o.lt)
    have HH := LH (HH.out.next hb3)
    obtain ⟨A3, c3, rfl, _, _⟩ := HO.out.frs
    clear ho3 hb3 a0 a1 a2 a3 a4 a5
    obtain ⟨p0, p1, p2, p3, p4, p5⟩ := HH.out.o.cells
    have pf := HH.out.o.free
    go_wp2
    refine bodyPost_ret (results_cell_tmp rfl _ _ (w.heap.size + 1) _ _ _ _ rfl (HH.out.out r.st r.buf.next _ r.fin r.hi r.code r.buf.chs HO.out).1 Tryz.underlying40 rfl (by kernel_rfl)) rfl ?_
    exact ⟨_, rfl, (HH.out.out r.st r.buf.next _ r.fin r.hi r.code r.buf.chs HO.out).2.1, (HH.out.out r.st r.buf.next _ r.fin r.hi r.code r.buf.chs HO.out).2.2⟩
  have hs : 1 < r.st := by
    rcases hno with h | h | h
    · exact absurd hin h
    · rw [hnn] at h; exact absurd h hb
    · exact h
  have hv : rcvRc r o d f = (r, 0) := (if_neg (fun h => h hin)).trans ((if_neg (by rw [hnn]; exact hb)).trans (if_pos hs))
  rw [hv]
  have hex : ¬ (r.fin ≠ -1 ∧ r.fin < n) := fun h => hb (.inl ⟨h.1, .inl h.2⟩)
  rw [decide_eq_false hex] at HEX
  rw [decide_eq_false (show ¬ (r.st = 0 ∨ r.st = 1) by omega)] at HUN
  cases f with
  | false =>
    clear hv hok hin hno h0 h1 hb hex hnn hs HCO
    clear hr hi hx hn hn1 hcap ho hsum hdm
    go_enter Tryz.func16, Tryz.ntmps16
    obtain ⟨a0, a1, a2, a3, a4, a5⟩ := HH.out.b.cells
    go_wp2_with fail
    refine (HIR.out _ HH.out.bl).mono ?_
    rintro e w1 ⟨rfl, hb1⟩
    have HH := LH (HH.out.next hb1)
    clear hb1 a0 a1 a2 a3 a4 a5
    obtain ⟨a0, a1, a2, a3, a4, a5⟩ := HH.out.b.cells
    go_wp2_with fail
    refine (HFI.out _).mono ?_
    rintro e w1 ⟨rfl, rfl⟩
    clear a0 a1 a2 a3 a4 a5
    obtain ⟨a0, a1, a2, a3, a4, a5⟩ := HH.out.b.cells
    go_wp2_with fail
    refine (HEX.out _ HH.out.bl).mono ?_
    rintro e w1 ⟨rfl, hb1⟩
    have HH := LH (HH.out.next hb1)
    clear hb1 a0 a1 a2 a3 a4 a5
    obtain ⟨a0, a1, a2, a3, a4, a5⟩ := HH.out.b.cells
    go_wp2_with fail
    refine (HUN.out _ HH.out.bl).mono ?_
    rintro e w1 ⟨rfl, hb1⟩
    have HH := LH (HH.out.next hb1)
    clear hb1 a0 a1 a2 a3 a4 a5
    obtain ⟨a0, a1, a2, a3, a4, a5⟩ := HH.out.b.cells
    go_wp2_with fail
    refine (HCL.out _ HH.out.bl).mono ?_
    rintro e w3 ⟨v3, rfl, ho3, hb3⟩
    have HO := LH (ho3.weaken (base' := w.heap.size + 2) HH.out.o.lt)
    have HH := LH (HH.out.next hb3)
    obtain ⟨A3, c3, rfl, _, _⟩ := HO.out.frs
    clear ho3 hb3 a0 a1 a2 a3 a4 a5
    obtain ⟨p0, p1, p2, p3, p4, p5⟩ := HH.out.o.cells
    have pf := HH.out.o.free
    go_wp2
    refine bodyPost_ret (results_cell_tmp rfl _ _ (w.heap.size + 1) _ _ _ _ rfl (HH.out.out r.st r.buf.next _ r.fin r.hi r.code r.buf.chs HO.out).1 Tryz.underlying40 rfl (by kernel_rfl)) rfl ?_
    exact ⟨_, rfl, (HH.out.out r.st r.buf.next _ r.fin r.hi r.code r.buf.chs HO.out).2.1, (HH.out.out r.st r.buf.next _ r.fin r.hi r.code r.buf.chs HO.out).2.2⟩
  | true =>
    rw [decide_eq_false (show ¬ (n < r.hi ∨ (r.fin ≠ -1 ∧ n ≠ r.fin)) from fun h => hb (bad_true.2 h))] at HCO
    clear hv hok hin hno h0 h1 hb hex hnn hs
    clear hr hi hx hn hn1 hcap ho hsum hdm
    go_enter Tryz.func16, Tryz.ntmps16
    obtain ⟨a0, a1, a2, a3, a4, a5⟩ := HH.out.b.cells
    go_wp2_with fail
    refine (HIR.out _ HH.out.bl).mono ?_
    rintro e w1 ⟨rfl, hb1⟩
    have HH := LH (HH.out.next hb1)
    clear hb1 a0 a1 a2 a3 a4 a5
    obtain ⟨a0, a1, a2, a3, a4, a5⟩ := HH.out.b.cells
    go_wp2_with fail
    refine (HFI.out _).mono ?_
    rintro e w1 ⟨rfl, rfl⟩
    clear a0 a1 a2 a3 a4 a5
    obtain ⟨a0, a1, a2, a3, a4, a5⟩ := HH.out.b.cells
    go_wp2_with fail
    refine (HEX.out _ HH.out.bl).mono ?_
    rintro e w1 ⟨rfl, hb1⟩
    have HH := LH (HH.out.next hb1)
    clear hb1 a0 a1 a2 a3 a4 a5
    obtain ⟨a0, a1, a2, a3, a4, a5⟩ := HH.out.b.cells
    go_wp2_with fail
    refine (HCO.out _ HH.out.bl).mono ?_
    rintro e w1 ⟨rfl, hb1⟩
    have HH := LH (HH.out.next hb1)
    clear hb1 a0 a1 a2 a3 a4 a5
    obtain ⟨a0, a1, a2, a3, a4, a5⟩ := HH.out.b.cells
    go_wp2_with fail
    refine (HUN.out _ HH.out.bl).mono ?_
    rintro e w1 ⟨rfl, hb1⟩
    have HH := LH (HH.out.next hb1)
    clear hb1 a0 a1 a2 a3 a4 a5
    obtain ⟨a0, a1, a2, a3, a4, a5⟩ := HH.out.b.cells
    go_wp2_with fail
    refine (HCL.out _ HH.out.bl).mono ?_
    rintro e w3 ⟨v3, rfl, ho3, hb3⟩
    have HO := LH (ho3.weaken (base' := w.heap.size + 2) HH.out.o.lt)
    have HH := LH (HH.out.next hb3)
    obtain ⟨A3, c3, rfl, _, _⟩ := HO.out.frs
    clear ho3 hb3 a0 a1 a2 a3 a4 a5
    obtain ⟨p0, p1, p2, p3, p4, p5⟩ := HH.out.o.cells
    have pf := HH.out.o.free
    go_wp2
    refine bodyPost_ret (results_cell_tmp rfl _ _ (w.heap.size + 1) _ _ _ _ rfl (HH.out.out r.st r.buf.next _ r.fin r.hi r.code r.buf.chs HO.out).1 Tryz.underlying40 rfl (by kernel_rfl)) rfl ?_
    exact ⟨_, rfl, (HH.out.out r.st r.buf.next _ r.fin r.hi r.code r.buf.chs HO.out).2.1, (HH.out.out r.st r.buf.next _ r.fin r.hi r.code r.buf.chs HO.out).2.2⟩
theorem ircv_yes (r : Rc) (o : Int) (d : ByteArray) (f : Bool) (A : Option Addr) (cap B : Nat) (w : World) (hB : B ≤ w.heap.size) (hr : Chs w B A r.buf.chs) (hn : r.buf.chs.length ≤ 1048576) (hcap : r.buf.chs.length ≤ cap) (hi : inB r.buf.chs) (hx : inRc r) (ho : -9223372036854775808 ≤ o ∧ o ≤ 9223372036854775807) (hsum : sumC r.buf.chs + d.size ≤ 2097152) (hok : okRc r) (h0 : 0 ≤ o) (h1 : o ≤ 4611686018427387903 - (d.size : Int)) (hb : ¬ badRc r (o + d.size) f) (hs : ¬ 1 < r.st) :
    Calls Tryz.prog 16 #[rcV r (.slice A r.buf.chs.length cap), .int .i64 o, .string d, .bool f] w fun e w' => ∃ v, e = .returned (.tuple #[rcV (rcvRc r o d f).1 v, .int .i64 (rcvRc r o d f).2]) ∧ OwnX w' w.heap.size v (rcvRc r o d f).1.buf.chs ∧ Below w.heap.size w w' := by
  have hdm : d.size ≤ maxLen := by have := sumC_nonneg r.buf.chs; unfold maxLen; omega
  have hn1 : r.buf.chs.length ≤ 10000000 := by omega
  have HH := LH (IrX.start w r (.slice A r.buf.chs.length cap))
  have HIR : Hid (∀ W, Below w.heap.size w W → Calls Tryz.prog 46 #[rcV r (.slice A r.buf.chs.length cap)] W fun e w' => e = .returned (.bool (decide (okRc r))) ∧ Below W.heap.size W w') := LH fun W h => iisrc r A cap B W (Nat.le_trans hB h.size) (hr.below hB h) (by omega) hi hx
  have HCL : Hid (∀ W, Below w.heap.size w W → Calls Tryz.prog 48 #[rcV r (.slice A r.buf.chs.length cap)] W fun e w' => ∃ v, e = .returned (rcV r v) ∧ OwnX w' W.heap.size v r.buf.chs ∧ Below W.heap.size W w') := LH fun W h => iclonerc r A cap B W (Nat.le_trans hB h.size) (hr.below hB h) (by omega)
  have HUN : Hid (∀ W, Below w.heap.size w W → Calls Tryz.prog 51 #[rcV r (.slice A r.buf.chs.length cap)] W fun e w' => e = .returned (.bool (decide (r.st = 0 ∨ r.st = 1))) ∧ Below W.heap.size W w') := LH fun W h => iunf r A cap B W (Nat.le_trans hB h.size) (hr.below hB h)
  have HFI : Hid (∀ W, Calls Tryz.prog 47 #[.int .i64 o, .string d] W fun e w' => e = .returned (.bool (decide (o ≤ 4611686018427387903 - (d.size : Int)))) ∧ w' = W) := LH fun W => ifits o d W hdm
  have HIN : Hid (∀ W, Below w.heap.size w W → Calls Tryz.prog 52 #[bfV r.buf.next (.slice A r.buf.chs.length cap), .int .i64 o, .string d] W fun e w' => ∃ v, e = .returned (bfV r.buf.next v) ∧ OwnX w' W.heap.size v (insB r.buf o d).chs ∧ Below W.heap.size W w') := LH fun W h => iinsx r.buf o d A cap B W (Nat.le_trans hB h.size) (hr.below hB h) hn hcap hi hx.2.1 hsum
  rw [decide_eq_true hok] at HIR
  rw [decide_eq_true h1] at HFI
  have d0 : decide (o < 0) = false := decide_eq_false (by omega)
  have hin : okRc r ∧ 0 ≤ o ∧ o ≤ 4611686018427387903 - (d.size : Int) := ⟨hok, by omega, h1⟩
  obtain ⟨n, hnn⟩ : ∃ n, o + (d.size : Int) = n := ⟨_, rfl⟩
  have hw : wrap64 (o + (d.size : Int)) = n := by rw [← hnn]; clear hx; unfold wrap64; omega
  have HEX : Hid (∀ W, Below w.heap.size w W → Calls Tryz.prog 49 #[rcV r (.slice A r.buf.chs.length cap), .int .i64 n] W fun e w' => e = .returned (.bool (decide (r.fin ≠ -1 ∧ r.fin < n))) ∧ Below W.heap.size W w') := LH fun W h => iexc r n A cap B W (Nat.le_trans hB h.size) (hr.below hB h)
  have HCO : Hid (∀ W, Below w.heap.size w W → Calls Tryz.prog 50 #[rcV r (.slice A r.buf.chs.length cap), .int .i64 n] W fun e w' => e = .returned (.bool (decide (n < r.hi ∨ (r.fin ≠ -1 ∧ n ≠ r.fin)))) ∧ Below W.heap.size W w') := LH fun W h => icon r n A cap B W (Nat.le_trans hB h.size) (hr.below hB h)
  have hv : rcvRc r o d f = (datRc r o d f, 0) := (if_neg (fun h => h hin)).trans ((if_neg hb).trans (if_neg hs))
  rw [hv]
  rw [hnn] at hb
  have hex : ¬ (r.fin ≠ -1 ∧ r.fin < n) := fun h => hb (.inl ⟨h.1, .inl h.2⟩)
  rw [decide_eq_false hex] at HEX
  have hst := okRc_st hok
  rw [decide_eq_true (show r.st = 0 ∨ r.st = 1 by omega)] at HUN
  have hokb : okB (insB r.buf o d) := insB_ok _ _ _ hok.1.1
  have hlen := insB_len2 r.buf o d
  have hinb := okB_inb hokb (by have := insB_sum r.buf o d hok.1.1; omega)
  obtain ⟨L, hL⟩ : ∃ L, insB r.buf o d = ⟨r.buf.next, L⟩ := ⟨(insB r.buf o d).chs, by rw [← insB_next r.buf o d]⟩
  unfold datRc
  rw [hnn, hL]
  rw [hL] at HIN hokb hlen hinb
  dsimp only at HIN hokb hlen hinb ⊢
  have hhi := hok.1.2.1
  have hxs := hx
  clear hv hin hL hsum hdm hcap ho
  have HX : ∀ s g m, (0 ≤ s ∧ s ≤ 5) → (g = n ∨ g = r.fin) → (m = n ∨ m = r.hi) → inRc ⟨s, ⟨r.buf.next, L⟩, g, m, r.code⟩ := fun s g m h1 h2 h3 => by
    obtain ⟨q1, q2, q3, q4, q5⟩ := hxs
    have hd := Int.natCast_nonneg d.size
    refine ⟨by show -9223372036854775808 ≤ s ∧ s ≤ _; omega, q2, ?_, ?_, q5⟩
    · show -9223372036854775808 ≤ g ∧ g ≤ _
      rcases h2 with rfl | rfl
      · clear q1 q2 q3 q4 q5 hx hn hn1; omega
      · exact q3
    · show -9223372036854775808 ≤ m ∧ m ≤ _
      rcases h3 with rfl | rfl
      · clear q1 q2 q3 q4 q5 hx hn hn1; omega
      · exact q4
  clear hxs
  by_cases hE : r.hi < n
  · have d9 : decide (r.hi < n) = true := decide_eq_true hE
    clear d9
    rw [show max r.hi n = n by omega]
    have M9 : Hid ((if r.hi < n then n else r.hi) = n) := LH (if_pos hE)
    cases f with
    | false =>
      clear HCO
      simp only [Bool.false_eq_true, if_false]
      by_cases hfu : fullRc ⟨r.st, ⟨r.buf.next, L⟩, r.fin, n, r.code⟩
      · have HAD : Hid (∀ A3 c3 W, Chs W W.heap.size A3 L → Calls Tryz.prog 53 #[rcV ⟨r.st, ⟨r.buf.next, L⟩, r.fin, n, r.code⟩ (.slice A3 L.length c3)] W fun e w' => e = .returned (.bool true) ∧ Below W.heap.size W w') := LH fun A3 c3 W h => by
          have h9 := iall ⟨r.st, ⟨r.buf.next, L⟩, r.fin, n, r.code⟩ A3 c3 W.heap.size W (Nat.le_refl _) h (by show L.length ≤ _; omega) hinb (HX _ _ _ (by omega) (.inr rfl) (.inl rfl)) hokb
          rw [decide_eq_true hfu] at h9
          exact h9
        rw [show fillRc ⟨r.st, ⟨r.buf.next, L⟩, r.fin, n, r.code⟩ = ⟨2, ⟨r.buf.next, L⟩, r.fin, n, r.code⟩ from if_pos hfu]
        dsimp only
        clear hfu HX hok h0 h1 hb hs hnn hex hst hokb hlen hinb hhi hE hr hi hx hn hn1
        go_enter Tryz.func16, Tryz.ntmps16
        obtain ⟨a0, a1, a2, a3, a4, a5⟩ := HH.out.b.cells
        go_wp2_with fail
        refine (HIR.out _ HH.out.bl).mono ?_
        rintro e w1 ⟨rfl, hb1⟩
        have HH := LH (HH.out.next hb1)
        clear hb1 a0 a1 a2 a3 a4 a5
        obtain ⟨a0, a1, a2, a3, a4, a5⟩ := HH.out.b.cells
        go_wp2_with fail
        refine (HFI.out _).mono ?_
        rintro e w1 ⟨rfl, rfl⟩
        clear a0 a1 a2 a3 a4 a5
        obtain ⟨a0, a1, a2, a3, a4, a5⟩ := HH.out.b.cells
        go_wp2_with fail
        refine (HEX.out _ HH.out.bl).mono ?_
        rintro e w1 ⟨rfl, hb1⟩
        have HH := LH (HH.out.next hb1)
        clear hb1 a0 a1 a2 a3 a4 a5
        obtain ⟨a0, a1, a2, a3, a4, a5⟩ := HH.out.b.cells
        go_wp2_with fail
        refine (HUN.out _ HH.out.bl).mono ?_
        rintro e w1 ⟨rfl, hb1⟩
        have HH := LH (HH.out.next hb1)
        clear hb1 a0 a1 a2 a3 a4 a5
        obtain ⟨a0, a1, a2, a3, a4, a5⟩ := HH.out.b.cells
        have bf := HH.out.b.free
        go_upto_region 9 with fail
        have HH := LH (HH.out.put4 n)
        clear bf a0 a1 a2 a3 a4 a5
        rw [M9.out]
        generalize w1.setCell ⟨w.heap.size, 4, none⟩ (.int .i64 n) = w2 at *
        obtain ⟨a0, a1, a2, a3, a4, a5⟩ := HH.out.b.cells
        simp only at a0 a1 a2 a3 a4 a5
        go_wp2_with fail
        refine (HIN.out _ HH.out.bl).mono ?_
        rintro e w5 ⟨v5, rfl, ho5, hb5⟩
        have HO := LH (ho5.weaken (base' := w.heap.size + 2) HH.out.o.lt)
        have HH := LH (HH.out.next hb5)
        obtain ⟨A3, c3, rfl, _, _⟩ := HO.out.frs
        clear ho5 hb5 a0 a1 a2 a3 a4 a5
        obtain ⟨a0, a1, a2, a3, a4, a5⟩ := HH.out.b.cells
        simp only at a0 a1 a2 a3 a4 a5
        have bf := HH.out.b.free
        go_upto_region 13 with fail
        have HO := LH ((HO.out.apart w.heap.size 1 (.int .i64 r.buf.next) (by omega)).apart w.heap.size 2 (.slice A3 L.length c3) (by omega))
        have HH := LH (HH.out.putB r.buf.next L (.slice A3 L.length c3))
        clear bf a0 a1 a2 a3 a4 a5
        generalize (w5.setCell ⟨w.heap.size, 1, none⟩ (.int .i64 r.buf.next)).setCell ⟨w.heap.size, 2, none⟩ (.slice A3 L.length c3) = w6 at *
        obtain ⟨a0, a1, a2, a3, a4, a5⟩ := HH.out.b.cells
        simp only at a0 a1 a2 a3 a4 a5
        go_wp2_with fail
        refine (HAD.out A3 c3 w6 HO.out.chs).mono ?_
        rintro e w7 ⟨rfl, hb7⟩
        have HH := LH (HH.out.next hb7)
        have HO := LH (HO.out.later hb7)
        clear hb7 a0 a1 a2 a3 a4 a5
        obtain ⟨a0, a1, a2, a3, a4, a5⟩ := HH.out.b.cells
        simp only at a0 a1 a2 a3 a4 a5
        have bf := HH.out.b.free
        go_upto_region 15 with fail
        have HO := LH (HO.out.apart w.heap.size 0 (.int .i64 2) (by omega))
        have HH := LH (HH.out.put0 2)
        clear bf a0 a1 a2 a3 a4 a5
        generalize w7.setCell ⟨w.heap.size, 0, none⟩ (.int .i64 2) = w8 at *
        obtain ⟨a0, a1, a2, a3, a4, a5⟩ := HH.out.b.cells
        simp only at a0 a1 a2 a3 a4 a5
        obtain ⟨p0, p1, p2, p3, p4, p5⟩ := HH.out.o.cells
        have pf := HH.out.o.free
        go_wp2
        refine bodyPost_ret (results_cell_tmp rfl _ _ (w.heap.size + 1) _ _ _ _ rfl (HH.out.out 2 r.buf.next (.slice A3 L.length c3) r.fin n r.code L HO.out).1 Tryz.underlying40 rfl (by kernel_rfl)) rfl ?_
        exact ⟨_, rfl, (HH.out.out 2 r.buf.next (.slice A3 L.length c3) r.fin n r.code L HO.out).2.1, (HH.out.out 2 r.buf.next (.slice A3 L.length c3) r.fin n r.code L HO.out).2.2⟩
      · have HAD : Hid (∀ A3 c3 W, Chs W W.heap.size A3 L → Calls Tryz.prog 53 #[rcV ⟨r.st, ⟨r.buf.next, L⟩, r.fin, n, r.code⟩ (.slice A3 L.length c3)] W fun e w' => e = .returned (.bool false) ∧ Below W.heap.size W w') := LH fun A3 c3 W h => by
          have h9 := iall ⟨r.st, ⟨r.buf.next, L⟩, r.fin, n, r.code⟩ A3 c3 W.heap.size W (Nat.le_refl _) h (by show L.length ≤ _; omega) hinb (HX _ _ _ (by omega) (.inr rfl) (.inl rfl)) hokb
          rw [decide_eq_false hfu] at h9
          exact h9
        rw [show fillRc ⟨r.st, ⟨r.buf.next, L⟩, r.fin, n, r.code⟩ = ⟨r.st, ⟨r.buf.next, L⟩, r.fin, n, r.code⟩ from if_neg hfu]
        dsimp only
        clear hfu HX hok h0 h1 hb hs hnn hex hst hokb hlen hinb hhi hE hr hi hx hn hn1
        go_enter Tryz.func16, Tryz.ntmps16
        obtain ⟨a0, a1, a2, a3, a4, a5⟩ := HH.out.b.cells
        go_wp2_with fail
        refine (HIR.out _ HH.out.bl).mono ?_
        rintro e w1 ⟨rfl, hb1⟩
        have HH := LH (HH.out.next hb1)
        clear hb1 a0 a1 a2 a3 a4 a5
        obtain ⟨a0, a1, a2, a3, a4, a5⟩ := HH.out.b.cells
        go_wp2_with fail
        refine (HFI.out _).mono ?_
        rintro e w1 ⟨rfl, rfl⟩
        clear a0 a1 a2 a3 a4 a5
        obtain ⟨a0, a1, a2, a3, a4, a5⟩ := HH.out.b.cells
        go_wp2_with fail
        refine (HEX.out _ HH.out.bl).mono ?_
        rintro e w1 ⟨rfl, hb1⟩
        have HH := LH (HH.out.next hb1)
        clear hb1 a0 a1 a2 a3 a4 a5
        obtain ⟨a0, a1, a2, a3, a4, a5⟩ := HH.out.b.cells
        go_wp2_with fail
        refine (HUN.out _ HH.out.bl).mono ?_
        rintro e w1 ⟨rfl, hb1⟩
        have HH := LH (HH.out.next hb1)
        clear hb1 a0 a1 a2 a3 a4 a5
        obtain ⟨a0, a1, a2, a3, a4, a5⟩ := HH.out.b.cells
        have bf := HH.out.b.free
        go_upto_region 9 with fail
        have HH := LH (HH.out.put4 n)
        clear bf a0 a1 a2 a3 a4 a5
        rw [M9.out]
        generalize w1.setCell ⟨w.heap.size, 4, none⟩ (.int .i64 n) = w2 at *
        obtain ⟨a0, a1, a2, a3, a4, a5⟩ := HH.out.b.cells
        simp only at a0 a1 a2 a3 a4 a5
        go_wp2_with fail
        refine (HIN.out _ HH.out.bl).mono ?_
        rintro e w5 ⟨v5, rfl, ho5, hb5⟩
        have HO := LH (ho5.weaken (base' := w.heap.size + 2) HH.out.o.lt)
        have HH := LH (HH.out.next hb5)
        obtain ⟨A3, c3, rfl, _, _⟩ := HO.out.frs
        clear ho5 hb5 a0 a1 a2 a3 a4 a5
        obtain ⟨a0, a1, a2, a3, a4, a5⟩ := HH.out.b.cells
        simp only at a0 a1 a2 a3 a4 a5
        have bf := HH.out.b.free
        go_upto_region 13 with fail
        have HO := LH ((HO.out.apart w.heap.size 1 (.int .i64 r.buf.next) (by omega)).apart w.heap.size 2 (.slice A3 L.length c3) (by omega))
        have HH := LH (HH.out.putB r.buf.next L (.slice A3 L.length c3))
        clear bf a0 a1 a2 a3 a4 a5
        generalize (w5.setCell ⟨w.heap.size, 1, none⟩ (.int .i64 r.buf.next)).setCell ⟨w.heap.size, 2, none⟩ (.slice A3 L.length c3) = w6 at *
        obtain ⟨a0, a1, a2, a3, a4, a5⟩ := HH.out.b.cells
        simp only at a0 a1 a2 a3 a4 a5
        go_wp2_with fail
        refine (HAD.out A3 c3 w6 HO.out.chs).mono ?_
        rintro e w7 ⟨rfl, hb7⟩
        have HH := LH (HH.out.next hb7)
        have HO := LH (HO.out.later hb7)
        clear hb7 a0 a1 a2 a3 a4 a5
        obtain ⟨a0, a1, a2, a3, a4, a5⟩ := HH.out.b.cells
        simp only at a0 a1 a2 a3 a4 a5
        obtain ⟨p0, p1, p2, p3, p4, p5⟩ := HH.out.o.cells
        have pf := HH.out.o.free
        go_wp2
        refine bodyPost_ret (results_cell_tmp rfl _ _ (w.heap.size + 1) _ _ _ _ rfl (HH.out.out r.st r.buf.next (.slice A3 L.length c3) r.fin n r.code L HO.out).1 Tryz.underlying40 rfl (by kernel_rfl)) rfl ?_
        exact ⟨_, rfl, (HH.out.out r.st r.buf.next (.slice A3 L.length c3) r.fin n r.code L HO.out).2.1, (HH.out.out r.st r.buf.next (.slice A3 L.length c3) r.fin n r.code L HO.out).2.2⟩
    | true =>
      rw [decide_eq_false (show ¬ (n < r.hi ∨ (r.fin ≠ -1 ∧ n ≠ r.fin)) from fun h => hb (bad_true.2 h))] at HCO
      simp only [if_true]
      by_cases hfu : fullRc ⟨1, ⟨r.buf.next, L⟩, n, n, r.code⟩
      · have HAD : Hid (∀ A3 c3 W, Chs W W.heap.size A3 L → Calls Tryz.prog 53 #[rcV ⟨1, ⟨r.buf.next, L⟩, n, n, r.code⟩ (.slice A3 L.length c3)] W fun e w' => e = .returned (.bool true) ∧ Below W.heap.size W w') := LH fun A3 c3 W h => by
          have h9 := iall ⟨1, ⟨r.buf.next, L⟩, n, n, r.code⟩ A3 c3 W.heap.size W (Nat.le_refl _) h (by show L.length ≤ _; omega) hinb (HX _ _ _ (by omega) (.inl rfl) (.inl rfl)) hokb
          rw [decide_eq_true hfu] at h9
          exact h9
        rw [show fillRc ⟨1, ⟨r.buf.next, L⟩, n, n, r.code⟩ = ⟨2, ⟨r.buf.next, L⟩, n, n, r.code⟩ from if_pos hfu]
        dsimp only
        clear hfu HX hok h0 h1 hb hs hnn hex hst hokb hlen hinb hhi hE hr hi hx hn hn1
        go_enter Tryz.func16, Tryz.ntmps16
        obtain ⟨a0, a1, a2, a3, a4, a5⟩ := HH.out.b.cells
        go_wp2_with fail
        refine (HIR.out _ HH.out.bl).mono ?_
        rintro e w1 ⟨rfl, hb1⟩
        have HH := LH (HH.out.next hb1)
        clear hb1 a0 a1 a2 a3 a4 a5
        obtain ⟨a0, a1, a2, a3, a4, a5⟩ := HH.out.b.cells
        go_wp2_with fail
        refine (HFI.out _).mono ?_
        rintro e w1 ⟨rfl, rfl⟩
        clear a0 a1 a2 a3 a4 a5
        obtain ⟨a0, a1, a2, a3, a4, a5⟩ := HH.out.b.cells
        go_wp2_with fail
        refine (HEX.out _ HH.out.bl).mono ?_
        rintro e w1 ⟨rfl, hb1⟩
        have HH := LH (HH.out.next hb1)
        clear hb1 a0 a1 a2 a3 a4 a5
        obtain ⟨a0, a1, a2, a3, a4, a5⟩ := HH.out.b.cells
        go_wp2_with fail
        refine (HCO.out _ HH.out.bl).mono ?_
        rintro e w1 ⟨rfl, hb1⟩
        have HH := LH (HH.out.next hb1)
        clear hb1 a0 a1 a2 a3 a4 a5
        obtain ⟨a0, a1, a2, a3, a4, a5⟩ := HH.out.b.cells
        go_wp2_with fail
        refine (HUN.out _ HH.out.bl).mono ?_
        rintro e w1 ⟨rfl, hb1⟩
        have HH := LH (HH.out.next hb1)
        clear hb1 a0 a1 a2 a3 a4 a5
        obtain ⟨a0, a1, a2, a3, a4, a5⟩ := HH.out.b.cells
        have bf := HH.out.b.free
        go_upto_region 9 with fail
        have HH := LH (HH.out.put4 n)
        clear bf a0 a1 a2 a3 a4 a5
        rw [M9.out]
        generalize w1.setCell ⟨w.heap.size, 4, none⟩ (.int .i64 n) = w2 at *
        obtain ⟨a0, a1, a2, a3, a4, a5⟩ := HH.out.b.cells
        simp only at a0 a1 a2 a3 a4 a5
        have bf := HH.out.b.free
        go_upto_region 11 with fail
        have HH := LH (HH.out.put3 n)
        clear bf a0 a1 a2 a3 a4 a5
        generalize w2.setCell ⟨w.heap.size, 3, none⟩ (.int .i64 n) = w3 at *
        obtain ⟨a0, a1, a2, a3, a4, a5⟩ := HH.out.b.cells
        simp only at a0 a1 a2 a3 a4 a5
        have bf := HH.out.b.free
        go_upto_region 12 with fail
        have HH := LH (HH.out.put0 1)
        clear bf a0 a1 a2 a3 a4 a5
        generalize w3.setCell ⟨w.heap.size, 0, none⟩ (.int .i64 1) = w2 at *
        obtain ⟨a0, a1, a2, a3, a4, a5⟩ := HH.out.b.cells
        simp only at a0 a1 a2 a3 a4 a5
        go_wp2_with fail
        refine (HIN.out _ HH.out.bl).mono ?_
        rintro e w5 ⟨v5, rfl, ho5, hb5⟩
        have HO := LH (ho5.weaken (base' := w.heap.size + 2) HH.out.o.lt)
        have HH := LH (HH.out.next hb5)
        obtain ⟨A3, c3, rfl, _, _⟩ := HO.out.frs
        clear ho5 hb5 a0 a1 a2 a3 a4 a5
        obtain ⟨a0, a1, a2, a3, a4, a5⟩ := HH.out.b.cells
        simp only at a0 a1 a2 a3 a4 a5
        have bf := HH.out.b.free
        go_upto_region 13 with fail
        have HO := LH ((HO.out.apart w.heap.size 1 (.int .i64 r.buf.next) (by omega)).apart w.heap.size 2 (.slice A3 L.length c3) (by omega))
        have HH := LH (HH.out.putB r.buf.next L (.slice A3 L.length c3))
        clear bf a0 a1 a2 a3 a4 a5
        generalize (w5.setCell ⟨w.heap.size, 1, none⟩ (.int .i64 r.buf.next)).setCell ⟨w.heap.size, 2, none⟩ (.slice A3 L.length c3) = w6 at *
        obtain ⟨a0, a1, a2, a3, a4, a5⟩ := HH.out.b.cells
        simp only at a0 a1 a2 a3 a4 a5
        go_wp2_with fail
        refine (HAD.out A3 c3 w6 HO.out.chs).mono ?_
        rintro e w7 ⟨rfl, hb7⟩
        have HH := LH (HH.out.next hb7)
        have HO := LH (HO.out.later hb7)
        clear hb7 a0 a1 a2 a3 a4 a5
        obtain ⟨a0, a1, a2, a3, a4, a5⟩ := HH.out.b.cells
        simp only at a0 a1 a2 a3 a4 a5
        have bf := HH.out.b.free
        go_upto_region 15 with fail
        have HO := LH (HO.out.apart w.heap.size 0 (.int .i64 2) (by omega))
        have HH := LH (HH.out.put0 2)
        clear bf a0 a1 a2 a3 a4 a5
        generalize w7.setCell ⟨w.heap.size, 0, none⟩ (.int .i64 2) = w8 at *
        obtain ⟨a0, a1, a2, a3, a4, a5⟩ := HH.out.b.cells
        simp only at a0 a1 a2 a3 a4 a5
        obtain ⟨p0, p1, p2, p3, p4, p5⟩ := HH.out.o.cells
        have pf := HH.out.o.free
        go_wp2
        refine bodyPost_ret (results_cell_tmp rfl _ _ (w.heap.size + 1) _ _ _ _ rfl (HH.out.out 2 r.buf.next (.slice A3 L.length c3) n n r.code L HO.out).1 Tryz.underlying40 rfl (by kernel_rfl)) rfl ?_
        exact ⟨_, rfl, (HH.out.out 2 r.buf.next (.slice A3 L.length c3) n n r.code L HO.out).2.1, (HH.out.out 2 r.buf.next (.slice A3 L.length c3) n n r.code L HO.out).2.2⟩
      · have HAD : Hid (∀ A3 c3 W, Chs W W.heap.size A3 L → Calls Tryz.prog 53 #[rcV ⟨1, ⟨r.buf.next, L⟩, n, n, r.code⟩ (.slice A3 L.length c3)] W fun e w' => e = .returned (.bool false) ∧ Below W.heap.size W w') := LH fun A3 c3 W h => by
          have h9 := iall ⟨1, ⟨r.buf.next, L⟩, n, n, r.code⟩ A3 c3 W.heap.size W (Nat.le_refl _) h (by show L.length ≤ _; omega) hinb (HX _ _ _ (by omega) (.inl rfl) (.inl rfl)) hokb
          rw [decide_eq_false hfu] at h9
          exact h9
        rw [show fillRc ⟨1, ⟨r.buf.next, L⟩, n, n, r.code⟩ = ⟨1, ⟨r.buf.next, L⟩, n, n, r.code⟩ from if_neg hfu]
        dsimp only
        clear hfu HX hok h0 h1 hb hs hnn hex hst hokb hlen hinb hhi hE hr hi hx hn hn1
        go_enter Tryz.func16, Tryz.ntmps16
        obtain ⟨a0, a1, a2, a3, a4, a5⟩ := HH.out.b.cells
        go_wp2_with fail
        refine (HIR.out _ HH.out.bl).mono ?_
        rintro e w1 ⟨rfl, hb1⟩
        have HH := LH (HH.out.next hb1)
        clear hb1 a0 a1 a2 a3 a4 a5
        obtain ⟨a0, a1, a2, a3, a4, a5⟩ := HH.out.b.cells
        go_wp2_with fail
        refine (HFI.out _).mono ?_
        rintro e w1 ⟨rfl, rfl⟩
        clear a0 a1 a2 a3 a4 a5
        obtain ⟨a0, a1, a2, a3, a4, a5⟩ := HH.out.b.cells
        go_wp2_with fail
        refine (HEX.out _ HH.out.bl).mono ?_
        rintro e w1 ⟨rfl, hb1⟩
        have HH := LH (HH.out.next hb1)
        clear hb1 a0 a1 a2 a3 a4 a5
        obtain ⟨a0, a1, a2, a3, a4, a5⟩ := HH.out.b.cells
        go_wp2_with fail
        refine (HCO.out _ HH.out.bl).mono ?_
        rintro e w1 ⟨rfl, hb1⟩
        have HH := LH (HH.out.next hb1)
        clear hb1 a0 a1 a2 a3 a4 a5
        obtain ⟨a0, a1, a2, a3, a4, a5⟩ := HH.out.b.cells
        go_wp2_with fail
        refine (HUN.out _ HH.out.bl).mono ?_
        rintro e w1 ⟨rfl, hb1⟩
        have HH := LH (HH.out.next hb1)
        clear hb1 a0 a1 a2 a3 a4 a5
        obtain ⟨a0, a1, a2, a3, a4, a5⟩ := HH.out.b.cells
        have bf := HH.out.b.free
        go_upto_region 9 with fail
        have HH := LH (HH.out.put4 n)
        clear bf a0 a1 a2 a3 a4 a5
        rw [M9.out]
        generalize w1.setCell ⟨w.heap.size, 4, none⟩ (.int .i64 n) = w2 at *
        obtain ⟨a0, a1, a2, a3, a4, a5⟩ := HH.out.b.cells
        simp only at a0 a1 a2 a3 a4 a5
        have bf := HH.out.b.free
        go_upto_region 11 with fail
        have HH := LH (HH.out.put3 n)
        clear bf a0 a1 a2 a3 a4 a5
        generalize w2.setCell ⟨w.heap.size, 3, none⟩ (.int .i64 n) = w3 at *
        obtain ⟨a0, a1, a2, a3, a4, a5⟩ := HH.out.b.cells
        simp only at a0 a1 a2 a3 a4 a5
        have bf := HH.out.b.free
        go_upto_region 12 with fail
        have HH := LH (HH.out.put0 1)
        clear bf a0 a1 a2 a3 a4 a5
        generalize w3.setCell ⟨w.heap.size, 0, none⟩ (.int .i64 1) = w2 at *
        obtain ⟨a0, a1, a2, a3, a4, a5⟩ := HH.out.b.cells
        simp only at a0 a1 a2 a3 a4 a5
        go_wp2_with fail
        refine (HIN.out _ HH.out.bl).mono ?_
        rintro e w5 ⟨v5, rfl, ho5, hb5⟩
        have HO := LH (ho5.weaken (base' := w.heap.size + 2) HH.out.o.lt)
        have HH := LH (HH.out.next hb5)
        obtain ⟨A3, c3, rfl, _, _⟩ := HO.out.frs
        clear ho5 hb5 a0 a1 a2 a3 a4 a5
        obtain ⟨a0, a1, a2, a3, a4, a5⟩ := HH.out.b.cells
        simp only at a0 a1 a2 a3 a4 a5
        have bf := HH.out.b.free
        go_upto_region 13 with fail
        have HO := LH ((HO.out.apart w.heap.size 1 (.int .i64 r.buf.next) (by omega)).apart w.heap.size 2 (.slice A3 L.length c3) (by omega))
        have HH := LH (HH.out.putB r.buf.next L (.slice A3 L.length c3))
        clear bf a0 a1 a2 a3 a4 a5
        generalize (w5.setCell ⟨w.heap.size, 1, none⟩ (.int .i64 r.buf.next)).setCell ⟨w.heap.size, 2, none⟩ (.slice A3 L.length c3) = w6 at *
        obtain ⟨a0, a1, a2, a3, a4, a5⟩ := HH.out.b.cells
        simp only at a0 a1 a2 a3 a4 a5
        go_wp2_with fail
        refine (HAD.out A3 c3 w6 HO.out.chs).mono ?_
        rintro e w7 ⟨rfl, hb7⟩
        have HH := LH (HH.out.next hb7)
        have HO := LH (HO.out.later hb7)
        clear hb7 a0 a1 a2 a3 a4 a5
        obtain ⟨a0, a1, a2, a3, a4, a5⟩ := HH.out.b.cells
        simp only at a0 a1 a2 a3 a4 a5
        obtain ⟨p0, p1, p2, p3, p4, p5⟩ := HH.out.o.cells
        have pf := HH.out.o.free
        go_wp2
        refine bodyPost_ret (results_cell_tmp rfl _ _ (w.heap.size + 1) _ _ _ _ rfl (HH.out.out 1 r.buf.next (.slice A3 L.length c3) n n r.code L HO.out).1 Tryz.underlying40 rfl (by kernel_rfl)) rfl ?_
        exact ⟨_, rfl, (HH.out.out 1 r.buf.next (.slice A3 L.length c3) n n r.code L HO.out).2.1, (HH.out.out 1 r.buf.next (.slice A3 L.length c3) n n r.code L HO.out).2.2⟩
  · have d9 : decide (r.hi < n) = false := decide_eq_false hE
    clear d9
    rw [show max r.hi n = r.hi by omega]
    have M9 : Hid ((if r.hi < n then n else r.hi) = r.hi) := LH (if_neg hE)
    cases f with
    | false =>
      clear HCO
      simp only [Bool.false_eq_true, if_false]
      by_cases hfu : fullRc ⟨r.st, ⟨r.buf.next, L⟩, r.fin, r.hi, r.code⟩
      · have HAD : Hid (∀ A3 c3 W, Chs W W.heap.size A3 L → Calls Tryz.prog 53 #[rcV ⟨r.st, ⟨r.buf.next, L⟩, r.fin, r.hi, r.code⟩ (.slice A3 L.length c3)] W fun e w' => e = .returned (.bool true) ∧ Below W.heap.size W w') := LH fun A3 c3 W h => by
          have h9 := iall ⟨r.st, ⟨r.buf.next, L⟩, r.fin, r.hi, r.code⟩ A3 c3 W.heap.size W (Nat.le_refl _) h (by show L.length ≤ _; omega) hinb (HX _ _ _ (by omega) (.inr rfl) (.inr rfl)) hokb
          rw [decide_eq_true hfu] at h9
          exact h9
        rw [show fillRc ⟨r.st, ⟨r.buf.next, L⟩, r.fin, r.hi, r.code⟩ = ⟨2, ⟨r.buf.next, L⟩, r.fin, r.hi, r.code⟩ from if_pos hfu]
        dsimp only
        clear hfu HX hok h0 h1 hb hs hnn hex hst hokb hlen hinb hhi hE hr hi hx hn hn1
        go_enter Tryz.func16, Tryz.ntmps16
        obtain ⟨a0, a1, a2, a3, a4, a5⟩ := HH.out.b.cells
        go_wp2_with fail
        refine (HIR.out _ HH.out.bl).mono ?_
        rintro e w1 ⟨rfl, hb1⟩
        have HH := LH (HH.out.next hb1)
        clear hb1 a0 a1 a2 a3 a4 a5
        obtain ⟨a0, a1, a2, a3, a4, a5⟩ := HH.out.b.cells
        go_wp2_with fail
        refine (HFI.out _).mono ?_
        rintro e w1 ⟨rfl, rfl⟩
        clear a0 a1 a2 a3 a4 a5
        obtain ⟨a0, a1, a2, a3, a4, a5⟩ := HH.out.b.cells
        go_wp2_with fail
        refine (HEX.out _ HH.out.bl).mono ?_
        rintro e w1 ⟨rfl, hb1⟩
        have HH := LH (HH.out.next hb1)
        clear hb1 a0 a1 a2 a3 a4 a5
        obtain ⟨a0, a1, a2, a3, a4, a5⟩ := HH.out.b.cells
        go_wp2_with fail
        refine (HUN.out _ HH.out.bl).mono ?_
        rintro e w1 ⟨rfl, hb1⟩
        have HH := LH (HH.out.next hb1)
        clear hb1 a0 a1 a2 a3 a4 a5
        obtain ⟨a0, a1, a2, a3, a4, a5⟩ := HH.out.b.cells
        have bf := HH.out.b.free
        go_upto_region 9 with fail
        have HH := LH (HH.out.put4 r.hi)
        clear bf a0 a1 a2 a3 a4 a5
        rw [M9.out]
        generalize w1.setCell ⟨w.heap.size, 4, none⟩ (.int .i64 r.hi) = w2 at *
        obtain ⟨a0, a1, a2, a3, a4, a5⟩ := HH.out.b.cells
        simp only at a0 a1 a2 a3 a4 a5
        go_wp2_with fail
        refine (HIN.out _ HH.out.bl).mono ?_
        rintro e w5 ⟨v5, rfl, ho5, hb5⟩
        have HO := LH (ho5.weaken (base' := w.heap.size + 2) HH.out.o.lt)
        have HH := LH (HH.out.next hb5)
        obtain ⟨A3, c3, rfl, _, _⟩ := HO.out.frs
        clear ho5 hb5 a0 a1 a2 a3 a4 a5
        obtain ⟨a0, a1, a2, a3, a4, a5⟩ := HH.out.b.cells
        simp only at a0 a1 a2 a3 a4 a5
        have bf := HH.out.b.free
        go_upto_region 13 with fail
        have HO := LH ((HO.out.apart w.heap.size 1 (.int .i64 r.buf.next) (by omega)).apart w.heap.size 2 (.slice A3 L.length c3) (by omega))
        have HH := LH (HH.out.putB r.buf.next L (.slice A3 L.length c3))
        clear bf a0 a1 a2 a3 a4 a5
        generalize (w5.setCell ⟨w.heap.size, 1, none⟩ (.int .i64 r.buf.next)).setCell ⟨w.heap.size, 2, none⟩ (.slice A3 L.length c3) = w6 at *
        obtain ⟨a0, a1, a2, a3, a4, a5⟩ := HH.out.b.cells
        simp only at a0 a1 a2 a3 a4 a5
        go_wp2_with fail
        refine (HAD.out A3 c3 w6 HO.out.chs).mono ?_
        rintro e w7 ⟨rfl, hb7⟩
        have HH := LH (HH.out.next hb7)
        have HO := LH (HO.out.later hb7)
        clear hb7 a0 a1 a2 a3 a4 a5
        obtain ⟨a0, a1, a2, a3, a4, a5⟩ := HH.out.b.cells
        simp only at a0 a1 a2 a3 a4 a5
        have bf := HH.out.b.free
        go_upto_region 15 with fail
        have HO := LH (HO.out.apart w.heap.size 0 (.int .i64 2) (by omega))
        have HH := LH (HH.out.put0 2)
        clear bf a0 a1 a2 a3 a4 a5
        generalize w7.setCell ⟨w.heap.size, 0, none⟩ (.int .i64 2) = w8 at *
        obtain ⟨a0, a1, a2, a3, a4, a5⟩ := HH.out.b.cells
        simp only at a0 a1 a2 a3 a4 a5
        obtain ⟨p0, p1, p2, p3, p4, p5⟩ := HH.out.o.cells
        have pf := HH.out.o.free
        go_wp2
        refine bodyPost_ret (results_cell_tmp rfl _ _ (w.heap.size + 1) _ _ _ _ rfl (HH.out.out 2 r.buf.next (.slice A3 L.length c3) r.fin r.hi r.code L HO.out).1 Tryz.underlying40 rfl (by kernel_rfl)) rfl ?_
        exact ⟨_, rfl, (HH.out.out 2 r.buf.next (.slice A3 L.length c3) r.fin r.hi r.code L HO.out).2.1, (HH.out.out 2 r.buf.next (.slice A3 L.length c3) r.fin r.hi r.code L HO.out).2.2⟩
      · have HAD : Hid (∀ A3 c3 W, Chs W W.heap.size A3 L → Calls Tryz.prog 53 #[rcV ⟨r.st, ⟨r.buf.next, L⟩, r.fin, r.hi, r.code⟩ (.slice A3 L.length c3)] W fun e w' => e = .returned (.bool false) ∧ Below W.heap.size W w') := LH fun A3 c3 W h => by
          have h9 := iall ⟨r.st, ⟨r.buf.next, L⟩, r.fin, r.hi, r.code⟩ A3 c3 W.heap.size W (Nat.le_refl _) h (by show L.length ≤ _; omega) hinb (HX _ _ _ (by omega) (.inr rfl) (.inr rfl)) hokb
          rw [decide_eq_false hfu] at h9
          exact h9
        rw [show fillRc ⟨r.st, ⟨r.buf.next, L⟩, r.fin, r.hi, r.code⟩ = ⟨r.st, ⟨r.buf.next, L⟩, r.fin, r.hi, r.code⟩ from if_neg hfu]
        dsimp only
        clear hfu HX hok h0 h1 hb hs hnn hex hst hokb hlen hinb hhi hE hr hi hx hn hn1
        go_enter Tryz.func16, Tryz.ntmps16
        obtain ⟨a0, a1, a2, a3, a4, a5⟩ := HH.out.b.cells
        go_wp2_with fail
        refine (HIR.out _ HH.out.bl).mono ?_
        rintro e w1 ⟨rfl, hb1⟩
        have HH := LH (HH.out.next hb1)
        clear hb1 a0 a1 a2 a3 a4 a5
        obtain ⟨a0, a1, a2, a3, a4, a5⟩ := HH.out.b.cells
        go_wp2_with fail
        refine (HFI.out _).mono ?_
        rintro e w1 ⟨rfl, rfl⟩
        clear a0 a1 a2 a3 a4 a5
        obtain ⟨a0, a1, a2, a3, a4, a5⟩ := HH.out.b.cells
        go_wp2_with fail
        refine (HEX.out _ HH.out.bl).mono ?_
        rintro e w1 ⟨rfl, hb1⟩
        have HH := LH (HH.out.next hb1)
        clear hb1 a0 a1 a2 a3 a4 a5
        obtain ⟨a0, a1, a2, a3, a4, a5⟩ := HH.out.b.cells
        go_wp2_with fail
        refine (HUN.out _ HH.out.bl).mono ?_
        rintro e w1 ⟨rfl, hb1⟩
        have HH := LH (HH.out.next hb1)
        clear hb1 a0 a1 a2 a3 a4 a5
        obtain ⟨a0, a1, a2, a3, a4, a5⟩ := HH.out.b.cells
        have bf := HH.out.b.free
        go_upto_region 9 with fail
        have HH := LH (HH.out.put4 r.hi)
        clear bf a0 a1 a2 a3 a4 a5
        rw [M9.out]
        generalize w1.setCell ⟨w.heap.size, 4, none⟩ (.int .i64 r.hi) = w2 at *
        obtain ⟨a0, a1, a2, a3, a4, a5⟩ := HH.out.b.cells
        simp only at a0 a1 a2 a3 a4 a5
        go_wp2_with fail
        refine (HIN.out _ HH.out.bl).mono ?_
        rintro e w5 ⟨v5, rfl, ho5, hb5⟩
        have HO := LH (ho5.weaken (base' := w.heap.size + 2) HH.out.o.lt)
        have HH := LH (HH.out.next hb5)
        obtain ⟨A3, c3, rfl, _, _⟩ := HO.out.frs
        clear ho5 hb5 a0 a1 a2 a3 a4 a5
        obtain ⟨a0, a1, a2, a3, a4, a5⟩ := HH.out.b.cells
        simp only at a0 a1 a2 a3 a4 a5
        have bf := HH.out.b.free
        go_upto_region 13 with fail
        have HO := LH ((HO.out.apart w.heap.size 1 (.int .i64 r.buf.next) (by omega)).apart w.heap.size 2 (.slice A3 L.length c3) (by omega))
        have HH := LH (HH.out.putB r.buf.next L (.slice A3 L.length c3))
        clear bf a0 a1 a2 a3 a4 a5
        generalize (w5.setCell ⟨w.heap.size, 1, none⟩ (.int .i64 r.buf.next)).setCell ⟨w.heap.size, 2, none⟩ (.slice A3 L.length c3) = w6 at *
        obtain ⟨a0, a1, a2, a3, a4, a5⟩ := HH.out.b.cells
        simp only at a0 a1 a2 a3 a4 a5
        go_wp2_with fail
        refine (HAD.out A3 c3 w6 HO.out.chs).mono ?_
        rintro e w7 ⟨rfl, hb7⟩
        have HH := LH (HH.out.next hb7)
        have HO := LH (HO.out.later hb7)
        clear hb7 a0 a1 a2 a3 a4 a5
        obtain ⟨a0, a1, a2, a3, a4, a5⟩ := HH.out.b.cells
        simp only at a0 a1 a2 a3 a4 a5
        obtain ⟨p0, p1, p2, p3, p4, p5⟩ := HH.out.o.cells
        have pf := HH.out.o.free
        go_wp2
        refine bodyPost_ret (results_cell_tmp rfl _ _ (w.heap.size + 1) _ _ _ _ rfl (HH.out.out r.st r.buf.next (.slice A3 L.length c3) r.fin r.hi r.code L HO.out).1 Tryz.underlying40 rfl (by kernel_rfl)) rfl ?_
        exact ⟨_, rfl, (HH.out.out r.st r.buf.next (.slice A3 L.length c3) r.fin r.hi r.code L HO.out).2.1, (HH.out.out r.st r.buf.next (.slice A3 L.length c3) r.fin r.hi r.code L HO.out).2.2⟩
    | true =>
      rw [decide_eq_false (show ¬ (n < r.hi ∨ (r.fin ≠ -1 ∧ n ≠ r.fin)) from fun h => hb (bad_true.2 h))] at HCO
      simp only [if_true]
      by_cases hfu : fullRc ⟨1, ⟨r.buf.next, L⟩, n, r.hi, r.code⟩
      · have HAD : Hid (∀ A3 c3 W, Chs W W.heap.size A3 L → Calls Tryz.prog 53 #[rcV ⟨1, ⟨r.buf.next, L⟩, n, r.hi, r.code⟩ (.slice A3 L.length c3)] W fun e w' => e = .returned (.bool true) ∧ Below W.heap.size W w') := LH fun A3 c3 W h => by
          have h9 := iall ⟨1, ⟨r.buf.next, L⟩, n, r.hi, r.code⟩ A3 c3 W.heap.size W (Nat.le_refl _) h (by show L.length ≤ _; omega) hinb (HX _ _ _ (by omega) (.inl rfl) (.inr rfl)) hokb
          rw [decide_eq_true hfu] at h9
          exact h9
        rw [show fillRc ⟨1, ⟨r.buf.next, L⟩, n, r.hi, r.code⟩ = ⟨2, ⟨r.buf.next, L⟩, n, r.hi, r.code⟩ from if_pos hfu]
        dsimp only
        clear hfu HX hok h0 h1 hb hs hnn hex hst hokb hlen hinb hhi hE hr hi hx hn hn1
        go_enter Tryz.func16, Tryz.ntmps16
        obtain ⟨a0, a1, a2, a3, a4, a5⟩ := HH.out.b.cells
        go_wp2_with fail
        refine (HIR.out _ HH.out.bl).mono ?_
        rintro e w1 ⟨rfl, hb1⟩
        have HH := LH (HH.out.next hb1)
        clear hb1 a0 a1 a2 a3 a4 a5
        obtain ⟨a0, a1, a2, a3, a4, a5⟩ := HH.out.b.cells
        go_wp2_with fail
        refine (HFI.out _).mono ?_
        rintro e w1 ⟨rfl, rfl⟩
        clear a0 a1 a2 a3 a4 a5
        obtain ⟨a0, a1, a2, a3, a4, a5⟩ := HH.out.b.cells
        go_wp2_with fail
        refine (HEX.out _ HH.out.bl).mono ?_
        rintro e w1 ⟨rfl, hb1⟩
        have HH := LH (HH.out.next hb1)
        clear hb1 a0 a1 a2 a3 a4 a5
        obtain ⟨a0, a1, a2, a3, a4, a5⟩ := HH.out.b.cells
        go_wp2_with fail
        refine (HCO.out _ HH.out.bl).mono ?_
        rintro e w1 ⟨rfl, hb1⟩
        have HH := LH (HH.out.next hb1)
        clear hb1 a0 a1 a2 a3 a4 a5
        obtain ⟨a0, a1, a2, a3, a4, a5⟩ := HH.out.b.cells
        go_wp2_with fail
        refine (HUN.out _ HH.out.bl).mono ?_
        rintro e w1 ⟨rfl, hb1⟩
        have HH := LH (HH.out.next hb1)
        clear hb1 a0 a1 a2 a3 a4 a5
        obtain ⟨a0, a1, a2, a3, a4, a5⟩ := HH.out.b.cells
        have bf := HH.out.b.free
        go_upto_region 9 with fail
        have HH := LH (HH.out.put4 r.hi)
        clear bf a0 a1 a2 a3 a4 a5
        rw [M9.out]
        generalize w1.setCell ⟨w.heap.size, 4, none⟩ (.int .i64 r.hi) = w2 at *
        obtain ⟨a0, a1, a2, a3, a4, a5⟩ := HH.out.b.cells
        simp only at a0 a1 a2 a3 a4 a5
        have bf := HH.out.b.free
        go_upto_region 11 with fail
        have HH := LH (HH.out.put3 n)
        clear bf a0 a1 a2 a3 a4 a5
        generalize w2.setCell ⟨w.heap.size, 3, none⟩ (.int .i64 n) = w3 at *
        obtain ⟨a0, a1, a2, a3, a4, a5⟩ := HH.out.b.cells
        simp only at a0 a1 a2 a3 a4 a5
        have bf := HH.out.b.free
        go_upto_region 12 with fail
        have HH := LH (HH.out.put0 1)
        clear bf a0 a1 a2 a3 a4 a5
        generalize w3.setCell ⟨w.heap.size, 0, none⟩ (.int .i64 1) = w2 at *
        obtain ⟨a0, a1, a2, a3, a4, a5⟩ := HH.out.b.cells
        simp only at a0 a1 a2 a3 a4 a5
        go_wp2_with fail
        refine (HIN.out _ HH.out.bl).mono ?_
        rintro e w5 ⟨v5, rfl, ho5, hb5⟩
        have HO := LH (ho5.weaken (base' := w.heap.size + 2) HH.out.o.lt)
        have HH := LH (HH.out.next hb5)
        obtain ⟨A3, c3, rfl, _, _⟩ := HO.out.frs
        clear ho5 hb5 a0 a1 a2 a3 a4 a5
        obtain ⟨a0, a1, a2, a3, a4, a5⟩ := HH.out.b.cells
        simp only at a0 a1 a2 a3 a4 a5
        have bf := HH.out.b.free
        go_upto_region 13 with fail
        have HO := LH ((HO.out.apart w.heap.size 1 (.int .i64 r.buf.next) (by omega)).apart w.heap.size 2 (.slice A3 L.length c3) (by omega))
        have HH := LH (HH.out.putB r.buf.next L (.slice A3 L.length c3))
        clear bf a0 a1 a2 a3 a4 a5
        generalize (w5.setCell ⟨w.heap.size, 1, none⟩ (.int .i64 r.buf.next)).setCell ⟨w.heap.size, 2, none⟩ (.slice A3 L.length c3) = w6 at *
        obtain ⟨a0, a1, a2, a3, a4, a5⟩ := HH.out.b.cells
        simp only at a0 a1 a2 a3 a4 a5
        go_wp2_with fail
        refine (HAD.out A3 c3 w6 HO.out.chs).mono ?_
        rintro e w7 ⟨rfl, hb7⟩
        have HH := LH (HH.out.next hb7)
        have HO := LH (HO.out.later hb7)
        clear hb7 a0 a1 a2 a3 a4 a5
        obtain ⟨a0, a1, a2, a3, a4, a5⟩ := HH.out.b.cells
        simp only at a0 a1 a2 a3 a4 a5
        have bf := HH.out.b.free
        go_upto_region 15 with fail
        have HO := LH (HO.out.apart w.heap.size 0 (.int .i64 2) (by omega))
        have HH := LH (HH.out.put0 2)
        clear bf a0 a1 a2 a3 a4 a5
        generalize w7.setCell ⟨w.heap.size, 0, none⟩ (.int .i64 2) = w8 at *
        obtain ⟨a0, a1, a2, a3, a4, a5⟩ := HH.out.b.cells
        simp only at a0 a1 a2 a3 a4 a5
        obtain ⟨p0, p1, p2, p3, p4, p5⟩ := HH.out.o.cells
        have pf := HH.out.o.free
        go_wp2
        refine bodyPost_ret (results_cell_tmp rfl _ _ (w.heap.size + 1) _ _ _ _ rfl (HH.out.out 2 r.buf.next (.slice A3 L.length c3) n r.hi r.code L HO.out).1 Tryz.underlying40 rfl (by kernel_rfl)) rfl ?_
        exact ⟨_, rfl, (HH.out.out 2 r.buf.next (.slice A3 L.length c3) n r.hi r.code L HO.out).2.1, (HH.out.out 2 r.buf.next (.slice A3 L.length c3) n r.hi r.code L HO.out).2.2⟩
      · have HAD : Hid (∀ A3 c3 W, Chs W W.heap.size A3 L → Calls Tryz.prog 53 #[rcV ⟨1, ⟨r.buf.next, L⟩, n, r.hi, r.code⟩ (.slice A3 L.length c3)] W fun e w' => e = .returned (.bool false) ∧ Below W.heap.size W w') := LH fun A3 c3 W h => by
          have h9 := iall ⟨1, ⟨r.buf.next, L⟩, n, r.hi, r.code⟩ A3 c3 W.heap.size W (Nat.le_refl _) h (by show L.length ≤ _; omega) hinb (HX _ _ _ (by omega) (.inl rfl) (.inr rfl)) hokb
          rw [decide_eq_false hfu] at h9
          exact h9
        rw [show fillRc ⟨1, ⟨r.buf.next, L⟩, n, r.hi, r.code⟩ = ⟨1, ⟨r.buf.next, L⟩, n, r.hi, r.code⟩ from if_neg hfu]
        dsimp only
        clear hfu HX hok h0 h1 hb hs hnn hex hst hokb hlen hinb hhi hE hr hi hx hn hn1
        go_enter Tryz.func16, Tryz.ntmps16
        obtain ⟨a0, a1, a2, a3, a4, a5⟩ := HH.out.b.cells
        go_wp2_with fail
        refine (HIR.out _ HH.out.bl).mono ?_
        rintro e w1 ⟨rfl, hb1⟩
        have HH := LH (HH.out.next hb1)
        clear hb1 a0 a1 a2 a3 a4 a5
        obtain ⟨a0, a1, a2, a3, a4, a5⟩ := HH.out.b.cells
        go_wp2_with fail
        refine (HFI.out _).mono ?_
        rintro e w1 ⟨rfl, rfl⟩
        clear a0 a1 a2 a3 a4 a5
        obtain ⟨a0, a1, a2, a3, a4, a5⟩ := HH.out.b.cells
        go_wp2_with fail
        refine (HEX.out _ HH.out.bl).mono ?_
        rintro e w1 ⟨rfl, hb1⟩
        have HH := LH (HH.out.next hb1)
        clear hb1 a0 a1 a2 a3 a4 a5
        obtain ⟨a0, a1, a2, a3, a4, a5⟩ := HH.out.b.cells
        go_wp2_with fail
        refine (HCO.out _ HH.out.bl).mono ?_
        rintro e w1 ⟨rfl, hb1⟩
        have HH := LH (HH.out.next hb1)
        clear hb1 a0 a1 a2 a3 a4 a5
        obtain ⟨a0, a1, a2, a3, a4, a5⟩ := HH.out.b.cells
        go_wp2_with fail
        refine (HUN.out _ HH.out.bl).mono ?_
        rintro e w1 ⟨rfl, hb1⟩
        have HH := LH (HH.out.next hb1)
        clear hb1 a0 a1 a2 a3 a4 a5
        obtain ⟨a0, a1, a2, a3, a4, a5⟩ := HH.out.b.cells
        have bf := HH.out.b.free
        go_upto_region 9 with fail
        have HH := LH (HH.out.put4 r.hi)
        clear bf a0 a1 a2 a3 a4 a5
        rw [M9.out]
        generalize w1.setCell ⟨w.heap.size, 4, none⟩ (.int .i64 r.hi) = w2 at *
        obtain ⟨a0, a1, a2, a3, a4, a5⟩ := HH.out.b.cells
        simp only at a0 a1 a2 a3 a4 a5
        have bf := HH.out.b.free
        go_upto_region 11 with fail
        have HH := LH (HH.out.put3 n)
        clear bf a0 a1 a2 a3 a4 a5
        generalize w2.setCell ⟨w.heap.size, 3, none⟩ (.int .i64 n) = w3 at *
        obtain ⟨a0, a1, a2, a3, a4, a5⟩ := HH.out.b.cells
        simp only at a0 a1 a2 a3 a4 a5
        have bf := HH.out.b.free
        go_upto_region 12 with fail
        have HH := LH (HH.out.put0 1)
        clear bf a0 a1 a2 a3 a4 a5
        generalize w3.setCell ⟨w.heap.size, 0, none⟩ (.int .i64 1) = w2 at *
        obtain ⟨a0, a1, a2, a3, a4, a5⟩ := HH.out.b.cells
        simp only at a0 a1 a2 a3 a4 a5
        go_wp2_with fail
        refine (HIN.out _ HH.out.bl).mono ?_
        rintro e w5 ⟨v5, rfl, ho5, hb5⟩
        have HO := LH (ho5.weaken (base' := w.heap.size + 2) HH.out.o.lt)
        have HH := LH (HH.out.next hb5)
        obtain ⟨A3, c3, rfl, _, _⟩ := HO.out.frs
        clear ho5 hb5 a0 a1 a2 a3 a4 a5
        obtain ⟨a0, a1, a2, a3, a4, a5⟩ := HH.out.b.cells
        simp only at a0 a1 a2 a3 a4 a5
        have bf := HH.out.b.free
        go_upto_region 13 with fail
        have HO := LH ((HO.out.apart w.heap.size 1 (.int .i64 r.buf.next) (by omega)).apart w.heap.size 2 (.slice A3 L.length c3) (by omega))
        have HH := LH (HH.out.putB r.buf.next L (.slice A3 L.length c3))
        clear bf a0 a1 a2 a3 a4 a5
        generalize (w5.setCell ⟨w.heap.size, 1, none⟩ (.int .i64 r.buf.next)).setCell ⟨w.heap.size, 2, none⟩ (.slice A3 L.length c3) = w6 at *
        obtain ⟨a0, a1, a2, a3, a4, a5⟩ := HH.out.b.cells
        simp only at a0 a1 a2 a3 a4 a5
        go_wp2_with fail
        refine (HAD.out A3 c3 w6 HO.out.chs).mono ?_
        rintro e w7 ⟨rfl, hb7⟩
        have HH := LH (HH.out.next hb7)
        have HO := LH (HO.out.later hb7)
        clear hb7 a0 a1 a2 a3 a4 a5
        obtain ⟨a0, a1, a2, a3, a4, a5⟩ := HH.out.b.cells
        simp only at a0 a1 a2 a3 a4 a5
        obtain ⟨p0, p1, p2, p3, p4, p5⟩ := HH.out.o.cells
        have pf := HH.out.o.free
        go_wp2
        refine bodyPost_ret (results_cell_tmp rfl _ _ (w.heap.size + 1) _ _ _ _ rfl (HH.out.out 1 r.buf.next (.slice A3 L.length c3) n r.hi r.code L HO.out).1 Tryz.underlying40 rfl (by kernel_rfl)) rfl ?_
        exact ⟨_, rfl, (HH.out.out 1 r.buf.next (.slice A3 L.length c3) n r.hi r.code L HO.out).2.1, (HH.out.out 1 r.buf.next (.slice A3 L.length c3) n r.hi r.code L HO.out).2.2⟩
theorem ircvrc (r : Rc) (o : Int) (d : ByteArray) (f : Bool) (A : Option Addr) (cap B : Nat) (w : World) (hB : B ≤ w.heap.size) (hr : Chs w B A r.buf.chs) (hn : r.buf.chs.length ≤ 1048576) (hcap : r.buf.chs.length ≤ cap) (hi : inB r.buf.chs) (hx : inRc r) (ho : -9223372036854775808 ≤ o ∧ o ≤ 9223372036854775807) (hsum : sumC r.buf.chs + d.size ≤ 2097152) :
    Calls Tryz.prog 16 #[rcV r (.slice A r.buf.chs.length cap), .int .i64 o, .string d, .bool f] w fun e w' => ∃ v, e = .returned (.tuple #[rcV (rcvRc r o d f).1 v, .int .i64 (rcvRc r o d f).2]) ∧ OwnX w' w.heap.size v (rcvRc r o d f).1.buf.chs ∧ Below w.heap.size w w' := by
  by_cases hin : okRc r ∧ 0 ≤ o ∧ o ≤ 4611686018427387903 - (d.size : Int)
  · by_cases hb : badRc r (o + d.size) f
    · exact ircv_no r o d f A cap B w hB hr hn hcap hi hx ho hsum (.inr (.inl hb))
    · by_cases hs : 1 < r.st
      · exact ircv_no r o d f A cap B w hB hr hn hcap hi hx ho hsum (.inr (.inr hs))
      · exact ircv_yes r o d f A cap B w hB hr hn hcap hi hx ho hsum hin.1 hin.2.1 hin.2.2 hb hs
  · exact ircv_no r o d f A cap B w hB hr hn hcap hi hx ho hsum (.inl hin)
end Go.Proofs.YtdaoaedkjoknmaaGreat
