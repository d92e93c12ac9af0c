/-
  Contracts and lemmas for the law on draining.
-/
import Derived.Test.YtdaoaedkjoknmaaGreatDrZ0
import Derived.Test.YtdaoaedkjoknmaaGreatDrZ36
import Derived.Test.YtdaoaedkjoknmaaGreatDrZ6
import Derived.Test.YtdaoaedkjoknmaaGreatDrZ17
set_option maxRecDepth 1000000
set_option maxHeartbeats 8000000
namespace Go.Proofs.YtdaoaedkjoknmaaGreat
open Go.RowKit Go.Deep Go.Proofs.YtdaoaedkjoknmaaGreat.Num

theorem iisnd (s : Sn) (A1 A2 A3 A4 : Option Addr) (c1 c2 c3 c4 B : Nat) (w : World) (hB : B ≤ w.heap.size) (hr : ReadS w B A1 A2 A3 A4 s) (hn : LenS 1000000000 s) (hn2 : LenT s) (hc : CapT s c2 c3 c4) (hx : inRn s.rn) :
    Calls Tryz.prog 36 #[snV s (.slice A1 s.rn.cs.length c1) (.slice A2 s.pe.length c2) (.slice A3 s.fl.length c3) (.slice A4 s.ac.length c4)] w fun e w' => e = .returned (.bool (decide (docSn s ∧ s.st ≤ 2))) ∧ Below w.heap.size w w' := by
  have HH := LH (InBS.start w s (.slice A1 s.rn.cs.length c1) (.slice A2 s.pe.length c2) (.slice A3 s.fl.length c3) (.slice A4 s.ac.length c4))
  have HIS : Hid (∀ W, Below w.heap.size w W → Calls Tryz.prog 24 #[snV s (.slice A1 s.rn.cs.length c1) (.slice A2 s.pe.length c2) (.slice A3 s.fl.length c3) (.slice A4 s.ac.length c4)] W fun e w' => e = .returned (.bool (decide (docSn s))) ∧ Below W.heap.size W w') := LH fun W h => iissn s A1 A2 A3 A4 c1 c2 c3 c4 B W (Nat.le_trans hB h.size) (hr.below hB h) hn hn2 hc hx
  clear hr hn hn2 hc hx
  by_cases h0 : docSn s
  rotate_left
  · have HV : Hid (decide (docSn s ∧ s.st ≤ 2) = false) := LH (decide_eq_false fun k => h0 k.1)
    rw [decide_eq_false h0] at HIS
    clear h0
    go_enter Tryz.func36, Tryz.ntmps36
    obtain ⟨a0, a1, a2, a3, a4, a5, a6, a7, a8, a9, a10, a11⟩ := HH.out.1.cells
    go_wp2_with fail
    refine (HIS.out _ HH.out.2).mono ?_
    rintro e w1 ⟨rfl, hb1⟩
    have HH := LH (HH.out.next hb1)
    clear hb1 a0 a1 a2 a3 a4 a5 a6 a7 a8 a9 a10 a11
    obtain ⟨a0, a1, a2, a3, a4, a5, a6, a7, a8, a9, a10, a11⟩ := HH.out.1.cells
    go_wp2
    go_ret
    exact ⟨by rw [HV.out]; rfl, HH.out.2⟩
  rw [decide_eq_true h0] at HIS
  by_cases h1 : s.st ≤ 2
  rotate_left
  · have HV : Hid (decide (docSn s ∧ s.st ≤ 2) = false) := LH (decide_eq_false fun k => h1 k.2)
    have d1 : decide (s.st ≤ 2) = false := decide_eq_false h1
    clear h0 h1
    go_enter Tryz.func36, Tryz.ntmps36
    obtain ⟨a0, a1, a2, a3, a4, a5, a6, a7, a8, a9, a10, a11⟩ := HH.out.1.cells
    go_wp2_with fail
    refine (HIS.out _ HH.out.2).mono ?_
    rintro e w1 ⟨rfl, hb1⟩
    have HH := LH (HH.out.next hb1)
    clear hb1 a0 a1 a2 a3 a4 a5 a6 a7 a8 a9 a10 a11
    obtain ⟨a0, a1, a2, a3, a4, a5, a6, a7, a8, a9, a10, a11⟩ := HH.out.1.cells
    go_wp2
    go_ret
    exact ⟨by rw [HV.out]; rfl, HH.out.2⟩
  have d1 : decide (s.st ≤ 2) = true := decide_eq_true h1
  have HV : Hid (decide (docSn s ∧ s.st ≤ 2) = true) := LH (decide_eq_true ⟨h0, h1⟩)
  clear h0 h1
  go_enter Tryz.func36, Tryz.ntmps36
  obtain ⟨a0, a1, a2, a3, a4, a5, a6, a7, a8, a9, a10, a11⟩ := HH.out.1.cells
  go_wp2_with fail
  refine (HIS.out _ HH.out.2).mono ?_
  rintro e w1 ⟨rfl, hb1⟩
  have HH := LH (HH.out.next hb1)
  clear hb1 a0 a1 a2 a3 a4 a5 a6 a7 a8 a9 a10 a11
  obtain ⟨a0, a1, a2, a3, a4, a5, a6, a7, a8, a9, a10, a11⟩ := HH.out.1.cells
  go_wp2
  go_ret
  exact ⟨by rw [HV.out]; rfl, HH.out.2⟩
theorem iiswr (s : Sn) (A1 A2 A3 A4 : Option Addr) (c1 c2 c3 c4 B : Nat) (w : World) (hB : B ≤ w.heap.size) (hr : ReadS w B A1 A2 A3 A4 s) (hn : LenS 1000000000 s) (hn2 : LenT s) (hc : CapT s c2 c3 c4) (hx : inRn s.rn) :
    Calls Tryz.prog 29 #[snV s (.slice A1 s.rn.cs.length c1) (.slice A2 s.pe.length c2) (.slice A3 s.fl.length c3) (.slice A4 s.ac.length c4)] w fun e w' => e = .returned (.bool (decide (docSn s ∧ s.st ≤ 1 ∧ s.fin = -1))) ∧ Below w.heap.size w w' := by
  have HH := LH (InBS.start w s (.slice A1 s.rn.cs.length c1) (.slice A2 s.pe.length c2) (.slice A3 s.fl.length c3) (.slice A4 s.ac.length c4))
  have HIS : Hid (∀ W, Below w.heap.size w W → Calls Tryz.prog 24 #[snV s (.slice A1 s.rn.cs.length c1) (.slice A2 s.pe.length c2) (.slice A3 s.fl.length c3) (.slice A4 s.ac.length c4)] W fun e w' => e = .returned (.bool (decide (docSn s))) ∧ Below W.heap.size W w') := LH fun W h => iissn s A1 A2 A3 A4 c1 c2 c3 c4 B W (Nat.le_trans hB h.size) (hr.below hB h) hn hn2 hc hx
  clear hr hn hn2 hc hx
  by_cases h0 : docSn s
  rotate_left
  · have HV : Hid (decide (docSn s ∧ s.st ≤ 1 ∧ s.fin = -1) = false) := LH (decide_eq_false fun k => h0 k.1)
    rw [decide_eq_false h0] at HIS
    clear h0
    go_enter Tryz.func29, Tryz.ntmps29
    obtain ⟨a0, a1, a2, a3, a4, a5, a6, a7, a8, a9, a10, a11⟩ := HH.out.1.cells
    go_wp2_with fail
    refine (HIS.out _ HH.out.2).mono ?_
    rintro e w1 ⟨rfl, hb1⟩
    have HH := LH (HH.out.next hb1)
    clear hb1 a0 a1 a2 a3 a4 a5 a6 a7 a8 a9 a10 a11
    obtain ⟨a0, a1, a2, a3, a4, a5, a6, a7, a8, a9, a10, a11⟩ := HH.out.1.cells
    go_wp2
    go_ret
    exact ⟨by rw [HV.out]; rfl, HH.out.2⟩
  rw [decide_eq_true h0] at HIS
  by_cases h1 : s.st ≤ 1
  rotate_left
  · have HV : Hid (decide (docSn s ∧ s.st ≤ 1 ∧ s.fin = -1) = false) := LH (decide_eq_false fun k => h1 k.2.1)
    have d1 : decide (s.st ≤ 1) = false := decide_eq_false h1
    clear h0 h1
    go_enter Tryz.func29, Tryz.ntmps29
    obtain ⟨a0, a1, a2, a3, a4, a5, a6, a7, a8, a9, a10, a11⟩ := HH.out.1.cells
    go_wp2_with fail
    refine (HIS.out _ HH.out.2).mono ?_
    rintro e w1 ⟨rfl, hb1⟩
    have HH := LH (HH.out.next hb1)
    clear hb1 a0 a1 a2 a3 a4 a5 a6 a7 a8 a9 a10 a11
    obtain ⟨a0, a1, a2, a3, a4, a5, a6, a7, a8, a9, a10, a11⟩ := HH.out.1.cells
    go_wp2
    go_ret
    exact ⟨by rw [HV.out]; rfl, HH.out.2⟩
  have d1 : decide (s.st ≤ 1) = true := decide_eq_true h1
  by_cases h2 : s.fin = -1
  rotate_left
  · have HV : Hid (decide (docSn s ∧ s.st ≤ 1 ∧ s.fin = -1) = false) := LH (decide_eq_false fun k => h2 k.2.2)
    have d2 : (s.fin == -1) = false := by simpa using h2
    clear h0 h1 h2
    go_enter Tryz.func29, Tryz.ntmps29
    obtain ⟨a0, a1, a2, a3, a4, a5, a6, a7, a8, a9, a10, a11⟩ := HH.out.1.cells
    go_wp2_with fail
    refine (HIS.out _ HH.out.2).mono ?_
    rintro e w1 ⟨rfl, hb1⟩
    have HH := LH (HH.out.next hb1)
    clear hb1 a0 a1 a2 a3 a4 a5 a6 a7 a8 a9 a10 a11
    obtain ⟨a0, a1, a2, a3, a4, a5, a6, a7, a8, a9, a10, a11⟩ := HH.out.1.cells
    go_wp2
    go_ret
    exact ⟨by rw [HV.out]; rfl, HH.out.2⟩
  have d2 : (s.fin == -1) = true := by simpa using h2
  have HV : Hid (decide (docSn s ∧ s.st ≤ 1 ∧ s.fin = -1) = true) := LH (decide_eq_true ⟨h0, h1, h2⟩)
  clear h0 h1 h2
  go_enter Tryz.func29, Tryz.ntmps29
  obtain ⟨a0, a1, a2, a3, a4, a5, a6, a7, a8, a9, a10, a11⟩ := HH.out.1.cells
  go_wp2_with fail
  refine (HIS.out _ HH.out.2).mono ?_
  rintro e w1 ⟨rfl, hb1⟩
  have HH := LH (HH.out.next hb1)
  clear hb1 a0 a1 a2 a3 a4 a5 a6 a7 a8 a9 a10 a11
  obtain ⟨a0, a1, a2, a3, a4, a5, a6, a7, a8, a9, a10, a11⟩ := HH.out.1.cells
  go_wp2
  go_ret
  exact ⟨by rw [HV.out]; rfl, HH.out.2⟩
theorem irepf (s : Sn) (p : Pc) (k : Int) (v1 v2 v3 v4 : Value) (w : World) :
    Calls Tryz.prog 45 #[snV s v1 v2 v3 v4, pcV p, .int .i64 k] w fun e w' => e = .returned (.int .i64 (if p.fin = true ∧ s.fi = 2 then k else s.fi)) ∧ Below w.heap.size w w' := by
  obtain ⟨po, pd, pf⟩ := p
  have HH := LH (InSP.start w s v1 v2 v3 v4 ⟨po, pd, pf⟩)
  cases pf
  · rw [if_neg (fun k => by cases k.1)]
    go_enter Tryz.func45, Tryz.ntmps45
    obtain ⟨⟨a0, a1, a2, a3, a4, a5, a6, a7, a8, a9, a10, a11⟩, ⟨p0, p1, p2⟩, _⟩ := HH.out
    go_wp2
    go_ret
    exact ⟨rfl, HH.out.2.2⟩
  by_cases h4 : s.fi = 2
  · have t4 : (s.fi == 2) = true := by simpa using h4
    rw [if_pos ⟨rfl, h4⟩]
    clear h4
    go_enter Tryz.func45, Tryz.ntmps45
    obtain ⟨⟨a0, a1, a2, a3, a4, a5, a6, a7, a8, a9, a10, a11⟩, ⟨p0, p1, p2⟩, _⟩ := HH.out
    go_wp2
    go_ret
    exact ⟨rfl, HH.out.2.2⟩
  · have t4 : (s.fi == 2) = false := by simpa using h4
    rw [if_neg (fun k => h4 k.2)]
    clear h4
    go_enter Tryz.func45, Tryz.ntmps45
    obtain ⟨⟨a0, a1, a2, a3, a4, a5, a6, a7, a8, a9, a10, a11⟩, ⟨p0, p1, p2⟩, _⟩ := HH.out
    go_wp2
    go_ret
    exact ⟨rfl, HH.out.2.2⟩
theorem IrS.startT (w : World) (s : Sn) (v1 v2 v3 v4 y2 y3 y4 : Value) : IrS w 3 (w.heap.size + 2) (fun _ => some (.cells #[y2, y3, y4] 75 (0, 0))) s v1 v2 v3 v4 (((w.alloc (.cells (snB s v1 v2 v3 v4) 29)).alloc (.cells #[y2, y3, y4] 75)).alloc (.cells (snC 0 0 0 0 (.slice none 0 0) (.slice none 0 0) (.slice none 0 0) (.slice none 0 0) 0 0 0 0) 29)) := by
  have h1 : ∀ o1, (w.alloc o1).heap.size = w.heap.size + 1 := fun _ => by simp
  have h2 : ∀ o1 o2, ((w.alloc o1).alloc o2).heap.size = w.heap.size + 2 := fun _ _ => by simp
  refine ⟨((RowS.new w _ _ _ _ _).alloc _).alloc _, ?_, (((Below.refl _ _).alloc (Nat.le_refl _) _).alloc (by rw [h1]; exact Nat.le_succ _) _).alloc (by rw [h2]; omega) _, by simp, by omega, fun k a b => ?_⟩
  · have h := RowS.new ((w.alloc (.cells (snB s v1 v2 v3 v4) 29)).alloc (.cells #[y2, y3, y4] 75)) zeroS (.slice none 0 0) (.slice none 0 0) (.slice none 0 0) (.slice none 0 0)
    rw [h2] at h
    exact h
  · obtain rfl : k = w.heap.size + 1 := by omega
    rw [heap_alloc_old _ _ (by rw [h2]; omega)]
    have h := heap_alloc_new (w.alloc (.cells (snB s v1 v2 v3 v4) 29)) (.cells #[y2, y3, y4] 75)
    rw [h1] at h
    exact h
theorem IrS.tc {w : World} {y2 y3 y4 : Value} {s : Sn} {v1 v2 v3 v4 : Value} {W : World} (h : IrS w 3 (w.heap.size + 2) (fun _ => some (.cells #[y2, y3, y4] 75 (0, 0))) s v1 v2 v3 v4 W) : W.cell? ⟨w.heap.size + 1, 0, none⟩ = some y2 ∧ W.cell? ⟨w.heap.size + 1, 1, none⟩ = some y3 ∧ W.cell? ⟨w.heap.size + 1, 2, none⟩ = some y4 :=
  have x := h.kp (w.heap.size + 1) (by omega) (by omega)
  ⟨cell_of_row W (w.heap.size + 1) 0 _ _ _ x, cell_of_row W (w.heap.size + 1) 1 _ _ _ x, cell_of_row W (w.heap.size + 1) 2 _ _ _ x⟩
theorem ifollow (s : Sn) (A1 A2 A3 A4 Y2 Y3 Y4 : Option Addr) (c1 c2 c3 c4 e2 e3 e4 : Nat) (l2 l3 l4 : List Rg) (w : World) (hfi : 0 ≤ s.fi ∧ s.fi ≤ 3) :
    Calls Tryz.prog 44 #[snV s (.slice A1 s.rn.cs.length c1) (.slice A2 s.pe.length c2) (.slice A3 s.fl.length c3) (.slice A4 s.ac.length c4), .agg #[.slice Y2 l2.length e2, .slice Y3 l3.length e3, .slice Y4 l4.length e4]] w fun e w' => e = .returned (snV (fixS { s with pe := l2, fl := l3, ac := l4 }) (.slice A1 s.rn.cs.length c1) (.slice Y2 l2.length e2) (.slice Y3 l3.length e3) (.slice Y4 l4.length e4)) ∧ Below w.heap.size w w' := by
  have HH := LH (IrS.startT w s (.slice A1 s.rn.cs.length c1) (.slice A2 s.pe.length c2) (.slice A3 s.fl.length c3) (.slice A4 s.ac.length c4) (.slice Y2 l2.length e2) (.slice Y3 l3.length e3) (.slice Y4 l4.length e4))
  have HST : Hid (∀ (v1 v2 v3 v4 : Value) (W : World), Calls Tryz.prog 103 #[snV { s with pe := l2, fl := l3, ac := l4 } v1 v2 v3 v4] W fun e w' => e = .returned (.int .i64 (folS { s with pe := l2, fl := l3, ac := l4 })) ∧ Below W.heap.size W w') := LH fun v1 v2 v3 v4 W => istateS { s with pe := l2, fl := l3, ac := l4 } v1 v2 v3 v4 W hfi
  rw [show fixS { s with pe := l2, fl := l3, ac := l4 } = { s with pe := l2, fl := l3, ac := l4, st := folS { s with pe := l2, fl := l3, ac := l4 } } from rfl]
  generalize folS { s with pe := l2, fl := l3, ac := l4 } = f0 at *
  clear hfi
  go_enter Tryz.func44, Tryz.ntmps44
  go_upto_region 1 with fail
  generalize ((w.alloc (.cells (snB s (.slice A1 s.rn.cs.length c1) (.slice A2 s.pe.length c2) (.slice A3 s.fl.length c3) (.slice A4 s.ac.length c4)) 29)).alloc (.cells #[.slice Y2 l2.length e2, .slice Y3 l3.length e3, .slice Y4 l4.length e4] 75)).alloc (.cells (snC 0 0 0 0 (.slice none 0 0) (.slice none 0 0) (.slice none 0 0) (.slice none 0 0) 0 0 0 0) 29) = w2 at *
  obtain ⟨a0, a1, a2, a3, a4, a5, a6, a7, a8, a9, a10, a11⟩ := HH.out.b.cells
  obtain ⟨t0, t1, t2⟩ := HH.out.tc
  have af := HH.out.b.free
  go_upto_region 2 with fail
  have HH := LH (HH.out.putc 5 (.slice Y2 l2.length e2) (HH.out.b.set5 (.slice Y2 l2.length e2) l2))
  clear a0 a1 a2 a3 a4 a5 a6 a7 a8 a9 a10 a11 t0 t1 t2 af
  generalize w2.setCell ⟨w.heap.size, 5, none⟩ (.slice Y2 l2.length e2) = w3 at *
  obtain ⟨a0, a1, a2, a3, a4, a5, a6, a7, a8, a9, a10, a11⟩ := HH.out.b.cells
  obtain ⟨t0, t1, t2⟩ := HH.out.tc
  have af := HH.out.b.free
  go_upto_region 3 with fail
  have HH := LH (HH.out.putc 6 (.slice Y3 l3.length e3) (HH.out.b.set6 (.slice Y3 l3.length e3) l3))
  clear a0 a1 a2 a3 a4 a5 a6 a7 a8 a9 a10 a11 t0 t1 t2 af
  generalize w3.setCell ⟨w.heap.size, 6, none⟩ (.slice Y3 l3.length e3) = w4 at *
  obtain ⟨a0, a1, a2, a3, a4, a5, a6, a7, a8, a9, a10, a11⟩ := HH.out.b.cells
  obtain ⟨t0, t1, t2⟩ := HH.out.tc
  have af := HH.out.b.free
  go_upto_region 4 with fail
  have HH := LH (HH.out.putc 7 (.slice Y4 l4.length e4) (HH.out.b.set7 (.slice Y4 l4.length e4) l4))
  clear a0 a1 a2 a3 a4 a5 a6 a7 a8 a9 a10 a11 t0 t1 t2 af
  generalize w4.setCell ⟨w.heap.size, 7, none⟩ (.slice Y4 l4.length e4) = w5 at *
  obtain ⟨a0, a1, a2, a3, a4, a5, a6, a7, a8, a9, a10, a11⟩ := HH.out.b.cells
  (try simp only at a0 a1 a2 a3 a4 a5 a6 a7 a8 a9 a10 a11)
  have af := HH.out.b.free
  go_wp2_with fail
  refine (HST.out _ _ _ _ w5).mono ?_
  rintro e w6 ⟨rfl, hb⟩
  have HH := LH (HH.out.next hb)
  clear hb a0 a1 a2 a3 a4 a5 a6 a7 a8 a9 a10 a11 af
  obtain ⟨a0, a1, a2, a3, a4, a5, a6, a7, a8, a9, a10, a11⟩ := HH.out.b.cells
  (try simp only at a0 a1 a2 a3 a4 a5 a6 a7 a8 a9 a10 a11)
  have af := HH.out.b.free
  go_upto_region 5 with fail
  have HH := LH (HH.out.putc 0 (.int .i64 f0) (HH.out.b.set0 f0))
  clear a0 a1 a2 a3 a4 a5 a6 a7 a8 a9 a10 a11 af
  generalize w6.setCell ⟨w.heap.size, 0, none⟩ (.int .i64 f0) = w7 at *
  obtain ⟨a0, a1, a2, a3, a4, a5, a6, a7, a8, a9, a10, a11⟩ := HH.out.b.cells
  (try simp only at a0 a1 a2 a3 a4 a5 a6 a7 a8 a9 a10 a11)
  obtain ⟨q0, q1, q2, q3, q4, q5, q6, q7, q8, q9, q10, q11⟩ := HH.out.o.cells
  have qf := HH.out.o.free
  go_wp2
  refine bodyPost_ret (results_cell_row rfl _ _ (w.heap.size + 2) _ _ _ _ rfl (laidS_row HH.out.o { s with pe := l2, fl := l3, ac := l4, st := f0 } (.slice A1 s.rn.cs.length c1) (.slice Y2 l2.length e2) (.slice Y3 l3.length e3) (.slice Y4 l4.length e4)) Tryz.underlying29 rfl (by kernel_rfl)) rfl ?_
  exact ⟨rfl, laidS_below HH.out.bl (Nat.le_add_right w.heap.size 2) { s with pe := l2, fl := l3, ac := l4, st := f0 } (.slice A1 s.rn.cs.length c1) (.slice Y2 l2.length e2) (.slice Y3 l3.length e3) (.slice Y4 l4.length e4)⟩
end Go.Proofs.YtdaoaedkjoknmaaGreat
