/-
  Contracts and lemmas for the law on draining.
-/
import Derived.Test.YtdaoaedkjoknmaaGreatDrZ0
import Derived.Test.YtdaoaedkjoknmaaGreatDrZ37
import Derived.Test.YtdaoaedkjoknmaaGreatDrZ29
import Derived.Test.YtdaoaedkjoknmaaGreatDrZ26
set_option maxRecDepth 1000000
set_option maxHeartbeats 8000000
namespace Go.Proofs.YtdaoaedkjoknmaaGreat
open Go.RowKit Go.Deep Go.Proofs.YtdaoaedkjoknmaaGreat.Num

theorem iclose (s : Sn) (A1 A2 A3 A4 : Option Addr) (c1 c2 c3 c4 B : Nat) (w : World) (hB : B ≤ w.heap.size) (hr : ReadS w B A1 A2 A3 A4 s) (hn : LenS 300000 s) (hx : inSn s) :
    Calls Tryz.prog 11 #[snV s (.slice A1 s.rn.cs.length c1) (.slice A2 s.pe.length c2) (.slice A3 s.fl.length c3) (.slice A4 s.ac.length c4)] w fun e w' => ∃ v1 v2 v3 v4, e = .returned (.tuple #[snV (clS (decide (docSn s)) s) v1 v2 v3 v4, .bool (decide (canW (decide (docSn s)) s))]) ∧ OwnSn w' w.heap.size v1 v2 v3 v4 (clS (decide (docSn s)) s) ∧ Below w.heap.size w w' := by
  have HH := LH (IrS.start w (fun _ => none) s (.slice A1 s.rn.cs.length c1) (.slice A2 s.pe.length c2) (.slice A3 s.fl.length c3) (.slice A4 s.ac.length c4))
  have HCP : Hid (∀ W, Below w.heap.size w W → Calls Tryz.prog 28 #[snV s (.slice A1 s.rn.cs.length c1) (.slice A2 s.pe.length c2) (.slice A3 s.fl.length c3) (.slice A4 s.ac.length c4)] W fun e w' => ∃ v1 v2 v3 v4, e = .returned (snV s v1 v2 v3 v4) ∧ OwnSn w' W.heap.size v1 v2 v3 v4 s ∧ Below W.heap.size W w') := LH fun W h => icloneS s A1 A2 A3 A4 c1 c2 c3 c4 B W (Nat.le_trans hB h.size) (hr.below hB h) (hn.up (by decide))
  have HWT : Hid (∀ (W : World) (B1 B2 B3 B4 : Option Addr) (d1 d2 d3 d4 : Nat), ReadS W W.heap.size B1 B2 B3 B4 s → CapT s d2 d3 d4 → Calls Tryz.prog 29 #[snV s (.slice B1 s.rn.cs.length d1) (.slice B2 s.pe.length d2) (.slice B3 s.fl.length d3) (.slice B4 s.ac.length d4)] W fun e w' => e = .returned (.bool (decide (docSn s ∧ s.st ≤ 1 ∧ s.fin = -1))) ∧ Below W.heap.size W w') := LH fun W B1 B2 B3 B4 d1 d2 d3 d4 h h2 => iiswr s B1 B2 B3 B4 d1 d2 d3 d4 W.heap.size W (Nat.le_refl _) h (hn.up (by decide)) (by unfold LenT; have := hn.2; omega) h2 hx.2.1
  clear hr hn hx
  by_cases hca : canW (decide (docSn s)) s
  rotate_left
  · have hcb : ¬ (docSn s ∧ s.st ≤ 1 ∧ s.fin = -1) := fun k => hca ⟨decide_eq_true k.1, k.2⟩
    rw [decide_eq_false hcb] at HWT
    rw [show clS (decide (docSn s)) s = s from if_neg hca, decide_eq_false hca]
    clear hcb hca
    go_enter Tryz.func11, Tryz.ntmps11
    go_upto_region 1 with fail
    generalize (w.alloc (.cells (snB s (.slice A1 s.rn.cs.length c1) (.slice A2 s.pe.length c2) (.slice A3 s.fl.length c3) (.slice A4 s.ac.length c4)) 29)).alloc (.cells (snC 0 0 0 0 (.slice none 0 0) (.slice none 0 0) (.slice none 0 0) (.slice none 0 0) 0 0 0 0) 29) = w2 at *
    obtain ⟨a0, a1, a2, a3, a4, a5, a6, a7, a8, a9, a10, a11⟩ := HH.out.b.cells
    have af := HH.out.b.free
    go_wp2_with fail
    refine (HCP.out _ HH.out.bl).mono ?_
    rintro e w3 ⟨u1, u2, u3, u4, rfl, ho, hb⟩
    have HO := LH (OrS.laid (HH.out.next hb) (ho.weaken HH.out.sz))
    have HH2 := LH (HH.out.next hb)
    obtain ⟨B1, B2, B3, B4, d1, d2, d3, d4, rfl, rfl, rfl, rfl, k1, k2, k3, k4⟩ := ho.frs
    have HCD : Hid (CapT s d2 d3 d4) := LH ⟨k2, k3, k4⟩
    clear ho hb k1 k2 k3 k4 a0 a1 a2 a3 a4 a5 a6 a7 a8 a9 a10 a11 af HCP
    obtain ⟨a0, a1, a2, a3, a4, a5, a6, a7, a8, a9, a10, a11⟩ := HH2.out.b.cells
    have af := HH2.out.b.free
    go_upto_region 2 with fail
    clear HH2 a0 a1 a2 a3 a4 a5 a6 a7 a8 a9 a10 a11 af
    generalize ((((((((((((w3.setCell ⟨w.heap.size, 0, none⟩ (.int .i64 s.st)).setCell ⟨w.heap.size, 1, none⟩ (.int .i64 s.rn.size)).setCell ⟨w.heap.size, 2, none⟩ (.int .i64 s.rn.base)).setCell ⟨w.heap.size, 3, none⟩ (.int .i64 s.rn.en)).setCell ⟨w.heap.size, 4, none⟩ (.slice B1 s.rn.cs.length d1)).setCell ⟨w.heap.size, 5, none⟩ (.slice B2 s.pe.length d2)).setCell ⟨w.heap.size, 6, none⟩ (.slice B3 s.fl.length d3)).setCell ⟨w.heap.size, 7, none⟩ (.slice B4 s.ac.length d4)).setCell ⟨w.heap.size, 8, none⟩ (.int .i64 s.fin)).setCell ⟨w.heap.size, 9, none⟩ (.int .i64 s.fi)).setCell ⟨w.heap.size, 10, none⟩ (.int .i64 s.sent)).setCell ⟨w.heap.size, 11, none⟩ (.int .i64 s.code)) = w4 at *
    obtain ⟨a0, a1, a2, a3, a4, a5, a6, a7, a8, a9, a10, a11⟩ := HO.out.1.b.cells
    go_wp2_with fail
    refine (HWT.out w4 B1 B2 B3 B4 d1 d2 d3 d4 HO.out.2.read HCD.out).mono ?_
    rintro e w5 ⟨rfl, hb⟩
    have HO := LH (HO.out.next hb)
    clear hb a0 a1 a2 a3 a4 a5 a6 a7 a8 a9 a10 a11 HWT
    obtain ⟨a0, a1, a2, a3, a4, a5, a6, a7, a8, a9, a10, a11⟩ := HO.out.1.b.cells
    (try simp only at a0 a1 a2 a3 a4 a5 a6 a7 a8 a9 a10 a11)
    obtain ⟨q0, q1, q2, q3, q4, q5, q6, q7, q8, q9, q10, q11⟩ := HO.out.1.o.cells
    have qf := HO.out.1.o.free
    go_wp2
    have X := HO.out.1.out _ _ _ _ _ HO.out.2
    refine bodyPost_ret (results_ct rfl _ _ (w.heap.size + 1) _ _ _ _ rfl X.1 Tryz.underlying29 rfl (by kernel_rfl)) rfl ?_
    exact ⟨_, _, _, _, rfl, X.2.1, X.2.2⟩
  have hcb : docSn s ∧ s.st ≤ 1 ∧ s.fin = -1 := ⟨of_decide_eq_true hca.1, hca.2⟩
  rw [decide_eq_true hcb] at HWT
  rw [show clS (decide (docSn s)) s = { s with fin := s.rn.en, fi := 1 } from if_pos hca, decide_eq_true hca]
  clear hcb hca
  go_enter Tryz.func11, Tryz.ntmps11
  go_upto_region 1 with fail
  generalize (w.alloc (.cells (snB s (.slice A1 s.rn.cs.length c1) (.slice A2 s.pe.length c2) (.slice A3 s.fl.length c3) (.slice A4 s.ac.length c4)) 29)).alloc (.cells (snC 0 0 0 0 (.slice none 0 0) (.slice none 0 0) (.slice none 0 0) (.slice none 0 0) 0 0 0 0) 29) = w2 at *
  obtain ⟨a0, a1, a2, a3, a4, a5, a6, a7, a8, a9, a10, a11⟩ := HH.out.b.cells
  have af := HH.out.b.free
  go_wp2_with fail
  refine (HCP.out _ HH.out.bl).mono ?_
  rintro e w3 ⟨u1, u2, u3, u4, rfl, ho, hb⟩
  have HO := LH (OrS.laid (HH.out.next hb) (ho.weaken HH.out.sz))
  have HH2 := LH (HH.out.next hb)
  obtain ⟨B1, B2, B3, B4, d1, d2, d3, d4, rfl, rfl, rfl, rfl, k1, k2, k3, k4⟩ := ho.frs
  have HCD : Hid (CapT s d2 d3 d4) := LH ⟨k2, k3, k4⟩
  clear ho hb k1 k2 k3 k4 a0 a1 a2 a3 a4 a5 a6 a7 a8 a9 a10 a11 af HCP
  obtain ⟨a0, a1, a2, a3, a4, a5, a6, a7, a8, a9, a10, a11⟩ := HH2.out.b.cells
  have af := HH2.out.b.free
  go_upto_region 2 with fail
  clear HH2 a0 a1 a2 a3 a4 a5 a6 a7 a8 a9 a10 a11 af
  generalize ((((((((((((w3.setCell ⟨w.heap.size, 0, none⟩ (.int .i64 s.st)).setCell ⟨w.heap.size, 1, none⟩ (.int .i64 s.rn.size)).setCell ⟨w.heap.size, 2, none⟩ (.int .i64 s.rn.base)).setCell ⟨w.heap.size, 3, none⟩ (.int .i64 s.rn.en)).setCell ⟨w.heap.size, 4, none⟩ (.slice B1 s.rn.cs.length d1)).setCell ⟨w.heap.size, 5, none⟩ (.slice B2 s.pe.length d2)).setCell ⟨w.heap.size, 6, none⟩ (.slice B3 s.fl.length d3)).setCell ⟨w.heap.size, 7, none⟩ (.slice B4 s.ac.length d4)).setCell ⟨w.heap.size, 8, none⟩ (.int .i64 s.fin)).setCell ⟨w.heap.size, 9, none⟩ (.int .i64 s.fi)).setCell ⟨w.heap.size, 10, none⟩ (.int .i64 s.sent)).setCell ⟨w.heap.size, 11, none⟩ (.int .i64 s.code)) = w4 at *
  obtain ⟨a0, a1, a2, a3, a4, a5, a6, a7, a8, a9, a10, a11⟩ := HO.out.1.b.cells
  go_wp2_with fail
  refine (HWT.out w4 B1 B2 B3 B4 d1 d2 d3 d4 HO.out.2.read HCD.out).mono ?_
  rintro e w5 ⟨rfl, hb⟩
  have HO := LH (HO.out.next hb)
  clear hb a0 a1 a2 a3 a4 a5 a6 a7 a8 a9 a10 a11 HWT
  obtain ⟨a0, a1, a2, a3, a4, a5, a6, a7, a8, a9, a10, a11⟩ := HO.out.1.b.cells
  have af := HO.out.1.b.free
  go_upto_region 5 with fail
  have HO := LH (HO.out.put8 s.rn.en)
  clear a0 a1 a2 a3 a4 a5 a6 a7 a8 a9 a10 a11 af
  generalize w5.setCell ⟨w.heap.size, 8, none⟩ (.int .i64 s.rn.en) = w6 at *
  obtain ⟨a0, a1, a2, a3, a4, a5, a6, a7, a8, a9, a10, a11⟩ := HO.out.1.b.cells
  have af := HO.out.1.b.free
  go_upto_region 6 with fail
  have HO := LH (HO.out.put9 1)
  clear a0 a1 a2 a3 a4 a5 a6 a7 a8 a9 a10 a11 af
  generalize w6.setCell ⟨w.heap.size, 9, none⟩ (.int .i64 1) = w7 at *
  obtain ⟨a0, a1, a2, a3, a4, a5, a6, a7, a8, a9, a10, a11⟩ := HO.out.1.b.cells
  (try simp only at a0 a1 a2 a3 a4 a5 a6 a7 a8 a9 a10 a11)
  obtain ⟨q0, q1, q2, q3, q4, q5, q6, q7, q8, q9, q10, q11⟩ := HO.out.1.o.cells
  have qf := HO.out.1.o.free
  go_wp2
  have X := HO.out.1.out _ _ _ _ _ HO.out.2
  refine bodyPost_ret (results_ct rfl _ _ (w.heap.size + 1) _ _ _ _ rfl X.1 Tryz.underlying29 rfl (by kernel_rfl)) rfl ?_
  exact ⟨_, _, _, _, rfl, X.2.1, X.2.2⟩
theorem iwriteS (s : Sn) (A1 A2 A3 A4 : Option Addr) (c1 c2 c3 c4 B : Nat) (w : World) (hB : B ≤ w.heap.size) (hr : ReadS w B A1 A2 A3 A4 s) (d : ByteArray) (hn : LenS 300000 s) (hx : inSn s) (hd : d.size ≤ 1000000000) :
    Calls Tryz.prog 7 #[snV s (.slice A1 s.rn.cs.length c1) (.slice A2 s.pe.length c2) (.slice A3 s.fl.length c3) (.slice A4 s.ac.length c4), .string d] w fun e w' => ∃ v1 v2 v3 v4, e = .returned (.tuple #[snV (wrS (decide (docSn s)) s d) v1 v2 v3 v4, .int .i64 (wrNS (decide (docSn s)) s d : Nat)]) ∧ OwnSn w' w.heap.size v1 v2 v3 v4 (wrS (decide (docSn s)) s d) ∧ Below w.heap.size w w' := by
  have HH := LH (IrS.start w (fun _ => none) s (.slice A1 s.rn.cs.length c1) (.slice A2 s.pe.length c2) (.slice A3 s.fl.length c3) (.slice A4 s.ac.length c4))
  have HCP : Hid (∀ W, Below w.heap.size w W → Calls Tryz.prog 28 #[snV s (.slice A1 s.rn.cs.length c1) (.slice A2 s.pe.length c2) (.slice A3 s.fl.length c3) (.slice A4 s.ac.length c4)] W fun e w' => ∃ v1 v2 v3 v4, e = .returned (snV s v1 v2 v3 v4) ∧ OwnSn w' W.heap.size v1 v2 v3 v4 s ∧ Below W.heap.size W w') := LH fun W h => icloneS s A1 A2 A3 A4 c1 c2 c3 c4 B W (Nat.le_trans hB h.size) (hr.below hB h) (hn.up (by decide))
  have HWT : Hid (∀ (W : World) (B1 B2 B3 B4 : Option Addr) (d1 d2 d3 d4 : Nat), ReadS W W.heap.size B1 B2 B3 B4 s → CapT s d2 d3 d4 → Calls Tryz.prog 29 #[snV s (.slice B1 s.rn.cs.length d1) (.slice B2 s.pe.length d2) (.slice B3 s.fl.length d3) (.slice B4 s.ac.length d4)] W fun e w' => e = .returned (.bool (decide (docSn s ∧ s.st ≤ 1 ∧ s.fin = -1))) ∧ Below W.heap.size W w') := LH fun W B1 B2 B3 B4 d1 d2 d3 d4 h h2 => iiswr s B1 B2 B3 B4 d1 d2 d3 d4 W.heap.size W (Nat.le_refl _) h (hn.up (by decide)) (by unfold LenT; have := hn.2; omega) h2 hx.2.1
  have HWR : Hid (∀ (W : World) (A : Option Addr) (c : Nat), Ints W W.heap.size A s.rn.cs → Calls Tryz.prog 30 #[rnV s.rn (.slice A s.rn.cs.length c), .string d] W fun e w' => ∃ v, e = .returned (.tuple #[rnV (wrR s.rn d) v, .int .i64 (cntW s.rn d : Nat)]) ∧ OwnK w' W.heap.size v (wrR s.rn d).cs ∧ Below W.heap.size W w') := LH fun W A c h => iwriter s.rn d A c W.heap.size W (Nat.le_refl _) h (Nat.le_trans hn.1 (by decide)) hx.2.1 hd
  have HAD : Hid (∀ (W : World) (A : Option Addr) (c : Nat) (r : Rg), Rgs W W.heap.size A s.pe → Calls Tryz.prog 31 #[.slice A s.pe.length c, rgV r] W fun e w' => ∃ v, e = .returned v ∧ OwnR w' W.heap.size v (addL s.pe r) ∧ Below W.heap.size W w') := LH fun W A c r h => iaddL s.pe r A c W.heap.size W (Nat.le_refl _) h (Nat.le_trans hn.2.1 (by decide))
  clear hr hn hx hd
  by_cases hca : canW (decide (docSn s)) s
  rotate_left
  · have hcb : ¬ (docSn s ∧ s.st ≤ 1 ∧ s.fin = -1) := fun k => hca ⟨decide_eq_true k.1, k.2⟩
    rw [decide_eq_false hcb] at HWT
    rw [show wrS (decide (docSn s)) s d = s from if_neg hca, show wrNS (decide (docSn s)) s d = 0 from if_neg hca]
    clear hcb hca HWR HAD
    go_enter Tryz.func7, Tryz.ntmps7
    go_upto_region 1 with fail
    generalize (w.alloc (.cells (snB s (.slice A1 s.rn.cs.length c1) (.slice A2 s.pe.length c2) (.slice A3 s.fl.length c3) (.slice A4 s.ac.length c4)) 29)).alloc (.cells (snC 0 0 0 0 (.slice none 0 0) (.slice none 0 0) (.slice none 0 0) (.slice none 0 0) 0 0 0 0) 29) = w2 at *
    obtain ⟨a0, a1, a2, a3, a4, a5, a6, a7, a8, a9, a10, a11⟩ := HH.out.b.cells
    have af := HH.out.b.free
    go_wp2_with fail
    refine (HCP.out _ HH.out.bl).mono ?_
    rintro e w3 ⟨u1, u2, u3, u4, rfl, ho, hb⟩
    have HO := LH (OrS.laid (HH.out.next hb) (ho.weaken HH.out.sz))
    have HH2 := LH (HH.out.next hb)
    obtain ⟨B1, B2, B3, B4, d1, d2, d3, d4, rfl, rfl, rfl, rfl, k1, k2, k3, k4⟩ := ho.frs
    have HCD : Hid (CapT s d2 d3 d4) := LH ⟨k2, k3, k4⟩
    clear ho hb k1 k2 k3 k4 a0 a1 a2 a3 a4 a5 a6 a7 a8 a9 a10 a11 af HCP
    obtain ⟨a0, a1, a2, a3, a4, a5, a6, a7, a8, a9, a10, a11⟩ := HH2.out.b.cells
    have af := HH2.out.b.free
    go_upto_region 2 with fail
    clear HH2 a0 a1 a2 a3 a4 a5 a6 a7 a8 a9 a10 a11 af
    generalize ((((((((((((w3.setCell ⟨w.heap.size, 0, none⟩ (.int .i64 s.st)).setCell ⟨w.heap.size, 1, none⟩ (.int .i64 s.rn.size)).setCell ⟨w.heap.size, 2, none⟩ (.int .i64 s.rn.base)).setCell ⟨w.heap.size, 3, none⟩ (.int .i64 s.rn.en)).setCell ⟨w.heap.size, 4, none⟩ (.slice B1 s.rn.cs.length d1)).setCell ⟨w.heap.size, 5, none⟩ (.slice B2 s.pe.length d2)).setCell ⟨w.heap.size, 6, none⟩ (.slice B3 s.fl.length d3)).setCell ⟨w.heap.size, 7, none⟩ (.slice B4 s.ac.length d4)).setCell ⟨w.heap.size, 8, none⟩ (.int .i64 s.fin)).setCell ⟨w.heap.size, 9, none⟩ (.int .i64 s.fi)).setCell ⟨w.heap.size, 10, none⟩ (.int .i64 s.sent)).setCell ⟨w.heap.size, 11, none⟩ (.int .i64 s.code)) = w4 at *
    obtain ⟨a0, a1, a2, a3, a4, a5, a6, a7, a8, a9, a10, a11⟩ := HO.out.1.b.cells
    go_wp2_with fail
    refine (HWT.out w4 B1 B2 B3 B4 d1 d2 d3 d4 HO.out.2.read HCD.out).mono ?_
    rintro e w5 ⟨rfl, hb⟩
    have HO := LH (HO.out.next hb)
    clear hb a0 a1 a2 a3 a4 a5 a6 a7 a8 a9 a10 a11 HWT
    obtain ⟨a0, a1, a2, a3, a4, a5, a6, a7, a8, a9, a10, a11⟩ := HO.out.1.b.cells
    (try simp only at a0 a1 a2 a3 a4 a5 a6 a7 a8 a9 a10 a11)
    obtain ⟨q0, q1, q2, q3, q4, q5, q6, q7, q8, q9, q10, q11⟩ := HO.out.1.o.cells
    have qf := HO.out.1.o.free
    go_wp2
    have X := HO.out.1.out _ _ _ _ _ HO.out.2
    refine bodyPost_ret (results_ct rfl _ _ (w.heap.size + 1) _ _ _ _ rfl X.1 Tryz.underlying29 rfl (by kernel_rfl)) rfl ?_
    exact ⟨_, _, _, _, rfl, X.2.1, X.2.2⟩
  have hcb : docSn s ∧ s.st ≤ 1 ∧ s.fin = -1 := ⟨of_decide_eq_true hca.1, hca.2⟩
  rw [decide_eq_true hcb] at HWT
  obtain ⟨M, hM⟩ : ∃ M, addL s.pe (s.rn.en, (wrR s.rn d).en) = M := ⟨_, rfl⟩
  have hpe : (if 0 < cntW s.rn d then addL s.pe (s.rn.en, s.rn.en + cntW s.rn d) else s.pe) = M := by
    rw [← hM, show (wrR s.rn d).en = s.rn.en + (cntW s.rn d : Int) from rfl]
    split
    · rfl
    · rename_i h
      have h0 : cntW s.rn d = 0 := by omega
      rw [h0]
      unfold addL
      rw [if_neg]
      intro k
      have : s.rn.en < s.rn.en + ((0 : Nat) : Int) := k.2.2.1
      omega
  rw [show wrS (decide (docSn s)) s d = { s with rn := wrR s.rn d, pe := M } by unfold wrS; rw [if_pos hca, hpe], show wrNS (decide (docSn s)) s d = cntW s.rn d from if_pos hca]
  clear hcb hca hpe
  have HMM := LH hM
  clear hM
  generalize cntW s.rn d = n at *
  generalize wrR s.rn d = R at *
  go_enter Tryz.func7, Tryz.ntmps7
  go_upto_region 1 with fail
  generalize (w.alloc (.cells (snB s (.slice A1 s.rn.cs.length c1) (.slice A2 s.pe.length c2) (.slice A3 s.fl.length c3) (.slice A4 s.ac.length c4)) 29)).alloc (.cells (snC 0 0 0 0 (.slice none 0 0) (.slice none 0 0) (.slice none 0 0) (.slice none 0 0) 0 0 0 0) 29) = w2 at *
  obtain ⟨a0, a1, a2, a3, a4, a5, a6, a7, a8, a9, a10, a11⟩ := HH.out.b.cells
  have af := HH.out.b.free
  go_wp2_with fail
  refine (HCP.out _ HH.out.bl).mono ?_
  rintro e w3 ⟨u1, u2, u3, u4, rfl, ho, hb⟩
  have HO := LH (OrS.laid (HH.out.next hb) (ho.weaken HH.out.sz))
  have HH2 := LH (HH.out.next hb)
  obtain ⟨B1, B2, B3, B4, d1, d2, d3, d4, rfl, rfl, rfl, rfl, k1, k2, k3, k4⟩ := ho.frs
  have HCD : Hid (CapT s d2 d3 d4) := LH ⟨k2, k3, k4⟩
  clear ho hb k1 k2 k3 k4 a0 a1 a2 a3 a4 a5 a6 a7 a8 a9 a10 a11 af HCP
  obtain ⟨a0, a1, a2, a3, a4, a5, a6, a7, a8, a9, a10, a11⟩ := HH2.out.b.cells
  have af := HH2.out.b.free
  go_upto_region 2 with fail
  clear HH2 a0 a1 a2 a3 a4 a5 a6 a7 a8 a9 a10 a11 af
  generalize ((((((((((((w3.setCell ⟨w.heap.size, 0, none⟩ (.int .i64 s.st)).setCell ⟨w.heap.size, 1, none⟩ (.int .i64 s.rn.size)).setCell ⟨w.heap.size, 2, none⟩ (.int .i64 s.rn.base)).setCell ⟨w.heap.size, 3, none⟩ (.int .i64 s.rn.en)).setCell ⟨w.heap.size, 4, none⟩ (.slice B1 s.rn.cs.length d1)).setCell ⟨w.heap.size, 5, none⟩ (.slice B2 s.pe.length d2)).setCell ⟨w.heap.size, 6, none⟩ (.slice B3 s.fl.length d3)).setCell ⟨w.heap.size, 7, none⟩ (.slice B4 s.ac.length d4)).setCell ⟨w.heap.size, 8, none⟩ (.int .i64 s.fin)).setCell ⟨w.heap.size, 9, none⟩ (.int .i64 s.fi)).setCell ⟨w.heap.size, 10, none⟩ (.int .i64 s.sent)).setCell ⟨w.heap.size, 11, none⟩ (.int .i64 s.code)) = w4 at *
  obtain ⟨a0, a1, a2, a3, a4, a5, a6, a7, a8, a9, a10, a11⟩ := HO.out.1.b.cells
  go_wp2_with fail
  refine (HWT.out w4 B1 B2 B3 B4 d1 d2 d3 d4 HO.out.2.read HCD.out).mono ?_
  rintro e w5 ⟨rfl, hb⟩
  have HO := LH (HO.out.next hb)
  clear hb a0 a1 a2 a3 a4 a5 a6 a7 a8 a9 a10 a11 HWT
  obtain ⟨a0, a1, a2, a3, a4, a5, a6, a7, a8, a9, a10, a11⟩ := HO.out.1.b.cells
  go_wp2_with fail
  refine (HWR.out w5 B1 d1 HO.out.2.read.1).mono ?_
  rintro e w6 ⟨vr, rfl, hor, hb6⟩
  obtain ⟨VR, dR, rfl, _, _⟩ := hor.frs
  have HOR := LH (hor.alloc (.cells (rnC R.size R.base R.en (.slice VR R.cs.length dR)) 26))
  have HB6 := LH (hb6.alloc hb6.size (.cells (rnC R.size R.base R.en (.slice VR R.cs.length dR)) 26))
  have HGR : Hid (w.heap.size < w6.heap.size) := LH (by have := HO.out.1.sz; have := hb6.size; omega)
  have HBN := LH (BoxN.new w6 R.size R.base R.en (.slice VR R.cs.length dR))
  clear hor hb6 a0 a1 a2 a3 a4 a5 a6 a7 a8 a9 a10 a11 HWR
  go_upto_region 6 with fail
  have HRP := LH (HO.out.putR HB6.out HOR.out)
  have HO7 := LH (HO.out.next HB6.out)
  clear HO
  generalize w6.alloc (.cells (rnC R.size R.base R.en (.slice VR R.cs.length dR)) 26) = w7 at *
  generalize w6.heap.size = gr at *
  obtain ⟨n0, n1, n2, n3⟩ := HBN.out.cells
  obtain ⟨a0, a1, a2, a3, a4, a5, a6, a7, a8, a9, a10, a11⟩ := HO7.out.1.b.cells
  have af := HO7.out.1.b.free
  go_upto_region 7 with fail
  have HBN : Hid (BoxN ((((w7.setCell ⟨w.heap.size, 1, none⟩ (.int .i64 R.size)).setCell ⟨w.heap.size, 2, none⟩ (.int .i64 R.base)).setCell ⟨w.heap.size, 3, none⟩ (.int .i64 R.en)).setCell ⟨w.heap.size, 4, none⟩ (.slice VR R.cs.length dR)) gr R.size R.base R.en (.slice VR R.cs.length dR)) := LH (by
    have q : ∀ (W : World) (k : Nat) (y : Value), (W.setCell ⟨w.heap.size, k, none⟩ y).heap[gr]? = W.heap[gr]? := fun W k y => Below.heap_setCell W ⟨w.heap.size, k, none⟩ y gr (by show gr ≠ w.heap.size; have := HGR.out; omega)
    have h := HBN.out
    unfold BoxN at *
    simp only [q]
    exact h)
  clear a0 a1 a2 a3 a4 a5 a6 a7 a8 a9 a10 a11 af n0 n1 n2 n3 HO7 HOR HB6
  generalize ((((w7.setCell ⟨w.heap.size, 1, none⟩ (.int .i64 R.size)).setCell ⟨w.heap.size, 2, none⟩ (.int .i64 R.base)).setCell ⟨w.heap.size, 3, none⟩ (.int .i64 R.en)).setCell ⟨w.heap.size, 4, none⟩ (.slice VR R.cs.length dR)) = w8 at *
  obtain ⟨n0, n1, n2, n3⟩ := HBN.out.cells
  obtain ⟨a0, a1, a2, a3, a4, a5, a6, a7, a8, a9, a10, a11⟩ := HRP.out.1.b.cells
  (try simp only at a0 a1 a2 a3 a4 a5 a6 a7 a8 a9 a10 a11)
  go_wp2_with fail
  refine (HAD.out w8 B2 d2 (s.rn.en, R.en) HRP.out.2.1.2.1.rgq).mono ?_
  rintro e w9 ⟨vp, rfl, hop, hb9⟩
  rw [HMM.out] at hop
  obtain ⟨VP, dP, rfl, _, _⟩ := hop.p.frs
  have HP := LH (HRP.out.putP hb9 hop.p)
  have HRP9 := LH (HRP.out.next hb9)
  clear hop hb9 a0 a1 a2 a3 a4 a5 a6 a7 a8 a9 a10 a11 n0 n1 n2 n3 HRP HBN HAD HMM
  obtain ⟨a0, a1, a2, a3, a4, a5, a6, a7, a8, a9, a10, a11⟩ := HRP9.out.1.b.cells
  (try simp only at a0 a1 a2 a3 a4 a5 a6 a7 a8 a9 a10 a11)
  have af := HRP9.out.1.b.free
  go_upto_region 8 with fail
  clear a0 a1 a2 a3 a4 a5 a6 a7 a8 a9 a10 a11 af HRP9
  generalize w9.setCell ⟨w.heap.size, 5, none⟩ (.slice VP M.length dP) = w10 at *
  obtain ⟨a0, a1, a2, a3, a4, a5, a6, a7, a8, a9, a10, a11⟩ := HP.out.1.b.cells
  (try simp only at a0 a1 a2 a3 a4 a5 a6 a7 a8 a9 a10 a11)
  obtain ⟨q0, q1, q2, q3, q4, q5, q6, q7, q8, q9, q10, q11⟩ := HP.out.1.o.cells
  have qf := HP.out.1.o.free
  go_wp2
  have X := HP.out.1.out _ _ _ _ _ HP.out.2
  refine bodyPost_ret (results_ct rfl _ _ (w.heap.size + 1) _ _ _ _ rfl X.1 Tryz.underlying29 rfl (by kernel_rfl)) rfl ?_
  exact ⟨_, _, _, _, rfl, X.2.1, X.2.2⟩
end Go.Proofs.YtdaoaedkjoknmaaGreat
