/-
  Contracts and lemmas for the law on draining.
-/
import Derived.Test.YtdaoaedkjoknmaaGreatDrZ0
import Derived.Test.YtdaoaedkjoknmaaGreatDrZ6
import Derived.Test.YtdaoaedkjoknmaaGreatDrZ23
import Derived.Test.YtdaoaedkjoknmaaGreatDrZ7
import Derived.Test.YtdaoaedkjoknmaaGreatDrZ9
import Derived.Test.YtdaoaedkjoknmaaGreatDrZ15
set_option maxRecDepth 1000000
set_option maxHeartbeats 8000000
namespace Go.Proofs.YtdaoaedkjoknmaaGreat
open Go.RowKit Go.Deep Go.Proofs.YtdaoaedkjoknmaaGreat.Num

theorem scopyS (s : Sn) (A1 A2 A3 A4 : Option Addr) (c1 c2 c3 c4 B : Nat) (w : World) (hB : B ≤ w.heap.size) (hr : ReadS w B A1 A2 A3 A4 s) (hn : LenS 1000000000 s) :
    Calls Tryz.prog 33 #[snV s (.slice A1 s.rn.cs.length c1) (.slice A2 s.pe.length c2) (.slice A3 s.fl.length c3) (.slice A4 s.ac.length c4)] w fun e w' => ∃ v1 v2 v3 v4, e = .returned (snV s v1 v2 v3 v4) ∧ OwnSn w' w.heap.size v1 v2 v3 v4 s ∧ Below w.heap.size w w' := by
  have HH := LH (IrS.start w (fun _ => none) s (.slice A1 s.rn.cs.length c1) (.slice A2 s.pe.length c2) (.slice A3 s.fl.length c3) (.slice A4 s.ac.length c4))
  have HC1 : Hid (∀ W, Below w.heap.size w W → Calls Tryz.prog 93 #[rnV s.rn (.slice A1 s.rn.cs.length c1)] W fun e w' => ∃ v, e = .returned (rnV s.rn v) ∧ OwnK w' W.heap.size v s.rn.cs ∧ Below W.heap.size W w') := LH fun W h => scopyn s.rn A1 c1 B W (Nat.le_trans hB h.size) (hr.1.below hB h) hn.1
  have HC2 : Hid (∀ W, Below w.heap.size w W → Calls Tryz.prog 94 #[.slice A2 s.pe.length c2] W fun e w' => ∃ v, e = .returned v ∧ OwnR w' W.heap.size v s.pe ∧ Below W.heap.size W w') := LH fun W h => scopy s.pe A2 c2 B W (Nat.le_trans hB h.size) (hr.2.1.below hB h) hn.2.1
  have HC3 : Hid (∀ W, Below w.heap.size w W → Calls Tryz.prog 94 #[.slice A3 s.fl.length c3] W fun e w' => ∃ v, e = .returned v ∧ OwnR w' W.heap.size v s.fl ∧ Below W.heap.size W w') := LH fun W h => scopy s.fl A3 c3 B W (Nat.le_trans hB h.size) (hr.2.2.1.below hB h) hn.2.2.1
  have HC4 : Hid (∀ W, Below w.heap.size w W → Calls Tryz.prog 94 #[.slice A4 s.ac.length c4] W fun e w' => ∃ v, e = .returned v ∧ OwnR w' W.heap.size v s.ac ∧ Below W.heap.size W w') := LH fun W h => scopy s.ac A4 c4 B W (Nat.le_trans hB h.size) (hr.2.2.2.below hB h) hn.2.2.2
  have HSC : Hid (∀ W, IrS w 2 (w.heap.size + 1) (fun _ => none) s (.slice A1 s.rn.cs.length c1) (.slice A2 s.pe.length c2) (.slice A3 s.fl.length c3) (.slice A4 s.ac.length c4) W → W.cell? ⟨w.heap.size, 0, none⟩ = some (.int .i64 s.st) ∧ W.cell? ⟨w.heap.size, 1, none⟩ = some (.int .i64 s.rn.size) ∧ W.cell? ⟨w.heap.size, 2, none⟩ = some (.int .i64 s.rn.base) ∧ W.cell? ⟨w.heap.size, 3, none⟩ = some (.int .i64 s.rn.en) ∧ W.cell? ⟨w.heap.size, 4, none⟩ = some (.slice A1 s.rn.cs.length c1) ∧ W.cell? ⟨w.heap.size, 5, none⟩ = some (.slice A2 s.pe.length c2) ∧ W.cell? ⟨w.heap.size, 6, none⟩ = some (.slice A3 s.fl.length c3) ∧ W.cell? ⟨w.heap.size, 7, none⟩ = some (.slice A4 s.ac.length c4) ∧ W.cell? ⟨w.heap.size, 8, none⟩ = some (.int .i64 s.fin) ∧ W.cell? ⟨w.heap.size, 9, none⟩ = some (.int .i64 s.fi) ∧ W.cell? ⟨w.heap.size, 10, none⟩ = some (.int .i64 s.sent) ∧ W.cell? ⟨w.heap.size, 11, none⟩ = some (.int .i64 s.code)) := LH fun W h => h.b.cells
  have HCZ : Hid (∀ W, RowS W w.heap.size s (.slice A1 s.rn.cs.length c1) (.slice A2 s.pe.length c2) (.slice A3 s.fl.length c3) (.slice A4 s.ac.length c4) → W.cell? ⟨w.heap.size, 0, none⟩ = some (.int .i64 s.st) ∧ W.cell? ⟨w.heap.size, 1, none⟩ = some (.int .i64 s.rn.size) ∧ W.cell? ⟨w.heap.size, 2, none⟩ = some (.int .i64 s.rn.base) ∧ W.cell? ⟨w.heap.size, 3, none⟩ = some (.int .i64 s.rn.en) ∧ W.cell? ⟨w.heap.size, 4, none⟩ = some (.slice A1 s.rn.cs.length c1) ∧ W.cell? ⟨w.heap.size, 5, none⟩ = some (.slice A2 s.pe.length c2) ∧ W.cell? ⟨w.heap.size, 6, none⟩ = some (.slice A3 s.fl.length c3) ∧ W.cell? ⟨w.heap.size, 7, none⟩ = some (.slice A4 s.ac.length c4) ∧ W.cell? ⟨w.heap.size, 8, none⟩ = some (.int .i64 s.fin) ∧ W.cell? ⟨w.heap.size, 9, none⟩ = some (.int .i64 s.fi) ∧ W.cell? ⟨w.heap.size, 10, none⟩ = some (.int .i64 s.sent) ∧ W.cell? ⟨w.heap.size, 11, none⟩ = some (.int .i64 s.code)) := LH fun W h => h.cells
  clear hr hn
  go_enter Tryz.func33, Tryz.ntmps33
  go_upto_region 1 with fail
  generalize (w.alloc (.cells (snB s (.slice A1 s.rn.cs.length c1) (.slice A2 s.pe.length c2) (.slice A3 s.fl.length c3) (.slice A4 s.ac.length c4)) 29)).alloc (.cells (snC 0 0 0 0 (.slice none 0 0) (.slice none 0 0) (.slice none 0 0) (.slice none 0 0) 0 0 0 0) 29) = w2 at *
  have HK0 := LH (HSC.out _ HH.out.drew)
  obtain ⟨a0, a1, a2, a3, a4, a5, a6, a7, a8, a9, a10, a11⟩ := HH.out.b.cells
  obtain ⟨q0, q1, q2, q3, q4, q5, q6, q7, q8, q9, q10, q11⟩ := HH.out.o.cells
  have qf := HH.out.o.free
  go_region_held3 (fun W => W.cell? ⟨w.heap.size, 0, none⟩ = some (.int .i64 s.st) ∧ W.cell? ⟨w.heap.size, 1, none⟩ = some (.int .i64 s.rn.size) ∧ W.cell? ⟨w.heap.size, 2, none⟩ = some (.int .i64 s.rn.base) ∧ W.cell? ⟨w.heap.size, 3, none⟩ = some (.int .i64 s.rn.en) ∧ W.cell? ⟨w.heap.size, 4, none⟩ = some (.slice A1 s.rn.cs.length c1) ∧ W.cell? ⟨w.heap.size, 5, none⟩ = some (.slice A2 s.pe.length c2) ∧ W.cell? ⟨w.heap.size, 6, none⟩ = some (.slice A3 s.fl.length c3) ∧ W.cell? ⟨w.heap.size, 7, none⟩ = some (.slice A4 s.ac.length c4) ∧ W.cell? ⟨w.heap.size, 8, none⟩ = some (.int .i64 s.fin) ∧ W.cell? ⟨w.heap.size, 9, none⟩ = some (.int .i64 s.fi) ∧ W.cell? ⟨w.heap.size, 10, none⟩ = some (.int .i64 s.sent) ∧ W.cell? ⟨w.heap.size, 11, none⟩ = some (.int .i64 s.code)) (first | with_reducible exact HK0.out | with_reducible exact HK1.out | with_reducible exact HK2.out | with_reducible exact HK3.out | with_reducible exact HK4.out | with_reducible exact HK5.out) (first
    | (go_at_call 93; refine (HC1.out _ HH.out.drew.bl).mono ?_; rintro e w3 ⟨u1, rfl, ho1, hb1⟩; obtain ⟨B1, d1, rfl, _, _⟩ := ho1.frs; have HH1 := LH (HH.out.drew.next hb1); have HK1 := LH (HSC.out _ HH1.out); have HO1 := LH (ho1.weaken HH.out.drew.sz); have HL1 := LH (fun k hk => (ho1.lt k hk).2); clear ho1 hb1)
    | (go_at_call 94; ((with_reducible refine (HC2.out _ HH1.out.bl).mono ?_); rintro e w4 ⟨u2, rfl, ho2, hb2⟩; obtain ⟨B2, d2, rfl, _, _⟩ := ho2.p.frs; have HH2 := LH (HH1.out.next hb2); have HK2 := LH (HSC.out _ HH2.out); have HP1 := LH (HO1.out.later hb2); have HO2 := LH (ho2.p.weaken HH1.out.sz); have HG2 := LH ho2.p.lo; have HL2 := LH (fun k hk => (ho2.p.lt k hk).2); have HZ2 := LH hb2.size; clear ho2 hb2 HO1))
    | (go_at_call 94; ((with_reducible refine (HC3.out _ HH2.out.bl).mono ?_); rintro e w5 ⟨u3, rfl, ho3, hb3⟩; obtain ⟨B3, d3, rfl, _, _⟩ := ho3.p.frs; have HH3 := LH (HH2.out.next hb3); have HK3 := LH (HSC.out _ HH3.out); have HQ1 := LH (HP1.out.later hb3); have HP2 := LH (HO2.out.later hb3); have HO3 := LH (ho3.p.weaken HH2.out.sz); have HG3 := LH ho3.p.lo; have HL3 := LH (fun k hk => (ho3.p.lt k hk).2); have HZ3 := LH hb3.size; clear ho3 hb3 HP1 HO2))
    | (go_at_call 94; ((with_reducible refine (HC4.out _ HH3.out.bl).mono ?_); rintro e w6 ⟨u4, rfl, ho4, hb4⟩; obtain ⟨B4, d4, rfl, _, _⟩ := ho4.p.frs; have HH4 := LH (HH3.out.next hb4); have HK4 := LH (HSC.out _ HH4.out); have HR1 := LH (HQ1.out.later hb4); have HQ2 := LH (HP2.out.later hb4); have HP3 := LH (HO3.out.later hb4); have HO4 := LH (ho4.p.weaken HH3.out.sz); have HG4 := LH ho4.p.lo; have HK5 := LH (HCZ.out _ (HH4.out.b.laid (w.heap.size + 1) s (.slice B1 s.rn.cs.length d1) (.slice B2 s.pe.length d2) (.slice B3 s.fl.length d3) (.slice B4 s.ac.length d4) (by omega))); obtain ⟨t0, t1, t2, t3, t4, t5, t6, t7, t8, t9, t10, t11⟩ := HH4.out.o.cells; have tf := HH4.out.o.free; clear ho4 hb4 HQ1 HP2 HO3)))
  all_goals (
    have HS := LH (OwnS.made HR1.out HQ2.out HP3.out HO4.out HL1.out HG2.out HL2.out HG3.out HL3.out HG4.out HZ2.out HZ3.out)
    go_wp2
    have X := HH4.out.out s _ _ _ _ HS.out
    refine bodyPost_ret (results_cell_row rfl _ _ (w.heap.size + 1) _ _ _ _ rfl X.1 Tryz.underlying29 rfl (by kernel_rfl)) rfl ?_
    exact ⟨_, _, _, _, rfl, X.2.1, X.2.2⟩)

end Go.Proofs.YtdaoaedkjoknmaaGreat
