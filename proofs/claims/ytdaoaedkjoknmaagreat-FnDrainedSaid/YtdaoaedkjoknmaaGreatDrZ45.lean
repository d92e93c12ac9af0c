/-
  Contracts and lemmas for the law on draining.
-/
import Derived.Test.YtdaoaedkjoknmaaGreatDrZ0
import Derived.Test.YtdaoaedkjoknmaaGreatDrZ38
import Derived.Test.YtdaoaedkjoknmaaGreatDrZ40
import Derived.Test.YtdaoaedkjoknmaaGreatDrZ26
set_option maxRecDepth 1000000
set_option maxHeartbeats 8000000
namespace Go.Proofs.YtdaoaedkjoknmaaGreat
open Go.RowKit Go.Deep Go.Proofs.YtdaoaedkjoknmaaGreat.Num

theorem iack (s : Sn) (A1 A2 A3 A4 : Option Addr) (c1 c2 c3 c4 B : Nat) (w : World) (hB : B ≤ w.heap.size) (hr : ReadS w B A1 A2 A3 A4 s) (p : Pc) (hn : LenS 300000 s) (hx : inSn s) (ho : in64 p.off) (hd : p.data.size ≤ 1000000000) :
    Calls Tryz.prog 17 #[snV s (.slice A1 s.rn.cs.length c1) (.slice A2 s.pe.length c2) (.slice A3 s.fl.length c3) (.slice A4 s.ac.length c4), pcV p] w fun e w' => ∃ v1 v2 v3 v4, e = .returned (snV (akS (decide (docSn s)) s p) v1 v2 v3 v4) ∧ OwnSn w' w.heap.size v1 v2 v3 v4 (akS (decide (docSn s)) s p) ∧ Below w.heap.size w w' := by
  have HH := LH (IrS.startP w s (.slice A1 s.rn.cs.length c1) (.slice A2 s.pe.length c2) (.slice A3 s.fl.length c3) (.slice A4 s.ac.length c4) p)
  have HCP : Hid (∀ W, Below w.heap.size w W → Calls Tryz.prog 28 #[snV s (.slice A1 s.rn.cs.length c1) (.slice A2 s.pe.length c2) (.slice A3 s.fl.length c3) (.slice A4 s.ac.length c4)] W fun e w' => ∃ v1 v2 v3 v4, e = .returned (snV s v1 v2 v3 v4) ∧ OwnSn w' W.heap.size v1 v2 v3 v4 s ∧ Below W.heap.size W w') := LH fun W h => icloneS s A1 A2 A3 A4 c1 c2 c3 c4 B W (Nat.le_trans hB h.size) (hr.below hB h) (hn.up (by decide))
  have HSP : Hid (∀ (W : World) (B1 B2 B3 B4 : Option Addr) (d1 d2 d3 d4 : Nat), ReadS W W.heap.size B1 B2 B3 B4 s → CapT s d2 d3 d4 → Calls Tryz.prog 41 #[snV s (.slice B1 s.rn.cs.length d1) (.slice B2 s.pe.length d2) (.slice B3 s.fl.length d3) (.slice B4 s.ac.length d4), pcV p] W fun e w' => ∃ r : Rg, e = .returned (.tuple #[rgV r, .bool (decide (canA (decide (docSn s)) s p))]) ∧ (canA (decide (docSn s)) s p → r = pcR p) ∧ Below W.heap.size W w') := LH fun W B1 B2 B3 B4 d1 d2 d3 d4 h h2 => ispan s B1 B2 B3 B4 d1 d2 d3 d4 W.heap.size W (Nat.le_refl _) h (hn.up (by decide)) (by unfold LenT; have := hn.2; omega) h2 p hx ho hd
  have HLN := LH hn
  clear hr hn ho hd
  by_cases hca : canA (decide (docSn s)) s p
  rotate_left
  · rw [decide_eq_false hca] at HSP
    rw [show akS (decide (docSn s)) s p = s from if_neg hca]
    clear hca hx
    go_enter Tryz.func17, Tryz.ntmps17
    go_upto_region 1 with fail
    generalize ((w.alloc (.cells (snB s (.slice A1 s.rn.cs.length c1) (.slice A2 s.pe.length c2) (.slice A3 s.fl.length c3) (.slice A4 s.ac.length c4)) 29)).alloc (.cells #[.int .i64 p.off, .string p.data, .bool p.fin] 44)).alloc (.cells (snC 0 0 0 0 (.slice none 0 0) (.slice none 0 0) (.slice none 0 0) (.slice none 0 0) 0 0 0 0) 29) = w2 at *
    obtain ⟨a0, a1, a2, a3, a4, a5, a6, a7, a8, a9, a10, a11⟩ := HH.out.b.cells
    have af := HH.out.b.free
    go_wp2_with fail
    refine (HCP.out _ HH.out.bl).mono ?_
    rintro e w3 ⟨u1, u2, u3, u4, rfl, ho, hb⟩
    have HO := LH (OrS.laid (HH.out.next hb) (ho.weaken HH.out.sz))
    have HH2 := LH (HH.out.next hb)
    obtain ⟨B1, B2, B3, B4, d1, d2, d3, d4, rfl, rfl, rfl, rfl, k1, k2, k3, k4⟩ := ho.frs
    have HCD : Hid (CapT s d2 d3 d4) := LH ⟨k2, k3, k4⟩
    clear ho hb k1 k2 k3 k4 a0 a1 a2 a3 a4 a5 a6 a7 a8 a9 a10 a11 af HCP
    obtain ⟨a0, a1, a2, a3, a4, a5, a6, a7, a8, a9, a10, a11⟩ := HH2.out.b.cells
    have af := HH2.out.b.free
    go_upto_region 2 with fail
    clear HH2 a0 a1 a2 a3 a4 a5 a6 a7 a8 a9 a10 a11 af
    generalize ((((((((((((w3.setCell ⟨w.heap.size, 0, none⟩ (.int .i64 s.st)).setCell ⟨w.heap.size, 1, none⟩ (.int .i64 s.rn.size)).setCell ⟨w.heap.size, 2, none⟩ (.int .i64 s.rn.base)).setCell ⟨w.heap.size, 3, none⟩ (.int .i64 s.rn.en)).setCell ⟨w.heap.size, 4, none⟩ (.slice B1 s.rn.cs.length d1)).setCell ⟨w.heap.size, 5, none⟩ (.slice B2 s.pe.length d2)).setCell ⟨w.heap.size, 6, none⟩ (.slice B3 s.fl.length d3)).setCell ⟨w.heap.size, 7, none⟩ (.slice B4 s.ac.length d4)).setCell ⟨w.heap.size, 8, none⟩ (.int .i64 s.fin)).setCell ⟨w.heap.size, 9, none⟩ (.int .i64 s.fi)).setCell ⟨w.heap.size, 10, none⟩ (.int .i64 s.sent)).setCell ⟨w.heap.size, 11, none⟩ (.int .i64 s.code)) = w4 at *
    obtain ⟨a0, a1, a2, a3, a4, a5, a6, a7, a8, a9, a10, a11⟩ := HO.out.1.b.cells
    obtain ⟨p0, p1, p2⟩ := HO.out.1.pc
    go_wp2_with fail
    refine (HSP.out w4 B1 B2 B3 B4 d1 d2 d3 d4 HO.out.2.read HCD.out).mono ?_
    rintro e w5 ⟨r, rfl, hrr, hb⟩
    have HRR := LH hrr
    have HO := LH (HO.out.next hb)
    have HGS : Hid (w.heap.size + 3 ≤ w5.heap.size) := LH HO.out.1.sz
    clear hb hrr a0 a1 a2 a3 a4 a5 a6 a7 a8 a9 a10 a11 p0 p1 p2 HSP
    go_upto_region 3 with fail
    have HXR := LH (Box.new w5 r)
    have HO := LH (HO.out.alloc (.cells #[.int .i64 r.1, .int .i64 r.2] 59))
    generalize w5.alloc (.cells #[.int .i64 r.1, .int .i64 r.2] 59) = w6 at *
    generalize w5.heap.size = gs at *
    clear HRR HGS HXR
    obtain ⟨a0, a1, a2, a3, a4, a5, a6, a7, a8, a9, a10, a11⟩ := HO.out.1.b.cells
    (try simp only at a0 a1 a2 a3 a4 a5 a6 a7 a8 a9 a10 a11)
    obtain ⟨q0, q1, q2, q3, q4, q5, q6, q7, q8, q9, q10, q11⟩ := HO.out.1.o.cells
    have qf := HO.out.1.o.free
    go_wp2
    have X := HO.out.1.out _ _ _ _ _ HO.out.2
    refine bodyPost_ret (results_cell_row rfl _ _ (w.heap.size + 2) _ _ _ _ rfl X.1 Tryz.underlying29 rfl (by kernel_rfl)) rfl ?_
    exact ⟨_, _, _, _, rfl, X.2.1, X.2.2⟩
  rw [decide_eq_true hca] at HSP
  have hdoc : docSn s := of_decide_eq_true hca.1
  have HCA := LH hca
  have HFI : Hid (0 ≤ s.fi ∧ s.fi ≤ 3) := LH ⟨hdoc.1.2.2.2.2.2.2.1, hdoc.1.2.2.2.2.2.2.2⟩
  have HOK : Hid (okR (-1) s.pe ∧ okR (-1) s.fl ∧ okR (-1) s.ac) := LH ⟨hdoc.1.2.1, hdoc.1.2.2.1, hdoc.1.2.2.2.1⟩
  obtain ⟨C, hC⟩ : ∃ C, comQ s.fl (pcR p) = C := ⟨_, rfl⟩
  have hcm : comS s p = C := by rw [← hC]; exact (comQ_of hdoc hca.2.2).symm
  have HCL : Hid (C.length ≤ 300000) := LH (by
    rw [← hC]
    unfold comQ
    split
    · have := comR_one (pcR p) s.fl
      have := HLN.out.2.2.1
      omega
    · exact Nat.zero_le _)
  have HV : Hid (akS (decide (docSn s)) s p = fixS { s with fl := remLs s.fl C, ac := addLs s.ac C, fi := if p.fin = true ∧ s.fi = 2 then 3 else s.fi, rn := drR s.rn (if okR (-1) (addLs s.ac C) then gapR (addLs s.ac C) 0 else -1) }) := LH (by rw [← hcm]; exact if_pos hca)
  obtain ⟨M1, hM1⟩ : ∃ M, remLs s.fl C = M := ⟨_, rfl⟩
  obtain ⟨M2, hM2⟩ : ∃ M, addLs s.ac C = M := ⟨_, rfl⟩
  obtain ⟨f, hf⟩ : ∃ f, (if p.fin = true ∧ s.fi = 2 then (3 : Int) else s.fi) = f := ⟨_, rfl⟩
  have HFF : Hid (0 ≤ f ∧ f ≤ 3) := LH (by have := HFI.out; rw [← hf]; split <;> omega)
  have HFV := LH hf
  have HMM := LH (And.intro hM1 hM2)
  have HML : Hid (M2.length ≤ 700000) := LH (by
    rw [← hM2]
    have h1 := addLs_len C s.ac
    have h2 := HCL.out
    have h3 := HLN.out.2
    omega)
  rw [hM1, hM2, hf] at HV
  clear hM1 hM2 hf HCL
  obtain ⟨gz, hgz⟩ : ∃ z, (if okR (-1) M2 then gapR M2 0 else -1) = z := ⟨_, rfl⟩
  rw [hgz] at HV
  obtain ⟨R, hR⟩ : ∃ R, drR s.rn gz = R := ⟨_, rfl⟩
  rw [hR] at HV
  have HFG : Hid (∀ (W : World) (A : Option Addr) (c : Nat), Rgs W W.heap.size A M2 → Calls Tryz.prog 55 #[.agg #[.slice A M2.length c]] W fun e w' => e = .returned (.int .i64 gz) ∧ Below W.heap.size W w') := LH fun W A c h => by
    have h9 := isrm M2 A c W.heap.size W (Nat.le_refl _) h (by have := HML.out; omega)
    rwa [hgz] at h9
  have HDR : Hid (∀ (W : World) (A : Option Addr) (c : Nat), Ints W W.heap.size A s.rn.cs → Calls Tryz.prog 54 #[rnV s.rn (.slice A s.rn.cs.length c), .int .i64 gz] W fun e w' => ∃ v, e = .returned (.tuple #[rnV R v, .bool (decide (canD s.rn gz))]) ∧ OwnK w' W.heap.size v R.cs ∧ Below W.heap.size W w') := LH fun W A c h => by
    have h9 := idropr s.rn gz A c W.heap.size W (Nat.le_refl _) h (Nat.le_trans HLN.out.1 (by decide)) hx.2.1
    rwa [hR] at h9
  clear hgz hR
  clear HML
  rw [HV.out]
  have HCM : Hid (comQ s.fl (pcR p) = C) := LH hC
  clear hC hcm HV hca hdoc hx
  go_enter Tryz.func17, Tryz.ntmps17
  go_upto_region 1 with fail
  generalize ((w.alloc (.cells (snB s (.slice A1 s.rn.cs.length c1) (.slice A2 s.pe.length c2) (.slice A3 s.fl.length c3) (.slice A4 s.ac.length c4)) 29)).alloc (.cells #[.int .i64 p.off, .string p.data, .bool p.fin] 44)).alloc (.cells (snC 0 0 0 0 (.slice none 0 0) (.slice none 0 0) (.slice none 0 0) (.slice none 0 0) 0 0 0 0) 29) = w2 at *
  obtain ⟨a0, a1, a2, a3, a4, a5, a6, a7, a8, a9, a10, a11⟩ := HH.out.b.cells
  have af := HH.out.b.free
  go_wp2_with fail
  refine (HCP.out _ HH.out.bl).mono ?_
  rintro e w3 ⟨u1, u2, u3, u4, rfl, ho, hb⟩
  have HO := LH (OrS.laid (HH.out.next hb) (ho.weaken HH.out.sz))
  have HH2 := LH (HH.out.next hb)
  obtain ⟨B1, B2, B3, B4, d1, d2, d3, d4, rfl, rfl, rfl, rfl, k1, k2, k3, k4⟩ := ho.frs
  have HCD : Hid (CapT s d2 d3 d4) := LH ⟨k2, k3, k4⟩
  clear ho hb k1 k2 k3 k4 a0 a1 a2 a3 a4 a5 a6 a7 a8 a9 a10 a11 af HCP
  obtain ⟨a0, a1, a2, a3, a4, a5, a6, a7, a8, a9, a10, a11⟩ := HH2.out.b.cells
  have af := HH2.out.b.free
  go_upto_region 2 with fail
  clear HH2 a0 a1 a2 a3 a4 a5 a6 a7 a8 a9 a10 a11 af
  generalize ((((((((((((w3.setCell ⟨w.heap.size, 0, none⟩ (.int .i64 s.st)).setCell ⟨w.heap.size, 1, none⟩ (.int .i64 s.rn.size)).setCell ⟨w.heap.size, 2, none⟩ (.int .i64 s.rn.base)).setCell ⟨w.heap.size, 3, none⟩ (.int .i64 s.rn.en)).setCell ⟨w.heap.size, 4, none⟩ (.slice B1 s.rn.cs.length d1)).setCell ⟨w.heap.size, 5, none⟩ (.slice B2 s.pe.length d2)).setCell ⟨w.heap.size, 6, none⟩ (.slice B3 s.fl.length d3)).setCell ⟨w.heap.size, 7, none⟩ (.slice B4 s.ac.length d4)).setCell ⟨w.heap.size, 8, none⟩ (.int .i64 s.fin)).setCell ⟨w.heap.size, 9, none⟩ (.int .i64 s.fi)).setCell ⟨w.heap.size, 10, none⟩ (.int .i64 s.sent)).setCell ⟨w.heap.size, 11, none⟩ (.int .i64 s.code)) = w4 at *
  obtain ⟨a0, a1, a2, a3, a4, a5, a6, a7, a8, a9, a10, a11⟩ := HO.out.1.b.cells
  obtain ⟨p0, p1, p2⟩ := HO.out.1.pc
  go_wp2_with fail
  refine (HSP.out w4 B1 B2 B3 B4 d1 d2 d3 d4 HO.out.2.read HCD.out).mono ?_
  rintro e w5 ⟨r, rfl, hrr, hb⟩
  have HRR := LH hrr
  have HO := LH (HO.out.next hb)
  have HGS : Hid (w.heap.size + 3 ≤ w5.heap.size) := LH HO.out.1.sz
  clear hb hrr a0 a1 a2 a3 a4 a5 a6 a7 a8 a9 a10 a11 p0 p1 p2 HSP
  go_upto_region 3 with fail
  have HXR := LH (Box.new w5 r)
  have HO := LH (HO.out.alloc (.cells #[.int .i64 r.1, .int .i64 r.2] 59))
  generalize w5.alloc (.cells #[.int .i64 r.1, .int .i64 r.2] 59) = w6 at *
  generalize w5.heap.size = gs at *
  obtain rfl : r = pcR p := HRR.out HCA.out
  clear HRR HCA
  generalize pcR p = q at *
  obtain ⟨a0, a1, a2, a3, a4, a5, a6, a7, a8, a9, a10, a11⟩ := HO.out.1.b.cells
  obtain ⟨p0, p1, p2⟩ := HO.out.1.pc
  obtain ⟨r0, r1⟩ := HXR.out.cells
  go_wp2_with fail
  refine (isetsof s _ B2 B3 B4 _ d2 _ d3 _ d4 w6).mono ?_
  rintro e w7 ⟨rfl, hb⟩
  have HO := LH (HO.out.next hb)
  have HXR := LH (box_later HXR.out hb)
  have HGL : Hid (gs < w7.heap.size) := LH (Array.getElem?_eq_some_iff.1 HXR.out).1
  have HS7 := LH (HO.out.sets 75)
  have HXR := LH (box_later HXR.out ((Below.refl _ _).alloc (Nat.le_refl _) (.cells #[.slice B2 s.pe.length d2, .slice B3 s.fl.length d3, .slice B4 s.ac.length d4] 75)))
  clear hb a0 a1 a2 a3 a4 a5 a6 a7 a8 a9 a10 a11 p0 p1 p2 r0 r1 HO
  go_upto_region 6 with fail
  generalize w7.alloc (.cells #[.slice B2 s.pe.length d2, .slice B3 s.fl.length d3, .slice B4 s.ac.length d4] 75) = w8 at *
  generalize w7.heap.size = g at *
  have HMS : Hid (MvI w8 g 1 2 #[.slice B2 s.pe.length d2, .slice B3 s.fl.length d3, .slice B4 s.ac.length d4] 75 (w.heap.size + 3) (.slice B3 s.fl.length d3) (.slice B4 s.ac.length d4) w8 (.slice B3 s.fl.length d3) (.slice B4 s.ac.length d4) s.fl s.ac) := LH (MvI.start HS7.out.2.1 rfl rfl HS7.out.1.2.1.2.2.1 HS7.out.1.2.1.2.2.2 HS7.out.1.2.2.2.2 HS7.out.2.2.1.2.2.1 HS7.out.2.2.1.2.2.2)
  obtain ⟨r0, r1⟩ := HXR.out.cells
  have HCP2 : Hid (s.fl.length ≤ d3) := LH HCD.out.2.1
  go_wp2_with fail
  refine (imove g 1 2 (by decide) #[.slice B2 s.pe.length d2, .slice B3 s.fl.length d3, .slice B4 s.ac.length d4] 75 s.fl s.ac q B3 B4 d3 d4 (w.heap.size + 3) w8 HS7.out.1.1.sz HMS.out HOK.out.2.1 HCP2.out ⟨HLN.out.2.2.1, HLN.out.2.2.2⟩).mono ?_
  rintro e w9 ⟨rfl, v', u', hm⟩
  rw [HCM.out, HMM.out.1, HMM.out.2] at hm
  have HM := LH hm
  have HMV := LH (HS7.out.1.moved HS7.out.2.2.1 HS7.out.2.2.2 hm.bl)
  obtain ⟨Yv, ev, hv, _, _⟩ := hm.ov.frs
  subst hv
  obtain ⟨Yu, eu, hu, _, _⟩ := hm.ou.frs
  subst hu
  clear hm r0 r1 HMS HCP2
  have HT := LH (show StS w 3 (w.heap.size + 2) (pcB p) s (.slice B1 s.rn.cs.length d1) (.slice B2 s.pe.length d2) (.slice B3 s.fl.length d3) (.slice B4 s.ac.length d4) g (.slice B2 s.pe.length d2) (.slice Yv M1.length ev) (.slice Yu M2.length eu) s.pe M1 M2 w9 from ⟨HMV.out.1, ⟨⟨HMV.out.2.1.1, HMV.out.2.1.2.1, HM.out.ov, HM.out.ou⟩, ⟨HS7.out.1.2.2.1.1, (apart_mv HM.out.iv HS7.out.1.2.2.1.2.1 HS7.out.2.2.1.1), (apart_mv HM.out.iu HS7.out.1.2.2.1.2.2 HS7.out.2.2.1.1)⟩, ⟨(apart_mv HM.out.iv HS7.out.1.2.2.2.1.1 HS7.out.2.2.1.2.1), (apart_mv HM.out.iu HS7.out.1.2.2.2.1.2 HS7.out.2.2.1.2.1)⟩, HM.out.ap⟩, by
    obtain ⟨cs', x, h1, h2, h3⟩ := HM.out.row
    have h9 := (cell_of_row w9 g 0 _ _ _ x).trans (h3 0 (by decide) (by decide))
    exact ⟨h9, HM.out.c1, HM.out.c2⟩, HS7.out.2.2.2, HM.out.lt⟩)
  have HXR := LH (show Box w9 gs q from (HM.out.bl.block gs HGL.out).trans HXR.out)
  clear HM HMV HS7 HGL
  clear HCM HMM
  obtain ⟨a0, a1, a2, a3, a4, a5, a6, a7, a8, a9, a10, a11⟩ := HT.out.i.b.cells
  (try simp only at a0 a1 a2 a3 a4 a5 a6 a7 a8 a9 a10 a11)
  obtain ⟨p0, p1, p2⟩ := HT.out.i.pc
  obtain ⟨t0, t1, t2⟩ := HT.out.c
  have af := HT.out.i.b.free
  go_upto_region 7 with fail
  go_cut [] (fun wx => ∃ (VR : Option Addr) (dR : Nat), StS w 3 (w.heap.size + 2) (pcB p) { s with rn := R } (.slice VR R.cs.length dR) (.slice B2 s.pe.length d2) (.slice B3 s.fl.length d3) (.slice B4 s.ac.length d4) g (.slice B2 s.pe.length d2) (.slice Yv M1.length ev) (.slice Yu M2.length eu) s.pe M1 M2 wx)
  case first =>
    have HD := LH (HT.out.next (Below.refl _ _).drew)
    go_region_with (first
      | (go_at_call 55; refine (HFG.out _ Yu eu HD.out.own.1.2.2.2.rgq).mono ?_; rintro e w10 ⟨rfl, hb⟩; have HT10 := LH (HD.out.next hb); clear hb; obtain ⟨a0, a1, a2, a3, a4, a5, a6, a7, a8, a9, a10, a11⟩ := HT10.out.i.b.cells)
      | (go_at_call 54; refine (HDR.out _ B1 d1 HT10.out.own.1.1.chs).mono ?_; rintro e w11 ⟨vr, rfl, hor, hb⟩; obtain ⟨VR, dR, rfl, _, _⟩ := hor.frs; have HO11 := LH hor; have HB11 := LH hb; have hT11 := HT10.out.next hb; obtain ⟨a0, a1, a2, a3, a4, a5, a6, a7, a8, a9, a10, a11⟩ := hT11.i.b.cells; have af := hT11.i.b.free; clear hor hb hT11))
    all_goals (
      go_wp2
      go_meet
      exact ⟨VR, dR, HT10.out.putR HB11.out HO11.out⟩)
  case rest =>
  obtain ⟨VR, dR, hT⟩ := hcut
  have HT := LH hT
  clear hT HFG HDR a0 a1 a2 a3 a4 a5 a6 a7 a8 a9 a10 a11 p0 p1 p2 t0 t1 t2 af
  obtain ⟨a0, a1, a2, a3, a4, a5, a6, a7, a8, a9, a10, a11⟩ := HT.out.i.b.cells
  (try simp only at a0 a1 a2 a3 a4 a5 a6 a7 a8 a9 a10 a11)
  obtain ⟨p0, p1, p2⟩ := HT.out.i.pc
  obtain ⟨t0, t1, t2⟩ := HT.out.c
  have af := HT.out.i.b.free
  go_wp2_with fail
  refine (irepf { s with rn := R } p 3 _ _ _ _ _).mono ?_
  rintro e w10 ⟨rfl, hb⟩
  have HT := LH (HT.out.next hb)
  clear hb
  clear a0 a1 a2 a3 a4 a5 a6 a7 a8 a9 a10 a11 p0 p1 p2 t0 t1 t2 af
  rw [HFV.out]
  clear HFV
  obtain ⟨a0, a1, a2, a3, a4, a5, a6, a7, a8, a9, a10, a11⟩ := HT.out.i.b.cells
  (try simp only at a0 a1 a2 a3 a4 a5 a6 a7 a8 a9 a10 a11)
  obtain ⟨p0, p1, p2⟩ := HT.out.i.pc
  obtain ⟨t0, t1, t2⟩ := HT.out.c
  have af := HT.out.i.b.free
  go_upto_region 9 with fail
  have HT := LH (HT.out.putn 9 (.int .i64 f) (HT.out.i.b.set9 f) rfl)
  clear a0 a1 a2 a3 a4 a5 a6 a7 a8 a9 a10 a11 p0 p1 p2 t0 t1 t2 af
  generalize w10.setCell ⟨w.heap.size, 9, none⟩ (.int .i64 f) = w11 at *
  obtain ⟨a0, a1, a2, a3, a4, a5, a6, a7, a8, a9, a10, a11⟩ := HT.out.i.b.cells
  (try simp only at a0 a1 a2 a3 a4 a5 a6 a7 a8 a9 a10 a11)
  obtain ⟨p0, p1, p2⟩ := HT.out.i.pc
  obtain ⟨t0, t1, t2⟩ := HT.out.c
  have af := HT.out.i.b.free
  go_wp2_with fail
  refine (ifollow { s with rn := R, fi := f } VR B2 B3 B4 B2 Yv Yu dR d2 d3 d4 d2 ev eu s.pe M1 M2 w11 HFF.out).mono ?_
  rintro e w12 ⟨rfl, hb⟩
  have HT := LH (HT.out.next hb)
  clear hb
  clear a0 a1 a2 a3 a4 a5 a6 a7 a8 a9 a10 a11 p0 p1 p2 t0 t1 t2 af
  obtain ⟨q0, q1, q2, q3, q4, q5, q6, q7, q8, q9, q10, q11⟩ := HT.out.i.o.cells
  have qf := HT.out.i.o.free
  go_wp2
  have X := HT.out.out (fixS { s with fl := M1, ac := M2, fi := f, rn := R }) rfl rfl rfl rfl
  refine bodyPost_ret (results_cell_row rfl _ _ (w.heap.size + 2) _ _ _ _ rfl X.1 Tryz.underlying29 rfl (by kernel_rfl)) rfl ?_
  exact ⟨_, _, _, _, rfl, X.2.1, X.2.2⟩
end Go.Proofs.YtdaoaedkjoknmaaGreat
