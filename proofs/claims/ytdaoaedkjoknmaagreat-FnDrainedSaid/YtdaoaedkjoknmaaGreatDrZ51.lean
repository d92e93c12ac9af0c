/-
  Contracts and lemmas for the law on draining.
-/
import Derived.Test.YtdaoaedkjoknmaaGreatDrZ0
import Derived.Test.YtdaoaedkjoknmaaGreatDrZ50
import Derived.Test.YtdaoaedkjoknmaaGreatDrZ2
import Derived.Test.YtdaoaedkjoknmaaGreatDrZ1
import Derived.Test.YtdaoaedkjoknmaaGreatDrZ32
import Derived.Test.YtdaoaedkjoknmaaGreatDrZ14
import Derived.Test.YtdaoaedkjoknmaaGreatDrZ46
import Derived.Test.YtdaoaedkjoknmaaGreatDrZ42
import Derived.Test.YtdaoaedkjoknmaaGreatDrZ6
import Derived.Deep.RegionHeld3
import Derived.Deep.RegionWith
import Derived.Deep.DeepCutAuto
import Derived.Deep.RegionLaw
set_option maxRecDepth 1000000
set_option maxHeartbeats 8000000
namespace Go.Proofs.YtdaoaedkjoknmaaGreat
open Go.RowKit Go.Deep Go.Proofs.YtdaoaedkjoknmaaGreat.Num

theorem at0 (j n : Nat) : 0 ≤ (j : Int) + (n : Int) := by omega
theorem at1000 {j : Nat} (h : j < 60) (n : Nat) (hn : n ≤ 11 := by decide) : (j : Int) + (n : Int) ≤ 1000 := by omega
theorem nw16 : docSn (nwS 16) ∧ okSn (nwS 16) ∧ tidyS (nwS 16) ∧ (LenS 300000 (nwS 16) ∧ inSn (nwS 16)) := by
  have hp : powR 16 := by unfold powR; omega
  have hd := nwS_doc hp
  refine ⟨hd, by decide, fun _ _ _ => ?_, by unfold LenS; decide, by unfold inSn inRn in64; decide⟩
  decide
theorem nw16c : fitS (nwS 16) ∧ ¬ ((nwS 16).st = 4 ∨ (nwS 16).st = 5) ∧ (cntR (allS (nwS 16)) = (nwS 16).rn.en ∧ cntR (nwS 16).pe + cntR (nwS 16).fl + cntR (nwS 16).ac = (nwS 16).rn.en) ∧ ¬ 0 < (nwS 16).rn.en ∧ gapR (nwS 16).ac 0 = (nwS 16).rn.base :=
  ⟨(nw16.1.low (by decide)).1, by decide, by decide, by decide, by decide⟩
abbrev abcs : ByteArray := ⟨#[97, 98, 99, 100, 101, 102, 103, 104, 105, 106, 107, 108, 109, 110, 111, 112]⟩
abbrev abcN (n : Int) : ByteArray := abcs.extract 0 n.toNat
theorem abcN_size {n : Int} (h0 : 0 ≤ n) (h1 : n ≤ 16) : (abcN n).size = n.toNat := by
  show ((abcs.extract 0 n.toNat)).size = _
  have h : abcs.size = 16 := rfl
  rw [ByteArray.size_extract, h]
  omega

theorem wr16 {W : ByteArray} (hw : W.size ≤ 16) : docSn (wrS true (nwS 16) W) ∧ (LenS 300000 (wrS true (nwS 16) W) ∧ inSn (wrS true (nwS 16) W)) ∧ (wrS true (nwS 16) W).rn.en = W.size := by
  have hd := wrS_doc W nw16.1
  obtain ⟨_, h⟩ := DrI.start hw
  have e1 : ∀ t : Sn, (clS true t).rn = t.rn ∧ (clS true t).pe = t.pe ∧ (clS true t).fl = t.fl ∧ (clS true t).ac = t.ac ∧ (clS true t).sent = t.sent ∧ (clS true t).code = t.code := fun t => by
    unfold clS
    split <;> exact ⟨rfl, rfl, rfl, rfl, rfl, rfl⟩
  have e2 : 0 ≤ (wrS true (nwS 16) W).st ∧ (wrS true (nwS 16) W).st ≤ 3 := by
    unfold wrS
    split
    · show 0 ≤ (nwS 16).st ∧ (nwS 16).st ≤ 3
      decide
    · decide
  obtain ⟨⟨l1, l2, l3, l4⟩, i1, i2, i3, i4, i5, i6⟩ := h.fits
  obtain ⟨a, b, c, d, e, f⟩ := e1 (wrS true (nwS 16) W)
  rw [a] at l1 i2
  rw [b] at l2
  rw [c] at l3
  rw [d] at l4
  rw [e] at i5
  rw [f] at i6
  have hen := h.en
  rw [a] at hen
  have hq := hd.low e2.2
  have q := hq.2.2.2.2.2.2.2.1
  have q1 := hq.2.2.2.2.2.1
  have q2 := hq.1.2.2.2.2.2.2
  refine ⟨hd, ⟨⟨l1, l2, l3, l4⟩, ⟨by omega, by omega⟩, i2, ?_, ⟨by omega, by omega⟩, i5, i6⟩, hen⟩
  by_cases hf : (wrS true (nwS 16) W).fin = -1
  · rw [hf]; unfold in64; decide
  · rw [q hf, hen]; unfold in64; omega
theorem law_Drained (A : Option Addr) (len cap : Nat) (w : World) (hlen : len ≤ maxLen) (hcode : Code w w.heap.size A len) :
    Calls Tryz.prog 3 #[.slice A len cap] w fun e w' => e = .returned (.bool true) ∧ Below w.heap.size w w' := by
  by_cases hbig : 1048576 < len
  · go_enter Tryz.func3, Tryz.ntmps3
    go_wp2_with (go_at_call 5; refine (big_yes A len cap _ hbig hlen).mono ?_; rintro e w' ⟨rfl, rfl⟩)
    go_ret
    exact ⟨rfl, Below.refl _ _⟩
  have hsm : len ≤ 1048576 := by omega
  clear hbig
  have HAT : Hid (∀ i : Int, 0 ≤ i → i ≤ 1000 → ∃ x : Int, (0 ≤ x ∧ x ≤ 255) ∧ ∀ W, Below w.heap.size w W → Calls Tryz.prog 8 #[.slice A len cap, .int .i64 i] W fun e w' => e = .returned (.int .i64 x) ∧ W = w') := LH fun i h0 h1 => at_ok A len cap w hsm hcode i h0 h1
  have HBG := LH fun W => big_no A len cap W hsm
  clear hcode hlen hsm
  obtain ⟨x0, hx0, hat0⟩ := HAT.out 0 (by decide) (by decide)
  have HA0 := LH hat0
  have hm0 : x0.tmod 17 = x0 % 17 := Int.tmod_eq_emod_of_nonneg hx0.1
  have hn0 : 0 ≤ x0.tmod 17 ∧ x0.tmod 17 ≤ 16 := by rw [hm0]; omega
  have HN := LH hn0
  have hz17 : ¬ (17 : Int) = 0 := by decide
  clear hat0 hx0 hm0 hn0
  go_enter Tryz.func3, Tryz.ntmps3
  go_wp2_with fail
  refine (HBG.out _).mono ?_
  rintro e w' ⟨rfl, rfl⟩
  go_wp2_with fail
  refine (inewS 16 w).mono ?_
  rintro e w1 ⟨u1, u2, u3, u4, rfl, ho, hb⟩
  obtain ⟨A1, A2, A3, A4, c1, c2, c3, c4, rfl, rfl, rfl, rfl, k1, k2, k3, k4⟩ := ho.frs
  have HD := LH (Dr1.new hb ho (Nat.le_refl _))
  clear ho hb k1 k2 k3 k4 HBG
  go_upto_region 4 with fail
  generalize w1.alloc (.cells (snB (nwS 16) (.slice A1 (nwS 16).rn.cs.length c1) (.slice A2 (nwS 16).pe.length c2) (.slice A3 (nwS 16).fl.length c3) (.slice A4 (nwS 16).ac.length c4)) 29) = w2 at *
  generalize w1.heap.size = gs at *
  have HWR : Hid (∀ W, ReadS W W.heap.size A1 A2 A3 A4 (nwS 16) → Calls Tryz.prog 7 #[snV (nwS 16) (.slice A1 (nwS 16).rn.cs.length c1) (.slice A2 (nwS 16).pe.length c2) (.slice A3 (nwS 16).fl.length c3) (.slice A4 (nwS 16).ac.length c4), .string (abcN (x0.tmod 17))] W fun e w' => ∃ v1 v2 v3 v4, e = .returned (.tuple #[snV (wrS true (nwS 16) (abcN (x0.tmod 17))) v1 v2 v3 v4, .int .i64 (wrNS true (nwS 16) (abcN (x0.tmod 17)) : Nat)]) ∧ OwnSn w' W.heap.size v1 v2 v3 v4 (wrS true (nwS 16) (abcN (x0.tmod 17))) ∧ Below W.heap.size W w') := LH fun W h => by
    have h2 := iwriteS (nwS 16) A1 A2 A3 A4 c1 c2 c3 c4 W.heap.size W (Nat.le_refl _) h (abcN (x0.tmod 17)) nw16.2.2.2.1 nw16.2.2.2.2 (by rw [abcN_size HN.out.1 HN.out.2]; have := HN.out; omega)
    rw [decide_eq_true nw16.1] at h2
    exact h2
  go_cut [] (fun wx => ∃ v1 v2 v3 v4, Dr1 w wx gs (wrS true (nwS 16) (abcN (x0.tmod 17))) v1 v2 v3 v4)
  case first =>
    have HDd := LH HD.out.drew
    obtain ⟨a0, a1, a2, a3, a4, a5, a6, a7, a8, a9, a10, a11⟩ := HD.out.cells
    have hn1 := HN.out.1
    have hn2 := HN.out.2
    go_region_with (first | (go_at_call 8; refine (HA0.out _ HDd.out.b).mono ?_; rintro e w3 ⟨rfl, rfl⟩) | (go_at_call 7; refine (HWR.out _ HDd.out.os.read).mono ?_; rintro e w3 ⟨v1, v2, v3, v4, rfl, ho, hb⟩; obtain ⟨B1, B2, B3, B4, d1, d2, d3, d4, rfl, rfl, rfl, rfl, _, _, _, _⟩ := ho.frs; have HO := LH ho; have HDn := LH (HDd.out.next hb); have qf := HDn.out.free; obtain ⟨q0, q1, q2, q3, q4, q5, q6, q7, q8, q9, q10, q11⟩ := HDn.out.cells; clear ho hb))
    all_goals (
      go_wp2
      go_meet
      exact ⟨_, _, _, _, HDn.out.putS ⟨HDd.out.lts, HDd.out.b.size⟩ HO.out⟩)
  case rest =>
  obtain ⟨v1, v2, v3, v4, hd⟩ := hcut
  obtain ⟨B1, B2, B3, B4, d1, d2, d3, d4, rfl, rfl, rfl, rfl, _, _, _, _⟩ := hd.os.frs
  have HD := LH hd
  clear hd HWR
  have HSZ : Hid ((abcN (x0.tmod 17)).size ≤ 16) := LH (by rw [abcN_size HN.out.1 HN.out.2]; have := HN.out; omega)
  have HWS : Hid (∀ (E1 E2 E3 E4 : Option Addr) (f1 f2 f3 f4 : Nat) W, ReadS W W.heap.size E1 E2 E3 E4 (nwS 16) → Calls Tryz.prog 10 #[snV (nwS 16) (.slice E1 (nwS 16).rn.cs.length f1) (.slice E2 (nwS 16).pe.length f2) (.slice E3 (nwS 16).fl.length f3) (.slice E4 (nwS 16).ac.length f4), .string (abcN (x0.tmod 17))] W fun e w' => ∃ v1 v2 v3 v4, e = .returned (.tuple #[snV (wrS true (nwS 16) (abcN (x0.tmod 17))) v1 v2 v3 v4, .int .i64 (wrNS true (nwS 16) (abcN (x0.tmod 17)) : Nat)]) ∧ OwnSn w' W.heap.size v1 v2 v3 v4 (wrS true (nwS 16) (abcN (x0.tmod 17))) ∧ Below W.heap.size W w') := LH fun E1 E2 E3 E4 f1 f2 f3 f4 W h => by
    have hl := nw16.2.2.2.1
    have h2 := swriteC (nwS 16) (abcN (x0.tmod 17)) E1 E2 E3 E4 f1 f2 f3 f4 W.heap.size W (Nat.le_refl _) h (hl.up (by decide)) nw16.2.2.2.2 nw16.2.1 nw16c.1 nw16c.2.1 nw16c.2.2.1 nw16c.2.2.2.1 nw16c.2.2.2.2 (by have := HSZ.out; omega)
    rw [decide_eq_true nw16.2.1] at h2
    exact h2
  have HCL : Hid (∀ W, ReadS W W.heap.size B1 B2 B3 B4 (wrS true (nwS 16) (abcN (x0.tmod 17))) → Calls Tryz.prog 11 #[snV (wrS true (nwS 16) (abcN (x0.tmod 17))) (.slice B1 (wrS true (nwS 16) (abcN (x0.tmod 17))).rn.cs.length d1) (.slice B2 (wrS true (nwS 16) (abcN (x0.tmod 17))).pe.length d2) (.slice B3 (wrS true (nwS 16) (abcN (x0.tmod 17))).fl.length d3) (.slice B4 (wrS true (nwS 16) (abcN (x0.tmod 17))).ac.length d4)] W fun e w' => ∃ v1 v2 v3 v4 z, e = .returned (.tuple #[snV (clS true (wrS true (nwS 16) (abcN (x0.tmod 17)))) v1 v2 v3 v4, .bool z]) ∧ OwnSn w' W.heap.size v1 v2 v3 v4 (clS true (wrS true (nwS 16) (abcN (x0.tmod 17)))) ∧ Below W.heap.size W w') := LH fun W h => by
    have hw := wr16 HSZ.out
    have h2 := iclose _ B1 B2 B3 B4 d1 d2 d3 d4 W.heap.size W (Nat.le_refl _) h hw.2.1.1 hw.2.1.2
    rw [decide_eq_true hw.1] at h2
    exact h2.mono fun e w' ⟨v1, v2, v3, v4, h3, h4⟩ => ⟨v1, v2, v3, v4, _, h3, h4⟩
  have HST := LH (DrI.start HSZ.out)
  have HEN := LH (wr16 HSZ.out).2.2
  obtain ⟨a0, a1, a2, a3, a4, a5, a6, a7, a8, a9, a10, a11⟩ := HD.out.cells
  generalize wrS true (nwS 16) (abcN (x0.tmod 17)) = S1 at *
  go_upto_region 6 with fail
  go_wp2_with fail
  refine (snewS 16 _).mono ?_
  rintro e w3 ⟨y1, y2, y3, y4, rfl, ho, hb⟩
  obtain ⟨E1, E2, E3, E4, f1, f2, f3, f4, rfl, rfl, rfl, rfl, _, _, _, _⟩ := ho.frs
  have HT := LH (Dr1.new ((HD.out.b).trans (hb.mono HD.out.b.size)) ho HD.out.b.size)
  have HD3 := LH (HD.out.next hb)
  have HB4 := LH ((Below.refl w3.heap.size w3).alloc (Nat.le_refl _) (.cells (snB (nwS 16) (.slice E1 (nwS 16).rn.cs.length f1) (.slice E2 (nwS 16).pe.length f2) (.slice E3 (nwS 16).fl.length f3) (.slice E4 (nwS 16).ac.length f4)) 29))
  clear ho hb HD a0 a1 a2 a3 a4 a5 a6 a7 a8 a9 a10 a11
  go_upto_region 7 with fail
  generalize w3.alloc (.cells (snB (nwS 16) (.slice E1 (nwS 16).rn.cs.length f1) (.slice E2 (nwS 16).pe.length f2) (.slice E3 (nwS 16).fl.length f3) (.slice E4 (nwS 16).ac.length f4)) 29) = w4 at *
  generalize hgt : w3.heap.size = gt at *
  have HGT := LH hgt
  clear hgt
  go_cut [] (fun wx => (∃ v1 v2 v3 v4, Dr1 w wx gt S1 v1 v2 v3 v4) ∧ Below gt w3 wx)
  case first =>
    have HDd := LH HT.out.drew
    obtain ⟨a0, a1, a2, a3, a4, a5, a6, a7, a8, a9, a10, a11⟩ := HT.out.cells
    have hn1 := HN.out.1
    have hn2 := HN.out.2
    go_region_with (first | (go_at_call 8; refine (HA0.out _ HDd.out.b).mono ?_; rintro e w5 ⟨rfl, rfl⟩) | (go_at_call 10; refine (HWS.out _ _ _ _ _ _ _ _ _ HDd.out.os.read).mono ?_; rintro e w5 ⟨v1, v2, v3, v4, rfl, ho, hb⟩; obtain ⟨B1, B2, B3, B4, d1, d2, d3, d4, rfl, rfl, rfl, rfl, _, _, _, _⟩ := ho.frs; have HO := LH ho; have HDn := LH (HDd.out.next hb); have HBn := LH (HB4.out.drew.trans (hb.mono (Nat.le_of_lt HDd.out.lts))); have qf := HDn.out.free; obtain ⟨q0, q1, q2, q3, q4, q5, q6, q7, q8, q9, q10, q11⟩ := HDn.out.cells; clear ho hb))
    all_goals (
      go_wp2
      go_meet
      exact ⟨⟨_, _, _, _, HDn.out.putS ⟨HDd.out.lts, HDd.out.b.size⟩ HO.out⟩, putS_below HBn.out (Nat.le_refl _) _ _ _ _ _⟩)
  case rest =>
  obtain ⟨⟨v1, v2, v3, v4, ht⟩, hb⟩ := hcut
  have HD := LH (HD3.out.next (by rw [HGT.out]; exact hb))
  have t3 := ht.cells.2.2.2.1
  clear ht hb HWS HA0 HT HB4 HD3 HGT
  obtain ⟨a0, a1, a2, a3, a4, a5, a6, a7, a8, a9, a10, a11⟩ := HD.out.cells
  go_wp2_with fail
  refine (HCL.out _ HD.out.os.read).mono ?_
  rintro e w6 ⟨v1, v2, v3, v4, z, rfl, ho, hb⟩
  obtain ⟨C1, C2, C3, C4, g1, g2, g3, g4, rfl, rfl, rfl, rfl, _, _, _, _⟩ := ho.frs
  have HL := LH (show gs < _ ∧ w.heap.size ≤ _ from ⟨HD.out.lts, HD.out.b.size⟩)
  have HDP := LH ((HD.out.next hb).putS HL.out ho)
  have HD := LH (HD.out.next hb)
  clear ho hb HCL HL t3 a0 a1 a2 a3 a4 a5 a6 a7 a8 a9 a10 a11
  obtain ⟨a0, a1, a2, a3, a4, a5, a6, a7, a8, a9, a10, a11⟩ := HD.out.cells
  have pf := HD.out.free
  go_upto_region 11 with fail
  clear a0 a1 a2 a3 a4 a5 a6 a7 a8 a9 a10 a11 pf HD
  simp only [putS] at HDP
  generalize ((((((((((((w6.setCell ⟨gs, 0, none⟩ (.int .i64 (clS true S1).st)).setCell ⟨gs, 1, none⟩ (.int .i64 (clS true S1).rn.size)).setCell ⟨gs, 2, none⟩ (.int .i64 (clS true S1).rn.base)).setCell ⟨gs, 3, none⟩ (.int .i64 (clS true S1).rn.en)).setCell ⟨gs, 4, none⟩ (.slice C1 (clS true S1).rn.cs.length g1)).setCell ⟨gs, 5, none⟩ (.slice C2 (clS true S1).pe.length g2)).setCell ⟨gs, 6, none⟩ (.slice C3 (clS true S1).fl.length g3)).setCell ⟨gs, 7, none⟩ (.slice C4 (clS true S1).ac.length g4)).setCell ⟨gs, 8, none⟩ (.int .i64 (clS true S1).fin)).setCell ⟨gs, 9, none⟩ (.int .i64 (clS true S1).fi)).setCell ⟨gs, 10, none⟩ (.int .i64 (clS true S1).sent)).setCell ⟨gs, 11, none⟩ (.int .i64 (clS true S1).code)) = w7 at *
  generalize clS true S1 = S2 at *
  go_wp2_with fail
  refine (inewrc _).mono ?_
  rintro e w8 ⟨u, rfl, ho, hb⟩
  obtain ⟨U, cu, rfl, _, _⟩ := ho.frs
  have HW := LH (HDP.out.start nuRc hb ho)
  clear ho hb HDP
  go_upto_region 13 with fail
  simp only [rcC] at HW
  generalize (w8.alloc (.cells #[.int .i64 nuRc.st, .int .i64 nuRc.buf.next, .slice U nuRc.buf.chs.length cu, .int .i64 nuRc.fin, .int .i64 nuRc.hi, .int .i64 nuRc.code] 40)).alloc (.cells #[] 44) = w9 at *
  generalize w8.heap.size = gg at *
  generalize U = U0 at *
  generalize cu = cu0 at *
  go_wp2
  go_loopw [9, 10] (fun pv i wr => ∃ j : Nat, j ≤ 60 ∧ i = .int .i64 j ∧ DrInv w wr gs gg (abcN (x0.tmod 17)) j pv) (fun _ i _ => 60 - (intOf i).toNat)
  case atStart => exact ⟨0, by decide, rfl, S2, _, _, _, _, nuRc, _, [], by decide, by decide, HW.out, HST.out.2⟩
  case round =>
    obtain ⟨j, hj, rfl, hinv⟩ := hrel
    clear HW HST
    by_cases hlt : j < 60
    · refine tround hinv hlt (HAT.out j (Int.natCast_nonneg j) (by have := at1000 hlt 0; simpa using this)) (HAT.out ((j : Int) + 7) (at0 j 7) (at1000 hlt 7)) (HAT.out ((j : Int) + 9) (at0 j 9) (at1000 hlt 9)) (HAT.out ((j : Int) + 11) (at0 j 11) (at1000 hlt 11)) (fun u11 u12 u13 u14 u15 u16 u17 u18 u64 u65 u66 u67 u68 u69 u70 u71 u72 u73 u74 u75 u76 u77 u78 u79 u80 u81 u82 u83 u84 u85 u86 u87 u88 u89 u90 u91 u92 u93 u94 u95 u96 u97 u98 u99 u100 u101 u102 u103 u104 u105 u106 u107 u108 u109 u110 u111 u112 u113 u114 u115 u116 u117 u118 u119 u120 u121 u122 u123 u124 u125 u126 u127 u128 u129 u130 u131 u132 u133 u134 u135 u136 u137 u138 u139 u140 u141 u142 u143 u144 u145 u146 u147 u148 u149 u150 u151 u152 u153 u154 u155 u156 u157 u158 u159 u160 pv' W' h => ?_)
      clear hinv
      refine ⟨⟨_, _, _, _, _, _, _, _, _, _, _, _, _, _, _, _, _, _, _, _, _, _, _, _, _, _, _, _, _, _, _, _, _, _, _, _, _, _, _, _, _, _, _, _, _, _, _, _, _, _, _, _, _, _, _, _, _, _, _, _, _, _, _, _, _, _, _, _, _, _, _, _, _, _, _, _, _, _, _, _, _, _, _, _, _, _, _, _, _, _, _, _, _, _, _, _, _, _, _, _, _, _, _, _, _, _, _, _, ⟨j + 1, hlt, rfl, h⟩, rfl⟩, ?_⟩
      simp [intOf]
      omega
    · obtain rfl : j = 60 := by omega
      clear hlt hj
      obtain ⟨s, v1, v2, v3, v4, g, u, ps, hsum, hpl, hw, hi⟩ := hinv
      obtain ⟨A1, A2, A3, A4, c1, c2, c3, c4, rfl, rfl, rfl, rfl, k1, k2, k3, k4⟩ := hw.os.frs
      obtain ⟨U, cu, rfl, kU, _⟩ := hw.og.frs
      obtain ⟨Q, cq, hpv, kq, hps⟩ := hw.op.frs
      subst hpv
      have HW := LH hw
      have HI := LH hi
      have HSM := LH hsum
      clear hw hi hsum hpl k1 k2 k3 k4 kU kq hps
      obtain ⟨a0, a1, a2, a3, a4, a5, a6, a7, a8, a9, a10, a11⟩ := HW.out.cells
      by_cases hst : s.st = 3
      rotate_left
      · have t := (show (s.st != 3) = true by simpa using hst)
        clear hst
        go_wp2
        go_ret
        exact ⟨rfl, HW.out.b⟩
      · have t := (show (s.st != 3) = false by simpa using hst)
        obtain ⟨r1, r2, r3⟩ := HI.out.read hst
        have HTX : Hid (abcN (x0.tmod 17) = (⟨#[97, 98, 99, 100, 101, 102, 103, 104, 105, 106, 107, 108, 109, 110, 111, 112]⟩ : ByteArray).extract 0 S1.rn.en.toNat) := LH (by
          have h1 := HEN.out
          rw [abcN_size HN.out.1 HN.out.2] at h1
          unfold abcN
          rw [h1]
          rfl)
        have HRD : Hid (∀ W, Chs W W.heap.size U g.buf.chs → Calls Tryz.prog 18 #[rcV g (.slice U g.buf.chs.length cu), .int .i64 100] W fun e w' => ∃ y v, e = .returned (.tuple #[.string ((⟨#[97, 98, 99, 100, 101, 102, 103, 104, 105, 106, 107, 108, 109, 110, 111, 112]⟩ : ByteArray).extract 0 S1.rn.en.toNat), rcV y v]) ∧ OwnX w' W.heap.size v y.buf.chs ∧ Below W.heap.size W w') := LH fun W h => by
          have hk := okB_few HI.out.rok.1.1
          have hs := HSM.out
          have h2 := ireadrc g 100 U cu W.heap.size W (Nat.le_refl _) h (by omega) (okB_inb HI.out.rok.1.1 (by omega)) (rc_in HI.out.rok) (by decide)
          rw [r3, HTX.out] at h2
          exact h2.mono fun e w' ⟨v, h3, h4⟩ => ⟨_, v, h3, h4⟩
        subst r1
        have tl : (((([] : List Pc).length : Nat) : Int) == 0) = true := rfl
        have tg : (g.st == 2) = true := by simpa using r2
        have h0 : 0 ≤ S1.rn.en := by have := HEN.out; omega
        have h16 : S1.rn.en ≤ 16 := by have := HEN.out; have := HSZ.out; omega
        clear hst r2 r3
        obtain ⟨b0, b1, b2, b3, b4, b5⟩ := HW.out.rg.cells
        go_wp2_with fail
        refine (HRD.out _ HW.out.og.chs).mono ?_
        rintro e w10 ⟨y, v, rfl, ho, hb⟩
        obtain ⟨Y, cy, rfl, _, _⟩ := ho.frs
        have HWn := LH ((HW.out.next hb).alloc (.cells (rcC y.st y.buf.next (.slice Y y.buf.chs.length cy) y.fin y.hi y.code) 40))
        clear ho hb HRD a0 a1 a2 a3 a4 a5 a6 a7 a8 a9 a10 a11 b0 b1 b2 b3 b4 b5
        go_upto_region 37 with fail
        simp only [rcC] at HWn
        generalize w10.alloc (.cells #[.int .i64 y.st, .int .i64 y.buf.next, .slice Y y.buf.chs.length cy, .int .i64 y.fin, .int .i64 y.hi, .int .i64 y.code] 40) = w11 at *
        generalize w10.heap.size = gy at *
        obtain ⟨b0, b1, b2, b3, b4, b5⟩ := HWn.out.rg.cells
        go_wp2_with fail
        go_ret
        exact ⟨rfl, HWn.out.b⟩
end Go.Proofs.YtdaoaedkjoknmaaGreat
