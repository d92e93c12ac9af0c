/-
  The exact laws on rings, walked: WriteRing, DropRing.
-/
import Derived.Test.YtkhekbfakloaoaaLRn
namespace Go.Proofs.Ytkhekbfakloaoaa
open Go.RowKit Go.Deep Go.Proofs.Ytkhekbfakloaoaa.Num

set_option maxRecDepth 100000 in
set_option maxHeartbeats 4000000 in
/-- The law on WriteRing, of a spec and an impl that answer so. -/
theorem law_WriteRing (HSP : ∀ (r : Rn) (d : ByteArray) (A : Option Addr) (cap B : Nat) (w : World), B ≤ w.heap.size → Ints w B A r.cs → r.cs.length ≤ 1048576 → r.cs.length ≤ cap → inI r.cs → inRn r → d.size ≤ 1048576 → Calls Try.prog 14 #[rnV r (.slice A r.cs.length cap), .string d] w fun e w' => ∃ v, e = .returned (.tuple #[rnV (wrR r d) v, .int .i64 ((cntW r d : Int))]) ∧ OwnK w' w.heap.size v (wrR r d).cs ∧ Below w.heap.size w w')
    (HI : ∀ (r : Rn) (d : ByteArray) (A : Option Addr) (cap B : Nat) (w : World), B ≤ w.heap.size → Ints w B A r.cs → r.cs.length ≤ 1048576 → r.cs.length ≤ cap → inI r.cs → inRn r → d.size ≤ 1048576 → Calls Try.prog 13 #[rnV r (.slice A r.cs.length cap), .string d] w fun e w' => ∃ v, e = .returned (.tuple #[rnV (wrR r d) v, .int .i64 ((cntW r d : Int))]) ∧ OwnK w' w.heap.size v (wrR r d).cs ∧ Below w.heap.size w w')
    (r : Rn) (d : ByteArray) (A : Option Addr) (cap : Nat) (w : World) (hr : Ints w w.heap.size A r.cs) (hn : r.cs.length ≤ maxLen) (hi : inI r.cs) (hx : inRn r) :
    Calls Try.prog 7 #[rnV r (.slice A r.cs.length cap), .string d] w fun e w' => e = .returned (.bool true) ∧ Below w.heap.size w w' := by
  have HW := Lib.hid (InRn.start w r A cap 47 hr)
  have HZ := Lib.hid (lszn 1048576 (by decide) (by decide) r A cap w.heap.size _ (Nat.le_of_lt HW.out.2.2.1) HW.out.2.1 (by unfold maxLen at hn; omega))
  have hlow := (szI_low 1048576 r.cs (by decide)).1
  by_cases hdl : 1048576 < d.size
  · have hd0 : decide (1048576 < (d.size : Int)) = true := decide_eq_true (by omega)
    clear hlow hr hi HI HSP hdl HZ hx 
    go_enter Try.func7, Try.ntmps7
    go_wp2
    go_ret
    exact ⟨rfl, HW.out.2.2.2⟩
  have hd0 : decide (1048576 < (d.size : Int)) = false := decide_eq_false (by omega)
  by_cases hneg : szI 1048576 r.cs < 0
  · generalize szI 1048576 r.cs = m at *
    have hd : decide (m < 0) = true := decide_eq_true hneg
    clear hneg hlow hr hi hx HI HSP  hdl
    go_enter Try.func7, Try.ntmps7
    go_wp2_with fail
    refine HZ.out.mono ?_
    rintro e w1 ⟨rfl, hb1⟩
    have H1 := Lib.hid (HW.out.next hb1)
    clear hb1
    go_wp2
    go_ret
    exact ⟨rfl, H1.out.2.2.2⟩
  have hlen := szI_ok (N := 1048576) (zs := r.cs) (by decide) (by omega)
  have hol := wrR_len r d
  have HS : Hid (∀ (g : Nat) (W : World), Ints W W.heap.size (some ⟨g, 0, none⟩) r.cs → Calls Try.prog 14 #[rnV r (.slice (some ⟨g, 0, none⟩) r.cs.length r.cs.length), .string d] W fun e w' => ∃ v, e = .returned (.tuple #[rnV (wrR r d) v, .int .i64 ((cntW r d : Int))]) ∧ OwnK w' W.heap.size v (wrR r d).cs ∧ Below W.heap.size W w') := Lib.hid fun g W h => HSP r d _ _ W.heap.size W (Nat.le_refl _) h hlen (Nat.le_refl _) hi hx (by omega)
  have HM : Hid (∀ (g : Nat) (W : World), Ints W W.heap.size (some ⟨g, 0, none⟩) r.cs → Calls Try.prog 13 #[rnV r (.slice (some ⟨g, 0, none⟩) r.cs.length r.cs.length), .string d] W fun e w' => ∃ v, e = .returned (.tuple #[rnV (wrR r d) v, .int .i64 ((cntW r d : Int))]) ∧ OwnK w' W.heap.size v (wrR r d).cs ∧ Below W.heap.size W w') := Lib.hid fun g W h => HI r d _ _ W.heap.size W (Nat.le_refl _) h hlen (Nat.le_refl _) hi hx (by omega)
  generalize szI 1048576 r.cs = m at *
  have hd : decide (m < 0) = false := decide_eq_false hneg
  generalize (cntW r d : Int) = s1 at *
  generalize wrR r d = R at *
  have hbn1 := bne_int s1
  have hLl : R.cs.length ≤ 1048577 := by omega
  clear hneg hlow hr hi HI HSP hx hol  hdl
  go_enter Try.func7, Try.ntmps7
  go_wp2_with fail
  refine HZ.out.mono ?_
  rintro e w1 ⟨rfl, hb1⟩
  have H1 := Lib.hid (HW.out.next hb1)
  clear hb1 HW HZ
  obtain ⟨a0, a1, a2, a3⟩ := H1.out.1
  go_wp2_with fail
  refine (H1.out.to hlen).mono ?_
  rintro e w2 ⟨k2, rfl, ho', hb'⟩
  have H2 := Lib.hid (H1.out.next hb')
  have HTw2 := Lib.hid ho'
  clear ho' hb' a0 a1 a2 a3
  go_wp2_with fail
  refine (HS.out _ w2 HTw2.out.chs).mono ?_
  rintro e w3 ⟨v3, rfl, ho3, hb3⟩
  obtain ⟨A3, c3, rfl, _, _⟩ := ho3.frs
  have V4 := Lib.hid (VarN.new R 26 ho3 hb3.size)
  have H4 := Lib.hid ((H2.out.next hb3).alloc (.cells (rnC R.size R.base R.en (.slice A3 R.cs.length c3)) 26))
  have hz4 : (w3.alloc (.cells (rnC R.size R.base R.en (.slice A3 R.cs.length c3)) 26)).heap.size = w3.heap.size + 1 := by simp
  have HZ4 := Lib.hid hz4
  have hB0 : w.heap.size < w2.heap.size := H2.out.2.2.1
  have hB1 : w2.heap.size ≤ w3.heap.size := hb3.size
  clear ho3 hb3 HTw2 H2 HS hz4
  go_upto_region 8 with fail
  generalize w3.alloc (.cells (rnC R.size R.base R.en (.slice A3 R.cs.length c3)) 26) = w4 at *
  generalize w3.heap.size = g0 at *
  generalize w2.heap.size = B0 at *
  obtain ⟨a0, a1, a2, a3⟩ := H4.out.1
  go_wp2_with fail
  refine (H4.out.to hlen).mono ?_
  rintro e w5 ⟨kx, rfl, ho', hb'⟩
  have hs5 : w4.heap.size ≤ w5.heap.size := hb'.size
  have X6 := Lib.hid (VarN.new r 26 ho' hs5)
  have H6 := Lib.hid ((H4.out.next hb').alloc (.cells (rnC r.size r.base r.en (.slice (some ⟨kx, 0, none⟩) r.cs.length r.cs.length)) 26))
  have V6 := Lib.hid ((V4.out.next hb').alloc (.cells (rnC r.size r.base r.en (.slice (some ⟨kx, 0, none⟩) r.cs.length r.cs.length)) 26))
  have hz6 : (w5.alloc (.cells (rnC r.size r.base r.en (.slice (some ⟨kx, 0, none⟩) r.cs.length r.cs.length)) 26)).heap.size = w5.heap.size + 1 := by simp
  have HZ6 := Lib.hid hz6
  have hx1 : g0 < w4.heap.size := by have := HZ4.out; omega
  clear hz6 ho' hb' H4 V4 HZ4 a0 a1 a2 a3
  go_upto_region 9 with fail
  generalize w5.alloc (.cells (rnC r.size r.base r.en (.slice (some ⟨kx, 0, none⟩) r.cs.length r.cs.length)) 26) = w6 at *
  generalize w5.heap.size = gx at *
  generalize w4.heap.size = Bx at *
  obtain ⟨x0, x1, x2, x3⟩ := X6.out.1
  go_wp2_with fail
  refine (HM.out _ w6 X6.out.2.1.chs).mono ?_
  rintro e w7 ⟨v7, rfl, ho7, hb7⟩
  obtain ⟨A7, c7, rfl, _, _⟩ := ho7.frs
  have hs7 : w6.heap.size ≤ w7.heap.size := hb7.size
  have G8 := Lib.hid (VarN.new R 26 ho7 hb7.size)
  have H8 := Lib.hid ((H6.out.next hb7).alloc (.cells (rnC R.size R.base R.en (.slice A7 R.cs.length c7)) 26))
  have V8 := Lib.hid ((V6.out.next hb7).alloc (.cells (rnC R.size R.base R.en (.slice A7 R.cs.length c7)) 26))
  have X8 := Lib.hid ((X6.out.next hb7).alloc (.cells (rnC R.size R.base R.en (.slice A7 R.cs.length c7)) 26))
  have hg1 : gx < w6.heap.size := by have := HZ6.out; omega
  clear ho7 hb7 H6 V6 X6 x0 x1 x2 x3 HZ6
  go_upto_region 10 with fail
  generalize w7.alloc (.cells (rnC R.size R.base R.en (.slice A7 R.cs.length c7)) 26) = w8 at *
  generalize w7.heap.size = gg at *
  generalize w6.heap.size = Bg at *
  obtain ⟨y0, y1, y2, y3⟩ := G8.out.1
  obtain ⟨z0, z1, z2, z3⟩ := V8.out.1
  go_wp2_with fail
  refine (eqvn R _ _ _ _ _ _ _ G8.out.2.1 V8.out.2.1 (by omega)).mono ?_
  rintro e w9 ⟨rfl, hb'⟩
  have H9 := Lib.hid (H8.out.next hb')
  have V9 := Lib.hid (V8.out.next hb')
  have X9 := Lib.hid (X8.out.next hb')
  have G9 := Lib.hid (G8.out.next hb')
  clear hb' H8 V8 X8 G8
  clear y0 y1 y2 y3 z0 z1 z2 z3
  have HSS : Hid (∀ W, Below w9.heap.size w9 W → W.cell? ⟨w.heap.size, 0, none⟩ = some (.int .i64 r.size) ∧ W.cell? ⟨w.heap.size, 1, none⟩ = some (.int .i64 r.base) ∧ W.cell? ⟨w.heap.size, 2, none⟩ = some (.int .i64 r.en) ∧ W.cell? ⟨w.heap.size, 3, none⟩ = some (.slice A r.cs.length cap) ∧ W.cell? ⟨gx, 0, none⟩ = some (.int .i64 r.size) ∧ W.cell? ⟨gx, 1, none⟩ = some (.int .i64 r.base) ∧ W.cell? ⟨gx, 2, none⟩ = some (.int .i64 r.en) ∧ W.cell? ⟨gx, 3, none⟩ = some (.slice (some ⟨kx, 0, none⟩) r.cs.length r.cs.length)) := Lib.hid fun W h =>
    have h2 := (H9.out.next h).1
    have h3 := (X9.out.next h).1
    ⟨h2.1, h2.2.1, h2.2.2.1, h2.2.2.2, h3.1, h3.2.1, h3.2.2.1, h3.2.2.2⟩
  have HT := Lib.hid (H9.out.drew.to hlen)
  obtain ⟨z0, z1, z2, z3, z4, z5, z6, z7⟩ := HSS.out w9 (Below.refl _ _)
  have HS0 := Lib.hid (HSS.out _ (Below.refl w9.heap.size w9).drew)
  go_upto_region 12 with fail
  go_region_held3 (fun W => W.cell? ⟨w.heap.size, 0, none⟩ = some (.int .i64 r.size) ∧ W.cell? ⟨w.heap.size, 1, none⟩ = some (.int .i64 r.base) ∧ W.cell? ⟨w.heap.size, 2, none⟩ = some (.int .i64 r.en) ∧ W.cell? ⟨w.heap.size, 3, none⟩ = some (.slice A r.cs.length cap) ∧ W.cell? ⟨gx, 0, none⟩ = some (.int .i64 r.size) ∧ W.cell? ⟨gx, 1, none⟩ = some (.int .i64 r.base) ∧ W.cell? ⟨gx, 2, none⟩ = some (.int .i64 r.en) ∧ W.cell? ⟨gx, 3, none⟩ = some (.slice (some ⟨kx, 0, none⟩) r.cs.length r.cs.length)) (first | with_reducible exact HS0.out | with_reducible exact HSA.out | with_reducible exact HSB.out) (first | (go_at_call 35; refine HT.out.mono ?_; rintro e w10 ⟨gt, rfl, ho', hb'⟩; have HBv := Lib.hid ((Below.refl w9.heap.size w9).drew.trans hb'); have HSA := Lib.hid (HSS.out w10 HBv.out); have HRv := Lib.hid ho'; have HPv := Lib.hid (X9.out.next HBv.out).2.1; clear ho' hb') | (go_at_call 31; refine (eqvn r _ _ _ _ _ _ _ HPv.out HRv.out (by omega)).mono ?_; rintro e w11 ⟨rfl, hb'⟩; have HBw := Lib.hid (HBv.out.trans (hb'.mono HBv.out.size)); have HSB := Lib.hid (HSS.out w11 HBw.out); clear hb'))
  clear z0 z1 z2 z3 z4 z5 z6 z7 HSS HT HS0 HSA HSB HBv HRv HPv
  have H11 := Lib.hid (H9.out.next HBw.out)
  have V11 := Lib.hid (V9.out.next HBw.out)
  have X11 := Lib.hid (X9.out.next HBw.out)
  have G11 := Lib.hid (G9.out.next HBw.out)
  clear H9 V9 X9 G9 HBw
  obtain ⟨x0, x1, x2, x3⟩ := X11.out.1
  have hx2 := X11.out.2.2.2.1
  have hxin := X11.out.in
  go_wp2_with fail
  refine (markrn r _ Bx w11 X11.out.2.1 (Nat.le_trans hx2 (Nat.le_of_lt X11.out.2.2.2.2)) (by omega)).mono ?_
  rintro e w12 ⟨rfl, ho', hb', hg'⟩
  have H12 := Lib.hid (H11.out.mark hb' (by omega))
  have V12 := Lib.hid (V11.out.kept hg' (fun k hk => by have := hxin k hk; omega))
  have G12 := Lib.hid (G11.out.kept hg' (fun k hk => by have := hxin k hk; omega))
  have hk1 : decide ((1 + (r.cs.length : Int)) < 0) = false := decide_eq_false (by omega)
  clear ho' hb' hg' H11 V11 X11 G11 x0 x1 x2 x3 hxin
  generalize (1 + (r.cs.length : Int)) = k1 at *
  obtain ⟨y0, y1, y2, y3⟩ := G12.out.1
  obtain ⟨z0, z1, z2, z3⟩ := V12.out.1
  go_wp2_with fail
  refine (eqvn R _ _ _ _ _ _ _ G12.out.2.1 V12.out.2.1 (by omega)).mono ?_
  rintro e w13 ⟨rfl, hb'⟩
  have H13 := Lib.hid (H12.out.next hb')
  have V13 := Lib.hid (V12.out.next hb')
  have G13 := Lib.hid (G12.out.next hb')
  clear hb' H12 V12 G12
  clear y0 y1 y2 y3 z0 z1 z2 z3 hk1
  obtain ⟨x0, x1, x2, x3⟩ := G13.out.1
  have hgin := G13.out.in
  have hg2 := G13.out.2.2.2.1
  have hv4 := V13.out.2.2.2.1
  go_wp2_with fail
  refine (markrn R _ Bg w13 G13.out.2.1 (Nat.le_trans hg2 (Nat.le_of_lt G13.out.2.2.2.2)) (by omega)).mono ?_
  rintro e w14 ⟨rfl, ho', hb', hg'⟩
  have H14 := Lib.hid (H13.out.mark hb' (by omega))
  have V14 := Lib.hid (V13.out.kept hg' (fun k hk => by have := hgin k hk; omega))
  have G14 := Lib.hid (G13.out.wrote hg' ho')
  clear ho' hb' hg' H13 V13 G13 x0 x1 x2 x3 hgin
  obtain ⟨q1, hq1⟩ : ∃ q1 : Int, (1 + (R.cs.length : Int)) = q1 := ⟨_, rfl⟩
  have hq0 : decide (q1 < 0) = false := decide_eq_false (by omega)
  have hq2 := bne_int q1
  rw [hq1]
  have HQ1 := Lib.hid hq1
  clear hq1
  obtain ⟨x0, x1, x2, x3⟩ := G14.out.1
  have HML := Lib.hid (marks_len R.cs.length 1)
  have hch := G14.out.2.1
  rw [show (Value.slice A7 R.cs.length c7) = .slice A7 (marks 1 R.cs.length).length c7 by rw [HML.out]] at hch
  have HCH := Lib.hid hch.chs
  clear hch
  go_wp2_with fail
  have hhe := heldrn R R.cs.length A7 c7 _ w14 (Nat.le_refl _) HCH.out (by omega)
  rw [HQ1.out] at hhe
  refine hhe.mono ?_
  rintro e w15 ⟨rfl, hb'⟩
  clear hhe
  have H15 := Lib.hid (H14.out.next hb')
  have V15 := Lib.hid (V14.out.next hb')
  have G15 := Lib.hid (G14.out.next hb')
  clear hb' H14 V14 G14
  clear x0 x1 x2 x3 HCH HML
  obtain ⟨a0, a1, a2, a3⟩ := H15.out.1
  go_wp2_with fail
  refine (H15.out.to hlen).mono ?_
  rintro e w16 ⟨k16, rfl, ho', hb'⟩
  have H16 := Lib.hid (H15.out.next hb')
  have HTw16 := Lib.hid ho'
  have V16 := Lib.hid (V15.out.next hb')
  have G16 := Lib.hid (G15.out.next hb')
  clear ho' hb' a0 a1 a2 a3
  go_wp2_with fail
  refine (HM.out _ w16 HTw16.out.chs).mono ?_
  rintro e w17 ⟨v17, rfl, ho7, hb7⟩
  obtain ⟨A17, c17, rfl, _, _⟩ := ho7.frs
  have K18 := Lib.hid (VarN.new R 26 ho7 hb7.size)
  have H18 := Lib.hid ((H16.out.next hb7).alloc (.cells (rnC R.size R.base R.en (.slice A17 R.cs.length c17)) 26))
  have V18 := Lib.hid ((V16.out.next hb7).alloc (.cells (rnC R.size R.base R.en (.slice A17 R.cs.length c17)) 26))
  have G18 := Lib.hid ((G16.out.next hb7).alloc (.cells (rnC R.size R.base R.en (.slice A17 R.cs.length c17)) 26))
  clear ho7 hb7 H16 V16 G16 HTw16 H15 V15 G15
  go_upto_region 27 with fail
  generalize w17.alloc (.cells (rnC R.size R.base R.en (.slice A17 R.cs.length c17)) 26) = w18 at *
  generalize w17.heap.size = gh at *
  generalize w16.heap.size = Bh at *
  obtain ⟨y0, y1, y2, y3⟩ := K18.out.1
  obtain ⟨z0, z1, z2, z3⟩ := V18.out.1
  go_wp2_with fail
  refine (eqvn R _ _ _ _ _ _ _ K18.out.2.1 V18.out.2.1 (by omega)).mono ?_
  rintro e w19 ⟨rfl, hb'⟩
  have H19 := Lib.hid (H18.out.next hb')
  have G19 := Lib.hid (G18.out.next hb')
  clear hb' H18 G18
  clear y0 y1 y2 y3 z0 z1 z2 z3 V18 K18
  obtain ⟨x0, x1, x2, x3⟩ := G19.out.1
  have HML := Lib.hid (marks_len R.cs.length 1)
  have hch := G19.out.2.1
  rw [show (Value.slice A7 R.cs.length c7) = .slice A7 (marks 1 R.cs.length).length c7 by rw [HML.out]] at hch
  have HCH := Lib.hid hch.chs
  clear hch
  go_wp2_with fail
  have hhe := heldrn R R.cs.length A7 c7 _ w19 (Nat.le_refl _) HCH.out (by omega)
  rw [HQ1.out] at hhe
  refine hhe.mono ?_
  rintro e w20 ⟨rfl, hb'⟩
  clear hhe
  have H20 := Lib.hid (H19.out.next hb')
  clear hb' H19
  clear x0 x1 x2 x3 HCH HML G19
  go_wp2
  go_ret
  exact ⟨rfl, H20.out.2.2.2⟩

set_option maxRecDepth 100000 in
set_option maxHeartbeats 4000000 in
/-- The law on DropRing, of a spec and an impl that answer so. -/
theorem law_DropRing (HSP : ∀ (r : Rn) (o : Int) (A : Option Addr) (cap B : Nat) (w : World), B ≤ w.heap.size → Ints w B A r.cs → r.cs.length ≤ 1048576 → r.cs.length ≤ cap → inI r.cs → inRn r → (-9223372036854775808 ≤ o ∧ o ≤ 9223372036854775807) → Calls Try.prog 25 #[rnV r (.slice A r.cs.length cap), .int .i64 o] w fun e w' => ∃ v, e = .returned (.tuple #[rnV (drR r o) v, .bool (decide (canD r o))]) ∧ OwnK w' w.heap.size v (drR r o).cs ∧ Below w.heap.size w w')
    (HI : ∀ (r : Rn) (o : Int) (A : Option Addr) (cap B : Nat) (w : World), B ≤ w.heap.size → Ints w B A r.cs → r.cs.length ≤ 1048576 → r.cs.length ≤ cap → inI r.cs → inRn r → (-9223372036854775808 ≤ o ∧ o ≤ 9223372036854775807) → Calls Try.prog 24 #[rnV r (.slice A r.cs.length cap), .int .i64 o] w fun e w' => ∃ v, e = .returned (.tuple #[rnV (drR r o) v, .bool (decide (canD r o))]) ∧ OwnK w' w.heap.size v (drR r o).cs ∧ Below w.heap.size w w')
    (r : Rn) (o : Int) (A : Option Addr) (cap : Nat) (w : World) (hr : Ints w w.heap.size A r.cs) (hn : r.cs.length ≤ maxLen) (hi : inI r.cs) (hx : inRn r) (ho : (-9223372036854775808 ≤ o ∧ o ≤ 9223372036854775807)) :
    Calls Try.prog 9 #[rnV r (.slice A r.cs.length cap), .int .i64 o] w fun e w' => e = .returned (.bool true) ∧ Below w.heap.size w w' := by
  have HW := Lib.hid (InRn.start w r A cap 47 hr)
  have HZ := Lib.hid (lszn 1048576 (by decide) (by decide) r A cap w.heap.size _ (Nat.le_of_lt HW.out.2.2.1) HW.out.2.1 (by unfold maxLen at hn; omega))
  have hlow := (szI_low 1048576 r.cs (by decide)).1
  by_cases hneg : szI 1048576 r.cs < 0
  · generalize szI 1048576 r.cs = m at *
    have hd : decide (m < 0) = true := decide_eq_true hneg
    clear hneg hlow hr hi hx HI HSP ho
    go_enter Try.func9, Try.ntmps9
    go_wp2_with fail
    refine HZ.out.mono ?_
    rintro e w1 ⟨rfl, hb1⟩
    have H1 := Lib.hid (HW.out.next hb1)
    clear hb1
    go_wp2
    go_ret
    exact ⟨rfl, H1.out.2.2.2⟩
  have hlen := szI_ok (N := 1048576) (zs := r.cs) (by decide) (by omega)
  have hol := drR_len r o
  have HS : Hid (∀ (g : Nat) (W : World), Ints W W.heap.size (some ⟨g, 0, none⟩) r.cs → Calls Try.prog 25 #[rnV r (.slice (some ⟨g, 0, none⟩) r.cs.length r.cs.length), .int .i64 o] W fun e w' => ∃ v, e = .returned (.tuple #[rnV (drR r o) v, .bool (decide (canD r o))]) ∧ OwnK w' W.heap.size v (drR r o).cs ∧ Below W.heap.size W w') := Lib.hid fun g W h => HSP r o _ _ W.heap.size W (Nat.le_refl _) h hlen (Nat.le_refl _) hi hx ho
  have HM : Hid (∀ (g : Nat) (W : World), Ints W W.heap.size (some ⟨g, 0, none⟩) r.cs → Calls Try.prog 24 #[rnV r (.slice (some ⟨g, 0, none⟩) r.cs.length r.cs.length), .int .i64 o] W fun e w' => ∃ v, e = .returned (.tuple #[rnV (drR r o) v, .bool (decide (canD r o))]) ∧ OwnK w' W.heap.size v (drR r o).cs ∧ Below W.heap.size W w') := Lib.hid fun g W h => HI r o _ _ W.heap.size W (Nat.le_refl _) h hlen (Nat.le_refl _) hi hx ho
  generalize szI 1048576 r.cs = m at *
  have hd : decide (m < 0) = false := decide_eq_false hneg
  generalize decide (canD r o) = s1 at *
  generalize drR r o = R at *
  have hbn1 := bne_bool s1
  have hLl : R.cs.length ≤ 1048577 := by omega
  clear hneg hlow hr hi HI HSP hx hol ho
  go_enter Try.func9, Try.ntmps9
  go_wp2_with fail
  refine HZ.out.mono ?_
  rintro e w1 ⟨rfl, hb1⟩
  have H1 := Lib.hid (HW.out.next hb1)
  clear hb1 HW HZ
  obtain ⟨a0, a1, a2, a3⟩ := H1.out.1
  go_wp2_with fail
  refine (H1.out.to hlen).mono ?_
  rintro e w2 ⟨k2, rfl, ho', hb'⟩
  have H2 := Lib.hid (H1.out.next hb')
  have HTw2 := Lib.hid ho'
  clear ho' hb' a0 a1 a2 a3
  go_wp2_with fail
  refine (HS.out _ w2 HTw2.out.chs).mono ?_
  rintro e w3 ⟨v3, rfl, ho3, hb3⟩
  obtain ⟨A3, c3, rfl, _, _⟩ := ho3.frs
  have V4 := Lib.hid (VarN.new R 26 ho3 hb3.size)
  have H4 := Lib.hid ((H2.out.next hb3).alloc (.cells (rnC R.size R.base R.en (.slice A3 R.cs.length c3)) 26))
  have hz4 : (w3.alloc (.cells (rnC R.size R.base R.en (.slice A3 R.cs.length c3)) 26)).heap.size = w3.heap.size + 1 := by simp
  have HZ4 := Lib.hid hz4
  have hB0 : w.heap.size < w2.heap.size := H2.out.2.2.1
  have hB1 : w2.heap.size ≤ w3.heap.size := hb3.size
  clear ho3 hb3 HTw2 H2 HS hz4
  go_upto_region 6 with fail
  generalize w3.alloc (.cells (rnC R.size R.base R.en (.slice A3 R.cs.length c3)) 26) = w4 at *
  generalize w3.heap.size = g0 at *
  generalize w2.heap.size = B0 at *
  obtain ⟨a0, a1, a2, a3⟩ := H4.out.1
  go_wp2_with fail
  refine (H4.out.to hlen).mono ?_
  rintro e w5 ⟨kx, rfl, ho', hb'⟩
  have hs5 : w4.heap.size ≤ w5.heap.size := hb'.size
  have X6 := Lib.hid (VarN.new r 26 ho' hs5)
  have H6 := Lib.hid ((H4.out.next hb').alloc (.cells (rnC r.size r.base r.en (.slice (some ⟨kx, 0, none⟩) r.cs.length r.cs.length)) 26))
  have V6 := Lib.hid ((V4.out.next hb').alloc (.cells (rnC r.size r.base r.en (.slice (some ⟨kx, 0, none⟩) r.cs.length r.cs.length)) 26))
  have hz6 : (w5.alloc (.cells (rnC r.size r.base r.en (.slice (some ⟨kx, 0, none⟩) r.cs.length r.cs.length)) 26)).heap.size = w5.heap.size + 1 := by simp
  have HZ6 := Lib.hid hz6
  have hx1 : g0 < w4.heap.size := by have := HZ4.out; omega
  clear hz6 ho' hb' H4 V4 HZ4 a0 a1 a2 a3
  go_upto_region 7 with fail
  generalize w5.alloc (.cells (rnC r.size r.base r.en (.slice (some ⟨kx, 0, none⟩) r.cs.length r.cs.length)) 26) = w6 at *
  generalize w5.heap.size = gx at *
  generalize w4.heap.size = Bx at *
  obtain ⟨x0, x1, x2, x3⟩ := X6.out.1
  go_wp2_with fail
  refine (HM.out _ w6 X6.out.2.1.chs).mono ?_
  rintro e w7 ⟨v7, rfl, ho7, hb7⟩
  obtain ⟨A7, c7, rfl, _, _⟩ := ho7.frs
  have hs7 : w6.heap.size ≤ w7.heap.size := hb7.size
  have G8 := Lib.hid (VarN.new R 26 ho7 hb7.size)
  have H8 := Lib.hid ((H6.out.next hb7).alloc (.cells (rnC R.size R.base R.en (.slice A7 R.cs.length c7)) 26))
  have V8 := Lib.hid ((V6.out.next hb7).alloc (.cells (rnC R.size R.base R.en (.slice A7 R.cs.length c7)) 26))
  have X8 := Lib.hid ((X6.out.next hb7).alloc (.cells (rnC R.size R.base R.en (.slice A7 R.cs.length c7)) 26))
  have hg1 : gx < w6.heap.size := by have := HZ6.out; omega
  clear ho7 hb7 H6 V6 X6 x0 x1 x2 x3 HZ6
  go_upto_region 8 with fail
  generalize w7.alloc (.cells (rnC R.size R.base R.en (.slice A7 R.cs.length c7)) 26) = w8 at *
  generalize w7.heap.size = gg at *
  generalize w6.heap.size = Bg at *
  obtain ⟨y0, y1, y2, y3⟩ := G8.out.1
  obtain ⟨z0, z1, z2, z3⟩ := V8.out.1
  go_wp2_with fail
  refine (eqvn R _ _ _ _ _ _ _ G8.out.2.1 V8.out.2.1 (by omega)).mono ?_
  rintro e w9 ⟨rfl, hb'⟩
  have H9 := Lib.hid (H8.out.next hb')
  have V9 := Lib.hid (V8.out.next hb')
  have X9 := Lib.hid (X8.out.next hb')
  have G9 := Lib.hid (G8.out.next hb')
  clear hb' H8 V8 X8 G8
  clear y0 y1 y2 y3 z0 z1 z2 z3
  have HSS : Hid (∀ W, Below w9.heap.size w9 W → W.cell? ⟨w.heap.size, 0, none⟩ = some (.int .i64 r.size) ∧ W.cell? ⟨w.heap.size, 1, none⟩ = some (.int .i64 r.base) ∧ W.cell? ⟨w.heap.size, 2, none⟩ = some (.int .i64 r.en) ∧ W.cell? ⟨w.heap.size, 3, none⟩ = some (.slice A r.cs.length cap) ∧ W.cell? ⟨gx, 0, none⟩ = some (.int .i64 r.size) ∧ W.cell? ⟨gx, 1, none⟩ = some (.int .i64 r.base) ∧ W.cell? ⟨gx, 2, none⟩ = some (.int .i64 r.en) ∧ W.cell? ⟨gx, 3, none⟩ = some (.slice (some ⟨kx, 0, none⟩) r.cs.length r.cs.length)) := Lib.hid fun W h =>
    have h2 := (H9.out.next h).1
    have h3 := (X9.out.next h).1
    ⟨h2.1, h2.2.1, h2.2.2.1, h2.2.2.2, h3.1, h3.2.1, h3.2.2.1, h3.2.2.2⟩
  have HT := Lib.hid (H9.out.drew.to hlen)
  obtain ⟨z0, z1, z2, z3, z4, z5, z6, z7⟩ := HSS.out w9 (Below.refl _ _)
  have HS0 := Lib.hid (HSS.out _ (Below.refl w9.heap.size w9).drew)
  go_upto_region 10 with fail
  go_region_held3 (fun W => W.cell? ⟨w.heap.size, 0, none⟩ = some (.int .i64 r.size) ∧ W.cell? ⟨w.heap.size, 1, none⟩ = some (.int .i64 r.base) ∧ W.cell? ⟨w.heap.size, 2, none⟩ = some (.int .i64 r.en) ∧ W.cell? ⟨w.heap.size, 3, none⟩ = some (.slice A r.cs.length cap) ∧ W.cell? ⟨gx, 0, none⟩ = some (.int .i64 r.size) ∧ W.cell? ⟨gx, 1, none⟩ = some (.int .i64 r.base) ∧ W.cell? ⟨gx, 2, none⟩ = some (.int .i64 r.en) ∧ W.cell? ⟨gx, 3, none⟩ = some (.slice (some ⟨kx, 0, none⟩) r.cs.length r.cs.length)) (first | with_reducible exact HS0.out | with_reducible exact HSA.out | with_reducible exact HSB.out) (first | (go_at_call 35; refine HT.out.mono ?_; rintro e w10 ⟨gt, rfl, ho', hb'⟩; have HBv := Lib.hid ((Below.refl w9.heap.size w9).drew.trans hb'); have HSA := Lib.hid (HSS.out w10 HBv.out); have HRv := Lib.hid ho'; have HPv := Lib.hid (X9.out.next HBv.out).2.1; clear ho' hb') | (go_at_call 31; refine (eqvn r _ _ _ _ _ _ _ HPv.out HRv.out (by omega)).mono ?_; rintro e w11 ⟨rfl, hb'⟩; have HBw := Lib.hid (HBv.out.trans (hb'.mono HBv.out.size)); have HSB := Lib.hid (HSS.out w11 HBw.out); clear hb'))
  clear z0 z1 z2 z3 z4 z5 z6 z7 HSS HT HS0 HSA HSB HBv HRv HPv
  have H11 := Lib.hid (H9.out.next HBw.out)
  have V11 := Lib.hid (V9.out.next HBw.out)
  have X11 := Lib.hid (X9.out.next HBw.out)
  have G11 := Lib.hid (G9.out.next HBw.out)
  clear H9 V9 X9 G9 HBw
  obtain ⟨x0, x1, x2, x3⟩ := X11.out.1
  have hx2 := X11.out.2.2.2.1
  have hxin := X11.out.in
  go_wp2_with fail
  refine (markrn r _ Bx w11 X11.out.2.1 (Nat.le_trans hx2 (Nat.le_of_lt X11.out.2.2.2.2)) (by omega)).mono ?_
  rintro e w12 ⟨rfl, ho', hb', hg'⟩
  have H12 := Lib.hid (H11.out.mark hb' (by omega))
  have V12 := Lib.hid (V11.out.kept hg' (fun k hk => by have := hxin k hk; omega))
  have G12 := Lib.hid (G11.out.kept hg' (fun k hk => by have := hxin k hk; omega))
  have hk1 : decide ((1 + (r.cs.length : Int)) < 0) = false := decide_eq_false (by omega)
  clear ho' hb' hg' H11 V11 X11 G11 x0 x1 x2 x3 hxin
  generalize (1 + (r.cs.length : Int)) = k1 at *
  obtain ⟨y0, y1, y2, y3⟩ := G12.out.1
  obtain ⟨z0, z1, z2, z3⟩ := V12.out.1
  go_wp2_with fail
  refine (eqvn R _ _ _ _ _ _ _ G12.out.2.1 V12.out.2.1 (by omega)).mono ?_
  rintro e w13 ⟨rfl, hb'⟩
  have H13 := Lib.hid (H12.out.next hb')
  have V13 := Lib.hid (V12.out.next hb')
  have G13 := Lib.hid (G12.out.next hb')
  clear hb' H12 V12 G12
  clear y0 y1 y2 y3 z0 z1 z2 z3 hk1
  obtain ⟨x0, x1, x2, x3⟩ := G13.out.1
  have hgin := G13.out.in
  have hg2 := G13.out.2.2.2.1
  have hv4 := V13.out.2.2.2.1
  go_wp2_with fail
  refine (markrn R _ Bg w13 G13.out.2.1 (Nat.le_trans hg2 (Nat.le_of_lt G13.out.2.2.2.2)) (by omega)).mono ?_
  rintro e w14 ⟨rfl, ho', hb', hg'⟩
  have H14 := Lib.hid (H13.out.mark hb' (by omega))
  have V14 := Lib.hid (V13.out.kept hg' (fun k hk => by have := hgin k hk; omega))
  have G14 := Lib.hid (G13.out.wrote hg' ho')
  clear ho' hb' hg' H13 V13 G13 x0 x1 x2 x3 hgin
  obtain ⟨q1, hq1⟩ : ∃ q1 : Int, (1 + (R.cs.length : Int)) = q1 := ⟨_, rfl⟩
  have hq0 : decide (q1 < 0) = false := decide_eq_false (by omega)
  have hq2 := bne_int q1
  rw [hq1]
  have HQ1 := Lib.hid hq1
  clear hq1
  obtain ⟨x0, x1, x2, x3⟩ := G14.out.1
  have HML := Lib.hid (marks_len R.cs.length 1)
  have hch := G14.out.2.1
  rw [show (Value.slice A7 R.cs.length c7) = .slice A7 (marks 1 R.cs.length).length c7 by rw [HML.out]] at hch
  have HCH := Lib.hid hch.chs
  clear hch
  go_wp2_with fail
  have hhe := heldrn R R.cs.length A7 c7 _ w14 (Nat.le_refl _) HCH.out (by omega)
  rw [HQ1.out] at hhe
  refine hhe.mono ?_
  rintro e w15 ⟨rfl, hb'⟩
  clear hhe
  have H15 := Lib.hid (H14.out.next hb')
  have V15 := Lib.hid (V14.out.next hb')
  have G15 := Lib.hid (G14.out.next hb')
  clear hb' H14 V14 G14
  clear x0 x1 x2 x3 HCH HML
  obtain ⟨a0, a1, a2, a3⟩ := H15.out.1
  go_wp2_with fail
  refine (H15.out.to hlen).mono ?_
  rintro e w16 ⟨k16, rfl, ho', hb'⟩
  have H16 := Lib.hid (H15.out.next hb')
  have HTw16 := Lib.hid ho'
  have V16 := Lib.hid (V15.out.next hb')
  have G16 := Lib.hid (G15.out.next hb')
  clear ho' hb' a0 a1 a2 a3
  go_wp2_with fail
  refine (HM.out _ w16 HTw16.out.chs).mono ?_
  rintro e w17 ⟨v17, rfl, ho7, hb7⟩
  obtain ⟨A17, c17, rfl, _, _⟩ := ho7.frs
  have K18 := Lib.hid (VarN.new R 26 ho7 hb7.size)
  have H18 := Lib.hid ((H16.out.next hb7).alloc (.cells (rnC R.size R.base R.en (.slice A17 R.cs.length c17)) 26))
  have V18 := Lib.hid ((V16.out.next hb7).alloc (.cells (rnC R.size R.base R.en (.slice A17 R.cs.length c17)) 26))
  have G18 := Lib.hid ((G16.out.next hb7).alloc (.cells (rnC R.size R.base R.en (.slice A17 R.cs.length c17)) 26))
  clear ho7 hb7 H16 V16 G16 HTw16 H15 V15 G15
  go_upto_region 25 with fail
  generalize w17.alloc (.cells (rnC R.size R.base R.en (.slice A17 R.cs.length c17)) 26) = w18 at *
  generalize w17.heap.size = gh at *
  generalize w16.heap.size = Bh at *
  obtain ⟨y0, y1, y2, y3⟩ := K18.out.1
  obtain ⟨z0, z1, z2, z3⟩ := V18.out.1
  go_wp2_with fail
  refine (eqvn R _ _ _ _ _ _ _ K18.out.2.1 V18.out.2.1 (by omega)).mono ?_
  rintro e w19 ⟨rfl, hb'⟩
  have H19 := Lib.hid (H18.out.next hb')
  have G19 := Lib.hid (G18.out.next hb')
  clear hb' H18 G18
  clear y0 y1 y2 y3 z0 z1 z2 z3 V18 K18
  obtain ⟨x0, x1, x2, x3⟩ := G19.out.1
  have HML := Lib.hid (marks_len R.cs.length 1)
  have hch := G19.out.2.1
  rw [show (Value.slice A7 R.cs.length c7) = .slice A7 (marks 1 R.cs.length).length c7 by rw [HML.out]] at hch
  have HCH := Lib.hid hch.chs
  clear hch
  go_wp2_with fail
  have hhe := heldrn R R.cs.length A7 c7 _ w19 (Nat.le_refl _) HCH.out (by omega)
  rw [HQ1.out] at hhe
  refine hhe.mono ?_
  rintro e w20 ⟨rfl, hb'⟩
  clear hhe
  have H20 := Lib.hid (H19.out.next hb')
  clear hb' H19
  clear x0 x1 x2 x3 HCH HML G19
  go_wp2
  go_ret
  exact ⟨rfl, H20.out.2.2.2⟩

end Go.Proofs.Ytkhekbfakloaoaa
