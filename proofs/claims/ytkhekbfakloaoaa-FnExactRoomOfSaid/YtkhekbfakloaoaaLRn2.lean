/-
  The exact laws on rings, walked: IsRing, RoomOf.
-/
import Derived.Test.YtkhekbfakloaoaaLRn
namespace Go.Proofs.Ytkhekbfakloaoaa
open Go.RowKit Go.Deep Go.Proofs.Ytkhekbfakloaoaa.Num

set_option maxRecDepth 100000 in
set_option maxHeartbeats 4000000 in
/-- The law on IsRing, of a spec and an impl that answer so. -/
theorem law_IsRing (HSP : ∀ (r : Rn) (A : Option Addr) (cap B : Nat) (w : World), B ≤ w.heap.size → Ints w B A r.cs → r.cs.length ≤ 1048576 → r.cs.length ≤ cap → inI r.cs → inRn r → Calls Try.prog 17 #[rnV r (.slice A r.cs.length cap)] w fun e w' => e = .returned (.bool (decide (okRn r))) ∧ Below w.heap.size w w')
    (HI : ∀ (r : Rn) (A : Option Addr) (cap B : Nat) (w : World), B ≤ w.heap.size → Ints w B A r.cs → r.cs.length ≤ 1048576 → r.cs.length ≤ cap → inI r.cs → inRn r → Calls Try.prog 16 #[rnV r (.slice A r.cs.length cap)] w fun e w' => e = .returned (.bool (decide (okRn r))) ∧ Below w.heap.size w w')
    (r : Rn) (A : Option Addr) (cap : Nat) (w : World) (hr : Ints w w.heap.size A r.cs) (hn : r.cs.length ≤ maxLen) (hi : inI r.cs) (hx : inRn r) :
    Calls Try.prog 5 #[rnV r (.slice A r.cs.length cap)] w fun e w' => e = .returned (.bool true) ∧ Below w.heap.size w w' := by
  have HW := Lib.hid (InRn.start w r A cap 47 hr)
  have HZ := Lib.hid (lszn 1048576 (by decide) (by decide) r A cap w.heap.size _ (Nat.le_of_lt HW.out.2.2.1) HW.out.2.1 (by unfold maxLen at hn; omega))
  have hlow := (szI_low 1048576 r.cs (by decide)).1
  by_cases hneg : szI 1048576 r.cs < 0
  · generalize szI 1048576 r.cs = m at *
    have hd : decide (m < 0) = true := decide_eq_true hneg
    clear hneg hlow hr hi hx HI HSP 
    go_enter Try.func5, Try.ntmps5
    go_wp2_with fail
    refine HZ.out.mono ?_
    rintro e w1 ⟨rfl, hb1⟩
    have H1 := Lib.hid (HW.out.next hb1)
    clear hb1
    go_wp2
    go_ret
    exact ⟨rfl, H1.out.2.2.2⟩
  have hlen := szI_ok (N := 1048576) (zs := r.cs) (by decide) (by omega)
  have HS : Hid (∀ (g : Nat) (W : World), Ints W W.heap.size (some ⟨g, 0, none⟩) r.cs → Calls Try.prog 17 #[rnV r (.slice (some ⟨g, 0, none⟩) r.cs.length r.cs.length)] W fun e w' => e = .returned (.bool (decide (okRn r))) ∧ Below W.heap.size W w') := Lib.hid fun g W h => HSP r _ _ W.heap.size W (Nat.le_refl _) h hlen (Nat.le_refl _) hi hx
  have HM : Hid (∀ (g : Nat) (W : World), Ints W W.heap.size (some ⟨g, 0, none⟩) r.cs → Calls Try.prog 16 #[rnV r (.slice (some ⟨g, 0, none⟩) r.cs.length r.cs.length)] W fun e w' => e = .returned (.bool (decide (okRn r))) ∧ Below W.heap.size W w') := Lib.hid fun g W h => HI r _ _ W.heap.size W (Nat.le_refl _) h hlen (Nat.le_refl _) hi hx
  generalize szI 1048576 r.cs = m at *
  have hd : decide (m < 0) = false := decide_eq_false hneg
  obtain ⟨x, hxvx⟩ : ∃ x, decide (okRn r) = x := ⟨_, rfl⟩
  rw [hxvx] at HS HM
  have hxx := bne_bool x
  clear hneg hlow hr hi hxvx HI HSP hx 
  go_enter Try.func5, Try.ntmps5
  go_wp2_with fail
  refine HZ.out.mono ?_
  rintro e w1 ⟨rfl, hb1⟩
  have H1 := Lib.hid (HW.out.next hb1)
  clear hb1 HW HZ
  obtain ⟨a0, a1, a2, a3⟩ := H1.out.1
  go_wp2_with fail
  refine (H1.out.to hlen).mono ?_
  rintro e w2 ⟨g2, rfl, ho2, hb2⟩
  have H2 := Lib.hid (H1.out.next hb2)
  have HO2 := Lib.hid ho2.chs
  clear ho2 hb2 a0 a1 a2 a3
  go_wp2_with fail
  refine (HS.out _ w2 HO2.out).mono ?_
  rintro e w3 ⟨rfl, hb3⟩
  have H3 := Lib.hid (H2.out.next hb3)
  clear hb3 HO2
  obtain ⟨a0, a1, a2, a3⟩ := H3.out.1
  go_wp2_with fail
  refine (H3.out.to hlen).mono ?_
  rintro e w4 ⟨g4, rfl, ho4, hb4⟩
  have X5 := Lib.hid (VarN.new r 26 ho4 hb4.size)
  have H5 := Lib.hid ((H3.out.next hb4).alloc (.cells (rnC r.size r.base r.en (.slice (some ⟨g4, 0, none⟩) r.cs.length r.cs.length)) 26))
  clear ho4 hb4 a0 a1 a2 a3 H3
  go_upto_region 7 with fail
  generalize w4.alloc (.cells (rnC r.size r.base r.en (.slice (some ⟨g4, 0, none⟩) r.cs.length r.cs.length)) 26) = w5 at *
  generalize w4.heap.size = gx at *
  generalize w3.heap.size = Bx at *
  generalize g4 = kx at *
  obtain ⟨q0, q1, q2, q3⟩ := X5.out.1
  go_wp2_with fail
  refine (HM.out _ w5 X5.out.2.1.chs).mono ?_
  rintro e w6 ⟨rfl, hb6⟩
  have H6 := Lib.hid (H5.out.next hb6)
  have X6 := Lib.hid (X5.out.next hb6)
  clear hb6 q0 q1 q2 q3 X5 H5
  have HSS : Hid (∀ W, Below w6.heap.size w6 W → W.cell? ⟨w.heap.size, 0, none⟩ = some (.int .i64 r.size) ∧ W.cell? ⟨w.heap.size, 1, none⟩ = some (.int .i64 r.base) ∧ W.cell? ⟨w.heap.size, 2, none⟩ = some (.int .i64 r.en) ∧ W.cell? ⟨w.heap.size, 3, none⟩ = some (.slice A r.cs.length cap) ∧ W.cell? ⟨gx, 0, none⟩ = some (.int .i64 r.size) ∧ W.cell? ⟨gx, 1, none⟩ = some (.int .i64 r.base) ∧ W.cell? ⟨gx, 2, none⟩ = some (.int .i64 r.en) ∧ W.cell? ⟨gx, 3, none⟩ = some (.slice (some ⟨kx, 0, none⟩) r.cs.length r.cs.length)) := Lib.hid fun W h =>
    have h2 := (H6.out.next h).1
    have h3 := (X6.out.next h).1
    ⟨h2.1, h2.2.1, h2.2.2.1, h2.2.2.2, h3.1, h3.2.1, h3.2.2.1, h3.2.2.2⟩
  have HT := Lib.hid (H6.out.drew.to hlen)
  obtain ⟨z0, z1, z2, z3, z4, z5, z6, z7⟩ := HSS.out w6 (Below.refl _ _)
  have HS0 := Lib.hid (HSS.out _ (Below.refl w6.heap.size w6).drew)
  go_upto_region 10 with fail
  go_region_held3 (fun W => W.cell? ⟨w.heap.size, 0, none⟩ = some (.int .i64 r.size) ∧ W.cell? ⟨w.heap.size, 1, none⟩ = some (.int .i64 r.base) ∧ W.cell? ⟨w.heap.size, 2, none⟩ = some (.int .i64 r.en) ∧ W.cell? ⟨w.heap.size, 3, none⟩ = some (.slice A r.cs.length cap) ∧ W.cell? ⟨gx, 0, none⟩ = some (.int .i64 r.size) ∧ W.cell? ⟨gx, 1, none⟩ = some (.int .i64 r.base) ∧ W.cell? ⟨gx, 2, none⟩ = some (.int .i64 r.en) ∧ W.cell? ⟨gx, 3, none⟩ = some (.slice (some ⟨kx, 0, none⟩) r.cs.length r.cs.length)) (first | with_reducible exact HS0.out | with_reducible exact HSA.out | with_reducible exact HSB.out) (first | (go_at_call 35; refine HT.out.mono ?_; rintro e w10 ⟨gt, rfl, ho', hb'⟩; have HBv := Lib.hid ((Below.refl w6.heap.size w6).drew.trans hb'); have HSA := Lib.hid (HSS.out w10 HBv.out); have HRv := Lib.hid ho'; have HPv := Lib.hid (X6.out.next HBv.out).2.1; clear ho' hb') | (go_at_call 31; refine (eqvn r _ _ _ _ _ _ _ HPv.out HRv.out (by omega)).mono ?_; rintro e w11 ⟨rfl, hb'⟩; have HBw := Lib.hid (HBv.out.trans (hb'.mono HBv.out.size)); have HSB := Lib.hid (HSS.out w11 HBw.out); clear hb'))
  clear z0 z1 z2 z3 z4 z5 z6 z7 HSS HT HS0 HSA HSB HBv HRv HPv
  have H8 := Lib.hid (H6.out.next HBw.out)
  clear HBw
  go_wp2
  go_ret
  exact ⟨rfl, H8.out.2.2.2⟩

set_option maxRecDepth 100000 in
set_option maxHeartbeats 4000000 in
/-- The law on RoomOf, of a spec and an impl that answer so. -/
theorem law_RoomOf (HSP : ∀ (r : Rn) (A : Option Addr) (cap B : Nat) (w : World), B ≤ w.heap.size → Ints w B A r.cs → r.cs.length ≤ 1048576 → r.cs.length ≤ cap → inI r.cs → inRn r → Calls Try.prog 19 #[rnV r (.slice A r.cs.length cap)] w fun e w' => e = .returned (.int .i64 (roomR r)) ∧ Below w.heap.size w w')
    (HI : ∀ (r : Rn) (A : Option Addr) (cap B : Nat) (w : World), B ≤ w.heap.size → Ints w B A r.cs → r.cs.length ≤ 1048576 → r.cs.length ≤ cap → inI r.cs → inRn r → Calls Try.prog 18 #[rnV r (.slice A r.cs.length cap)] w fun e w' => e = .returned (.int .i64 (roomR r)) ∧ Below w.heap.size w w')
    (r : Rn) (A : Option Addr) (cap : Nat) (w : World) (hr : Ints w w.heap.size A r.cs) (hn : r.cs.length ≤ maxLen) (hi : inI r.cs) (hx : inRn r) :
    Calls Try.prog 6 #[rnV r (.slice A r.cs.length cap)] w fun e w' => e = .returned (.bool true) ∧ Below w.heap.size w w' := by
  have HW := Lib.hid (InRn.start w r A cap 47 hr)
  have HZ := Lib.hid (lszn 1048576 (by decide) (by decide) r A cap w.heap.size _ (Nat.le_of_lt HW.out.2.2.1) HW.out.2.1 (by unfold maxLen at hn; omega))
  have hlow := (szI_low 1048576 r.cs (by decide)).1
  by_cases hneg : szI 1048576 r.cs < 0
  · generalize szI 1048576 r.cs = m at *
    have hd : decide (m < 0) = true := decide_eq_true hneg
    clear hneg hlow hr hi hx HI HSP 
    go_enter Try.func6, Try.ntmps6
    go_wp2_with fail
    refine HZ.out.mono ?_
    rintro e w1 ⟨rfl, hb1⟩
    have H1 := Lib.hid (HW.out.next hb1)
    clear hb1
    go_wp2
    go_ret
    exact ⟨rfl, H1.out.2.2.2⟩
  have hlen := szI_ok (N := 1048576) (zs := r.cs) (by decide) (by omega)
  have HS : Hid (∀ (g : Nat) (W : World), Ints W W.heap.size (some ⟨g, 0, none⟩) r.cs → Calls Try.prog 19 #[rnV r (.slice (some ⟨g, 0, none⟩) r.cs.length r.cs.length)] W fun e w' => e = .returned (.int .i64 (roomR r)) ∧ Below W.heap.size W w') := Lib.hid fun g W h => HSP r _ _ W.heap.size W (Nat.le_refl _) h hlen (Nat.le_refl _) hi hx
  have HM : Hid (∀ (g : Nat) (W : World), Ints W W.heap.size (some ⟨g, 0, none⟩) r.cs → Calls Try.prog 18 #[rnV r (.slice (some ⟨g, 0, none⟩) r.cs.length r.cs.length)] W fun e w' => e = .returned (.int .i64 (roomR r)) ∧ Below W.heap.size W w') := Lib.hid fun g W h => HI r _ _ W.heap.size W (Nat.le_refl _) h hlen (Nat.le_refl _) hi hx
  generalize szI 1048576 r.cs = m at *
  have hd : decide (m < 0) = false := decide_eq_false hneg
  obtain ⟨x, hxvx⟩ : ∃ x, roomR r = x := ⟨_, rfl⟩
  rw [hxvx] at HS HM
  have hxx := bne_int x
  clear hneg hlow hr hi hxvx HI HSP hx 
  go_enter Try.func6, Try.ntmps6
  go_wp2_with fail
  refine HZ.out.mono ?_
  rintro e w1 ⟨rfl, hb1⟩
  have H1 := Lib.hid (HW.out.next hb1)
  clear hb1 HW HZ
  obtain ⟨a0, a1, a2, a3⟩ := H1.out.1
  go_wp2_with fail
  refine (H1.out.to hlen).mono ?_
  rintro e w2 ⟨g2, rfl, ho2, hb2⟩
  have H2 := Lib.hid (H1.out.next hb2)
  have HO2 := Lib.hid ho2.chs
  clear ho2 hb2 a0 a1 a2 a3
  go_wp2_with fail
  refine (HS.out _ w2 HO2.out).mono ?_
  rintro e w3 ⟨rfl, hb3⟩
  have H3 := Lib.hid (H2.out.next hb3)
  clear hb3 HO2
  obtain ⟨a0, a1, a2, a3⟩ := H3.out.1
  go_wp2_with fail
  refine (H3.out.to hlen).mono ?_
  rintro e w4 ⟨g4, rfl, ho4, hb4⟩
  have X5 := Lib.hid (VarN.new r 26 ho4 hb4.size)
  have H5 := Lib.hid ((H3.out.next hb4).alloc (.cells (rnC r.size r.base r.en (.slice (some ⟨g4, 0, none⟩) r.cs.length r.cs.length)) 26))
  clear ho4 hb4 a0 a1 a2 a3 H3
  go_upto_region 7 with fail
  generalize w4.alloc (.cells (rnC r.size r.base r.en (.slice (some ⟨g4, 0, none⟩) r.cs.length r.cs.length)) 26) = w5 at *
  generalize w4.heap.size = gx at *
  generalize w3.heap.size = Bx at *
  generalize g4 = kx at *
  obtain ⟨q0, q1, q2, q3⟩ := X5.out.1
  go_wp2_with fail
  refine (HM.out _ w5 X5.out.2.1.chs).mono ?_
  rintro e w6 ⟨rfl, hb6⟩
  have H6 := Lib.hid (H5.out.next hb6)
  have X6 := Lib.hid (X5.out.next hb6)
  clear hb6 q0 q1 q2 q3 X5 H5
  have HSS : Hid (∀ W, Below w6.heap.size w6 W → W.cell? ⟨w.heap.size, 0, none⟩ = some (.int .i64 r.size) ∧ W.cell? ⟨w.heap.size, 1, none⟩ = some (.int .i64 r.base) ∧ W.cell? ⟨w.heap.size, 2, none⟩ = some (.int .i64 r.en) ∧ W.cell? ⟨w.heap.size, 3, none⟩ = some (.slice A r.cs.length cap) ∧ W.cell? ⟨gx, 0, none⟩ = some (.int .i64 r.size) ∧ W.cell? ⟨gx, 1, none⟩ = some (.int .i64 r.base) ∧ W.cell? ⟨gx, 2, none⟩ = some (.int .i64 r.en) ∧ W.cell? ⟨gx, 3, none⟩ = some (.slice (some ⟨kx, 0, none⟩) r.cs.length r.cs.length)) := Lib.hid fun W h =>
    have h2 := (H6.out.next h).1
    have h3 := (X6.out.next h).1
    ⟨h2.1, h2.2.1, h2.2.2.1, h2.2.2.2, h3.1, h3.2.1, h3.2.2.1, h3.2.2.2⟩
  have HT := Lib.hid (H6.out.drew.to hlen)
  obtain ⟨z0, z1, z2, z3, z4, z5, z6, z7⟩ := HSS.out w6 (Below.refl _ _)
  have HS0 := Lib.hid (HSS.out _ (Below.refl w6.heap.size w6).drew)
  go_upto_region 10 with fail
  go_region_held3 (fun W => W.cell? ⟨w.heap.size, 0, none⟩ = some (.int .i64 r.size) ∧ W.cell? ⟨w.heap.size, 1, none⟩ = some (.int .i64 r.base) ∧ W.cell? ⟨w.heap.size, 2, none⟩ = some (.int .i64 r.en) ∧ W.cell? ⟨w.heap.size, 3, none⟩ = some (.slice A r.cs.length cap) ∧ W.cell? ⟨gx, 0, none⟩ = some (.int .i64 r.size) ∧ W.cell? ⟨gx, 1, none⟩ = some (.int .i64 r.base) ∧ W.cell? ⟨gx, 2, none⟩ = some (.int .i64 r.en) ∧ W.cell? ⟨gx, 3, none⟩ = some (.slice (some ⟨kx, 0, none⟩) r.cs.length r.cs.length)) (first | with_reducible exact HS0.out | with_reducible exact HSA.out | with_reducible exact HSB.out) (first | (go_at_call 35; refine HT.out.mono ?_; rintro e w10 ⟨gt, rfl, ho', hb'⟩; have HBv := Lib.hid ((Below.refl w6.heap.size w6).drew.trans hb'); have HSA := Lib.hid (HSS.out w10 HBv.out); have HRv := Lib.hid ho'; have HPv := Lib.hid (X6.out.next HBv.out).2.1; clear ho' hb') | (go_at_call 31; refine (eqvn r _ _ _ _ _ _ _ HPv.out HRv.out (by omega)).mono ?_; rintro e w11 ⟨rfl, hb'⟩; have HBw := Lib.hid (HBv.out.trans (hb'.mono HBv.out.size)); have HSB := Lib.hid (HSS.out w11 HBw.out); clear hb'))
  clear z0 z1 z2 z3 z4 z5 z6 z7 HSS HT HS0 HSA HSB HBv HRv HPv
  have H8 := Lib.hid (H6.out.next HBw.out)
  clear HBw
  go_wp2
  go_ret
  exact ⟨rfl, H8.out.2.2.2⟩

end Go.Proofs.Ytkhekbfakloaoaa
