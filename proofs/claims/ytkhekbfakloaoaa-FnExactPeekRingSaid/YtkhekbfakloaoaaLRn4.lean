/-
  The exact laws on rings, walked: EqualRings, PeekRing, NewRing.
-/
import Derived.Test.YtkhekbfakloaoaaLRn
namespace Go.Proofs.Ytkhekbfakloaoaa
open Go.RowKit Go.Deep Go.Proofs.Ytkhekbfakloaoaa.Num

/-- Two that came in, boxed. -/
def TwoInRn (w : World) (r : Rn) (A : Option Addr) (cap : Nat) (s : Rn) (A' : Option Addr) (cap' : Nat) (W : World) : Prop :=
  InRn w w.heap.size r A cap W ∧ InRn (w.alloc (.cells (rnC r.size r.base r.en (.slice A r.cs.length cap)) 47)) (w.heap.size + 1) s A' cap' W
theorem TwoInRn.start (w : World) (r : Rn) (A : Option Addr) (cap : Nat) (s : Rn) (A' : Option Addr) (cap' : Nat) (hr : Ints w w.heap.size A r.cs) (hr' : Ints w w.heap.size A' s.cs) :
    TwoInRn w r A cap s A' cap' ((w.alloc (.cells (rnC r.size r.base r.en (.slice A r.cs.length cap)) 47)).alloc (.cells (rnC s.size s.base s.en (.slice A' s.cs.length cap')) 47)) := by
  have hs : (w.alloc (.cells (rnC r.size r.base r.en (.slice A r.cs.length cap)) 47)).heap.size = w.heap.size + 1 := by simp
  refine ⟨(InRn.start w r A cap _ hr).alloc _, ?_⟩
  rw [← hs]
  exact InRn.start _ s A' cap' _ ((hr'.below (Nat.le_refl _) ((Below.refl _ _).alloc (Nat.le_refl _) _)).up (by rw [hs]; omega))
theorem TwoInRn.next {w : World} {r : Rn} {A : Option Addr} {cap : Nat} {s : Rn} {A' : Option Addr} {cap' : Nat} {W W' : World} (h : TwoInRn w r A cap s A' cap' W) (hb : Below W.heap.size W W') : TwoInRn w r A cap s A' cap' W' :=
  ⟨h.1.next hb, h.2.next hb⟩

set_option maxRecDepth 100000 in
set_option maxHeartbeats 4000000 in
/-- The law on EqualRings, of a spec and an impl that answer so. -/
theorem law_EqualRings (HSP : ∀ (r s : Rn) (A A' : Option Addr) (cap cap' B : Nat) (w : World), B ≤ w.heap.size → Ints w B A r.cs → Ints w B A' s.cs → r.cs.length ≤ 1048576 → s.cs.length ≤ 1048576 → Calls Try.prog 15 #[rnV r (.slice A r.cs.length cap), rnV s (.slice A' s.cs.length cap')] w fun e w' => e = .returned (.bool (decide (sameRn r s))) ∧ Below w.heap.size w w')
    (HI : ∀ (r s : Rn) (A A' : Option Addr) (cap cap' B : Nat) (w : World), B ≤ w.heap.size → Ints w B A r.cs → Ints w B A' s.cs → r.cs.length ≤ 1048576 → s.cs.length ≤ 1048576 → Calls Try.prog 30 #[rnV r (.slice A r.cs.length cap), rnV s (.slice A' s.cs.length cap')] w fun e w' => e = .returned (.bool (decide (sameRn r s))) ∧ Below w.heap.size w w')
    (r : Rn) (A : Option Addr) (cap : Nat) (s : Rn) (A' : Option Addr) (cap' : Nat) (w : World) (hr : Ints w w.heap.size A r.cs) (hn : r.cs.length ≤ maxLen) (hr' : Ints w w.heap.size A' s.cs) (hn' : s.cs.length ≤ maxLen) :
    Calls Try.prog 10 #[rnV r (.slice A r.cs.length cap), rnV s (.slice A' s.cs.length cap')] w fun e w' => e = .returned (.bool true) ∧ Below w.heap.size w w' := by
  have HW := Lib.hid (TwoInRn.start w r A cap s A' cap' hr hr')
  have HZ := Lib.hid (lszn 1048576 (by decide) (by decide) r A cap w.heap.size _ (Nat.le_of_lt HW.out.1.2.2.1) HW.out.1.2.1 (by unfold maxLen at hn; omega))
  have hlow := szI_low 1048576 r.cs (by decide)
  have HLEN := Lib.hid (fun h => szI_ok (N := 1048576) (zs := r.cs) (by decide) h)
  have HZ2 : Hid (∀ N, 0 ≤ N → N ≤ 1048576 → ∀ W, TwoInRn w r A cap s A' cap' W → Calls Try.prog 34 #[rnV s (.slice A' s.cs.length cap'), .int .i64 N] W fun e w' => e = .returned (.int .i64 (szI N s.cs)) ∧ Below W.heap.size W w') := Lib.hid fun N h0 h1 W hW => lszn N h0 h1 s A' cap' (w.heap.size + 1) W (Nat.le_of_lt hW.2.2.2.1) hW.2.2.1 (by unfold maxLen at hn'; omega)
  generalize szI 1048576 r.cs = z at *
  by_cases hneg : z < 0
  · have hd : decide (z < 0) = true := decide_eq_true hneg
    clear hneg hlow hr hr' HI HSP
    go_enter Try.func10, Try.ntmps10
    go_wp2_with fail
    refine HZ.out.mono ?_
    rintro e w1 ⟨rfl, hb1⟩
    have H1 := Lib.hid (HW.out.next hb1)
    clear hb1
    go_wp2
    go_ret
    exact ⟨rfl, H1.out.1.2.2.2⟩
  have hd : decide (z < 0) = false := decide_eq_false hneg
  have hlen : r.cs.length ≤ 1048576 := HLEN.out (by omega)
  have HZ3 := Lib.hid (HZ2.out z (by omega) hlow.2)
  have hlow2 := szI_low z s.cs hlow.2
  have HLEN2 := Lib.hid (fun h => szI_ok (N := z) (zs := s.cs) hlow.2 h)
  generalize szI z s.cs = z2 at *
  clear HZ2 HLEN
  by_cases hneg2 : z2 < 0
  · have hd2 : decide (z2 < 0) = true := decide_eq_true hneg2
    clear hneg hneg2 hlow hlow2 hr hr' HI HSP
    go_enter Try.func10, Try.ntmps10
    go_wp2_with fail
    refine HZ.out.mono ?_
    rintro e w1 ⟨rfl, hb1⟩
    have H1 := Lib.hid (HW.out.next hb1)
    clear hb1
    obtain ⟨a0, a1, a2, a3⟩ := H1.out.2.1
    go_wp2_with fail
    refine (HZ3.out _ H1.out).mono ?_
    rintro e w2 ⟨rfl, hb2⟩
    have H2 := Lib.hid (H1.out.next hb2)
    clear hb2
    go_wp2
    go_ret
    exact ⟨rfl, H2.out.1.2.2.2⟩
  have hd2 : decide (z2 < 0) = false := decide_eq_false hneg2
  have hlen2 : s.cs.length ≤ 1048576 := HLEN2.out (by omega)
  have HS : Hid (∀ (g g' : Nat) (W : World), Ints W W.heap.size (some ⟨g, 0, none⟩) r.cs → Ints W W.heap.size (some ⟨g', 0, none⟩) s.cs → Calls Try.prog 15 #[rnV r (.slice (some ⟨g, 0, none⟩) r.cs.length r.cs.length), rnV s (.slice (some ⟨g', 0, none⟩) s.cs.length s.cs.length)] W fun e w' => e = .returned (.bool (decide (sameRn r s))) ∧ Below W.heap.size W w') := Lib.hid fun g g' W h h' => HSP r s _ _ _ _ W.heap.size W (Nat.le_refl _) h h' hlen hlen2
  have HM : Hid (∀ (g g' : Nat) (W : World), Ints W W.heap.size (some ⟨g, 0, none⟩) r.cs → Ints W W.heap.size (some ⟨g', 0, none⟩) s.cs → Calls Try.prog 30 #[rnV r (.slice (some ⟨g, 0, none⟩) r.cs.length r.cs.length), rnV s (.slice (some ⟨g', 0, none⟩) s.cs.length s.cs.length)] W fun e w' => e = .returned (.bool (decide (sameRn r s))) ∧ Below W.heap.size W w') := Lib.hid fun g g' W h h' => HI r s _ _ _ _ W.heap.size W (Nat.le_refl _) h h' hlen hlen2
  generalize decide (sameRn r s) = x at *
  have hxx := bne_bool x
  clear hneg hneg2 hlow hlow2 hr hr' HI HSP HLEN2
  go_enter Try.func10, Try.ntmps10
  go_wp2_with fail
  refine HZ.out.mono ?_
  rintro e w1 ⟨rfl, hb1⟩
  have H1 := Lib.hid (HW.out.next hb1)
  clear hb1
  obtain ⟨a0, a1, a2, a3⟩ := H1.out.2.1
  go_wp2_with fail
  refine (HZ3.out _ H1.out).mono ?_
  rintro e w2 ⟨rfl, hb2⟩
  have H2 := Lib.hid (H1.out.next hb2)
  clear hb2 a0 a1 a2 a3 H1 HW HZ HZ3
  obtain ⟨a0, a1, a2, a3⟩ := H2.out.1.1
  obtain ⟨b0, b1, b2, b3⟩ := H2.out.2.1
  have HSS : Hid (∀ W, Below w2.heap.size w2 W → W.cell? ⟨w.heap.size, 0, none⟩ = some (.int .i64 r.size) ∧ W.cell? ⟨w.heap.size, 1, none⟩ = some (.int .i64 r.base) ∧ W.cell? ⟨w.heap.size, 2, none⟩ = some (.int .i64 r.en) ∧ W.cell? ⟨w.heap.size, 3, none⟩ = some (.slice A r.cs.length cap) ∧ W.cell? ⟨w.heap.size + 1, 0, none⟩ = some (.int .i64 s.size) ∧ W.cell? ⟨w.heap.size + 1, 1, none⟩ = some (.int .i64 s.base) ∧ W.cell? ⟨w.heap.size + 1, 2, none⟩ = some (.int .i64 s.en) ∧ W.cell? ⟨w.heap.size + 1, 3, none⟩ = some (.slice A' s.cs.length cap')) := Lib.hid fun W h => by
    have h2 := H2.out.next h
    exact ⟨h2.1.1.1, h2.1.1.2.1, h2.1.1.2.2.1, h2.1.1.2.2.2, h2.2.1.1, h2.2.1.2.1, h2.2.1.2.2.1, h2.2.1.2.2.2⟩
  have HT := Lib.hid (H2.out.1.drew.to hlen)
  have H2d := Lib.hid (H2.out.next (Below.refl _ _).drew)
  have HS0 := Lib.hid (HSS.out _ (Below.refl w2.heap.size w2).drew)
  go_upto_region 8 with fail
  go_region_held3 (fun W => W.cell? ⟨w.heap.size, 0, none⟩ = some (.int .i64 r.size) ∧ W.cell? ⟨w.heap.size, 1, none⟩ = some (.int .i64 r.base) ∧ W.cell? ⟨w.heap.size, 2, none⟩ = some (.int .i64 r.en) ∧ W.cell? ⟨w.heap.size, 3, none⟩ = some (.slice A r.cs.length cap) ∧ W.cell? ⟨w.heap.size + 1, 0, none⟩ = some (.int .i64 s.size) ∧ W.cell? ⟨w.heap.size + 1, 1, none⟩ = some (.int .i64 s.base) ∧ W.cell? ⟨w.heap.size + 1, 2, none⟩ = some (.int .i64 s.en) ∧ W.cell? ⟨w.heap.size + 1, 3, none⟩ = some (.slice A' s.cs.length cap')) (first | with_reducible exact HS0.out | with_reducible exact HSA.out | with_reducible exact HSB.out | with_reducible exact HSC.out) (first | (go_at_call 35; ((with_reducible refine HT.out.mono ?_); rintro e w3 ⟨g3, rfl, ho3, hb3⟩; have HB3 := Lib.hid ((Below.refl w2.heap.size w2).drew.trans hb3); have HSA := Lib.hid (HSS.out w3 HB3.out); have HR3 := Lib.hid ho3.chs; have H3 := Lib.hid (H2d.out.next hb3); have HT2 := Lib.hid (H3.out.2.to hlen2); clear ho3 hb3)) | (go_at_call 35; ((with_reducible refine HT2.out.mono ?_); rintro e w4 ⟨g4, rfl, ho4, hb4⟩; have HB4 := Lib.hid (HB3.out.trans (hb4.mono HB3.out.size)); have HSB := Lib.hid (HSS.out w4 HB4.out); have HR4 := Lib.hid ho4.chs; have HP4 := Lib.hid ((HR3.out.below (Nat.le_refl _) hb4).up hb4.size); have H4 := Lib.hid (H3.out.next hb4); clear ho4 hb4)) | (go_at_call 15; refine (HS.out _ _ w4 HP4.out HR4.out).mono ?_; rintro e w5 ⟨rfl, hb5⟩; have HSC := Lib.hid (HSS.out w5 (HB4.out.trans (hb5.mono HB4.out.size))); have H5 := Lib.hid (H4.out.next hb5); clear hb5))
  clear HSS HT H2d HS0 HSA HSB HSC HT2 HB3 HR3 H3 HB4 HR4 HP4 H4 a0 a1 a2 a3 b0 b1 b2 b3 H2 HS
  obtain ⟨a0, a1, a2, a3⟩ := H5.out.1.1
  go_wp2_with fail
  refine (H5.out.1.to hlen).mono ?_
  rintro e w6 ⟨g6, rfl, ho6, hb6⟩
  have X7 := Lib.hid (VarN.new r 26 ho6 hb6.size)
  have H7 := Lib.hid ((H5.out.next hb6).next ((Below.refl w6.heap.size w6).alloc (Nat.le_refl _) (.cells (rnC r.size r.base r.en (.slice (some ⟨g6, 0, none⟩) r.cs.length r.cs.length)) 26)))
  have hz7 : (w6.alloc (.cells (rnC r.size r.base r.en (.slice (some ⟨g6, 0, none⟩) r.cs.length r.cs.length)) 26)).heap.size = w6.heap.size + 1 := by simp
  have HZ7 := Lib.hid hz7
  clear ho6 hb6 hz7 a0 a1 a2 a3 H5
  go_upto_region 10 with fail
  generalize w6.alloc (.cells (rnC r.size r.base r.en (.slice (some ⟨g6, 0, none⟩) r.cs.length r.cs.length)) 26) = w7 at *
  generalize w6.heap.size = gx at *
  generalize w5.heap.size = Bx at *
  obtain ⟨b0, b1, b2, b3⟩ := H7.out.2.1
  go_wp2_with fail
  refine (H7.out.2.to hlen2).mono ?_
  rintro e w8 ⟨g8, rfl, ho8, hb8⟩
  have Y9 := Lib.hid (VarN.new s 26 ho8 hb8.size)
  have X9 := Lib.hid ((X7.out.next hb8).alloc (.cells (rnC s.size s.base s.en (.slice (some ⟨g8, 0, none⟩) s.cs.length s.cs.length)) 26))
  have H9 := Lib.hid ((H7.out.next hb8).next ((Below.refl w8.heap.size w8).alloc (Nat.le_refl _) (.cells (rnC s.size s.base s.en (.slice (some ⟨g8, 0, none⟩) s.cs.length s.cs.length)) 26)))
  clear ho8 hb8 b0 b1 b2 b3 H7 X7
  go_upto_region 11 with fail
  generalize w8.alloc (.cells (rnC s.size s.base s.en (.slice (some ⟨g8, 0, none⟩) s.cs.length s.cs.length)) 26) = w9 at *
  generalize w8.heap.size = gy at *
  generalize w7.heap.size = By at *
  obtain ⟨q0, q1, q2, q3⟩ := X9.out.1
  obtain ⟨p0, p1, p2, p3⟩ := Y9.out.1
  go_wp2_with fail
  refine (HM.out _ _ w9 X9.out.2.1.chs Y9.out.2.1.chs).mono ?_
  rintro e w10 ⟨rfl, hb10⟩
  have H10 := Lib.hid (H9.out.next hb10)
  have X10 := Lib.hid (X9.out.next hb10)
  have Y10 := Lib.hid (Y9.out.next hb10)
  clear hb10 q0 q1 q2 q3 p0 p1 p2 p3 H9 X9 Y9
  have HSS : Hid (∀ W, Below w10.heap.size w10 W → W.cell? ⟨w.heap.size, 0, none⟩ = some (.int .i64 r.size) ∧ W.cell? ⟨w.heap.size, 1, none⟩ = some (.int .i64 r.base) ∧ W.cell? ⟨w.heap.size, 2, none⟩ = some (.int .i64 r.en) ∧ W.cell? ⟨w.heap.size, 3, none⟩ = some (.slice A r.cs.length cap) ∧ W.cell? ⟨gx, 0, none⟩ = some (.int .i64 r.size) ∧ W.cell? ⟨gx, 1, none⟩ = some (.int .i64 r.base) ∧ W.cell? ⟨gx, 2, none⟩ = some (.int .i64 r.en) ∧ W.cell? ⟨gx, 3, none⟩ = some (.slice (some ⟨g6, 0, none⟩) r.cs.length r.cs.length)) := Lib.hid fun W h =>
    have h2 := (H10.out.next h).1.1
    have h3 := (X10.out.next h).1
    ⟨h2.1, h2.2.1, h2.2.2.1, h2.2.2.2, h3.1, h3.2.1, h3.2.2.1, h3.2.2.2⟩
  have HT := Lib.hid (H10.out.1.drew.to hlen)
  obtain ⟨z0, z1, z2, z3, z4, z5, z6, z7⟩ := HSS.out w10 (Below.refl _ _)
  have HS0 := Lib.hid (HSS.out _ (Below.refl w10.heap.size w10).drew)
  go_upto_region 14 with fail
  go_region_held3 (fun W => W.cell? ⟨w.heap.size, 0, none⟩ = some (.int .i64 r.size) ∧ W.cell? ⟨w.heap.size, 1, none⟩ = some (.int .i64 r.base) ∧ W.cell? ⟨w.heap.size, 2, none⟩ = some (.int .i64 r.en) ∧ W.cell? ⟨w.heap.size, 3, none⟩ = some (.slice A r.cs.length cap) ∧ W.cell? ⟨gx, 0, none⟩ = some (.int .i64 r.size) ∧ W.cell? ⟨gx, 1, none⟩ = some (.int .i64 r.base) ∧ W.cell? ⟨gx, 2, none⟩ = some (.int .i64 r.en) ∧ W.cell? ⟨gx, 3, none⟩ = some (.slice (some ⟨g6, 0, none⟩) r.cs.length r.cs.length)) (first | with_reducible exact HS0.out | with_reducible exact HSA.out | with_reducible exact HSB.out) (first | (go_at_call 35; refine HT.out.mono ?_; rintro e w11 ⟨gt, rfl, ho', hb'⟩; have HBv := Lib.hid ((Below.refl w10.heap.size w10).drew.trans hb'); have HSA := Lib.hid (HSS.out w11 HBv.out); have HRv := Lib.hid ho'; have HPv := Lib.hid (X10.out.next HBv.out).2.1; clear ho' hb') | (go_at_call 31; refine (eqvn r _ _ _ _ _ _ _ HPv.out HRv.out (by omega)).mono ?_; rintro e w12 ⟨rfl, hb'⟩; have HBw := Lib.hid (HBv.out.trans (hb'.mono HBv.out.size)); have HSB := Lib.hid (HSS.out w12 HBw.out); clear hb'))
  clear z0 z1 z2 z3 z4 z5 z6 z7 HSS HT HS0 HSA HSB HBv HRv HPv
  have H12 := Lib.hid (H10.out.next HBw.out)
  have Y12 := Lib.hid (Y10.out.next HBw.out)
  clear H10 X10 Y10 HBw
  have HSS : Hid (∀ W, Below w12.heap.size w12 W → W.cell? ⟨w.heap.size + 1, 0, none⟩ = some (.int .i64 s.size) ∧ W.cell? ⟨w.heap.size + 1, 1, none⟩ = some (.int .i64 s.base) ∧ W.cell? ⟨w.heap.size + 1, 2, none⟩ = some (.int .i64 s.en) ∧ W.cell? ⟨w.heap.size + 1, 3, none⟩ = some (.slice A' s.cs.length cap') ∧ W.cell? ⟨gy, 0, none⟩ = some (.int .i64 s.size) ∧ W.cell? ⟨gy, 1, none⟩ = some (.int .i64 s.base) ∧ W.cell? ⟨gy, 2, none⟩ = some (.int .i64 s.en) ∧ W.cell? ⟨gy, 3, none⟩ = some (.slice (some ⟨g8, 0, none⟩) s.cs.length s.cs.length)) := Lib.hid fun W h =>
    have h2 := (H12.out.next h).2.1
    have h3 := (Y12.out.next h).1
    ⟨h2.1, h2.2.1, h2.2.2.1, h2.2.2.2, h3.1, h3.2.1, h3.2.2.1, h3.2.2.2⟩
  have HT := Lib.hid (H12.out.2.drew.to hlen2)
  obtain ⟨z0, z1, z2, z3, z4, z5, z6, z7⟩ := HSS.out w12 (Below.refl _ _)
  have HS0 := Lib.hid (HSS.out _ (Below.refl w12.heap.size w12).drew)
  go_upto_region 16 with fail
  go_region_held3 (fun W => W.cell? ⟨w.heap.size + 1, 0, none⟩ = some (.int .i64 s.size) ∧ W.cell? ⟨w.heap.size + 1, 1, none⟩ = some (.int .i64 s.base) ∧ W.cell? ⟨w.heap.size + 1, 2, none⟩ = some (.int .i64 s.en) ∧ W.cell? ⟨w.heap.size + 1, 3, none⟩ = some (.slice A' s.cs.length cap') ∧ W.cell? ⟨gy, 0, none⟩ = some (.int .i64 s.size) ∧ W.cell? ⟨gy, 1, none⟩ = some (.int .i64 s.base) ∧ W.cell? ⟨gy, 2, none⟩ = some (.int .i64 s.en) ∧ W.cell? ⟨gy, 3, none⟩ = some (.slice (some ⟨g8, 0, none⟩) s.cs.length s.cs.length)) (first | with_reducible exact HS0.out | with_reducible exact HSA.out | with_reducible exact HSB.out) (first | (go_at_call 35; refine HT.out.mono ?_; rintro e w13 ⟨gt, rfl, ho', hb'⟩; have HBv := Lib.hid ((Below.refl w12.heap.size w12).drew.trans hb'); have HSA := Lib.hid (HSS.out w13 HBv.out); have HRv := Lib.hid ho'; have HPv := Lib.hid (Y12.out.next HBv.out).2.1; clear ho' hb') | (go_at_call 31; refine (eqvn s _ _ _ _ _ _ _ HPv.out HRv.out (by omega)).mono ?_; rintro e w14 ⟨rfl, hb'⟩; have HBw := Lib.hid (HBv.out.trans (hb'.mono HBv.out.size)); have HSB := Lib.hid (HSS.out w14 HBw.out); clear hb'))
  clear z0 z1 z2 z3 z4 z5 z6 z7 HSS HT HS0 HSA HSB HBv HRv HPv
  have H14 := Lib.hid (H12.out.next HBw.out)
  clear HBw
  go_wp2
  go_ret
  exact ⟨rfl, H14.out.1.2.2.2⟩

set_option maxRecDepth 100000 in
set_option maxHeartbeats 4000000 in
/-- The law on PeekRing, of a spec and an impl that answer so. -/
theorem law_PeekRing (HSP : ∀ (r : Rn) (o : Int) (q : Int) (A : Option Addr) (cap B : Nat) (w : World), B ≤ w.heap.size → Ints w B A r.cs → r.cs.length ≤ 1048576 → r.cs.length ≤ cap → inI r.cs → inRn r → (-9223372036854775808 ≤ o ∧ o ≤ 9223372036854775807) → (-9223372036854775808 ≤ q ∧ q ≤ 9223372036854775807) → Calls Try.prog 22 #[rnV r (.slice A r.cs.length cap), .int .i64 o, .int .i64 q] w fun e w' => e = .returned (.tuple #[.string (pkR r o q), .bool (decide (canP r o q))]) ∧ Below w.heap.size w w')
    (HI : ∀ (r : Rn) (o : Int) (q : Int) (A : Option Addr) (cap B : Nat) (w : World), B ≤ w.heap.size → Ints w B A r.cs → r.cs.length ≤ 1048576 → r.cs.length ≤ cap → inI r.cs → inRn r → (-9223372036854775808 ≤ o ∧ o ≤ 9223372036854775807) → (-9223372036854775808 ≤ q ∧ q ≤ 9223372036854775807) → Calls Try.prog 20 #[rnV r (.slice A r.cs.length cap), .int .i64 o, .int .i64 q] w fun e w' => e = .returned (.tuple #[.string (pkR r o q), .bool (decide (canP r o q))]) ∧ Below w.heap.size w w')
    (r : Rn) (o : Int) (q : Int) (A : Option Addr) (cap : Nat) (w : World) (hr : Ints w w.heap.size A r.cs) (hn : r.cs.length ≤ maxLen) (hi : inI r.cs) (hx : inRn r) (ho : (-9223372036854775808 ≤ o ∧ o ≤ 9223372036854775807)) (hq : (-9223372036854775808 ≤ q ∧ q ≤ 9223372036854775807)) :
    Calls Try.prog 8 #[rnV r (.slice A r.cs.length cap), .int .i64 o, .int .i64 q] w fun e w' => e = .returned (.bool true) ∧ Below w.heap.size w w' := by
  have HW := Lib.hid (InRn.start w r A cap 47 hr)
  have HZ := Lib.hid (lszn 1048576 (by decide) (by decide) r A cap w.heap.size _ (Nat.le_of_lt HW.out.2.2.1) HW.out.2.1 (by unfold maxLen at hn; omega))
  have hlow := (szI_low 1048576 r.cs (by decide)).1
  by_cases hneg : szI 1048576 r.cs < 0
  · generalize szI 1048576 r.cs = m at *
    have hd : decide (m < 0) = true := decide_eq_true hneg
    clear hneg hlow hr hi hx HI HSP ho hq
    go_enter Try.func8, Try.ntmps8
    go_wp2_with fail
    refine HZ.out.mono ?_
    rintro e w1 ⟨rfl, hb1⟩
    have H1 := Lib.hid (HW.out.next hb1)
    clear hb1
    go_wp2
    go_ret
    exact ⟨rfl, H1.out.2.2.2⟩
  have hlen := szI_ok (N := 1048576) (zs := r.cs) (by decide) (by omega)
  have HS : Hid (∀ (g : Nat) (W : World), Ints W W.heap.size (some ⟨g, 0, none⟩) r.cs → Calls Try.prog 22 #[rnV r (.slice (some ⟨g, 0, none⟩) r.cs.length r.cs.length), .int .i64 o, .int .i64 q] W fun e w' => e = .returned (.tuple #[.string (pkR r o q), .bool (decide (canP r o q))]) ∧ Below W.heap.size W w') := Lib.hid fun g W h => HSP r o q _ _ W.heap.size W (Nat.le_refl _) h hlen (Nat.le_refl _) hi hx ho hq
  have HM : Hid (∀ (g : Nat) (W : World), Ints W W.heap.size (some ⟨g, 0, none⟩) r.cs → Calls Try.prog 20 #[rnV r (.slice (some ⟨g, 0, none⟩) r.cs.length r.cs.length), .int .i64 o, .int .i64 q] W fun e w' => e = .returned (.tuple #[.string (pkR r o q), .bool (decide (canP r o q))]) ∧ Below W.heap.size W w') := Lib.hid fun g W h => HI r o q _ _ W.heap.size W (Nat.le_refl _) h hlen (Nat.le_refl _) hi hx ho hq
  generalize szI 1048576 r.cs = m at *
  have hd : decide (m < 0) = false := decide_eq_false hneg
  obtain ⟨x0, hxvx0⟩ : ∃ x0, pkR r o q = x0 := ⟨_, rfl⟩
  rw [hxvx0] at HS HM
  obtain ⟨x1, hxvx1⟩ : ∃ x1, decide (canP r o q) = x1 := ⟨_, rfl⟩
  rw [hxvx1] at HS HM
  have hxx1 := bne_bool x1
  clear hneg hlow hr hi hxvx0 hxvx1 HI HSP hx ho hq
  go_enter Try.func8, Try.ntmps8
  go_wp2_with fail
  refine HZ.out.mono ?_
  rintro e w1 ⟨rfl, hb1⟩
  have H1 := Lib.hid (HW.out.next hb1)
  clear hb1 HW HZ
  obtain ⟨a0, a1, a2, a3⟩ := H1.out.1
  go_wp2_with fail
  refine (H1.out.to hlen).mono ?_
  rintro e w2 ⟨g2, rfl, ho2, hb2⟩
  have H2 := Lib.hid (H1.out.next hb2)
  have HO2 := Lib.hid ho2.chs
  clear ho2 hb2 a0 a1 a2 a3
  go_wp2_with fail
  refine (HS.out _ w2 HO2.out).mono ?_
  rintro e w3 ⟨rfl, hb3⟩
  have H3 := Lib.hid (H2.out.next hb3)
  clear hb3 HO2
  obtain ⟨a0, a1, a2, a3⟩ := H3.out.1
  go_wp2_with fail
  refine (H3.out.to hlen).mono ?_
  rintro e w4 ⟨g4, rfl, ho4, hb4⟩
  have X5 := Lib.hid (VarN.new r 26 ho4 hb4.size)
  have H5 := Lib.hid ((H3.out.next hb4).alloc (.cells (rnC r.size r.base r.en (.slice (some ⟨g4, 0, none⟩) r.cs.length r.cs.length)) 26))
  clear ho4 hb4 a0 a1 a2 a3 H3
  go_upto_region 7 with fail
  generalize w4.alloc (.cells (rnC r.size r.base r.en (.slice (some ⟨g4, 0, none⟩) r.cs.length r.cs.length)) 26) = w5 at *
  generalize w4.heap.size = gx at *
  generalize w3.heap.size = Bx at *
  generalize g4 = kx at *
  obtain ⟨q0, q1, q2, q3⟩ := X5.out.1
  go_wp2_with fail
  refine (HM.out _ w5 X5.out.2.1.chs).mono ?_
  rintro e w6 ⟨rfl, hb6⟩
  have H6 := Lib.hid (H5.out.next hb6)
  have X6 := Lib.hid (X5.out.next hb6)
  clear hb6 q0 q1 q2 q3 X5 H5
  have HSS : Hid (∀ W, Below w6.heap.size w6 W → W.cell? ⟨w.heap.size, 0, none⟩ = some (.int .i64 r.size) ∧ W.cell? ⟨w.heap.size, 1, none⟩ = some (.int .i64 r.base) ∧ W.cell? ⟨w.heap.size, 2, none⟩ = some (.int .i64 r.en) ∧ W.cell? ⟨w.heap.size, 3, none⟩ = some (.slice A r.cs.length cap) ∧ W.cell? ⟨gx, 0, none⟩ = some (.int .i64 r.size) ∧ W.cell? ⟨gx, 1, none⟩ = some (.int .i64 r.base) ∧ W.cell? ⟨gx, 2, none⟩ = some (.int .i64 r.en) ∧ W.cell? ⟨gx, 3, none⟩ = some (.slice (some ⟨kx, 0, none⟩) r.cs.length r.cs.length)) := Lib.hid fun W h =>
    have h2 := (H6.out.next h).1
    have h3 := (X6.out.next h).1
    ⟨h2.1, h2.2.1, h2.2.2.1, h2.2.2.2, h3.1, h3.2.1, h3.2.2.1, h3.2.2.2⟩
  have HT := Lib.hid (H6.out.drew.to hlen)
  obtain ⟨z0, z1, z2, z3, z4, z5, z6, z7⟩ := HSS.out w6 (Below.refl _ _)
  have HS0 := Lib.hid (HSS.out _ (Below.refl w6.heap.size w6).drew)
  go_upto_region 10 with fail
  go_region_held3 (fun W => W.cell? ⟨w.heap.size, 0, none⟩ = some (.int .i64 r.size) ∧ W.cell? ⟨w.heap.size, 1, none⟩ = some (.int .i64 r.base) ∧ W.cell? ⟨w.heap.size, 2, none⟩ = some (.int .i64 r.en) ∧ W.cell? ⟨w.heap.size, 3, none⟩ = some (.slice A r.cs.length cap) ∧ W.cell? ⟨gx, 0, none⟩ = some (.int .i64 r.size) ∧ W.cell? ⟨gx, 1, none⟩ = some (.int .i64 r.base) ∧ W.cell? ⟨gx, 2, none⟩ = some (.int .i64 r.en) ∧ W.cell? ⟨gx, 3, none⟩ = some (.slice (some ⟨kx, 0, none⟩) r.cs.length r.cs.length)) (first | with_reducible exact HS0.out | with_reducible exact HSA.out | with_reducible exact HSB.out) (first | (go_at_call 35; refine HT.out.mono ?_; rintro e w10 ⟨gt, rfl, ho', hb'⟩; have HBv := Lib.hid ((Below.refl w6.heap.size w6).drew.trans hb'); have HSA := Lib.hid (HSS.out w10 HBv.out); have HRv := Lib.hid ho'; have HPv := Lib.hid (X6.out.next HBv.out).2.1; clear ho' hb') | (go_at_call 31; refine (eqvn r _ _ _ _ _ _ _ HPv.out HRv.out (by omega)).mono ?_; rintro e w11 ⟨rfl, hb'⟩; have HBw := Lib.hid (HBv.out.trans (hb'.mono HBv.out.size)); have HSB := Lib.hid (HSS.out w11 HBw.out); clear hb'))
  clear z0 z1 z2 z3 z4 z5 z6 z7 HSS HT HS0 HSA HSB HBv HRv HPv
  have H8 := Lib.hid (H6.out.next HBw.out)
  clear HBw
  go_wp2
  go_ret
  exact ⟨rfl, H8.out.2.2.2⟩

set_option maxRecDepth 100000 in
set_option maxHeartbeats 4000000 in
/-- The law on NewRing, of a spec and an impl that answer so. -/
theorem law_NewRing (HSP : ∀ (n : Int) (W : World), (-9223372036854775808 ≤ n ∧ n ≤ 9223372036854775807) → Calls Try.prog 28 #[.int .i64 n] W fun e w' => ∃ v, e = .returned (.tuple #[rnV (nwR n) v, .bool (decide (powR n))]) ∧ OwnK w' W.heap.size v (nwR n).cs ∧ Below W.heap.size W w')
    (HI : ∀ (n : Int) (W : World), (-9223372036854775808 ≤ n ∧ n ≤ 9223372036854775807) → Calls Try.prog 27 #[.int .i64 n] W fun e w' => ∃ v, e = .returned (.tuple #[rnV (nwR n) v, .bool (decide (powR n))]) ∧ OwnK w' W.heap.size v (nwR n).cs ∧ Below W.heap.size W w') (n : Int) (w : World) (hn : (-9223372036854775808 ≤ n ∧ n ≤ 9223372036854775807)) :
    Calls Try.prog 4 #[.int .i64 n] w fun e w' => e = .returned (.bool true) ∧ Below w.heap.size w w' := by
  have HS := Lib.hid fun W => HSP n W hn
  have HM := Lib.hid fun W => HI n W hn
  have hLl : (nwR n).cs.length ≤ 1048577 := by have := nwR_len n; omega
  clear HSP HI
  generalize nwR n = R at *
  generalize decide (powR n) = s1 at *
  have hbn := bne_bool s1
  clear hn
  go_enter Try.func4, Try.ntmps4
  go_wp2_with fail
  refine (HS.out w).mono ?_
  rintro e w3 ⟨v3, rfl, ho3, hb3⟩
  obtain ⟨A3, c3, rfl, _, _⟩ := ho3.frs
  have V4 := Lib.hid (VarN.new R 26 ho3 hb3.size)
  have B4 := Lib.hid (hb3.alloc hb3.size (.cells (rnC R.size R.base R.en (.slice A3 R.cs.length c3)) 26))
  have hz4 : (w3.alloc (.cells (rnC R.size R.base R.en (.slice A3 R.cs.length c3)) 26)).heap.size = w3.heap.size + 1 := by simp
  have HZ4 := Lib.hid hz4
  clear ho3 hb3 hz4
  go_upto_region 2 with fail
  generalize w3.alloc (.cells (rnC R.size R.base R.en (.slice A3 R.cs.length c3)) 26) = w4 at *
  generalize w3.heap.size = g0 at *
  go_wp2_with fail
  refine (HM.out w4).mono ?_
  rintro e w7 ⟨v7, rfl, ho7, hb7⟩
  obtain ⟨A7, c7, rfl, _, _⟩ := ho7.frs
  have G8 := Lib.hid (VarN.new R 26 ho7 hb7.size)
  have V8 := Lib.hid ((V4.out.next hb7).alloc (.cells (rnC R.size R.base R.en (.slice A7 R.cs.length c7)) 26))
  have B8 := Lib.hid ((B4.out.trans (hb7.mono B4.out.size)).alloc (Nat.le_trans B4.out.size hb7.size) (.cells (rnC R.size R.base R.en (.slice A7 R.cs.length c7)) 26))
  have hg1 : g0 < w4.heap.size := by have := HZ4.out; omega
  have hBw := B4.out.size
  clear ho7 hb7 V4 B4 HZ4
  go_upto_region 3 with fail
  generalize w7.alloc (.cells (rnC R.size R.base R.en (.slice A7 R.cs.length c7)) 26) = w8 at *
  generalize w7.heap.size = gg at *
  generalize w4.heap.size = Bg at *
  obtain ⟨y0, y1, y2, y3⟩ := G8.out.1
  obtain ⟨z0, z1, z2, z3⟩ := V8.out.1
  go_wp2_with fail
  refine (eqvn R _ _ _ _ _ _ _ G8.out.2.1 V8.out.2.1 (by omega)).mono ?_
  rintro e w9 ⟨rfl, hb'⟩
  have B9 := Lib.hid (B8.out.trans (hb'.mono B8.out.size))
  have V9 := Lib.hid (V8.out.next hb')
  have G9 := Lib.hid (G8.out.next hb')
  clear hb' B8 V8 G8 y0 y1 y2 y3 z0 z1 z2 z3
  obtain ⟨x0, x1, x2, x3⟩ := G9.out.1
  have hgin := G9.out.in
  have hg2 := G9.out.2.2.2.1
  go_wp2_with fail
  refine (markrn R _ Bg w9 G9.out.2.1 (Nat.le_trans hg2 (Nat.le_of_lt G9.out.2.2.2.2)) (by omega)).mono ?_
  rintro e w14 ⟨rfl, ho', hb', hg'⟩
  have B14 := Lib.hid (B9.out.trans (hb'.mono (by omega)))
  have V14 := Lib.hid (V9.out.kept hg' (fun k hk => by have := hgin k hk; omega))
  have G14 := Lib.hid (G9.out.wrote hg' ho')
  clear ho' hb' hg' B9 V9 G9 x0 x1 x2 x3 hgin
  obtain ⟨q1, hq1⟩ : ∃ q1 : Int, (1 + (R.cs.length : Int)) = q1 := ⟨_, rfl⟩
  have hq0 : decide (q1 < 0) = false := decide_eq_false (by omega)
  have hq2 := bne_int q1
  rw [hq1]
  have HQ1 := Lib.hid hq1
  clear hq1
  obtain ⟨x0, x1, x2, x3⟩ := G14.out.1
  have HML := Lib.hid (marks_len R.cs.length 1)
  have hch := G14.out.2.1
  rw [show (Value.slice A7 R.cs.length c7) = .slice A7 (marks 1 R.cs.length).length c7 by rw [HML.out]] at hch
  have HCH := Lib.hid hch.chs
  clear hch
  go_wp2_with fail
  have hhe := heldrn R R.cs.length A7 c7 _ w14 (Nat.le_refl _) HCH.out (by omega)
  rw [HQ1.out] at hhe
  refine hhe.mono ?_
  rintro e w15 ⟨rfl, hb'⟩
  clear hhe
  have B15 := Lib.hid (B14.out.trans (hb'.mono B14.out.size))
  have V15 := Lib.hid (V14.out.next hb')
  have G15 := Lib.hid (G14.out.next hb')
  clear hb' B14 V14 G14 x0 x1 x2 x3 HCH HML
  go_wp2_with fail
  refine (HM.out w15).mono ?_
  rintro e w17 ⟨v17, rfl, ho7, hb7⟩
  obtain ⟨A17, c17, rfl, _, _⟩ := ho7.frs
  have K18 := Lib.hid (VarN.new R 26 ho7 hb7.size)
  have B18 := Lib.hid ((B15.out.trans (hb7.mono B15.out.size)).alloc (Nat.le_trans B15.out.size hb7.size) (.cells (rnC R.size R.base R.en (.slice A17 R.cs.length c17)) 26))
  have V18 := Lib.hid ((V15.out.next hb7).alloc (.cells (rnC R.size R.base R.en (.slice A17 R.cs.length c17)) 26))
  have G18 := Lib.hid ((G15.out.next hb7).alloc (.cells (rnC R.size R.base R.en (.slice A17 R.cs.length c17)) 26))
  clear ho7 hb7 B15 V15 G15
  go_upto_region 14 with fail
  generalize w17.alloc (.cells (rnC R.size R.base R.en (.slice A17 R.cs.length c17)) 26) = w18 at *
  generalize w17.heap.size = gh at *
  generalize w15.heap.size = Bh at *
  obtain ⟨y0, y1, y2, y3⟩ := K18.out.1
  obtain ⟨z0, z1, z2, z3⟩ := V18.out.1
  go_wp2_with fail
  refine (eqvn R _ _ _ _ _ _ _ K18.out.2.1 V18.out.2.1 (by omega)).mono ?_
  rintro e w19 ⟨rfl, hb'⟩
  have B19 := Lib.hid (B18.out.trans (hb'.mono B18.out.size))
  have G19 := Lib.hid (G18.out.next hb')
  clear hb' B18 G18 y0 y1 y2 y3 z0 z1 z2 z3 V18 K18
  obtain ⟨x0, x1, x2, x3⟩ := G19.out.1
  have HML := Lib.hid (marks_len R.cs.length 1)
  have hch := G19.out.2.1
  rw [show (Value.slice A7 R.cs.length c7) = .slice A7 (marks 1 R.cs.length).length c7 by rw [HML.out]] at hch
  have HCH := Lib.hid hch.chs
  clear hch
  go_wp2_with fail
  have hhe := heldrn R R.cs.length A7 c7 _ w19 (Nat.le_refl _) HCH.out (by omega)
  rw [HQ1.out] at hhe
  refine hhe.mono ?_
  rintro e w20 ⟨rfl, hb'⟩
  clear hhe
  have B20 := Lib.hid (B19.out.trans (hb'.mono B19.out.size))
  clear hb' B19 x0 x1 x2 x3 HCH HML G19
  go_wp2
  go_ret
  exact ⟨rfl, B20.out⟩

end Go.Proofs.Ytkhekbfakloaoaa
