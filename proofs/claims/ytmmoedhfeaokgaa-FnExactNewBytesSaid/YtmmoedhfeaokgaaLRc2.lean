/-
  The exact laws on receivers, walked: IsReceiver, IsReceived, NewBytes.
-/
import Derived.Test.YtmmoedhfeaokgaaLRc
namespace Go.Proofs.Ytmmoedhfeaokgaa
open Go.RowKit Go.Deep Go.Proofs.Ytmmoedhfeaokgaa.Num

set_option maxRecDepth 100000 in
set_option maxHeartbeats 4000000 in
/-- The law on IsReceiver, of a spec and an impl that answer so. -/
theorem law_IsReceiver (HSP : ∀ (r : Rc) (A : Option Addr) (cap B : Nat) (w : World), B ≤ w.heap.size → Chs w B A r.buf.chs → r.buf.chs.length ≤ 1048576 → r.buf.chs.length ≤ cap → inB r.buf.chs → inRc r → Calls Try.prog 19 #[rcV r (.slice A r.buf.chs.length cap)] w fun e w' => e = .returned (.bool (decide (okRc r))) ∧ Below w.heap.size w w')
    (HI : ∀ (r : Rc) (A : Option Addr) (cap B : Nat) (w : World), B ≤ w.heap.size → Chs w B A r.buf.chs → r.buf.chs.length ≤ 1048576 → r.buf.chs.length ≤ cap → inB r.buf.chs → inRc r → Calls Try.prog 20 #[rcV r (.slice A r.buf.chs.length cap)] w fun e w' => e = .returned (.bool (decide (okRc r))) ∧ Below w.heap.size w w')
    (r : Rc) (A : Option Addr) (cap : Nat) (w : World) (hr : Chs w w.heap.size A r.buf.chs) (hn : r.buf.chs.length ≤ maxLen) (hi : inB r.buf.chs) (hx : inRc r) :
    Calls Try.prog 6 #[rcV r (.slice A r.buf.chs.length cap)] w fun e w' => e = .returned (.bool true) ∧ Below w.heap.size w w' := by
  have HW := Lib.hid (InRc.start w r A cap 45 hr)
  have HZ := Lib.hid (lszr 1048576 (by decide) (by decide) r A cap w.heap.size _ (Nat.le_of_lt HW.out.2.2.1) HW.out.2.1 (by unfold maxLen at hn; omega) (fun c hc => by have := (hi c hc).1; unfold maxLen at this; omega))
  have hlow := (szB_low 1048576 r.buf (by decide)).1
  by_cases hneg : szB 1048576 r.buf < 0
  · generalize szB 1048576 r.buf = m at *
    have hd : decide (m < 0) = true := decide_eq_true hneg
    clear hneg hlow hr hi hx HI HSP 
    go_enter Try.func6, Try.ntmps6
    go_wp2_with fail
    refine HZ.out.mono ?_
    rintro e w1 ⟨rfl, hb1⟩
    have H1 := Lib.hid (HW.out.next hb1)
    clear hb1
    go_wp2
    go_ret
    exact ⟨rfl, H1.out.2.2.2⟩
  have hlen := (szB_ok (N := 1048576) (b := r.buf) (by decide) (by omega)).1
  have HS : Hid (∀ (g : Nat) (W : World), Chs W W.heap.size (some ⟨g, 0, none⟩) r.buf.chs → Calls Try.prog 19 #[rcV r (.slice (some ⟨g, 0, none⟩) r.buf.chs.length r.buf.chs.length)] W fun e w' => e = .returned (.bool (decide (okRc r))) ∧ Below W.heap.size W w') := Lib.hid fun g W h => HSP r _ _ W.heap.size W (Nat.le_refl _) h hlen (Nat.le_refl _) hi hx
  have HM : Hid (∀ (g : Nat) (W : World), Chs W W.heap.size (some ⟨g, 0, none⟩) r.buf.chs → Calls Try.prog 20 #[rcV r (.slice (some ⟨g, 0, none⟩) r.buf.chs.length r.buf.chs.length)] W fun e w' => e = .returned (.bool (decide (okRc r))) ∧ Below W.heap.size W w') := Lib.hid fun g W h => HI r _ _ W.heap.size W (Nat.le_refl _) h hlen (Nat.le_refl _) hi hx
  generalize szB 1048576 r.buf = m at *
  have hd : decide (m < 0) = false := decide_eq_false hneg
  obtain ⟨x, hxv⟩ : ∃ x, decide (okRc r) = x := ⟨_, rfl⟩
  rw [hxv] at HS HM
  have hxx := bne_bool x
  clear hneg hlow hr hi hxv HI HSP hx 
  go_enter Try.func6, Try.ntmps6
  go_wp2_with fail
  refine HZ.out.mono ?_
  rintro e w1 ⟨rfl, hb1⟩
  have H1 := Lib.hid (HW.out.next hb1)
  clear hb1 HW HZ
  obtain ⟨a0, a1, a2, a3, a4, a5⟩ := H1.out.1
  go_wp2_with fail
  refine (H1.out.to hlen).mono ?_
  rintro e w2 ⟨g2, rfl, ho2, hb2⟩
  have H2 := Lib.hid (H1.out.next hb2)
  have HO2 := Lib.hid ho2.chs
  clear ho2 hb2 a0 a1 a2 a3 a4 a5
  go_wp2_with fail
  refine (HS.out _ w2 HO2.out).mono ?_
  rintro e w3 ⟨rfl, hb3⟩
  have H3 := Lib.hid (H2.out.next hb3)
  clear hb3 HO2
  obtain ⟨a0, a1, a2, a3, a4, a5⟩ := H3.out.1
  go_wp2_with fail
  refine (H3.out.to hlen).mono ?_
  rintro e w4 ⟨g4, rfl, ho4, hb4⟩
  have X5 := Lib.hid (VarR.new r 28 ho4.own.x hb4.size)
  have H5 := Lib.hid ((H3.out.next hb4).alloc (.cells (rcC r.st r.buf.next (.slice (some ⟨g4, 0, none⟩) r.buf.chs.length r.buf.chs.length) r.fin r.hi r.code) 28))
  clear ho4 hb4 a0 a1 a2 a3 a4 a5 H3
  go_upto_region 7 with fail
  generalize w4.alloc (.cells (rcC r.st r.buf.next (.slice (some ⟨g4, 0, none⟩) r.buf.chs.length r.buf.chs.length) r.fin r.hi r.code) 28) = w5 at *
  generalize w4.heap.size = gx at *
  generalize w3.heap.size = Bx at *
  generalize g4 = kx at *
  obtain ⟨q0, q1, q2, q3, q4, q5⟩ := X5.out.1
  go_wp2_with fail
  refine (HM.out _ w5 X5.out.2.1.chs).mono ?_
  rintro e w6 ⟨rfl, hb6⟩
  have H6 := Lib.hid (H5.out.next hb6)
  have X6 := Lib.hid (X5.out.next hb6)
  clear hb6 q0 q1 q2 q3 q4 q5 X5 H5
  have HSS : Hid (∀ W, Below w6.heap.size w6 W → W.cell? ⟨w.heap.size, 0, none⟩ = some (.int .i64 r.st) ∧ W.cell? ⟨w.heap.size, 1, none⟩ = some (.int .i64 r.buf.next) ∧ W.cell? ⟨w.heap.size, 2, none⟩ = some (.slice A r.buf.chs.length cap) ∧ W.cell? ⟨w.heap.size, 3, none⟩ = some (.int .i64 r.fin) ∧ W.cell? ⟨w.heap.size, 4, none⟩ = some (.int .i64 r.hi) ∧ W.cell? ⟨w.heap.size, 5, none⟩ = some (.int .i64 r.code) ∧ W.cell? ⟨gx, 0, none⟩ = some (.int .i64 r.st) ∧ W.cell? ⟨gx, 1, none⟩ = some (.int .i64 r.buf.next) ∧ W.cell? ⟨gx, 2, none⟩ = some (.slice (some ⟨kx, 0, none⟩) r.buf.chs.length r.buf.chs.length) ∧ W.cell? ⟨gx, 3, none⟩ = some (.int .i64 r.fin) ∧ W.cell? ⟨gx, 4, none⟩ = some (.int .i64 r.hi) ∧ W.cell? ⟨gx, 5, none⟩ = some (.int .i64 r.code)) := Lib.hid fun W h =>
    have h2 := (H6.out.next h).1
    have h3 := (X6.out.next h).1
    ⟨h2.1, h2.2.1, h2.2.2.1, h2.2.2.2.1, h2.2.2.2.2.1, h2.2.2.2.2.2, h3.1, h3.2.1, h3.2.2.1, h3.2.2.2.1, h3.2.2.2.2.1, h3.2.2.2.2.2⟩
  have HT := Lib.hid (H6.out.drew.to hlen)
  obtain ⟨z0, z1, z2, z3, z4, z5, z6, z7, z8, z9, z10, z11⟩ := HSS.out w6 (Below.refl _ _)
  have HS0 := Lib.hid (HSS.out _ (Below.refl w6.heap.size w6).drew)
  go_upto_region 10 with fail
  go_region_held3 (fun W => W.cell? ⟨w.heap.size, 0, none⟩ = some (.int .i64 r.st) ∧ W.cell? ⟨w.heap.size, 1, none⟩ = some (.int .i64 r.buf.next) ∧ W.cell? ⟨w.heap.size, 2, none⟩ = some (.slice A r.buf.chs.length cap) ∧ W.cell? ⟨w.heap.size, 3, none⟩ = some (.int .i64 r.fin) ∧ W.cell? ⟨w.heap.size, 4, none⟩ = some (.int .i64 r.hi) ∧ W.cell? ⟨w.heap.size, 5, none⟩ = some (.int .i64 r.code) ∧ W.cell? ⟨gx, 0, none⟩ = some (.int .i64 r.st) ∧ W.cell? ⟨gx, 1, none⟩ = some (.int .i64 r.buf.next) ∧ W.cell? ⟨gx, 2, none⟩ = some (.slice (some ⟨kx, 0, none⟩) r.buf.chs.length r.buf.chs.length) ∧ W.cell? ⟨gx, 3, none⟩ = some (.int .i64 r.fin) ∧ W.cell? ⟨gx, 4, none⟩ = some (.int .i64 r.hi) ∧ W.cell? ⟨gx, 5, none⟩ = some (.int .i64 r.code)) (first | with_reducible exact HS0.out | with_reducible exact HSA.out | with_reducible exact HSB.out) (first | (go_at_call 31; refine HT.out.mono ?_; rintro e w10 ⟨gt, rfl, ho', hb'⟩; have HBv := Lib.hid ((Below.refl w6.heap.size w6).drew.trans hb'); have HSA := Lib.hid (HSS.out w10 HBv.out); have HRv := Lib.hid ho'.own.x; have HPv := Lib.hid (X6.out.next HBv.out).2.1; clear ho' hb') | (go_at_call 27; refine (eqvr r _ _ _ _ _ _ _ HPv.out HRv.out (by omega)).mono ?_; rintro e w11 ⟨rfl, hb'⟩; have HBw := Lib.hid (HBv.out.trans (hb'.mono HBv.out.size)); have HSB := Lib.hid (HSS.out w11 HBw.out); clear hb'))
  clear z0 z1 z2 z3 z4 z5 z6 z7 z8 z9 z10 z11 HSS HT HS0 HSA HSB HBv HRv HPv
  have H8 := Lib.hid (H6.out.next HBw.out)
  clear HBw
  go_wp2
  go_ret
  exact ⟨rfl, H8.out.2.2.2⟩

set_option maxRecDepth 100000 in
set_option maxHeartbeats 4000000 in
/-- The law on IsReceived, of a spec and an impl that answer so. -/
theorem law_IsReceived (HSP : ∀ (r : Rc) (A : Option Addr) (cap B : Nat) (w : World), B ≤ w.heap.size → Chs w B A r.buf.chs → r.buf.chs.length ≤ 1048576 → r.buf.chs.length ≤ cap → inB r.buf.chs → inRc r → Calls Try.prog 36 #[rcV r (.slice A r.buf.chs.length cap)] w fun e w' => e = .returned (.bool (decide (gotRc r))) ∧ Below w.heap.size w w')
    (HI : ∀ (r : Rc) (A : Option Addr) (cap B : Nat) (w : World), B ≤ w.heap.size → Chs w B A r.buf.chs → r.buf.chs.length ≤ 1048576 → r.buf.chs.length ≤ cap → inB r.buf.chs → inRc r → Calls Try.prog 24 #[rcV r (.slice A r.buf.chs.length cap)] w fun e w' => e = .returned (.bool (decide (gotRc r))) ∧ Below w.heap.size w w')
    (r : Rc) (A : Option Addr) (cap : Nat) (w : World) (hr : Chs w w.heap.size A r.buf.chs) (hn : r.buf.chs.length ≤ maxLen) (hi : inB r.buf.chs) (hx : inRc r) :
    Calls Try.prog 11 #[rcV r (.slice A r.buf.chs.length cap)] w fun e w' => e = .returned (.bool true) ∧ Below w.heap.size w w' := by
  have HW := Lib.hid (InRc.start w r A cap 45 hr)
  have HZ := Lib.hid (lszr 1048576 (by decide) (by decide) r A cap w.heap.size _ (Nat.le_of_lt HW.out.2.2.1) HW.out.2.1 (by unfold maxLen at hn; omega) (fun c hc => by have := (hi c hc).1; unfold maxLen at this; omega))
  have hlow := (szB_low 1048576 r.buf (by decide)).1
  by_cases hneg : szB 1048576 r.buf < 0
  · generalize szB 1048576 r.buf = m at *
    have hd : decide (m < 0) = true := decide_eq_true hneg
    clear hneg hlow hr hi hx HI HSP 
    go_enter Try.func11, Try.ntmps11
    go_wp2_with fail
    refine HZ.out.mono ?_
    rintro e w1 ⟨rfl, hb1⟩
    have H1 := Lib.hid (HW.out.next hb1)
    clear hb1
    go_wp2
    go_ret
    exact ⟨rfl, H1.out.2.2.2⟩
  have hlen := (szB_ok (N := 1048576) (b := r.buf) (by decide) (by omega)).1
  have HS : Hid (∀ (g : Nat) (W : World), Chs W W.heap.size (some ⟨g, 0, none⟩) r.buf.chs → Calls Try.prog 36 #[rcV r (.slice (some ⟨g, 0, none⟩) r.buf.chs.length r.buf.chs.length)] W fun e w' => e = .returned (.bool (decide (gotRc r))) ∧ Below W.heap.size W w') := Lib.hid fun g W h => HSP r _ _ W.heap.size W (Nat.le_refl _) h hlen (Nat.le_refl _) hi hx
  have HM : Hid (∀ (g : Nat) (W : World), Chs W W.heap.size (some ⟨g, 0, none⟩) r.buf.chs → Calls Try.prog 24 #[rcV r (.slice (some ⟨g, 0, none⟩) r.buf.chs.length r.buf.chs.length)] W fun e w' => e = .returned (.bool (decide (gotRc r))) ∧ Below W.heap.size W w') := Lib.hid fun g W h => HI r _ _ W.heap.size W (Nat.le_refl _) h hlen (Nat.le_refl _) hi hx
  generalize szB 1048576 r.buf = m at *
  have hd : decide (m < 0) = false := decide_eq_false hneg
  obtain ⟨x, hxv⟩ : ∃ x, decide (gotRc r) = x := ⟨_, rfl⟩
  rw [hxv] at HS HM
  have hxx := bne_bool x
  clear hneg hlow hr hi hxv HI HSP hx 
  go_enter Try.func11, Try.ntmps11
  go_wp2_with fail
  refine HZ.out.mono ?_
  rintro e w1 ⟨rfl, hb1⟩
  have H1 := Lib.hid (HW.out.next hb1)
  clear hb1 HW HZ
  obtain ⟨a0, a1, a2, a3, a4, a5⟩ := H1.out.1
  go_wp2_with fail
  refine (H1.out.to hlen).mono ?_
  rintro e w2 ⟨g2, rfl, ho2, hb2⟩
  have H2 := Lib.hid (H1.out.next hb2)
  have HO2 := Lib.hid ho2.chs
  clear ho2 hb2 a0 a1 a2 a3 a4 a5
  go_wp2_with fail
  refine (HS.out _ w2 HO2.out).mono ?_
  rintro e w3 ⟨rfl, hb3⟩
  have H3 := Lib.hid (H2.out.next hb3)
  clear hb3 HO2
  obtain ⟨a0, a1, a2, a3, a4, a5⟩ := H3.out.1
  go_wp2_with fail
  refine (H3.out.to hlen).mono ?_
  rintro e w4 ⟨g4, rfl, ho4, hb4⟩
  have X5 := Lib.hid (VarR.new r 28 ho4.own.x hb4.size)
  have H5 := Lib.hid ((H3.out.next hb4).alloc (.cells (rcC r.st r.buf.next (.slice (some ⟨g4, 0, none⟩) r.buf.chs.length r.buf.chs.length) r.fin r.hi r.code) 28))
  clear ho4 hb4 a0 a1 a2 a3 a4 a5 H3
  go_upto_region 7 with fail
  generalize w4.alloc (.cells (rcC r.st r.buf.next (.slice (some ⟨g4, 0, none⟩) r.buf.chs.length r.buf.chs.length) r.fin r.hi r.code) 28) = w5 at *
  generalize w4.heap.size = gx at *
  generalize w3.heap.size = Bx at *
  generalize g4 = kx at *
  obtain ⟨q0, q1, q2, q3, q4, q5⟩ := X5.out.1
  go_wp2_with fail
  refine (HM.out _ w5 X5.out.2.1.chs).mono ?_
  rintro e w6 ⟨rfl, hb6⟩
  have H6 := Lib.hid (H5.out.next hb6)
  have X6 := Lib.hid (X5.out.next hb6)
  clear hb6 q0 q1 q2 q3 q4 q5 X5 H5
  have HSS : Hid (∀ W, Below w6.heap.size w6 W → W.cell? ⟨w.heap.size, 0, none⟩ = some (.int .i64 r.st) ∧ W.cell? ⟨w.heap.size, 1, none⟩ = some (.int .i64 r.buf.next) ∧ W.cell? ⟨w.heap.size, 2, none⟩ = some (.slice A r.buf.chs.length cap) ∧ W.cell? ⟨w.heap.size, 3, none⟩ = some (.int .i64 r.fin) ∧ W.cell? ⟨w.heap.size, 4, none⟩ = some (.int .i64 r.hi) ∧ W.cell? ⟨w.heap.size, 5, none⟩ = some (.int .i64 r.code) ∧ W.cell? ⟨gx, 0, none⟩ = some (.int .i64 r.st) ∧ W.cell? ⟨gx, 1, none⟩ = some (.int .i64 r.buf.next) ∧ W.cell? ⟨gx, 2, none⟩ = some (.slice (some ⟨kx, 0, none⟩) r.buf.chs.length r.buf.chs.length) ∧ W.cell? ⟨gx, 3, none⟩ = some (.int .i64 r.fin) ∧ W.cell? ⟨gx, 4, none⟩ = some (.int .i64 r.hi) ∧ W.cell? ⟨gx, 5, none⟩ = some (.int .i64 r.code)) := Lib.hid fun W h =>
    have h2 := (H6.out.next h).1
    have h3 := (X6.out.next h).1
    ⟨h2.1, h2.2.1, h2.2.2.1, h2.2.2.2.1, h2.2.2.2.2.1, h2.2.2.2.2.2, h3.1, h3.2.1, h3.2.2.1, h3.2.2.2.1, h3.2.2.2.2.1, h3.2.2.2.2.2⟩
  have HT := Lib.hid (H6.out.drew.to hlen)
  obtain ⟨z0, z1, z2, z3, z4, z5, z6, z7, z8, z9, z10, z11⟩ := HSS.out w6 (Below.refl _ _)
  have HS0 := Lib.hid (HSS.out _ (Below.refl w6.heap.size w6).drew)
  go_upto_region 10 with fail
  go_region_held3 (fun W => W.cell? ⟨w.heap.size, 0, none⟩ = some (.int .i64 r.st) ∧ W.cell? ⟨w.heap.size, 1, none⟩ = some (.int .i64 r.buf.next) ∧ W.cell? ⟨w.heap.size, 2, none⟩ = some (.slice A r.buf.chs.length cap) ∧ W.cell? ⟨w.heap.size, 3, none⟩ = some (.int .i64 r.fin) ∧ W.cell? ⟨w.heap.size, 4, none⟩ = some (.int .i64 r.hi) ∧ W.cell? ⟨w.heap.size, 5, none⟩ = some (.int .i64 r.code) ∧ W.cell? ⟨gx, 0, none⟩ = some (.int .i64 r.st) ∧ W.cell? ⟨gx, 1, none⟩ = some (.int .i64 r.buf.next) ∧ W.cell? ⟨gx, 2, none⟩ = some (.slice (some ⟨kx, 0, none⟩) r.buf.chs.length r.buf.chs.length) ∧ W.cell? ⟨gx, 3, none⟩ = some (.int .i64 r.fin) ∧ W.cell? ⟨gx, 4, none⟩ = some (.int .i64 r.hi) ∧ W.cell? ⟨gx, 5, none⟩ = some (.int .i64 r.code)) (first | with_reducible exact HS0.out | with_reducible exact HSA.out | with_reducible exact HSB.out) (first | (go_at_call 31; refine HT.out.mono ?_; rintro e w10 ⟨gt, rfl, ho', hb'⟩; have HBv := Lib.hid ((Below.refl w6.heap.size w6).drew.trans hb'); have HSA := Lib.hid (HSS.out w10 HBv.out); have HRv := Lib.hid ho'.own.x; have HPv := Lib.hid (X6.out.next HBv.out).2.1; clear ho' hb') | (go_at_call 27; refine (eqvr r _ _ _ _ _ _ _ HPv.out HRv.out (by omega)).mono ?_; rintro e w11 ⟨rfl, hb'⟩; have HBw := Lib.hid (HBv.out.trans (hb'.mono HBv.out.size)); have HSB := Lib.hid (HSS.out w11 HBw.out); clear hb'))
  clear z0 z1 z2 z3 z4 z5 z6 z7 z8 z9 z10 z11 HSS HT HS0 HSA HSB HBv HRv HPv
  have H8 := Lib.hid (H6.out.next HBw.out)
  clear HBw
  go_wp2
  go_ret
  exact ⟨rfl, H8.out.2.2.2⟩

set_option maxRecDepth 100000 in
set_option maxHeartbeats 4000000 in
/-- The law on NewBytes, of a spec and an impl that answer so. -/
theorem law_NewBytes (HSP : ∀ (r : Rc) (o : Int) (A : Option Addr) (cap B : Nat) (w : World), B ≤ w.heap.size → Chs w B A r.buf.chs → r.buf.chs.length ≤ 1048576 → r.buf.chs.length ≤ cap → inB r.buf.chs → inRc r → (-9223372036854775808 ≤ o ∧ o ≤ 9223372036854775807) → Calls Try.prog 32 #[rcV r (.slice A r.buf.chs.length cap), .int .i64 o] w fun e w' => e = .returned (.int .i64 (newRc r o)) ∧ Below w.heap.size w w')
    (HI : ∀ (r : Rc) (o : Int) (A : Option Addr) (cap B : Nat) (w : World), B ≤ w.heap.size → Chs w B A r.buf.chs → r.buf.chs.length ≤ 1048576 → r.buf.chs.length ≤ cap → inB r.buf.chs → inRc r → (-9223372036854775808 ≤ o ∧ o ≤ 9223372036854775807) → Calls Try.prog 33 #[rcV r (.slice A r.buf.chs.length cap), .int .i64 o] w fun e w' => e = .returned (.int .i64 (newRc r o)) ∧ Below w.heap.size w w')
    (r : Rc) (o : Int) (A : Option Addr) (cap : Nat) (w : World) (hr : Chs w w.heap.size A r.buf.chs) (hn : r.buf.chs.length ≤ maxLen) (hi : inB r.buf.chs) (hx : inRc r) (ho : (-9223372036854775808 ≤ o ∧ o ≤ 9223372036854775807)) :
    Calls Try.prog 7 #[rcV r (.slice A r.buf.chs.length cap), .int .i64 o] w fun e w' => e = .returned (.bool true) ∧ Below w.heap.size w w' := by
  have HW := Lib.hid (InRc.start w r A cap 45 hr)
  have HZ := Lib.hid (lszr 1048576 (by decide) (by decide) r A cap w.heap.size _ (Nat.le_of_lt HW.out.2.2.1) HW.out.2.1 (by unfold maxLen at hn; omega) (fun c hc => by have := (hi c hc).1; unfold maxLen at this; omega))
  have hlow := (szB_low 1048576 r.buf (by decide)).1
  by_cases hneg : szB 1048576 r.buf < 0
  · generalize szB 1048576 r.buf = m at *
    have hd : decide (m < 0) = true := decide_eq_true hneg
    clear hneg hlow hr hi hx HI HSP ho
    go_enter Try.func7, Try.ntmps7
    go_wp2_with fail
    refine HZ.out.mono ?_
    rintro e w1 ⟨rfl, hb1⟩
    have H1 := Lib.hid (HW.out.next hb1)
    clear hb1
    go_wp2
    go_ret
    exact ⟨rfl, H1.out.2.2.2⟩
  have hlen := (szB_ok (N := 1048576) (b := r.buf) (by decide) (by omega)).1
  have HS : Hid (∀ (g : Nat) (W : World), Chs W W.heap.size (some ⟨g, 0, none⟩) r.buf.chs → Calls Try.prog 32 #[rcV r (.slice (some ⟨g, 0, none⟩) r.buf.chs.length r.buf.chs.length), .int .i64 o] W fun e w' => e = .returned (.int .i64 (newRc r o)) ∧ Below W.heap.size W w') := Lib.hid fun g W h => HSP r o _ _ W.heap.size W (Nat.le_refl _) h hlen (Nat.le_refl _) hi hx ho
  have HM : Hid (∀ (g : Nat) (W : World), Chs W W.heap.size (some ⟨g, 0, none⟩) r.buf.chs → Calls Try.prog 33 #[rcV r (.slice (some ⟨g, 0, none⟩) r.buf.chs.length r.buf.chs.length), .int .i64 o] W fun e w' => e = .returned (.int .i64 (newRc r o)) ∧ Below W.heap.size W w') := Lib.hid fun g W h => HI r o _ _ W.heap.size W (Nat.le_refl _) h hlen (Nat.le_refl _) hi hx ho
  generalize szB 1048576 r.buf = m at *
  have hd : decide (m < 0) = false := decide_eq_false hneg
  obtain ⟨x, hxv⟩ : ∃ x, newRc r o = x := ⟨_, rfl⟩
  rw [hxv] at HS HM
  have hxx := bne_int x
  clear hneg hlow hr hi hxv HI HSP hx ho
  go_enter Try.func7, Try.ntmps7
  go_wp2_with fail
  refine HZ.out.mono ?_
  rintro e w1 ⟨rfl, hb1⟩
  have H1 := Lib.hid (HW.out.next hb1)
  clear hb1 HW HZ
  obtain ⟨a0, a1, a2, a3, a4, a5⟩ := H1.out.1
  go_wp2_with fail
  refine (H1.out.to hlen).mono ?_
  rintro e w2 ⟨g2, rfl, ho2, hb2⟩
  have H2 := Lib.hid (H1.out.next hb2)
  have HO2 := Lib.hid ho2.chs
  clear ho2 hb2 a0 a1 a2 a3 a4 a5
  go_wp2_with fail
  refine (HS.out _ w2 HO2.out).mono ?_
  rintro e w3 ⟨rfl, hb3⟩
  have H3 := Lib.hid (H2.out.next hb3)
  clear hb3 HO2
  obtain ⟨a0, a1, a2, a3, a4, a5⟩ := H3.out.1
  go_wp2_with fail
  refine (H3.out.to hlen).mono ?_
  rintro e w4 ⟨g4, rfl, ho4, hb4⟩
  have X5 := Lib.hid (VarR.new r 28 ho4.own.x hb4.size)
  have H5 := Lib.hid ((H3.out.next hb4).alloc (.cells (rcC r.st r.buf.next (.slice (some ⟨g4, 0, none⟩) r.buf.chs.length r.buf.chs.length) r.fin r.hi r.code) 28))
  clear ho4 hb4 a0 a1 a2 a3 a4 a5 H3
  go_upto_region 7 with fail
  generalize w4.alloc (.cells (rcC r.st r.buf.next (.slice (some ⟨g4, 0, none⟩) r.buf.chs.length r.buf.chs.length) r.fin r.hi r.code) 28) = w5 at *
  generalize w4.heap.size = gx at *
  generalize w3.heap.size = Bx at *
  generalize g4 = kx at *
  obtain ⟨q0, q1, q2, q3, q4, q5⟩ := X5.out.1
  go_wp2_with fail
  refine (HM.out _ w5 X5.out.2.1.chs).mono ?_
  rintro e w6 ⟨rfl, hb6⟩
  have H6 := Lib.hid (H5.out.next hb6)
  have X6 := Lib.hid (X5.out.next hb6)
  clear hb6 q0 q1 q2 q3 q4 q5 X5 H5
  have HSS : Hid (∀ W, Below w6.heap.size w6 W → W.cell? ⟨w.heap.size, 0, none⟩ = some (.int .i64 r.st) ∧ W.cell? ⟨w.heap.size, 1, none⟩ = some (.int .i64 r.buf.next) ∧ W.cell? ⟨w.heap.size, 2, none⟩ = some (.slice A r.buf.chs.length cap) ∧ W.cell? ⟨w.heap.size, 3, none⟩ = some (.int .i64 r.fin) ∧ W.cell? ⟨w.heap.size, 4, none⟩ = some (.int .i64 r.hi) ∧ W.cell? ⟨w.heap.size, 5, none⟩ = some (.int .i64 r.code) ∧ W.cell? ⟨gx, 0, none⟩ = some (.int .i64 r.st) ∧ W.cell? ⟨gx, 1, none⟩ = some (.int .i64 r.buf.next) ∧ W.cell? ⟨gx, 2, none⟩ = some (.slice (some ⟨kx, 0, none⟩) r.buf.chs.length r.buf.chs.length) ∧ W.cell? ⟨gx, 3, none⟩ = some (.int .i64 r.fin) ∧ W.cell? ⟨gx, 4, none⟩ = some (.int .i64 r.hi) ∧ W.cell? ⟨gx, 5, none⟩ = some (.int .i64 r.code)) := Lib.hid fun W h =>
    have h2 := (H6.out.next h).1
    have h3 := (X6.out.next h).1
    ⟨h2.1, h2.2.1, h2.2.2.1, h2.2.2.2.1, h2.2.2.2.2.1, h2.2.2.2.2.2, h3.1, h3.2.1, h3.2.2.1, h3.2.2.2.1, h3.2.2.2.2.1, h3.2.2.2.2.2⟩
  have HT := Lib.hid (H6.out.drew.to hlen)
  obtain ⟨z0, z1, z2, z3, z4, z5, z6, z7, z8, z9, z10, z11⟩ := HSS.out w6 (Below.refl _ _)
  have HS0 := Lib.hid (HSS.out _ (Below.refl w6.heap.size w6).drew)
  go_upto_region 10 with fail
  go_region_held3 (fun W => W.cell? ⟨w.heap.size, 0, none⟩ = some (.int .i64 r.st) ∧ W.cell? ⟨w.heap.size, 1, none⟩ = some (.int .i64 r.buf.next) ∧ W.cell? ⟨w.heap.size, 2, none⟩ = some (.slice A r.buf.chs.length cap) ∧ W.cell? ⟨w.heap.size, 3, none⟩ = some (.int .i64 r.fin) ∧ W.cell? ⟨w.heap.size, 4, none⟩ = some (.int .i64 r.hi) ∧ W.cell? ⟨w.heap.size, 5, none⟩ = some (.int .i64 r.code) ∧ W.cell? ⟨gx, 0, none⟩ = some (.int .i64 r.st) ∧ W.cell? ⟨gx, 1, none⟩ = some (.int .i64 r.buf.next) ∧ W.cell? ⟨gx, 2, none⟩ = some (.slice (some ⟨kx, 0, none⟩) r.buf.chs.length r.buf.chs.length) ∧ W.cell? ⟨gx, 3, none⟩ = some (.int .i64 r.fin) ∧ W.cell? ⟨gx, 4, none⟩ = some (.int .i64 r.hi) ∧ W.cell? ⟨gx, 5, none⟩ = some (.int .i64 r.code)) (first | with_reducible exact HS0.out | with_reducible exact HSA.out | with_reducible exact HSB.out) (first | (go_at_call 31; refine HT.out.mono ?_; rintro e w10 ⟨gt, rfl, ho', hb'⟩; have HBv := Lib.hid ((Below.refl w6.heap.size w6).drew.trans hb'); have HSA := Lib.hid (HSS.out w10 HBv.out); have HRv := Lib.hid ho'.own.x; have HPv := Lib.hid (X6.out.next HBv.out).2.1; clear ho' hb') | (go_at_call 27; refine (eqvr r _ _ _ _ _ _ _ HPv.out HRv.out (by omega)).mono ?_; rintro e w11 ⟨rfl, hb'⟩; have HBw := Lib.hid (HBv.out.trans (hb'.mono HBv.out.size)); have HSB := Lib.hid (HSS.out w11 HBw.out); clear hb'))
  clear z0 z1 z2 z3 z4 z5 z6 z7 z8 z9 z10 z11 HSS HT HS0 HSA HSB HBv HRv HPv
  have H8 := Lib.hid (H6.out.next HBw.out)
  clear HBw
  go_wp2
  go_ret
  exact ⟨rfl, H8.out.2.2.2⟩

end Go.Proofs.Ytmmoedhfeaokgaa
