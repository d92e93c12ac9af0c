/-
  The law on EqualBuffers, walked.
-/
import Derived.Test.YtmaaldmakgjplaaLBuf
import Derived.Test.YtmaaldmakgjplaaSBuf2
namespace Go.Proofs.Ytmaaldmakgjplaa
open Go.RowKit Go.Deep Go.Proofs.Ytmaaldmakgjplaa.Num

/-- Two buffers that came in, boxed. -/
def In2 (w : World) (n : Int) (A : Option Addr) (cap : Nat) (l : List Ch) (m : Int) (A' : Option Addr) (cap' : Nat) (r : List Ch) (W : World) : Prop :=
  InB w w.heap.size n A cap l W ∧ InB (w.alloc (.cells #[.int .i64 n, .slice A l.length cap] 47)) (w.heap.size + 1) m A' cap' r W
theorem In2.start (w : World) (n : Int) (A : Option Addr) (cap : Nat) (l : List Ch) (m : Int) (A' : Option Addr) (cap' : Nat) (r : List Ch) (hr : Chs w w.heap.size A l) (hr' : Chs w w.heap.size A' r) :
    In2 w n A cap l m A' cap' r ((w.alloc (.cells #[.int .i64 n, .slice A l.length cap] 47)).alloc (.cells #[.int .i64 m, .slice A' r.length cap'] 47)) := by
  have hs : (w.alloc (.cells #[.int .i64 n, .slice A l.length cap] 47)).heap.size = w.heap.size + 1 := by simp
  refine ⟨(InB.start w n A cap l _ hr).alloc _, ?_⟩
  rw [← hs]
  exact InB.start _ m A' cap' r _ ((hr'.below (Nat.le_refl _) ((Below.refl _ _).alloc (Nat.le_refl _) _)).up (by rw [hs]; omega))
theorem In2.next {w : World} {n : Int} {A : Option Addr} {cap : Nat} {l : List Ch} {m : Int} {A' : Option Addr} {cap' : Nat} {r : List Ch} {W W' : World} (h : In2 w n A cap l m A' cap' r W) (hb : Below W.heap.size W W') : In2 w n A cap l m A' cap' r W' :=
  ⟨h.1.next hb, h.2.next hb⟩
/-- The four cells of the boxes. -/
def Cel2 (w : World) (g : Nat) (n : Int) (v : Value) (g' : Nat) (m : Int) (u : Value) : Prop := w.cell? ⟨g, 0, none⟩ = some (.int .i64 n) ∧ w.cell? ⟨g, 1, none⟩ = some v ∧ w.cell? ⟨g', 0, none⟩ = some (.int .i64 m) ∧ w.cell? ⟨g', 1, none⟩ = some u
theorem Cel2.mk {w : World} {g : Nat} {n : Int} {v : Value} {g' : Nat} {m : Int} {u : Value} (h : CellB w g n v) (h' : CellB w g' m u) : Cel2 w g n v g' m u := ⟨h.1, h.2, h'.1, h'.2⟩

set_option maxRecDepth 100000 in
set_option maxHeartbeats 4000000 in
/-- The law on EqualBuffers, of an impl that answers so. -/
theorem law_EqualBuffers (HI : ∀ (n m : Int) (l r : List Ch) (A A' : Option Addr) (cap cap' B : Nat) (w : World), B ≤ w.heap.size → Chs w B A l → Chs w B A' r → l.length ≤ 1048576 → r.length ≤ 1048576 → Calls Try.prog 28 #[bfV n (.slice A l.length cap), bfV m (.slice A' r.length cap')] w fun e w' => e = .returned (.bool (decide (n = m ∧ l = r))) ∧ Below w.heap.size w w')
    (n : Int) (l : List Ch) (A : Option Addr) (cap : Nat) (m : Int) (r : List Ch) (A' : Option Addr) (cap' : Nat) (w : World) (hr : Chs w w.heap.size A l) (hn : l.length ≤ maxLen) (hi : inB l) (hr' : Chs w w.heap.size A' r) (hn' : r.length ≤ maxLen) (hi' : inB r) :
    Calls Try.prog 12 #[bfV n (.slice A l.length cap), bfV m (.slice A' r.length cap')] w fun e w' => e = .returned (.bool true) ∧ Below w.heap.size w w' := by
  have HW := Lib.hid (In2.start w n A cap l m A' cap' r hr hr')
  have HZ := Lib.hid (lszb 1048576 (by decide) (by decide) ⟨n, l⟩ A cap w.heap.size _ (Nat.le_of_lt HW.out.1.2.2.1) HW.out.1.2.1 (by unfold maxLen at hn; omega) (fun c hc => by have := (hi c hc).1; unfold maxLen at this; omega))
  have hlow := szB_low 1048576 ⟨n, l⟩ (by decide)
  have HLEN := Lib.hid (fun h => szB_ok (N := 1048576) (b := ⟨n, l⟩) (by decide) h)
  have HZ2 : Hid (∀ N, 0 ≤ N → N ≤ 1048576 → ∀ W, In2 w n A cap l m A' cap' r W → Calls Try.prog 37 #[bfV m (.slice A' r.length cap'), .int .i64 N] W fun e w' => e = .returned (.int .i64 (szB N ⟨m, r⟩)) ∧ Below W.heap.size W w') := Lib.hid fun N h0 h1 W h => lszb N h0 h1 ⟨m, r⟩ A' cap' (w.heap.size + 1) W (Nat.le_of_lt h.2.2.2.1) h.2.2.1 (by unfold maxLen at hn'; omega) (fun c hc => by have := (hi' c hc).1; unfold maxLen at this; omega)
  generalize szB 1048576 ⟨n, l⟩ = z at *
  dsimp only at *
  have HEX : Hid (∃ z2 : Int, szB z ⟨m, r⟩ = z2) := Lib.hid ⟨_, rfl⟩
  by_cases hneg : z < 0
  · have hd : decide (z < 0) = true := decide_eq_true hneg
    clear hneg hlow hr hi hr' hi' HI
    go_enter Try.func12, Try.ntmps12
    go_wp2_with fail
    refine HZ.out.mono ?_
    rintro e w1 ⟨rfl, hb1⟩
    have H1 := Lib.hid (HW.out.next hb1)
    clear hb1
    go_wp2
    go_ret
    exact ⟨rfl, H1.out.1.2.2.2⟩
  have hd : decide (z < 0) = false := decide_eq_false hneg
  have hlen : l.length ≤ 1048576 := (HLEN.out (by omega)).1
  have HZ3 := Lib.hid (HZ2.out z (by omega) hlow.2)
  have hlow2 := szB_low z ⟨m, r⟩ hlow.2
  have HLEN2 := Lib.hid (fun h => szB_ok (N := z) (b := ⟨m, r⟩) hlow.2 h)
  generalize szB z ⟨m, r⟩ = z2 at *
  dsimp only at *
  clear HZ2 HLEN
  by_cases hneg2 : z2 < 0
  · have hd2 : decide (z2 < 0) = true := decide_eq_true hneg2
    clear hneg hneg2 hlow hlow2 hr hi hr' hi' HI
    go_enter Try.func12, Try.ntmps12
    go_wp2_with fail
    refine HZ.out.mono ?_
    rintro e w1 ⟨rfl, hb1⟩
    have H1 := Lib.hid (HW.out.next hb1)
    clear hb1
    obtain ⟨a0, a1⟩ := H1.out.2.1
    go_wp2_with fail
    refine (HZ3.out _ H1.out).mono ?_
    rintro e w2 ⟨rfl, hb2⟩
    have H2 := Lib.hid (H1.out.next hb2)
    clear hb2
    go_wp2
    go_ret
    exact ⟨rfl, H2.out.1.2.2.2⟩
  have hd2 : decide (z2 < 0) = false := decide_eq_false hneg2
  have hlen2 : r.length ≤ 1048576 := (HLEN2.out (by omega)).1
  have HS : Hid (∀ (g g' : Nat) (W : World), Chs W W.heap.size (some ⟨g, 0, none⟩) l → Chs W W.heap.size (some ⟨g', 0, none⟩) r → Calls Try.prog 17 #[bfV n (.slice (some ⟨g, 0, none⟩) l.length l.length), bfV m (.slice (some ⟨g', 0, none⟩) r.length r.length)] W fun e w' => e = .returned (.bool (decide (n = m ∧ l = r))) ∧ Below W.heap.size W w') := Lib.hid fun g g' W h h' => sequal n m l r _ _ _ _ W.heap.size W (Nat.le_refl _) h h' (by omega)
  have HM : Hid (∀ (g g' : Nat) (W : World), Chs W W.heap.size (some ⟨g, 0, none⟩) l → Chs W W.heap.size (some ⟨g', 0, none⟩) r → Calls Try.prog 28 #[bfV n (.slice (some ⟨g, 0, none⟩) l.length l.length), bfV m (.slice (some ⟨g', 0, none⟩) r.length r.length)] W fun e w' => e = .returned (.bool (decide (n = m ∧ l = r))) ∧ Below W.heap.size W w') := Lib.hid fun g g' W h h' => HI n m l r _ _ _ _ W.heap.size W (Nat.le_refl _) h h' hlen hlen2
  generalize decide (n = m ∧ l = r) = x at *
  have hxx := bne_bool x
  clear hneg hneg2 hlow hlow2 hr hi hr' hi' HI HEX HLEN2
  go_enter Try.func12, Try.ntmps12
  go_wp2_with fail
  refine HZ.out.mono ?_
  rintro e w1 ⟨rfl, hb1⟩
  have H1 := Lib.hid (HW.out.next hb1)
  clear hb1
  obtain ⟨a0, a1⟩ := H1.out.2.1
  go_wp2_with fail
  refine (HZ3.out _ H1.out).mono ?_
  rintro e w2 ⟨rfl, hb2⟩
  have H2 := Lib.hid (H1.out.next hb2)
  clear hb2 a0 a1 H1 HW HZ HZ3
  obtain ⟨a0, a1⟩ := H2.out.1.1
  obtain ⟨b0, b1⟩ := H2.out.2.1
  have HSS : Hid (∀ W, Below w2.heap.size w2 W → W.cell? ⟨w.heap.size, 0, none⟩ = some (.int .i64 n) ∧ W.cell? ⟨w.heap.size, 1, none⟩ = some (.slice A l.length cap) ∧ W.cell? ⟨w.heap.size + 1, 0, none⟩ = some (.int .i64 m) ∧ W.cell? ⟨w.heap.size + 1, 1, none⟩ = some (.slice A' r.length cap')) := Lib.hid fun W h => by
    have h2 := H2.out.next h
    exact ⟨h2.1.1.1, h2.1.1.2, h2.2.1.1, h2.2.1.2⟩
  have hS := HSS.out
  have HT := Lib.hid (H2.out.1.drew.to hlen)
  have H2d := Lib.hid (H2.out.next (Below.refl _ _).drew)
  go_upto_region 8 with fail
  go_region_held3 (fun W => W.cell? ⟨w.heap.size, 0, none⟩ = some (.int .i64 n) ∧ W.cell? ⟨w.heap.size, 1, none⟩ = some (.slice A l.length cap) ∧ W.cell? ⟨w.heap.size + 1, 0, none⟩ = some (.int .i64 m) ∧ W.cell? ⟨w.heap.size + 1, 1, none⟩ = some (.slice A' r.length cap')) (first | exact hS _ (Below.refl _ _).drew | exact HSA.out | exact HSB.out | exact HSC.out) (first | (go_at_call 38; ((with_reducible refine HT.out.mono ?_); rintro e w3 ⟨rfl, ho3, hb3⟩; have HB3 := Lib.hid ((Below.refl w2.heap.size w2).drew.trans hb3); have HSA := Lib.hid (HSS.out w3 HB3.out); have HR3 := Lib.hid ho3.chs; have H3 := Lib.hid (H2d.out.next hb3); have HT2 := Lib.hid (H3.out.2.to hlen2); clear ho3 hb3)) | (go_at_call 38; ((with_reducible refine HT2.out.mono ?_); rintro e w4 ⟨rfl, ho4, hb4⟩; have HB4 := Lib.hid (HB3.out.trans (hb4.mono HB3.out.size)); have HSB := Lib.hid (HSS.out w4 HB4.out); have HR4 := Lib.hid ho4.chs; have HP4 := Lib.hid ((HR3.out.below (Nat.le_refl _) hb4).up hb4.size); have H4 := Lib.hid (H3.out.next hb4); clear ho4 hb4)) | (go_at_call 17; refine (HS.out _ _ w4 HP4.out HR4.out).mono ?_; rintro e w5 ⟨rfl, hb5⟩; have HSC := Lib.hid (HSS.out w5 (HB4.out.trans (hb5.mono HB4.out.size))); have H5 := Lib.hid (H4.out.next hb5); clear hb5))
  clear hS HSS HT H2d HSA HSB HSC HT2 HB3 HR3 H3 HB4 HR4 HP4 H4 a0 a1 b0 b1 H2 HS
  obtain ⟨a0, a1⟩ := H5.out.1.1
  go_wp2_with fail
  refine (H5.out.1.to hlen).mono ?_
  rintro e w6 ⟨rfl, ho6, hb6⟩
  have H6 := Lib.hid (H5.out.next hb6)
  have HO6 := Lib.hid ho6.chs
  clear ho6 hb6 a0 a1 H5
  generalize w5.heap.size + 1 + 1 + 1 = g6 at *
  have HC7 := Lib.hid (CellB.new w6 n (.slice (some ⟨g6, 0, none⟩) l.length l.length) 26)
  have hb7 := (Below.refl w6.heap.size w6).alloc (Nat.le_refl _) (.cells #[.int .i64 n, .slice (some ⟨g6, 0, none⟩) l.length l.length] 26)
  have H7 := Lib.hid (H6.out.next hb7)
  have HO7 := Lib.hid (HO6.out.below (Nat.le_refl _) hb7)
  have HSZ7 := Lib.hid (show (w6.alloc (.cells #[.int .i64 n, .slice (some ⟨g6, 0, none⟩) l.length l.length] 26)).heap.size = w6.heap.size + 1 by simp)
  clear H6 HO6 hb7
  go_upto_region 10 with fail
  generalize w6.heap.size = g7 at *
  generalize w6.alloc (.cells #[.int .i64 n, .slice (some ⟨g6, 0, none⟩) l.length l.length] 26) = w7 at *
  obtain ⟨b0, b1⟩ := H7.out.2.1
  go_wp2_with fail
  refine (H7.out.2.to hlen2).mono ?_
  rintro e w8 ⟨rfl, ho8, hb8⟩
  have H8 := Lib.hid (H7.out.next hb8)
  have HO8 := Lib.hid ho8.chs
  have hg7 : g7 < w7.heap.size := by have := HSZ7.out; omega
  have HC8 := Lib.hid (HC7.out.below hb8 hg7)
  have HP8 := Lib.hid (HO7.out.below (Nat.le_of_lt hg7) hb8)
  have hg78 : g7 < w8.heap.size := Nat.lt_of_lt_of_le hg7 hb8.size
  clear ho8 hb8 b0 b1 H7 HC7 HO7 HSZ7 hg7
  generalize w7.heap.size + 1 + 1 + 1 = g8 at *
  have HC9 := Lib.hid (CellB.new w8 m (.slice (some ⟨g8, 0, none⟩) r.length r.length) 26)
  have hb9 := (Below.refl w8.heap.size w8).alloc (Nat.le_refl _) (.cells #[.int .i64 m, .slice (some ⟨g8, 0, none⟩) r.length r.length] 26)
  have H9 := Lib.hid (H8.out.next hb9)
  have HO9 := Lib.hid (HO8.out.below (Nat.le_refl _) hb9)
  have HD9 := Lib.hid (HC8.out.below hb9 hg78)
  have HP9 := Lib.hid (HP8.out.below (Nat.le_of_lt hg78) hb9)
  have HSZ9 := Lib.hid (show (w8.alloc (.cells #[.int .i64 m, .slice (some ⟨g8, 0, none⟩) r.length r.length] 26)).heap.size = w8.heap.size + 1 by simp)
  clear H8 HO8 HC8 HP8 hb9
  go_upto_region 11 with fail
  generalize w8.heap.size = g9 at *
  generalize w8.alloc (.cells #[.int .i64 m, .slice (some ⟨g8, 0, none⟩) r.length r.length] 26) = w9 at *
  have hg9 : g9 < w9.heap.size := by have := HSZ9.out; omega
  have hg79 : g7 < w9.heap.size := by omega
  obtain ⟨q0, q1⟩ := HD9.out
  obtain ⟨p0, p1⟩ := HC9.out
  go_wp2_with fail
  refine (HM.out _ _ w9 (HP9.out.up (Nat.le_of_lt hg79)) (HO9.out.up (Nat.le_of_lt hg9))).mono ?_
  rintro e w10 ⟨rfl, hb10⟩
  have H10 := Lib.hid (H9.out.next hb10)
  have HC10 := Lib.hid (HD9.out.below hb10 hg79)
  have HE10 := Lib.hid (HC9.out.below hb10 hg9)
  have HO10 := Lib.hid (HP9.out.below (Nat.le_of_lt hg79) hb10)
  have HQ10 := Lib.hid (HO9.out.below (Nat.le_of_lt hg9) hb10)
  have hg710 : g7 < w10.heap.size := Nat.lt_of_lt_of_le hg79 hb10.size
  have hg910 : g9 < w10.heap.size := Nat.lt_of_lt_of_le hg9 hb10.size
  clear hb10 q0 q1 p0 p1 HC9 HD9 HO9 HP9 H9 HSZ9 hg79 hg9 hg78
  have HSSA : Hid (∀ W, Below w10.heap.size w10 W → W.cell? ⟨w.heap.size, 0, none⟩ = some (.int .i64 n) ∧ W.cell? ⟨w.heap.size, 1, none⟩ = some (.slice A l.length cap) ∧ W.cell? ⟨g7, 0, none⟩ = some (.int .i64 n) ∧ W.cell? ⟨g7, 1, none⟩ = some (.slice (some ⟨g6, 0, none⟩) l.length l.length)) := Lib.hid fun W h =>
    have h2 := (H10.out.next h).1.1
    have h3 := HC10.out.below h hg710
    ⟨h2.1, h2.2, h3.1, h3.2⟩
  have HTA := Lib.hid (H10.out.1.drew.to hlen)
  obtain ⟨z0, z1, z2, z3⟩ := HSSA.out w10 (Below.refl _ _)
  have hSA := HSSA.out
  go_upto_region 14 with fail
  go_region_held3 (fun W => W.cell? ⟨w.heap.size, 0, none⟩ = some (.int .i64 n) ∧ W.cell? ⟨w.heap.size, 1, none⟩ = some (.slice A l.length cap) ∧ W.cell? ⟨g7, 0, none⟩ = some (.int .i64 n) ∧ W.cell? ⟨g7, 1, none⟩ = some (.slice (some ⟨g6, 0, none⟩) l.length l.length)) (first | exact hSA _ (Below.refl _ _).drew | exact HSA.out | exact HSB.out) (first | (go_at_call 38; refine HTA.out.mono ?_; rintro e w11 ⟨rfl, ho, hb⟩; have HBv := Lib.hid ((Below.refl w10.heap.size w10).drew.trans hb); have HSA := Lib.hid (HSSA.out w11 HBv.out); have HRv := Lib.hid ho.chs; have HPv := Lib.hid ((HO10.out.below (Nat.le_of_lt hg710) HBv.out).up (Nat.le_trans (Nat.le_of_lt hg710) HBv.out.size)); have HIv := Lib.hid ((H10.out.next (Below.refl _ _).drew).next hb); clear ho hb) | (go_at_call 39; refine (eqbuf n l _ _ _ _ w11.heap.size w11 (Nat.le_refl _) HPv.out HRv.out (by omega)).mono ?_; rintro e w12 ⟨rfl, hb⟩; have HSB := Lib.hid (HSSA.out w12 (HBv.out.trans (hb.mono HBv.out.size))); have H12 := Lib.hid (HIv.out.next hb); have HBBA := Lib.hid (HBv.out.trans (hb.mono HBv.out.size)); clear hb))
  clear z0 z1 z2 z3 hSA HSSA HTA HSA HSB HBv HRv HPv HIv
  have HC12 := Lib.hid (HE10.out.below HBBA.out hg910)
  have HO12 := Lib.hid (HQ10.out.below (Nat.le_of_lt hg910) HBBA.out)
  have hg912 : g9 < w12.heap.size := Nat.lt_of_lt_of_le hg910 HBBA.out.size
  clear HE10 HQ10 HC10 HO10 H10 HBBA
  have HSSB : Hid (∀ W, Below w12.heap.size w12 W → W.cell? ⟨w.heap.size + 1, 0, none⟩ = some (.int .i64 m) ∧ W.cell? ⟨w.heap.size + 1, 1, none⟩ = some (.slice A' r.length cap') ∧ W.cell? ⟨g9, 0, none⟩ = some (.int .i64 m) ∧ W.cell? ⟨g9, 1, none⟩ = some (.slice (some ⟨g8, 0, none⟩) r.length r.length)) := Lib.hid fun W h =>
    have h2 := (H12.out.next h).2.1
    have h3 := HC12.out.below h hg912
    ⟨h2.1, h2.2, h3.1, h3.2⟩
  have HTB := Lib.hid (H12.out.2.drew.to hlen2)
  obtain ⟨z0, z1, z2, z3⟩ := HSSB.out w12 (Below.refl _ _)
  have hSB := HSSB.out
  go_upto_region 16 with fail
  go_region_held3 (fun W => W.cell? ⟨w.heap.size + 1, 0, none⟩ = some (.int .i64 m) ∧ W.cell? ⟨w.heap.size + 1, 1, none⟩ = some (.slice A' r.length cap') ∧ W.cell? ⟨g9, 0, none⟩ = some (.int .i64 m) ∧ W.cell? ⟨g9, 1, none⟩ = some (.slice (some ⟨g8, 0, none⟩) r.length r.length)) (first | exact hSB _ (Below.refl _ _).drew | exact HSA.out | exact HSB.out) (first | (go_at_call 38; refine HTB.out.mono ?_; rintro e w13 ⟨rfl, ho, hb⟩; have HBv := Lib.hid ((Below.refl w12.heap.size w12).drew.trans hb); have HSA := Lib.hid (HSSB.out w13 HBv.out); have HRv := Lib.hid ho.chs; have HPv := Lib.hid ((HO12.out.below (Nat.le_of_lt hg912) HBv.out).up (Nat.le_trans (Nat.le_of_lt hg912) HBv.out.size)); have HIv := Lib.hid ((H12.out.next (Below.refl _ _).drew).next hb); clear ho hb) | (go_at_call 39; refine (eqbuf m r _ _ _ _ w13.heap.size w13 (Nat.le_refl _) HPv.out HRv.out (by omega)).mono ?_; rintro e w14 ⟨rfl, hb⟩; have HSB := Lib.hid (HSSB.out w14 (HBv.out.trans (hb.mono HBv.out.size))); have H14 := Lib.hid (HIv.out.next hb); have HBBB := Lib.hid (HBv.out.trans (hb.mono HBv.out.size)); clear hb))
  clear z0 z1 z2 z3 hSB HSSB HTB HSA HSB HBv HRv HPv HIv
  go_wp2
  go_ret
  exact ⟨rfl, H14.out.1.2.2.2⟩
end Go.Proofs.Ytmaaldmakgjplaa
