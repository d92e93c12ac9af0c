/-
  The law on BufferRanges, walked.
-/
import Derived.Test.YtmaaldmakgjplaaLBufVar
import Derived.Test.YtmaaldmakgjplaaSBRng
import Derived.Test.YtmaaldmakgjplaaRgMark
namespace Go.Proofs.Ytmaaldmakgjplaa
open Go.RowKit Go.Deep Go.Proofs.Ytmaaldmakgjplaa.Num

theorem rgsB_len (b : Bf) : (rgsB b).length ≤ b.chs.length := by
  unfold rgsB
  split
  · simp
  · simp
/-- A row of ranges of the call's own, where another block alone has changed. -/
theorem OwnR.kept2 {W W' : World} {B : Nat} {v : Value} {l : List Rg} {ob : Option Nat} (h : OwnR W B v l) (hg : W.grownBy W' ob) (hne : ∀ k, ob = some k → k < B) : OwnR W' B v l :=
  World.ownsRow.kept h hg (by
    cases hv : v.ownBlock with
    | none => exact .inl rfl
    | some k =>
      refine .inr (fun e => ?_)
      have h1 := (World.ownsRow.lt h k hv).1
      have := hne k e.symm
      omega)
theorem OwnR.rgs2 {w : World} {base : Nat} {A : Option Addr} {cap : Nat} {l : List Rg} (h : OwnR w base (.slice A l.length cap) l) : Rgs w w.heap.size A l := by
  obtain ⟨A', cap', e, _, hc⟩ := h.rgs
  injection e with e1 _ _
  subst e1
  exact hc
set_option maxRecDepth 100000 in
set_option maxHeartbeats 4000000 in
/-- The law on BufferRanges, of an impl that answers so. -/
theorem law_BufferRanges (HI : ∀ (b : Bf) (A : Option Addr) (cap B : Nat) (w : World), B ≤ w.heap.size → Chs w B A b.chs → b.chs.length ≤ 1048576 → inB b.chs → (-9223372036854775808 ≤ b.next ∧ b.next ≤ 9223372036854775807) →
      Calls Try.prog 23 #[bfV b.next (.slice A b.chs.length cap)] w fun e w' => ∃ v, e = .returned v ∧ OwnR w' w.heap.size v (rgsB b) ∧ Below w.heap.size w w')
    (b : Bf) (A : Option Addr) (cap : Nat) (w : World) (hr : Chs w w.heap.size A b.chs) (hn : b.chs.length ≤ maxLen) (hi : inB b.chs) (hnx : -9223372036854775808 ≤ b.next ∧ b.next ≤ 9223372036854775807) :
    Calls Try.prog 9 #[bfV b.next (.slice A b.chs.length cap)] w fun e w' => e = .returned (.bool true) ∧ Below w.heap.size w w' := by
  have HW := Lib.hid (InB.start w b.next A cap b.chs 47 hr)
  have HZ := Lib.hid (lszb 1048576 (by decide) (by decide) b A cap w.heap.size _ (Nat.le_of_lt HW.out.2.2.1) HW.out.2.1 (by unfold maxLen at hn; omega) (fun c hc => by have := (hi c hc).1; unfold maxLen at this; omega))
  have hlow := (szB_low 1048576 b (by decide)).1
  by_cases hneg : szB 1048576 b < 0
  · generalize szB 1048576 b = m at *
    have hd : decide (m < 0) = true := decide_eq_true hneg
    clear hneg hlow hr hi HI
    go_enter Try.func9, Try.ntmps9
    go_wp2_with fail
    refine HZ.out.mono ?_
    rintro e w1 ⟨rfl, hb1⟩
    have H1 := Lib.hid (HW.out.next hb1)
    clear hb1
    go_wp2
    go_ret
    exact ⟨rfl, H1.out.2.2.2⟩
  have hlen := (szB_ok (N := 1048576) (b := b) (by decide) (by omega)).1
  have hol := rgsB_len b
  have HS : Hid (∀ (g : Nat) (W : World), Chs W W.heap.size (some ⟨g, 0, none⟩) b.chs → Calls Try.prog 33 #[bfV b.next (.slice (some ⟨g, 0, none⟩) b.chs.length b.chs.length)] W fun e w' => ∃ v, e = .returned v ∧ OwnR w' W.heap.size v (rgsB b) ∧ Below W.heap.size W w') := Lib.hid fun g W h => sbrng b _ _ W.heap.size W (Nat.le_refl _) h (by omega) hi hnx
  have HM : Hid (∀ (g : Nat) (W : World), Chs W W.heap.size (some ⟨g, 0, none⟩) b.chs → Calls Try.prog 23 #[bfV b.next (.slice (some ⟨g, 0, none⟩) b.chs.length b.chs.length)] W fun e w' => ∃ v, e = .returned v ∧ OwnR w' W.heap.size v (rgsB b) ∧ Below W.heap.size W w') := Lib.hid fun g W h => HI b _ _ W.heap.size W (Nat.le_refl _) h hlen hi hnx
  generalize szB 1048576 b = m at *
  have hd : decide (m < 0) = false := decide_eq_false hneg
  generalize rgsB b = R at *
  obtain ⟨nx, l⟩ := b
  dsimp only at *
  have hLl : R.length ≤ 1048577 := by omega
  clear hneg hlow hr hi HI hnx hol
  go_enter Try.func9, Try.ntmps9
  go_wp2_with fail
  refine HZ.out.mono ?_
  rintro e w1 ⟨rfl, hb1⟩
  have H1 := Lib.hid (HW.out.next hb1)
  clear hb1 HW HZ
  obtain ⟨a0, a1⟩ := H1.out.1
  go_wp2_with fail
  refine (H1.out.to hlen).mono ?_
  rintro e w2 ⟨rfl, ho', hb'⟩
  have H2 := Lib.hid (H1.out.next hb')
  have HTw2 := Lib.hid ho'
  have HBBw2 := Lib.hid hb'
  clear ho' hb' a0 a1
  go_wp2_with fail
  refine (HS.out _ w2 HTw2.out.chs).mono ?_
  rintro e w4 ⟨v3, rfl, ho3, hb3⟩
  obtain ⟨A3, c3, rfl, _, hr3⟩ := ho3.rgs
  have H4 := Lib.hid (H2.out.next hb3)
  have V4 := Lib.hid hr3
  clear ho3 hb3 hr3 HTw2 HBBw2 H2 HS
  obtain ⟨a0, a1⟩ := H4.out.1
  go_wp2_with fail
  refine (H4.out.to hlen).mono ?_
  rintro e w5 ⟨rfl, ho', hb'⟩
  have H5 := Lib.hid (H4.out.next hb')
  have HTw5 := Lib.hid ho'
  have HBBw5 := Lib.hid hb'
  clear ho' hb' a0 a1
  have hs5 : w4.heap.size ≤ w5.heap.size := HBBw5.out.size
  have V5 := Lib.hid (V4.out.below (Nat.le_refl _) HBBw5.out)
  have X6 := Lib.hid (VarB.new nx 26 HTw5.out.own.x hs5)
  have H6 := Lib.hid (H5.out.alloc (.cells #[.int .i64 nx, .slice (some ⟨w4.heap.size + 1 + 1 + 1, 0, none⟩) l.length l.length] 26))
  have V6 := Lib.hid (V5.out.below (Nat.le_refl _) ((Below.refl _ _).alloc hs5 (.cells #[.int .i64 nx, .slice (some ⟨w4.heap.size + 1 + 1 + 1, 0, none⟩) l.length l.length] 26)))
  have hz6 : (w5.alloc (.cells #[.int .i64 nx, .slice (some ⟨w4.heap.size + 1 + 1 + 1, 0, none⟩) l.length l.length] 26)).heap.size = w5.heap.size + 1 := by simp
  have HZ6 := Lib.hid hz6
  have hx1 : w.heap.size < w4.heap.size := H4.out.2.2.1
  clear hz6 H5 V5 HTw5 HBBw5 H4 V4
  go_upto_region 7 with fail
  generalize w4.heap.size + 1 + 1 + 1 = kx at *
  generalize w5.alloc (.cells #[.int .i64 nx, .slice (some ⟨kx, 0, none⟩) l.length l.length] 26) = w6 at *
  generalize w5.heap.size = gx at *
  generalize w4.heap.size = Bx at *
  obtain ⟨x0, x1⟩ := X6.out.1
  go_wp2_with fail
  refine (HM.out _ w6 X6.out.2.1.chs).mono ?_
  rintro e w8 ⟨v7, rfl, ho7, hb7⟩
  obtain ⟨A7, c7, rfl, _, _⟩ := ho7.rgs
  have hs7 : w6.heap.size ≤ w8.heap.size := hb7.size
  have G8 := Lib.hid ho7
  have H8 := Lib.hid (H6.out.next hb7)
  have hg1 : gx < w6.heap.size := by have := HZ6.out; omega
  have V8 := Lib.hid (V6.out.below (by omega) hb7)
  have X8 := Lib.hid (X6.out.next hb7)
  clear ho7 hb7 H6 V6 X6 x0 x1 HZ6
  generalize w6.heap.size = Bg at *
  have hw8 : Bx ≤ w8.heap.size := by have := X8.out.2.2.2; omega
  go_wp2_with fail
  refine (eqranges R _ _ _ _ w8.heap.size w8 (Nat.le_refl _) (OwnR.rgs2 G8.out) (V8.out.up hw8) (by omega)).mono ?_
  rintro e w9 ⟨rfl, hb'⟩
  have H9 := Lib.hid (H8.out.next hb')
  have V9 := Lib.hid (V8.out.below hw8 hb')
  have X9 := Lib.hid (X8.out.next hb')
  have G9 := Lib.hid (show OwnR w9 Bg (.slice A7 R.length c7) R from owns_later G8.out hb')
  have hw9 : Bx ≤ w9.heap.size := Nat.le_trans hw8 hb'.size
  clear hb' H8 V8 X8 G8
  have HSS : Hid (∀ W, Below w9.heap.size w9 W → W.cell? ⟨w.heap.size, 0, none⟩ = some (.int .i64 nx) ∧ W.cell? ⟨w.heap.size, 1, none⟩ = some (.slice A l.length cap) ∧ W.cell? ⟨gx, 0, none⟩ = some (.int .i64 nx) ∧ W.cell? ⟨gx, 1, none⟩ = some (.slice (some ⟨kx, 0, none⟩) l.length l.length)) := Lib.hid fun W h =>
    have h2 := (H9.out.next h).1
    have h3 := (X9.out.next h).1
    ⟨h2.1, h2.2, h3.1, h3.2⟩
  have HT := Lib.hid (H9.out.drew.to hlen)
  obtain ⟨z0, z1, z2, z3⟩ := HSS.out w9 (Below.refl _ _)
  have hS := HSS.out
  go_upto_region 10 with fail
  go_region_held3 (fun W => W.cell? ⟨w.heap.size, 0, none⟩ = some (.int .i64 nx) ∧ W.cell? ⟨w.heap.size, 1, none⟩ = some (.slice A l.length cap) ∧ W.cell? ⟨gx, 0, none⟩ = some (.int .i64 nx) ∧ W.cell? ⟨gx, 1, none⟩ = some (.slice (some ⟨kx, 0, none⟩) l.length l.length)) (first | exact hS _ (Below.refl _ _).drew | exact HSA.out | exact HSB.out) (first | (go_at_call 38; refine HT.out.mono ?_; rintro e w10 ⟨rfl, ho', hb'⟩; have HBv := Lib.hid ((Below.refl w9.heap.size w9).drew.trans hb'); have HSA := Lib.hid (HSS.out w10 HBv.out); have HRv := Lib.hid ho'.own.x; have HPv := Lib.hid (X9.out.next HBv.out).2.1; clear ho' hb') | (go_at_call 39; refine (eqvars nx l _ _ _ _ _ _ _ HPv.out HRv.out (by omega)).mono ?_; rintro e w11 ⟨rfl, hb'⟩; have HBw := Lib.hid (HBv.out.trans (hb'.mono HBv.out.size)); have HSB := Lib.hid (HSS.out w11 HBw.out); clear hb'))
  clear z0 z1 z2 z3 hS HSS HT HSA HSB HBv HRv HPv
  have hb' := HBw.out
  have H11 := Lib.hid (H9.out.next hb')
  have V11 := Lib.hid (V9.out.below hw9 hb')
  have X11 := Lib.hid (X9.out.next hb')
  have G11 := Lib.hid (show OwnR w11 Bg (.slice A7 R.length c7) R from owns_later G9.out hb')
  have hw11 : Bx ≤ w11.heap.size := Nat.le_trans hw9 hb'.size
  clear hb' H9 V9 X9 G9 HBw
  obtain ⟨x0, x1⟩ := X11.out.1
  have hx2 := X11.out.2.2.2.1
  have hxin := X11.out.in
  go_wp2_with fail
  refine (markbuf nx l _ Bx w11 X11.out.2.1 (Nat.le_trans hx2 (Nat.le_of_lt X11.out.2.2.2.2)) (by omega)).mono ?_
  rintro e w12 ⟨rfl, ho', hb', hg'⟩
  have H12 := Lib.hid (H11.out.mark hb' (by omega))
  have V12 := Lib.hid (V11.out.below (Nat.le_refl _) hb')
  have G12 := Lib.hid (G11.out.kept2 hg' (fun k hk => by have := hxin k hk; omega))
  have hw12 : Bx ≤ w12.heap.size := Nat.le_trans hw11 hb'.size
  have hk1 : decide (((1 + 2 * l.length : Nat) : Int) < 0) = false := decide_eq_false (by omega)
  clear ho' hb' hg' H11 V11 X11 G11 x0 x1 hxin
  generalize ((1 + 2 * l.length : Nat) : Int) = k1 at *
  go_wp2_with fail
  refine (eqranges R _ _ _ _ w12.heap.size w12 (Nat.le_refl _) (OwnR.rgs2 G12.out) (V12.out.up hw12) (by omega)).mono ?_
  rintro e w13 ⟨rfl, hb'⟩
  have H13 := Lib.hid (H12.out.next hb')
  have V13 := Lib.hid (V12.out.below hw12 hb')
  have G13 := Lib.hid (show OwnR w13 Bg (.slice A7 R.length c7) R from owns_later G12.out hb')
  have hw13 : Bx ≤ w13.heap.size := Nat.le_trans hw12 hb'.size
  clear hb' H12 V12 G12 hk1
  go_wp2_with fail
  refine (markany R 1 _ Bg w13 G13.out (by omega) ⟨by decide, by decide⟩).mono ?_
  rintro e w14 ⟨rfl, ho', hb'⟩
  have H14 := Lib.hid (H13.out.mark hb' (by omega))
  have V14 := Lib.hid (V13.out.below (by omega) hb')
  have hw14 : Bx ≤ w14.heap.size := Nat.le_trans hw13 hb'.size
  have HML := Lib.hid (marksR_len R.length 1)
  rw [show (Value.slice A7 R.length c7) = .slice A7 (marksR 1 R.length).length c7 by rw [HML.out]] at ho'
  have G14 := Lib.hid (OwnR.rgs2 ho')
  clear ho' hb' H13 V13 G13
  obtain ⟨q1, hq1⟩ : ∃ q1 : Int, 1 + 2 * (R.length : Int) = q1 := ⟨_, rfl⟩
  have hq0 : decide (q1 < 0) = false := decide_eq_false (by omega)
  have hq2 := bne_int q1
  rw [hq1]
  have HQ1 := Lib.hid hq1
  clear hq1
  go_wp2_with fail
  have hhe := heldany R.length A7 c7 _ w14 G14.out (by omega)
  rw [HQ1.out] at hhe
  refine hhe.mono ?_
  rintro e w15 ⟨rfl, hww⟩
  clear hhe
  subst hww
  obtain ⟨a0, a1⟩ := H14.out.1
  go_wp2_with fail
  refine (H14.out.to hlen).mono ?_
  rintro e w16 ⟨rfl, ho', hb'⟩
  have H16 := Lib.hid (H14.out.next hb')
  have HTw16 := Lib.hid ho'
  have HBBw16 := Lib.hid hb'
  clear ho' hb' a0 a1
  have V16 := Lib.hid (V14.out.below hw14 HBBw16.out)
  have G16 := Lib.hid ((G14.out.below (Nat.le_refl _) HBBw16.out).up HBBw16.out.size)
  have hw16 : Bx ≤ w16.heap.size := Nat.le_trans hw14 HBBw16.out.size
  go_wp2_with fail
  refine (HM.out _ w16 HTw16.out.chs).mono ?_
  rintro e w17 ⟨v17, rfl, ho7, hb7⟩
  obtain ⟨A17, c17, rfl, _, hr17⟩ := ho7.rgs
  have K17 := Lib.hid hr17
  have H17 := Lib.hid (H16.out.next hb7)
  have V17 := Lib.hid (V16.out.below hw16 hb7)
  have G17 := Lib.hid ((G16.out.below (Nat.le_refl _) hb7).up hb7.size)
  have hw17 : Bx ≤ w17.heap.size := Nat.le_trans hw16 hb7.size
  clear ho7 hb7 hr17 H16 V16 G16 HTw16 HBBw16 H14 V14 G14
  go_wp2_with fail
  refine (eqranges R _ _ _ _ w17.heap.size w17 (Nat.le_refl _) K17.out (V17.out.up hw17) (by omega)).mono ?_
  rintro e w18 ⟨rfl, hb'⟩
  have H18 := Lib.hid (H17.out.next hb')
  have G18 := Lib.hid ((G17.out.below (Nat.le_refl _) hb').up hb'.size)
  clear hb' H17 V17 G17 K17
  go_wp2_with fail
  have hhe := heldany R.length A7 c7 _ w18 G18.out (by omega)
  rw [HQ1.out] at hhe
  refine hhe.mono ?_
  rintro e w19 ⟨rfl, hww⟩
  clear hhe
  subst hww
  go_wp2
  go_ret
  exact ⟨rfl, H18.out.2.2.2⟩
end Go.Proofs.Ytmaaldmakgjplaa
