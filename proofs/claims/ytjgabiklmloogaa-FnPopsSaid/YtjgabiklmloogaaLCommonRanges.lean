/-
  The law on CommonRanges, walked.
-/
import Derived.Test.YtjgabiklmloogaaRgAid
import Derived.Test.YtjgabiklmloogaaICom
namespace Go.Proofs.Ytjgabiklmloogaa
open Go.RowKit Go.Deep Go.Proofs.Ytjgabiklmloogaa.Num

/-- Of two lists, both functions give one list. -/
theorem com_both (l m : List Rg) (hnm : l.length + m.length ≤ 1048576) : ∃ r : List Rg, r.length ≤ 600000000000 ∧
    (∀ (A A' : Option Addr) (cap cap' B : Nat) (w : World), B ≤ w.heap.size → Rgs w B A l → Rgs w B A' m → Calls Try.prog 17 #[.slice A l.length cap, .slice A' m.length cap'] w fun e w' => ∃ v, e = .returned v ∧ OwnR w' w.heap.size v r ∧ Below w.heap.size w w') ∧
    (∀ (A A' : Option Addr) (cap cap' B : Nat) (w : World), B ≤ w.heap.size → Rgs w B A l → Rgs w B A' m → l.length ≤ cap → m.length ≤ cap' → Calls Try.prog 15 #[.slice A l.length cap, .slice A' m.length cap'] w fun e w' => ∃ v, e = .returned v ∧ OwnR w' w.heap.size v r ∧ Below w.heap.size w w') := by
  by_cases hk : okR (-1) l ∧ okR (-1) m
  · exact ⟨comR l m, Nat.le_trans (com_len m l) (mul_small _ _ hnm), fun A A' cap cap' B w hB hr hr' => scom_yes l m A A' cap cap' B w hB hr hr' hnm hk.1 hk.2, fun A A' cap cap' B w hB hr hr' hc hc' => icom_yes l m A A' cap cap' B w hB hr hr' hnm hc hc' hk.1 hk.2⟩
  · exact ⟨[], by simp, fun A A' cap cap' B w hB hr hr' => scom_no l m A A' cap cap' B w hB hr hr' hnm hk, fun A A' cap cap' B w hB hr hr' _ _ => icom_no l m A A' cap cap' B w hB hr hr' hnm hk⟩

set_option maxRecDepth 100000 in
set_option maxHeartbeats 1600000 in
/-- The law. -/
theorem law_CommonRanges (l m : List Rg) (A A' : Option Addr) (len len' cap cap' : Nat) (w : World) (hlen : len = l.length) (hlen' : len' = m.length) (hlm : len ≤ maxLen) (hlm' : len' ≤ maxLen) (hr : Rgs w w.heap.size A l) (hr' : Rgs w w.heap.size A' m) :
    Calls Try.prog 10 #[.slice A len cap, .slice A' len' cap'] w fun e w' => e = .returned (.bool true) ∧ Below w.heap.size w w' := by
  subst hlen
  subst hlen'
  have HS := Lib.hid (szrange l.length A cap 1048576 w (by unfold maxLen at hlm; omega) (by decide))
  by_cases hb : 1048576 < l.length
  · rw [if_pos (by omega)] at HS
    clear hr hr'
    go_enter Try.func10, Try.ntmps10
    go_wp2_with fail
    refine HS.out.mono ?_
    rintro e w1 ⟨rfl, hb1⟩
    go_wp2
    go_ret
    exact ⟨rfl, hb1⟩
  · rw [if_neg (by omega)] at HS
    have hn : l.length ≤ 1048576 := by omega
    have hd : decide ((1048576 : Int) - (l.length : Int) < 0) = false := decide_eq_false (by omega)
    have HS' : Hid (∀ W, Calls Try.prog 25 #[.slice A' m.length cap', .int .i64 ((1048576 : Int) - (l.length : Int))] W fun e w' => e = .returned (.int .i64 (if (1048576 : Int) - (l.length : Int) < (m.length : Int) then -1 else (1048576 : Int) - (l.length : Int) - (m.length : Int))) ∧ Below W.heap.size W w') :=
      Lib.hid fun W => szrange m.length A' cap' ((1048576 : Int) - (l.length : Int)) W (by unfold maxLen at hlm'; omega) (by omega)
    by_cases hb2 : 1048576 < l.length + m.length
    · rw [if_pos (by omega)] at HS'
      clear hr hr' hb
      go_enter Try.func10, Try.ntmps10
      go_wp2_with fail
      refine HS.out.mono ?_
      rintro e w1 ⟨rfl, hb1⟩
      go_wp2_with fail
      refine (HS'.out _).mono ?_
      rintro e w2 ⟨rfl, hb2⟩
      have HB2 := Lib.hid (hb1.trans (hb2.mono hb1.size))
      go_wp2
      go_ret
      exact ⟨rfl, HB2.out⟩
    · rw [if_neg (by omega)] at HS'
      have hnm : l.length + m.length ≤ 1048576 := by omega
      have hn' : m.length ≤ 1048576 := by omega
      have hd' : decide ((1048576 : Int) - (l.length : Int) - (m.length : Int) < 0) = false := decide_eq_false (by omega)
      obtain ⟨r, hrl, hspec, himpl⟩ := com_both l m hnm
      have HSP := Lib.hid hspec
      have HIM := Lib.hid himpl
      have HR := Lib.hid hr
      have HR' := Lib.hid hr'
      clear hspec himpl
      have hd1 : decide ((1 : Int) + 2 * (l.length : Int) + 2 * (m.length : Int) < 0) = false := decide_eq_false (by omega)
      have hd2 : decide ((1 : Int) + 2 * (r.length : Int) < 0) = false := decide_eq_false (by omega)
      clear hr hr' hb hb2
      go_enter Try.func10, Try.ntmps10
      have HB0 := Lib.hid (Below.refl w.heap.size w)
      go_wp2_with fail
      refine (HS.out).mono ?_
      rintro e w1 ⟨rfl, hb⟩
      have HB1 := Lib.hid (HB0.out.trans (hb.mono HB0.out.size))
      clear HB0
      clear hb
      go_wp2_with fail
      refine (HS'.out _).mono ?_
      rintro e w2 ⟨rfl, hb⟩
      have HB2 := Lib.hid (HB1.out.trans (hb.mono HB1.out.size))
      clear HB1
      clear hb
      go_wp2_with fail
      refine (toranges l A cap w.heap.size w2 HB2.out.size (HR.out.below (Nat.le_refl _) HB2.out) hn).mono ?_
      rintro e w3 ⟨rfl, ho, hb⟩
      have HX_3 := Lib.hid ho
      clear ho
      have HB3 := Lib.hid (HB2.out.trans (hb.mono HB2.out.size))
      clear HB2
      clear hb
      go_wp2_with fail
      refine (toranges m A' cap' w.heap.size w3 HB3.out.size (HR'.out.below (Nat.le_refl _) HB3.out) hn').mono ?_
      rintro e w4 ⟨rfl, ho, hb⟩
      have HY_4 := Lib.hid ho
      clear ho
      have HX_4 := Lib.hid (HX_3.out.later hb)
      have HB4 := Lib.hid (HB3.out.trans (hb.mono HB3.out.size))
      clear HB3 HX_3
      clear hb
      go_wp2_with fail
      refine (HSP.out _ _ l.length m.length w4.heap.size w4 (Nat.le_refl _) HX_4.out.rgs HY_4.out.rgs).mono ?_
      rintro e w5 ⟨v, rfl, ho, hb⟩
      obtain ⟨A1, c1, rfl, _, hi1⟩ := ho.rgs
      have HR1 := Lib.hid hi1
      clear hi1 ho
      have HX_5 := Lib.hid (HX_4.out.later hb)
      have HY_5 := Lib.hid (HY_4.out.later hb)
      have HB5 := Lib.hid (HB4.out.trans (hb.mono HB4.out.size))
      clear HB4 HX_4 HY_4
      clear hb
      clear HX_5
      clear HY_5
      have HC_5 := Lib.hid (Below.refl w5.heap.size w5)
      have hs0 : w.heap.size ≤ w5.heap.size := HB5.out.size
      go_wp2_with fail
      refine (toranges l A cap w.heap.size w5 HB5.out.size (HR.out.below (Nat.le_refl _) HB5.out) hn).mono ?_
      rintro e w6 ⟨rfl, ho, hb⟩
      have HX_6 := Lib.hid ho
      clear ho
      have HC_6 := Lib.hid (HC_5.out.trans (hb.mono HC_5.out.size))
      have HB6 := Lib.hid (HB5.out.trans (hb.mono HB5.out.size))
      clear HB5 HC_5
      clear hb
      have hs1 : w5.heap.size ≤ w6.heap.size := HC_6.out.size
      have hgz : w5.heap.size < w6.heap.size := HX_6.out.ge.2
      go_wp2_with fail
      refine (toranges m A' cap' w.heap.size w6 HB6.out.size (HR'.out.below (Nat.le_refl _) HB6.out) hn').mono ?_
      rintro e w7 ⟨rfl, ho, hb⟩
      have HY_7 := Lib.hid ho
      clear ho
      have HC_7 := Lib.hid (HC_6.out.trans (hb.mono HC_6.out.size))
      have HX_7 := Lib.hid (HX_6.out.later hb)
      have HB7 := Lib.hid (HB6.out.trans (hb.mono HB6.out.size))
      clear HB6 HC_6 HX_6
      clear hb
      have hs2 : w5.heap.size ≤ w7.heap.size := HC_7.out.size
      have hgx : w5.heap.size < w7.heap.size := HX_7.out.ge.2
      have hgy : w6.heap.size < w7.heap.size := HY_7.out.ge.2
      go_wp2_with fail
      refine (HIM.out _ _ l.length m.length w7.heap.size w7 (Nat.le_refl _) HX_7.out.rgs HY_7.out.rgs (Nat.le_refl _) (Nat.le_refl _)).mono ?_
      rintro e w8 ⟨v, rfl, ho, hb⟩
      obtain ⟨A2, c2, rfl, _, _⟩ := ho.rgs
      have HO_8 := Lib.hid ho
      clear ho
      have HC_8 := Lib.hid (HC_7.out.trans (hb.mono HC_7.out.size))
      have HX_8 := Lib.hid (HX_7.out.later hb)
      have HY_8 := Lib.hid (HY_7.out.later hb)
      have HB8 := Lib.hid (HB7.out.trans (hb.mono HB7.out.size))
      clear HB7 HC_7 HX_7 HY_7
      clear hb
      obtain ⟨A9, c9, hv9, _, hi9⟩ := HO_8.out.rgs
      have e9 : A2 = A9 := by injection hv9
      subst e9
      have HI9 := Lib.hid hi9
      clear hi9 hv9
      go_wp2_with fail
      refine (eqranges r _ A1 _ c1 w8.heap.size w8 (Nat.le_refl _) HI9.out ((HR1.out.below (Nat.le_refl _) HC_8.out).up HC_8.out.size) (by omega)).mono ?_
      rintro e w9 ⟨rfl, hb⟩
      have HC_9 := Lib.hid (HC_8.out.trans (hb.mono HC_8.out.size))
      have HX_9 := Lib.hid (HX_8.out.later hb)
      have HY_9 := Lib.hid (HY_8.out.later hb)
      have HO_9 := Lib.hid (HO_8.out.later hb)
      have HB9 := Lib.hid (HB8.out.trans (hb.mono HB8.out.size))
      clear HB8 HC_8 HX_8 HY_8 HO_8
      clear hb
      clear HI9
      go_wp2_with fail
      refine (toranges l A cap w.heap.size w9 HB9.out.size (HR.out.below (Nat.le_refl _) HB9.out) hn).mono ?_
      rintro e w10 ⟨rfl, ho, hb⟩
      have HZ_10 := Lib.hid ho
      clear ho
      have HC_10 := Lib.hid (HC_9.out.trans (hb.mono HC_9.out.size))
      have HX_10 := Lib.hid (HX_9.out.later hb)
      have HY_10 := Lib.hid (HY_9.out.later hb)
      have HO_10 := Lib.hid (HO_9.out.later hb)
      have HB10 := Lib.hid (HB9.out.trans (hb.mono HB9.out.size))
      clear HB9 HC_9 HX_9 HY_9 HO_9
      clear hb
      go_wp2_with fail
      refine (eqranges l _ _ _ _ w10.heap.size w10 (Nat.le_refl _) HX_10.out.rgs HZ_10.out.rgs (by omega)).mono ?_
      rintro e w11 ⟨rfl, hb⟩
      have HC_11 := Lib.hid (HC_10.out.trans (hb.mono HC_10.out.size))
      have HX_11 := Lib.hid (HX_10.out.later hb)
      have HY_11 := Lib.hid (HY_10.out.later hb)
      have HO_11 := Lib.hid (HO_10.out.later hb)
      have HZ_11 := Lib.hid (HZ_10.out.later hb)
      have HB11 := Lib.hid (HB10.out.trans (hb.mono HB10.out.size))
      clear HB10 HC_10 HX_10 HY_10 HO_10 HZ_10
      clear hb
      clear HZ_11
      go_wp2_with fail
      refine (toranges m A' cap' w.heap.size w11 HB11.out.size (HR'.out.below (Nat.le_refl _) HB11.out) hn').mono ?_
      rintro e w12 ⟨rfl, ho, hb⟩
      have HZ_12 := Lib.hid ho
      clear ho
      have HC_12 := Lib.hid (HC_11.out.trans (hb.mono HC_11.out.size))
      have HX_12 := Lib.hid (HX_11.out.later hb)
      have HY_12 := Lib.hid (HY_11.out.later hb)
      have HO_12 := Lib.hid (HO_11.out.later hb)
      have HB12 := Lib.hid (HB11.out.trans (hb.mono HB11.out.size))
      clear HB11 HC_11 HX_11 HY_11 HO_11
      clear hb
      go_wp2_with fail
      refine (eqranges m _ _ _ _ w12.heap.size w12 (Nat.le_refl _) HY_12.out.rgs HZ_12.out.rgs (by omega)).mono ?_
      rintro e w13 ⟨rfl, hb⟩
      have HC_13 := Lib.hid (HC_12.out.trans (hb.mono HC_12.out.size))
      have HX_13 := Lib.hid (HX_12.out.later hb)
      have HY_13 := Lib.hid (HY_12.out.later hb)
      have HO_13 := Lib.hid (HO_12.out.later hb)
      have HZ_13 := Lib.hid (HZ_12.out.later hb)
      have HB13 := Lib.hid (HB12.out.trans (hb.mono HB12.out.size))
      clear HB12 HC_12 HX_12 HY_12 HO_12 HZ_12
      clear hb
      clear HZ_13
      go_wp2_with fail
      refine (markrow l 1 _ _ l.length l.length w13 HX_13.out (by omega) (by omega)).mono ?_
      rintro e w14 ⟨rfl, _, hb, hg⟩
      have HO_14 := Lib.hid (HO_13.out.only hg hgx)
      have HY_14 : Hid (RowR w14 w6.heap.size w6.heap.size m.length m.length m) := Lib.hid ⟨HY_13.out.1, World.ownsRow.kept HY_13.out.2 hg (.inr (by simp [Value.ownBlock]; omega))⟩
      clear hg
      have HC_14 := Lib.hid (HC_13.out.trans (hb.mono (Nat.le_refl _)))
      have HB14 := Lib.hid (HB13.out.trans (hb.mono hs0))
      clear hb
      go_wp2_with fail
      refine (markrow m (1 + 2 * (l.length : Int)) _ _ m.length m.length w14 HY_14.out (by omega) (by omega)).mono ?_
      rintro e w15 ⟨rfl, _, hb, hg⟩
      have HO_15 := Lib.hid (HO_14.out.only hg hgy)
      clear hg
      have HC_15 := Lib.hid (HC_14.out.trans (hb.mono hs1))
      have HB15 := Lib.hid (HB14.out.trans (hb.mono (by omega)))
      clear hb
      obtain ⟨A9, c9, hv9, _, hi9⟩ := HO_15.out.rgs
      have e9 : A2 = A9 := by injection hv9
      subst e9
      have HI9 := Lib.hid hi9
      clear hi9 hv9
      go_wp2_with fail
      refine (eqranges r _ A1 _ c1 w15.heap.size w15 (Nat.le_refl _) HI9.out ((HR1.out.below (Nat.le_refl _) HC_15.out).up HC_15.out.size) (by omega)).mono ?_
      rintro e w16 ⟨rfl, hb⟩
      have HC_16 := Lib.hid (HC_15.out.trans (hb.mono HC_15.out.size))
      have HO_16 := Lib.hid (HO_15.out.later hb)
      have HB16 := Lib.hid (HB15.out.trans (hb.mono HB15.out.size))
      clear HB15 HC_15 HO_15
      clear hb
      clear HI9
      go_wp2_with fail
      refine (markany r 1 _ w7.heap.size w16 HO_16.out (by omega) (by omega)).mono ?_
      rintro e w17 ⟨rfl, ho, hb⟩
      obtain ⟨A8, c8, hv8, _, hi8⟩ := ho.rgs
      rw [marksR_len] at hv8
      have e8 : A2 = A8 := by injection hv8
      subst e8
      have HM_17 := Lib.hid hi8
      clear hi8 hv8 ho HO_16
      have HC_17 := Lib.hid (HC_16.out.trans (hb.mono hs2))
      have HB17 := Lib.hid (HB16.out.trans (hb.mono (by omega)))
      clear hb
      go_wp2_with fail
      refine (heldany r.length _ c2 w17.heap.size w17 HM_17.out (by omega)).mono ?_
      rintro e w18 ⟨rfl, hw⟩
      replace hw := hw.symm
      subst hw
      go_wp2_with fail
      refine (toranges l A cap w.heap.size w17 HB17.out.size (HR.out.below (Nat.le_refl _) HB17.out) hn).mono ?_
      rintro e w18 ⟨rfl, ho, hb⟩
      have HX_18 := Lib.hid ho
      clear ho
      have HC_18 := Lib.hid (HC_17.out.trans (hb.mono HC_17.out.size))
      have HM_18 := Lib.hid ((HM_17.out.below (Nat.le_refl _) hb).up hb.size)
      have HB18 := Lib.hid (HB17.out.trans (hb.mono HB17.out.size))
      clear HB17 HC_17 HM_17
      clear hb
      go_wp2_with fail
      refine (toranges m A' cap' w.heap.size w18 HB18.out.size (HR'.out.below (Nat.le_refl _) HB18.out) hn').mono ?_
      rintro e w19 ⟨rfl, ho, hb⟩
      have HY_19 := Lib.hid ho
      clear ho
      have HC_19 := Lib.hid (HC_18.out.trans (hb.mono HC_18.out.size))
      have HM_19 := Lib.hid ((HM_18.out.below (Nat.le_refl _) hb).up hb.size)
      have HX_19 := Lib.hid (HX_18.out.later hb)
      have HB19 := Lib.hid (HB18.out.trans (hb.mono HB18.out.size))
      clear HB18 HC_18 HM_18 HX_18
      clear hb
      go_wp2_with fail
      refine (HIM.out _ _ l.length m.length w19.heap.size w19 (Nat.le_refl _) HX_19.out.rgs HY_19.out.rgs (Nat.le_refl _) (Nat.le_refl _)).mono ?_
      rintro e w20 ⟨v, rfl, ho, hb⟩
      obtain ⟨A3, c3, rfl, _, hi3⟩ := ho.rgs
      have HI3 := Lib.hid hi3
      clear ho hi3
      have HC_20 := Lib.hid (HC_19.out.trans (hb.mono HC_19.out.size))
      have HM_20 := Lib.hid ((HM_19.out.below (Nat.le_refl _) hb).up hb.size)
      have HX_20 := Lib.hid (HX_19.out.later hb)
      have HY_20 := Lib.hid (HY_19.out.later hb)
      have HB20 := Lib.hid (HB19.out.trans (hb.mono HB19.out.size))
      clear HB19 HC_19 HM_19 HX_19 HY_19
      clear hb
      clear HX_20
      clear HY_20
      go_wp2_with fail
      refine (eqranges r _ A1 _ c1 w20.heap.size w20 (Nat.le_refl _) HI3.out ((HR1.out.below (Nat.le_refl _) HC_20.out).up HC_20.out.size) (by omega)).mono ?_
      rintro e w21 ⟨rfl, hb⟩
      have HC_21 := Lib.hid (HC_20.out.trans (hb.mono HC_20.out.size))
      have HM_21 := Lib.hid ((HM_20.out.below (Nat.le_refl _) hb).up hb.size)
      have HB21 := Lib.hid (HB20.out.trans (hb.mono HB20.out.size))
      clear HB20 HC_20 HM_20
      clear hb
      clear HI3
      go_wp2_with fail
      refine (heldany r.length _ c2 w21.heap.size w21 HM_21.out (by omega)).mono ?_
      rintro e w99 ⟨rfl, hw⟩
      replace hw := hw.symm
      subst hw
      go_wp2
      go_ret
      exact ⟨rfl, HB21.out⟩
end Go.Proofs.Ytjgabiklmloogaa
