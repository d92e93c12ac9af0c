/-
  The law on PopRange, walked.
-/
import Derived.Test.YtjgabiklmloogaaRgAid
import Derived.Test.YtjgabiklmloogaaIPop
namespace Go.Proofs.Ytjgabiklmloogaa
open Go.RowKit Go.Deep Go.Proofs.Ytjgabiklmloogaa.Num

/-- Of a list and a number, both functions give one range, one list and one answer. -/
theorem pop_both (l : List Rg) (most : Int) (hn : l.length ≤ 1048576) : ∃ (t : Rg) (b : Bool) (r : List Rg), r.length ≤ 600000000000 ∧
    (∀ (A : Option Addr) (cap B : Nat) (w : World), B ≤ w.heap.size → Rgs w B A l → Calls Try.prog 22 #[.slice A l.length cap, .int .i64 most] w fun e w' => ∃ v, e = .returned (.tuple #[rgV t, v, .bool b]) ∧ OwnR w' w.heap.size v r ∧ Below w.heap.size w w') ∧
    (∀ (A : Option Addr) (cap B : Nat) (w : World), B ≤ w.heap.size → Rgs w B A l → Calls Try.prog 21 #[.slice A l.length cap, .int .i64 most] w fun e w' => ∃ v, e = .returned (.tuple #[rgV t, v, .bool b]) ∧ OwnS w' w.heap.size v r ∧ Below w.heap.size w w') := by
  by_cases hk : okR (-1) l ∧ l ≠ [] ∧ 1 ≤ most
  · cases l with
    | nil => exact absurd rfl hk.2.1
    | cons x l =>
      refine ⟨topR x most, true, remR (topR x most) (x :: l), ?_, fun A cap B w hB hr => ?_, fun A cap B w hB hr => ipop_yes x l most A cap B w hB hr (by omega) hk.1 hk.2.2⟩
      · have := remR_len (topR x most) (x :: l); omega
      · exact spop_yes (x :: l) most A cap B w hB hr (by omega) hk.1 (by simp) hk.2.2
  · exact ⟨(0, 0), false, l, by omega, fun A cap B w hB hr => spop_no l most A cap B w hB hr (by omega) hk, fun A cap B w hB hr => ipop_no l most A cap B w hB hr (by omega) hk⟩

set_option maxRecDepth 100000 in
set_option maxHeartbeats 3200000 in
/-- The law. -/
theorem law_PopRange (l : List Rg) (most : Int) (A : Option Addr) (len cap : Nat) (w : World) (hlen : len = l.length) (hlm : len ≤ maxLen) (hr : Rgs w w.heap.size A l) :
    Calls Try.prog 11 #[.slice A len cap, .int .i64 most] w fun e w' => e = .returned (.bool true) ∧ Below w.heap.size w w' := by
  subst hlen
  have HS := Lib.hid (szrange l.length A cap 1048576 w (by unfold maxLen at hlm; omega) (by decide))
  by_cases hb : 1048576 < l.length
  · rw [if_pos (by omega)] at HS
    clear hr
    go_enter Try.func11, Try.ntmps11
    go_wp2_with fail
    refine HS.out.mono ?_
    rintro e w1 ⟨rfl, hb1⟩
    go_wp2
    go_ret
    exact ⟨rfl, hb1⟩
  · rw [if_neg (by omega)] at HS
    have hn : l.length ≤ 1048576 := by omega
    have hd : decide ((1048576 : Int) - (l.length : Int) < 0) = false := decide_eq_false (by omega)
    obtain ⟨t, b, r, hrl, hspec, himpl⟩ := pop_both l most hn
    have HSP := Lib.hid hspec
    have HIM := Lib.hid himpl
    have HR := Lib.hid hr
    have HQ := Lib.hid (eqrange t t)
    rw [decide_eq_true rfl] at HQ
    clear hr hb hspec himpl
    have hd1 : decide ((1 : Int) + 2 * (l.length : Int) < 0) = false := decide_eq_false (by omega)
    have hd2 : decide ((1 : Int) + 2 * (r.length : Int) < 0) = false := decide_eq_false (by omega)
    go_enter Try.func11, Try.ntmps11
    have HB0 := Lib.hid (Below.refl w.heap.size w)
    go_wp2_with fail
    refine (HS.out).mono ?_
    rintro e w1 ⟨rfl, hb⟩
    have HB1 := Lib.hid (HB0.out.trans (hb.mono HB0.out.size))
    clear HB0
    clear hb
    go_wp2_with fail
    refine (toranges l A cap w.heap.size w1 HB1.out.size (HR.out.below (Nat.le_refl _) HB1.out) hn).mono ?_
    rintro e w2 ⟨rfl, ho, hb⟩
    have HX_2 := Lib.hid ho
    clear ho
    have HB2 := Lib.hid (HB1.out.trans (hb.mono HB1.out.size))
    clear HB1
    clear hb
    go_wp2_with fail
    refine (HSP.out _ l.length w2.heap.size w2 (Nat.le_refl _) HX_2.out.rgs).mono ?_
    rintro e w3 ⟨v, rfl, ho, hb⟩
    obtain ⟨A1, c1, rfl, _, hi1⟩ := ho.rgs
    have HR1 := Lib.hid hi1
    clear hi1 ho
    have HX_3 := Lib.hid (HX_2.out.later hb)
    have HB3 := Lib.hid (HB2.out.trans (hb.mono HB2.out.size))
    clear HB2 HX_2
    clear hb
    clear HX_3
    have HC_3 := Lib.hid (Below.refl w3.heap.size w3)
    have hs0 : w.heap.size ≤ w3.heap.size := HB3.out.size
    obtain ⟨w4, hw4⟩ : ∃ wA, w3.alloc (.cells #[.int .i64 t.1, .int .i64 t.2] 34) = wA := ⟨_, rfl⟩
    have hb : Below w3.heap.size w3 w4 := by rw [← hw4]; exact (Below.refl _ _).alloc (Nat.le_refl _) _
    have HW_4 : Hid (RBox w4 w3.heap.size t) := Lib.hid ⟨by rw [← hw4]; exact RCell.box _ _ _, by rw [← hw4]; simp⟩
    have HC_4 := Lib.hid (HC_3.out.trans (hb.mono HC_3.out.size))
    have HB4 := Lib.hid (HB3.out.trans (hb.mono HB3.out.size))
    clear HB3 HC_3
    clear hb
    go_wp2_with fail
    refine (toranges l A cap w.heap.size w4 HB4.out.size (HR.out.below (Nat.le_refl _) HB4.out) hn).mono ?_
    rintro e w5 ⟨rfl, ho, hb⟩
    have HX_5 := Lib.hid ho
    clear ho
    have HC_5 := Lib.hid (HC_4.out.trans (hb.mono HC_4.out.size))
    have HW_5 := Lib.hid (HW_4.out.later hb)
    have HB5 := Lib.hid (HB4.out.trans (hb.mono HB4.out.size))
    clear HB4 HC_4 HW_4
    clear hb
    have hs1 : w3.heap.size ≤ w5.heap.size := HC_5.out.size
    have hgx : w4.heap.size < w5.heap.size := HX_5.out.ge.2
    have hgw : w3.heap.size < w4.heap.size := by rw [← hw4]; simp
    have hgs : w3.heap.size ≤ w4.heap.size := by omega
    go_wp2_with fail
    refine (HIM.out _ l.length w5.heap.size w5 (Nat.le_refl _) HX_5.out.rgs).mono ?_
    rintro e w6 ⟨v, rfl, ho, hb⟩
    obtain ⟨A2, c2, rfl, _, _⟩ := ho.rgs
    have HO_6 := Lib.hid ho
    have hs3 : w5.heap.size ≤ w6.heap.size := hb.size
    clear ho
    have HC_6 := Lib.hid (HC_5.out.trans (hb.mono HC_5.out.size))
    have HW_6 := Lib.hid (HW_5.out.later hb)
    have HX_6 := Lib.hid (HX_5.out.later hb)
    have HB6 := Lib.hid (HB5.out.trans (hb.mono HB5.out.size))
    clear HB5 HC_5 HW_5 HX_5
    clear hb
    obtain ⟨w7, hw7⟩ : ∃ wA, w6.alloc (.cells #[.int .i64 t.1, .int .i64 t.2] 34) = wA := ⟨_, rfl⟩
    have hb : Below w6.heap.size w6 w7 := by rw [← hw7]; exact (Below.refl _ _).alloc (Nat.le_refl _) _
    have HG_7 : Hid (RBox w7 w6.heap.size t) := Lib.hid ⟨by rw [← hw7]; exact RCell.box _ _ _, by rw [← hw7]; simp⟩
    have HC_7 := Lib.hid (HC_6.out.trans (hb.mono HC_6.out.size))
    have HW_7 := Lib.hid (HW_6.out.later hb)
    have HX_7 := Lib.hid (HX_6.out.later hb)
    have HO_7 := Lib.hid (HO_6.out.later hb)
    have HB7 := Lib.hid (HB6.out.trans (hb.mono HB6.out.size))
    clear HB6 HC_6 HW_6 HX_6 HO_6
    clear hb
    obtain ⟨q1, q2⟩ := HG_7.out.1
    obtain ⟨r1, r2⟩ := HW_7.out.1
    go_wp2_with fail
    refine (HQ.out w7).mono ?_
    rintro e w8 ⟨rfl, hb⟩
    have HC_8 := Lib.hid (HC_7.out.trans (hb.mono HC_7.out.size))
    have HW_8 := Lib.hid (HW_7.out.later hb)
    have HX_8 := Lib.hid (HX_7.out.later hb)
    have HO_8 := Lib.hid (HO_7.out.later hb)
    have HG_8 := Lib.hid (HG_7.out.later hb)
    have HB8 := Lib.hid (HB7.out.trans (hb.mono HB7.out.size))
    clear HB7 HC_7 HW_7 HX_7 HO_7 HG_7
    clear hb
    clear q1 q2 r1 r2
    obtain ⟨A9, c9, hv9, _, hi9⟩ := HO_8.out.rgs
    have e9 : A2 = A9 := by injection hv9
    subst e9
    have HI9 := Lib.hid hi9
    clear hi9 hv9
    go_wp2_with fail
    refine (eqranges r _ A1 _ c1 w8.heap.size w8 (Nat.le_refl _) HI9.out ((HR1.out.below (Nat.le_refl _) HC_8.out).up HC_8.out.size) (by omega)).mono ?_
    rintro e w9 ⟨rfl, hb⟩
    have HC_9 := Lib.hid (HC_8.out.trans (hb.mono HC_8.out.size))
    have HW_9 := Lib.hid (HW_8.out.later hb)
    have HX_9 := Lib.hid (HX_8.out.later hb)
    have HO_9 := Lib.hid (HO_8.out.later hb)
    have HG_9 := Lib.hid (HG_8.out.later hb)
    have HB9 := Lib.hid (HB8.out.trans (hb.mono HB8.out.size))
    clear HB8 HC_8 HW_8 HX_8 HO_8 HG_8
    clear hb
    clear HI9
    go_wp2_with fail
    refine (toranges l A cap w.heap.size w9 HB9.out.size (HR.out.below (Nat.le_refl _) HB9.out) hn).mono ?_
    rintro e w10 ⟨rfl, ho, hb⟩
    have HZ_10 := Lib.hid ho
    clear ho
    have HC_10 := Lib.hid (HC_9.out.trans (hb.mono HC_9.out.size))
    have HW_10 := Lib.hid (HW_9.out.later hb)
    have HX_10 := Lib.hid (HX_9.out.later hb)
    have HO_10 := Lib.hid (HO_9.out.later hb)
    have HG_10 := Lib.hid (HG_9.out.later hb)
    have HB10 := Lib.hid (HB9.out.trans (hb.mono HB9.out.size))
    clear HB9 HC_9 HW_9 HX_9 HO_9 HG_9
    clear hb
    go_wp2_with fail
    refine (eqranges l _ _ _ _ w10.heap.size w10 (Nat.le_refl _) HX_10.out.rgs HZ_10.out.rgs (by omega)).mono ?_
    rintro e w11 ⟨rfl, hb⟩
    have HC_11 := Lib.hid (HC_10.out.trans (hb.mono HC_10.out.size))
    have HW_11 := Lib.hid (HW_10.out.later hb)
    have HX_11 := Lib.hid (HX_10.out.later hb)
    have HO_11 := Lib.hid (HO_10.out.later hb)
    have HG_11 := Lib.hid (HG_10.out.later hb)
    have HZ_11 := Lib.hid (HZ_10.out.later hb)
    have HB11 := Lib.hid (HB10.out.trans (hb.mono HB10.out.size))
    clear HB10 HC_10 HW_10 HX_10 HO_10 HG_10 HZ_10
    clear hb
    clear HZ_11
    go_wp2_with fail
    refine (markrow l 1 _ _ l.length l.length w11 HX_11.out (by omega) (by omega)).mono ?_
    rintro e w12 ⟨rfl, _, hb, hg⟩
    have HO_12 := Lib.hid (HO_11.out.only hg hgx)
    have HW_12 := Lib.hid (HW_11.out.only hg (by omega))
    have HG_12 := Lib.hid (HG_11.out.only hg (by omega))
    clear hg
    have HC_12 := Lib.hid (HC_11.out.trans (hb.mono hgs))
    have HB12 := Lib.hid (HB11.out.trans (hb.mono (by omega)))
    clear hb
    obtain ⟨q1, q2⟩ := HG_12.out.1
    obtain ⟨r1, r2⟩ := HW_12.out.1
    go_wp2_with fail
    refine (HQ.out w12).mono ?_
    rintro e w13 ⟨rfl, hb⟩
    have HC_13 := Lib.hid (HC_12.out.trans (hb.mono HC_12.out.size))
    have HW_13 := Lib.hid (HW_12.out.later hb)
    have HO_13 := Lib.hid (HO_12.out.later hb)
    have HG_13 := Lib.hid (HG_12.out.later hb)
    have HB13 := Lib.hid (HB12.out.trans (hb.mono HB12.out.size))
    clear HB12 HC_12 HW_12 HO_12 HG_12
    clear hb
    clear q1 q2 r1 r2
    obtain ⟨A9, c9, hv9, _, hi9⟩ := HO_13.out.rgs
    have e9 : A2 = A9 := by injection hv9
    subst e9
    have HI9 := Lib.hid hi9
    clear hi9 hv9
    go_wp2_with fail
    refine (eqranges r _ A1 _ c1 w13.heap.size w13 (Nat.le_refl _) HI9.out ((HR1.out.below (Nat.le_refl _) HC_13.out).up HC_13.out.size) (by omega)).mono ?_
    rintro e w14 ⟨rfl, hb⟩
    have HC_14 := Lib.hid (HC_13.out.trans (hb.mono HC_13.out.size))
    have HW_14 := Lib.hid (HW_13.out.later hb)
    have HO_14 := Lib.hid (HO_13.out.later hb)
    have HG_14 := Lib.hid (HG_13.out.later hb)
    have HB14 := Lib.hid (HB13.out.trans (hb.mono HB13.out.size))
    clear HB13 HC_13 HW_13 HO_13 HG_13
    clear hb
    clear HI9
    go_wp2_with fail
    refine (markS r 1 _ w5.heap.size w14 HO_14.out (by omega) (by omega)).mono ?_
    rintro e w15 ⟨rfl, ho, hb⟩
    have HW_15 := Lib.hid (HW_14.out.below hb (by omega))
    obtain ⟨A8, c8, hv8, _, hi8⟩ := ho.rgs
    rw [marksR_len] at hv8
    have e8 : A2 = A8 := by injection hv8
    subst e8
    have HM_15 := Lib.hid hi8
    clear hi8 hv8 ho HO_14
    have HC_15 := Lib.hid (HC_14.out.trans (hb.mono hs1))
    have HB15 := Lib.hid (HB14.out.trans (hb.mono (by omega)))
    clear hb
    go_wp2_with fail
    refine (heldany r.length _ c2 w15.heap.size w15 HM_15.out (by omega)).mono ?_
    rintro e w98 ⟨rfl, hw⟩
    replace hw := hw.symm
    subst hw
    go_wp2_with fail
    refine (toranges l A cap w.heap.size w15 HB15.out.size (HR.out.below (Nat.le_refl _) HB15.out) hn).mono ?_
    rintro e w16 ⟨rfl, ho, hb⟩
    have HX_16 := Lib.hid ho
    clear ho
    have HC_16 := Lib.hid (HC_15.out.trans (hb.mono HC_15.out.size))
    have HW_16 := Lib.hid (HW_15.out.later hb)
    have HM_16 := Lib.hid ((HM_15.out.below (Nat.le_refl _) hb).up hb.size)
    have HB16 := Lib.hid (HB15.out.trans (hb.mono HB15.out.size))
    clear HB15 HC_15 HW_15 HM_15
    clear hb
    go_wp2_with fail
    refine (HIM.out _ l.length w16.heap.size w16 (Nat.le_refl _) HX_16.out.rgs).mono ?_
    rintro e w17 ⟨v, rfl, ho, hb⟩
    obtain ⟨A3, c3, rfl, _, _⟩ := ho.rgs
    have HO3_17 := Lib.hid ho
    clear ho
    have HC_17 := Lib.hid (HC_16.out.trans (hb.mono HC_16.out.size))
    have HW_17 := Lib.hid (HW_16.out.later hb)
    have HM_17 := Lib.hid ((HM_16.out.below (Nat.le_refl _) hb).up hb.size)
    have HX_17 := Lib.hid (HX_16.out.later hb)
    have HB17 := Lib.hid (HB16.out.trans (hb.mono HB16.out.size))
    clear HB16 HC_16 HW_16 HM_16 HX_16
    clear hb
    clear HX_17
    obtain ⟨w18, hw18⟩ : ∃ wA, w17.alloc (.cells #[.int .i64 t.1, .int .i64 t.2] 34) = wA := ⟨_, rfl⟩
    have hb : Below w17.heap.size w17 w18 := by rw [← hw18]; exact (Below.refl _ _).alloc (Nat.le_refl _) _
    have HH_18 : Hid (RBox w18 w17.heap.size t) := Lib.hid ⟨by rw [← hw18]; exact RCell.box _ _ _, by rw [← hw18]; simp⟩
    have HC_18 := Lib.hid (HC_17.out.trans (hb.mono HC_17.out.size))
    have HW_18 := Lib.hid (HW_17.out.later hb)
    have HM_18 := Lib.hid ((HM_17.out.below (Nat.le_refl _) hb).up hb.size)
    have HO3_18 := Lib.hid (HO3_17.out.later hb)
    have HB18 := Lib.hid (HB17.out.trans (hb.mono HB17.out.size))
    clear HB17 HC_17 HW_17 HM_17 HO3_17
    clear hb
    obtain ⟨q1, q2⟩ := HH_18.out.1
    obtain ⟨r1, r2⟩ := HW_18.out.1
    go_wp2_with fail
    refine (HQ.out w18).mono ?_
    rintro e w19 ⟨rfl, hb⟩
    have HC_19 := Lib.hid (HC_18.out.trans (hb.mono HC_18.out.size))
    have HW_19 := Lib.hid (HW_18.out.later hb)
    have HM_19 := Lib.hid ((HM_18.out.below (Nat.le_refl _) hb).up hb.size)
    have HO3_19 := Lib.hid (HO3_18.out.later hb)
    have HH_19 := Lib.hid (HH_18.out.later hb)
    have HB19 := Lib.hid (HB18.out.trans (hb.mono HB18.out.size))
    clear HB18 HC_18 HW_18 HM_18 HO3_18 HH_18
    clear hb
    clear q1 q2 r1 r2
    obtain ⟨A9, c9, hv9, _, hi9⟩ := HO3_19.out.rgs
    have e9 : A3 = A9 := by injection hv9
    subst e9
    have HI9 := Lib.hid hi9
    clear hi9 hv9
    go_wp2_with fail
    refine (eqranges r _ A1 _ c1 w19.heap.size w19 (Nat.le_refl _) HI9.out ((HR1.out.below (Nat.le_refl _) HC_19.out).up HC_19.out.size) (by omega)).mono ?_
    rintro e w20 ⟨rfl, hb⟩
    have HC_20 := Lib.hid (HC_19.out.trans (hb.mono HC_19.out.size))
    have HW_20 := Lib.hid (HW_19.out.later hb)
    have HM_20 := Lib.hid ((HM_19.out.below (Nat.le_refl _) hb).up hb.size)
    have HO3_20 := Lib.hid (HO3_19.out.later hb)
    have HH_20 := Lib.hid (HH_19.out.later hb)
    have HB20 := Lib.hid (HB19.out.trans (hb.mono HB19.out.size))
    clear HB19 HC_19 HW_19 HM_19 HO3_19 HH_19
    clear hb
    clear HI9
    go_wp2_with fail
    refine (heldany r.length _ c2 w20.heap.size w20 HM_20.out (by omega)).mono ?_
    rintro e w99 ⟨rfl, hw⟩
    replace hw := hw.symm
    subst hw
    go_wp2
    go_ret
    exact ⟨rfl, HB20.out⟩
end Go.Proofs.Ytjgabiklmloogaa
