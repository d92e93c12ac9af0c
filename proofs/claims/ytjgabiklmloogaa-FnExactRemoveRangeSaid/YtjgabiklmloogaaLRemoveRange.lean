/-
  The law on RemoveRange, walked.
-/
import Derived.Test.YtjgabiklmloogaaRgAid
import Derived.Test.YtjgabiklmloogaaIRem
namespace Go.Proofs.Ytjgabiklmloogaa
open Go.RowKit Go.Deep Go.Proofs.Ytjgabiklmloogaa.Num

/-- Of a list and a range, both functions give one list. -/
theorem rem_both (l : List Rg) (y : Rg) (hn : l.length ≤ 1048576) : ∃ r : List Rg, r.length ≤ 600000000000 ∧
    (∀ (A : Option Addr) (cap B : Nat) (w : World), B ≤ w.heap.size → Rgs w B A l → Calls Try.prog 34 #[.slice A l.length cap, rgV y] w fun e w' => ∃ v, e = .returned v ∧ OwnR w' w.heap.size v r ∧ Below w.heap.size w w') ∧
    (∀ (A : Option Addr) (cap B : Nat) (w : World), B ≤ w.heap.size → Rgs w B A l → Calls Try.prog 35 #[.slice A l.length cap, rgV y] w fun e w' => ∃ v, e = .returned v ∧ OwnR w' w.heap.size v r ∧ Below w.heap.size w w') := by
  refine ⟨if okR (-1) l ∧ fineR y then remR y l else l, ?_, fun A cap B w hB hr => srem l y A cap B w hB hr (by omega), fun A cap B w hB hr => ?_⟩
  · split
    · have := remR_len y l; omega
    · omega
  · by_cases hk : okR (-1) l ∧ fineR y
    · rw [if_pos hk]; exact irem_yes l y A cap B w hB hr (by omega) hk.1 hk.2
    · rw [if_neg hk]; exact irem_no l y A cap B w hB hr (by omega) hk

set_option maxRecDepth 100000 in
set_option maxHeartbeats 3200000 in
/-- The law. -/
theorem law_RemoveRange (l : List Rg) (y : Rg) (A : Option Addr) (len cap : Nat) (w : World) (hlen : len = l.length) (hlm : len ≤ maxLen) (hr : Rgs w w.heap.size A l) :
    Calls Try.prog 6 #[.slice A len cap, rgV y] w fun e w' => e = .returned (.bool true) ∧ Below w.heap.size w w' := by
  subst hlen
  have HBX := Lib.hid ((Below.refl w.heap.size w).alloc (Nat.le_refl _) (.cells #[.int .i64 y.1, .int .i64 y.2] 42))
  have hrc := RCell.box w y 42
  have hsz : (w.alloc (.cells #[.int .i64 y.1, .int .i64 y.2] 42)).heap.size = w.heap.size + 1 := by simp
  have hr1 : Rgs (w.alloc (.cells #[.int .i64 y.1, .int .i64 y.2] 42)) w.heap.size A l := hr.keep fun k hk => heap_alloc_old w _ (by omega)
  generalize hw0 : w.alloc (.cells #[.int .i64 y.1, .int .i64 y.2] 42) = w0 at *
  have HRC := Lib.hid hrc
  have HS := Lib.hid (szrange l.length A cap 1048576 w0 (by unfold maxLen at hlm; omega) (by decide))
  by_cases hb : 1048576 < l.length
  · rw [if_pos (by omega)] at HS
    clear hr hr1 hrc
    go_enter Try.func6, Try.ntmps6
    go_wp2_with fail
    refine HS.out.mono ?_
    rintro e w1 ⟨rfl, hb1⟩
    have HB1 := Lib.hid (HBX.out.trans (hb1.mono (by omega)))
    go_wp2
    go_ret
    exact ⟨rfl, HB1.out⟩
  · rw [if_neg (by omega)] at HS
    have hn : l.length ≤ 1048576 := by omega
    have hd : decide ((1048576 : Int) - (l.length : Int) < 0) = false := decide_eq_false (by omega)
    obtain ⟨r, hrl, hspec, himpl⟩ := rem_both l y hn
    have HSP := Lib.hid hspec
    have HIM := Lib.hid himpl
    have HR := Lib.hid hr1
    clear hr hr1 hb hspec himpl hrc
    have hd1 : decide ((1 : Int) + 2 * (l.length : Int) < 0) = false := decide_eq_false (by omega)
    have hd2 : decide ((1 : Int) + 2 * (r.length : Int) < 0) = false := decide_eq_false (by omega)
    go_enter Try.func6, Try.ntmps6
    have HB0 := Lib.hid (Below.refl w0.heap.size w0)
    go_wp2_with fail
    refine (HS.out).mono ?_
    rintro e w1 ⟨rfl, hb⟩
    have HB1 := Lib.hid (HB0.out.trans (hb.mono HB0.out.size))
    clear HB0
    clear hb
    obtain ⟨q1, q2⟩ := HRC.out.below HB1.out.drew (by omega)
    have HZ := Lib.hid HB1.out.drew
    have HT := Lib.hid (torange y)
    go_wp2
    go_region_held3 (fun W => W.cell? ⟨w.heap.size, 0, none⟩ = some (.int .i64 y.1) ∧ W.cell? ⟨w.heap.size, 1, none⟩ = some (.int .i64 y.2)) (exact ⟨q1, q2⟩) (first | (go_at_call 26; refine (toranges l A cap w.heap.size _ (by have := HZ.out.size; omega) (HR.out.below (by omega) HZ.out) hn).mono ?_; rintro e wa ⟨rfl, ho, hb⟩; have HZ := Lib.hid (HZ.out.trans (hb.mono HZ.out.size)); obtain ⟨q1, q2⟩ := HRC.out.below HZ.out (by omega); have HX := Lib.hid ho; clear ho hb) | (go_at_call 30; refine (HT.out _).mono ?_; rintro e wb ⟨rfl, hb⟩; have HZ := Lib.hid (HZ.out.trans (hb.mono HZ.out.size)); obtain ⟨q1, q2⟩ := HRC.out.below HZ.out (by omega); (try (have HX := Lib.hid (HX.out.later hb))); clear hb) | (go_at_call 34; refine (HSP.out _ l.length _ _ (Nat.le_refl _) HX.out.rgs).mono ?_; rintro e w2 ⟨v, rfl, ho, hb⟩; have HZ := Lib.hid (HZ.out.trans (hb.mono HZ.out.size)); obtain ⟨q1, q2⟩ := HRC.out.below HZ.out (by omega); clear hb))
    all_goals (
      have HB2 := HZ
      clear q1 q2 HZ HT HX HB1
      obtain ⟨A1, c1, rfl, _, hi1⟩ := ho.rgs
      have HR1 := Lib.hid hi1
      clear hi1 ho
      have HC_2 := Lib.hid (Below.refl w2.heap.size w2)
      have hs0 : w0.heap.size ≤ w2.heap.size := HB2.out.size
      go_wp2_with fail
      refine (toranges l A cap w.heap.size w2 (by have := HB2.out.size; omega) (HR.out.below (by omega) HB2.out) hn).mono ?_
      rintro e w3 ⟨rfl, ho, hb⟩
      have HX_3 := Lib.hid ho
      clear ho
      have HC_3 := Lib.hid (HC_2.out.trans (hb.mono HC_2.out.size))
      have HB3 := Lib.hid (HB2.out.trans (hb.mono HB2.out.size))
      clear HB2 HC_2
      clear hb
      have hs1 : w2.heap.size ≤ w3.heap.size := HC_3.out.size
      obtain ⟨q1, q2⟩ := HRC.out.below HB3.out (by omega)
      go_wp2_with fail
      refine (torange y w3).mono ?_
      rintro e w4 ⟨rfl, hb⟩
      have HC_4 := Lib.hid (HC_3.out.trans (hb.mono HC_3.out.size))
      have HX_4 := Lib.hid (HX_3.out.later hb)
      have HB4 := Lib.hid (HB3.out.trans (hb.mono HB3.out.size))
      clear HB3 HC_3 HX_3
      clear hb
      clear q1 q2
      have hs2 : w2.heap.size ≤ w4.heap.size := HC_4.out.size
      have hgx : w2.heap.size < w4.heap.size := HX_4.out.ge.2
      go_wp2_with fail
      refine (HIM.out _ l.length w4.heap.size w4 (Nat.le_refl _) HX_4.out.rgs).mono ?_
      rintro e w5 ⟨v, rfl, ho, hb⟩
      obtain ⟨A2, c2, rfl, _, _⟩ := ho.rgs
      have HO_5 := Lib.hid ho
      clear ho
      have HC_5 := Lib.hid (HC_4.out.trans (hb.mono HC_4.out.size))
      have HX_5 := Lib.hid (HX_4.out.later hb)
      have HB5 := Lib.hid (HB4.out.trans (hb.mono HB4.out.size))
      clear HB4 HC_4 HX_4
      clear hb
      obtain ⟨A9, c9, hv9, _, hi9⟩ := HO_5.out.rgs
      have e9 : A2 = A9 := by injection hv9
      subst e9
      have HI9 := Lib.hid hi9
      clear hi9 hv9
      go_wp2_with fail
      refine (eqranges r _ A1 _ c1 w5.heap.size w5 (Nat.le_refl _) HI9.out ((HR1.out.below (Nat.le_refl _) HC_5.out).up HC_5.out.size) (by omega)).mono ?_
      rintro e w6 ⟨rfl, hb⟩
      have HC_6 := Lib.hid (HC_5.out.trans (hb.mono HC_5.out.size))
      have HX_6 := Lib.hid (HX_5.out.later hb)
      have HO_6 := Lib.hid (HO_5.out.later hb)
      have HB6 := Lib.hid (HB5.out.trans (hb.mono HB5.out.size))
      clear HB5 HC_5 HX_5 HO_5
      clear hb
      clear HI9
      go_wp2_with fail
      refine (toranges l A cap w.heap.size w6 (by have := HB6.out.size; omega) (HR.out.below (by omega) HB6.out) hn).mono ?_
      rintro e w7 ⟨rfl, ho, hb⟩
      have HZ_7 := Lib.hid ho
      clear ho
      have HC_7 := Lib.hid (HC_6.out.trans (hb.mono HC_6.out.size))
      have HX_7 := Lib.hid (HX_6.out.later hb)
      have HO_7 := Lib.hid (HO_6.out.later hb)
      have HB7 := Lib.hid (HB6.out.trans (hb.mono HB6.out.size))
      clear HB6 HC_6 HX_6 HO_6
      clear hb
      go_wp2_with fail
      refine (eqranges l _ _ _ _ w7.heap.size w7 (Nat.le_refl _) HX_7.out.rgs HZ_7.out.rgs (by omega)).mono ?_
      rintro e w8 ⟨rfl, hb⟩
      have HC_8 := Lib.hid (HC_7.out.trans (hb.mono HC_7.out.size))
      have HX_8 := Lib.hid (HX_7.out.later hb)
      have HO_8 := Lib.hid (HO_7.out.later hb)
      have HZ_8 := Lib.hid (HZ_7.out.later hb)
      have HB8 := Lib.hid (HB7.out.trans (hb.mono HB7.out.size))
      clear HB7 HC_7 HX_7 HO_7 HZ_7
      clear hb
      clear HZ_8
      go_wp2_with fail
      refine (markrow l 1 _ _ l.length l.length w8 HX_8.out (by omega) (by omega)).mono ?_
      rintro e w9 ⟨rfl, _, hb, hg⟩
      have HO_9 := Lib.hid (HO_8.out.only hg hgx)
      clear hg
      have HC_9 := Lib.hid (HC_8.out.trans (hb.mono (Nat.le_refl _)))
      have HB9 := Lib.hid (HB8.out.trans (hb.mono hs0))
      clear hb
      obtain ⟨A9, c9, hv9, _, hi9⟩ := HO_9.out.rgs
      have e9 : A2 = A9 := by injection hv9
      subst e9
      have HI9 := Lib.hid hi9
      clear hi9 hv9
      go_wp2_with fail
      refine (eqranges r _ A1 _ c1 w9.heap.size w9 (Nat.le_refl _) HI9.out ((HR1.out.below (Nat.le_refl _) HC_9.out).up HC_9.out.size) (by omega)).mono ?_
      rintro e w10 ⟨rfl, hb⟩
      have HC_10 := Lib.hid (HC_9.out.trans (hb.mono HC_9.out.size))
      have HO_10 := Lib.hid (HO_9.out.later hb)
      have HB10 := Lib.hid (HB9.out.trans (hb.mono HB9.out.size))
      clear HB9 HC_9 HO_9
      clear hb
      clear HI9
      go_wp2_with fail
      refine (markany r 1 _ w4.heap.size w10 HO_10.out (by omega) (by omega)).mono ?_
      rintro e w11 ⟨rfl, ho, hb⟩
      obtain ⟨A8, c8, hv8, _, hi8⟩ := ho.rgs
      rw [marksR_len] at hv8
      have e8 : A2 = A8 := by injection hv8
      subst e8
      have HM_11 := Lib.hid hi8
      clear hi8 hv8 ho HO_10
      have HC_11 := Lib.hid (HC_10.out.trans (hb.mono hs2))
      have HB11 := Lib.hid (HB10.out.trans (hb.mono (by omega)))
      clear hb
      go_wp2_with fail
      refine (heldany r.length _ c2 w11.heap.size w11 HM_11.out (by omega)).mono ?_
      rintro e w98 ⟨rfl, hw⟩
      replace hw := hw.symm
      subst hw
      obtain ⟨q1, q2⟩ := HRC.out.below HB11.out.drew (by omega)
      have HZ := Lib.hid HB11.out.drew
      have HC_z := Lib.hid HC_11.out.drew
      have HM_z := Lib.hid ((HM_11.out.below (Nat.le_refl _) (Below.refl _ w11).drew).up (Nat.le_refl _))
      have HT := Lib.hid (torange y)
      go_wp2
      go_region_held3 (fun W => W.cell? ⟨w.heap.size, 0, none⟩ = some (.int .i64 y.1) ∧ W.cell? ⟨w.heap.size, 1, none⟩ = some (.int .i64 y.2)) (exact ⟨q1, q2⟩) (first | (go_at_call 26; refine (toranges l A cap w.heap.size _ (by have := HZ.out.size; omega) (HR.out.below (by omega) HZ.out) hn).mono ?_; rintro e wa ⟨rfl, ho, hb⟩; have HC_z := Lib.hid (HC_z.out.trans (hb.mono HC_z.out.size)); have HM_z := Lib.hid ((HM_z.out.below (Nat.le_refl _) hb).up hb.size); have HZ := Lib.hid (HZ.out.trans (hb.mono HZ.out.size)); obtain ⟨q1, q2⟩ := HRC.out.below HZ.out (by omega); have HX := Lib.hid ho; clear ho hb) | (go_at_call 30; refine (HT.out _).mono ?_; rintro e wb ⟨rfl, hb⟩; have HC_z := Lib.hid (HC_z.out.trans (hb.mono HC_z.out.size)); have HM_z := Lib.hid ((HM_z.out.below (Nat.le_refl _) hb).up hb.size); have HZ := Lib.hid (HZ.out.trans (hb.mono HZ.out.size)); obtain ⟨q1, q2⟩ := HRC.out.below HZ.out (by omega); (try (have HX := Lib.hid (HX.out.later hb))); clear hb) | (go_at_call 35; refine (HIM.out _ l.length _ _ (Nat.le_refl _) HX.out.rgs).mono ?_; rintro e w12 ⟨v, rfl, ho, hb⟩; have HC_z := Lib.hid (HC_z.out.trans (hb.mono HC_z.out.size)); have HM_z := Lib.hid ((HM_z.out.below (Nat.le_refl _) hb).up hb.size); have HZ := Lib.hid (HZ.out.trans (hb.mono HZ.out.size)); obtain ⟨q1, q2⟩ := HRC.out.below HZ.out (by omega); clear hb))
      all_goals (
        have HB12 := HZ
        have HC_12 := HC_z
        have HM_12 := HM_z
        clear q1 q2 HZ HT HX HB11 HC_11 HM_11 HC_z HM_z
        obtain ⟨A3, c3, rfl, _, hi3⟩ := ho.rgs
        have HI3 := Lib.hid hi3
        clear ho hi3
        go_wp2_with fail
        refine (eqranges r _ A1 _ c1 w12.heap.size w12 (Nat.le_refl _) HI3.out ((HR1.out.below (Nat.le_refl _) HC_12.out).up HC_12.out.size) (by omega)).mono ?_
        rintro e w13 ⟨rfl, hb⟩
        have HC_13 := Lib.hid (HC_12.out.trans (hb.mono HC_12.out.size))
        have HM_13 := Lib.hid ((HM_12.out.below (Nat.le_refl _) hb).up hb.size)
        have HB13 := Lib.hid (HB12.out.trans (hb.mono HB12.out.size))
        clear HB12 HC_12 HM_12
        clear hb
        clear HI3
        go_wp2_with fail
        refine (heldany r.length _ c2 w13.heap.size w13 HM_13.out (by omega)).mono ?_
        rintro e w99 ⟨rfl, hw⟩
        replace hw := hw.symm
        subst hw
        go_wp2
        go_ret
        exact ⟨rfl, HBX.out.trans (HB13.out.mono (by omega))⟩))
end Go.Proofs.Ytjgabiklmloogaa
