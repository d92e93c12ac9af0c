/-
  The law on the variable-length integers, walked, where the table of forms holds what the program's text lays there.
-/
import Derived.Test.YthigojonagocgaaDoorVarAny
import Derived.Test.YthigojonagocgaaDoorDraws2
import Derived.Test.YthigojonagocgaaDoorIEncQs
import Derived.Test.YthigojonagocgaaDoorSame
import Derived.Test.YthigojonagocgaaDoorBig
import Derived.Deep.DeepCutAuto
namespace Go.Proofs.YthigojonagocgaaDoor
open Go.RowKit Go.Deep Go.Proofs.YthigojonagocgaaDoor.Num

set_option maxRecDepth 100000 in
set_option maxHeartbeats 4000000 in
/-- The law. -/
theorem law_Var (A : Option Addr) (len cap : Nat) (w : World) (hlen : len ≤ maxLen) (hcode : Code w w.heap.size A len) (hF : Forms w) :
    Calls Tryd.prog 3 #[.slice A len cap] w fun e w' => e = .returned (.bool true) ∧ Below w.heap.size w w' := by
  by_cases hbig : 1048576 < len
  · go_enter Tryd.func3, Tryd.ntmps3
    go_wp2_with (go_at_call 10; refine (big_yes A len cap _ hbig hlen).mono ?_; rintro e w' ⟨rfl, rfl⟩)
    go_ret
    exact ⟨rfl, Below.refl _ _⟩
  have hsm : len ≤ 1048576 := by omega
  clear hbig
  have HC := Lib.hid hcode
  have HL := Lib.hid hlen
  have HF := Lib.hid hF
  clear hcode hlen hF
  go_enter Tryd.func3, Tryd.ntmps3
  go_wp2_with fail
  refine (big_no A len cap _ hsm).mono ?_
  rintro e w' ⟨rfl, rfl⟩
  go_wp2_with fail
  refine (draw_eq A len cap _ HL.out HC.out).mono ?_
  rintro e w1 ⟨n, rfl, n0, n1, b1⟩
  have B1 := Lib.hid b1
  clear b1
  go_wp2_with fail
  refine (iencq n w1 (HF.out.keep (Nat.le_refl _) B1.out)).mono ?_
  rintro e w2 ⟨rfl, b2⟩
  have B2 := Lib.hid (B1.out.trans (b2.mono B1.out.size))
  clear b2
  obtain ⟨m, p, b, hres, hdec, hsh⟩ := dec_own n
  have HRES := Lib.hid hres
  have HDEC := Lib.hid hdec
  have HSH := Lib.hid hsh
  have HSE : Hid (∀ W, Calls Tryd.prog 14 #[.int .i64 n] W fun e w' => e = .returned (.string ⟨(encQ n).toArray⟩) ∧ Below W.heap.size W w') := Lib.hid fun W => sencq n W ⟨n0, n1⟩
  have HSZ : Hid (∀ W, Forms W → Calls Tryd.prog 15 #[.int .i64 n] W fun e w' => e = .returned (.int .i64 ((encQ n).length : Int)) ∧ Below W.heap.size W w') := Lib.hid fun W h => by rw [encQ_len]; exact isize n W h
  have hl8 : (encQ n).length ≤ 8 := by rw [encQ_len]; rcases qsz_cases n with h | h | h | h | h <;> omega
  clear hres hdec hsh
  generalize encQ n = S at *
  go_wp2_with fail
  refine (HDEC.out w2 (HF.out.keep (Nat.le_refl _) B2.out)).mono ?_
  rintro e w3 ⟨rfl, b3⟩
  have B3 := Lib.hid (B2.out.trans (b3.mono B2.out.size))
  clear b3 HDEC
  go_upto_region 6 with fail
  go_cut [78] (fun c wx => c = .bool false ∧ Below w.heap.size w wx)
  case first =>
    go_wp2_with fail
    refine (HSE.out w3).mono ?_
    rintro e w4 ⟨rfl, b4⟩
    have B4 := Lib.hid (B3.out.trans (b4.mono B3.out.size))
    clear b4
    go_wp2_with fail
    refine (HSZ.out w4 (HF.out.keep (Nat.le_refl _) B4.out)).mono ?_
    rintro e w5 ⟨rfl, b5⟩
    have B5 := Lib.hid (B4.out.trans (b5.mono B4.out.size))
    clear b5
    rcases HRES.out with ⟨rfl, h0, h1, hm, hp⟩ | ⟨rfl, hn⟩
    · subst hm
      subst hp
      have HSI := Lib.hid (HSH.out rfl w5 (HF.out.keep (Nat.le_refl _) B5.out))
      clear HRES HSH HSE HSZ
      go_wp2_with fail
      refine HSI.out.mono ?_
      rintro e w6 ⟨rfl, b6⟩
      go_wp2
      go_meet
      exact ⟨rfl, B5.out.trans (b6.mono B5.out.size)⟩
    · clear HRES HSH HSE HSZ
      rcases hn with hn | hn
      · have hn0 : ¬ 0 ≤ n := by omega
        go_wp2
        go_meet
        exact ⟨rfl, B5.out⟩
      · have hn0 : 0 ≤ n := by omega
        have hn1 : decide (n ≤ 4611686018427387903) = false := decide_eq_false (by omega)
        go_wp2
        go_meet
        exact ⟨rfl, B5.out⟩
  case rest =>
    obtain ⟨rfl, hB5⟩ := hcut
    have B5 := Lib.hid hB5
    clear hB5 HRES HSH HSE HSZ hl8
    go_wp2_with fail
    refine (draw_dq A len cap _ HL.out (Code.later HC.out B5.out)).mono ?_
    rintro e w6 ⟨T, a, rfl, hT, a0, a1, b6⟩
    have B6 := Lib.hid (B5.out.trans (b6.mono B5.out.size))
    clear b6
    have hsz : (⟨T.toArray⟩ : ByteArray).size = T.length := by simp [ByteArray.size]
    obtain ⟨y, q, r, hr, hs1, hs2⟩ := dec_both ⟨T.toArray⟩ a (by rw [hsz]; unfold maxLen; omega)
    rw [hsz] at hr
    have HR := Lib.hid hr
    have HS1 := Lib.hid hs1
    have HS2 := Lib.hid hs2
    clear hr hs1 hs2
    go_wp2_with fail
    refine (HS2.out w6 (HF.out.keep (Nat.le_refl _) B6.out)).mono ?_
    rintro e w7 ⟨rfl, b7⟩
    have B7 := Lib.hid (B6.out.trans (b7.mono B6.out.size))
    clear b7
    go_wp2_with fail
    refine (HS1.out w7).mono ?_
    rintro e w8 ⟨rfl, rfl⟩
    clear HS1 HS2
    go_upto_region 11 with fail
    go_cut [127] (fun c wx => c = .bool false ∧ Below w.heap.size w wx)
    case first =>
      cases r with
      | true =>
        obtain ⟨r0, r1, r2⟩ := HR.out rfl
        have HZ := Lib.hid (isize (y : Int) w7 (HF.out.keep (Nat.le_refl _) B7.out))
        have hq8 : qsz (y : Int) ≤ 8 := by rcases qsz_cases (y : Int) with h | h | h | h | h <;> omega
        have hc1 : ¬ ((q : Int) - a < (qsz (y : Int) : Int)) := by omega
        have hc2 : ¬ ((T.length : Int) < (q : Int)) := by omega
        clear HR
        go_wp2_with fail
        refine HZ.out.mono ?_
        rintro e w9 ⟨rfl, b9⟩
        go_wp2
        go_meet
        exact ⟨congrArg Value.bool (by rw [decide_eq_false (by omega), decide_eq_false (by omega)]; rfl), B7.out.trans (b9.mono B7.out.size)⟩
      | false =>
        go_wp2
        go_meet
        exact ⟨rfl, B7.out⟩
    case rest =>
      obtain ⟨rfl, hB9⟩ := hcut
      have B9 := Lib.hid hB9
      clear hB9 HR
      go_wp2_with fail
      refine (draw_eqs A len cap _ HL.out (Code.later HC.out B9.out)).mono ?_
      rintro e w10 ⟨LA, lc, zs, rfl, hz4, hli, hzr, b10⟩
      have B10 := Lib.hid (B9.out.trans (b10.mono B9.out.size))
      have LI := Lib.hid hli
      have ZR := Lib.hid hzr
      clear b10 hli hzr
      go_wp2_with fail
      refine (iencqs zs LA lc w10.heap.size w10 (HF.out.keep (Nat.le_refl _) B10.out) (Nat.le_refl _) LI.out (by omega)).mono ?_
      rintro e w11 ⟨rfl, b11⟩
      have B11 := Lib.hid (B10.out.trans (b11.mono B10.out.size))
      have LI11 := Lib.hid (LI.out.below (Nat.le_refl _) b11)
      have hs11 : w10.heap.size ≤ w11.heap.size := b11.size
      clear b11
      go_wp2_with fail
      refine (decs_own zs hz4 w11 (HF.out.keep (Nat.le_refl _) B11.out)).mono ?_
      rintro e w12 ⟨MA, mc, ys, rfl, hys, hmi, b12⟩
      have B12 := Lib.hid (B11.out.trans (b12.mono B11.out.size))
      have LI12 := Lib.hid (LI11.out.below hs11 b12)
      have MI12 := Lib.hid hmi
      have hs12 : w10.heap.size ≤ w12.heap.size := Nat.le_trans hs11 b12.size
      have YS := Lib.hid hys
      clear b12 hmi hys
      go_wp2_with fail
      refine (draw_is A len cap _ HL.out (Code.later HC.out B12.out)).mono ?_
      rintro e w13 ⟨V, va, rfl, hV, va0, va1, b13⟩
      have B13 := Lib.hid (B12.out.trans (b13.mono B12.out.size))
      have LI13 := Lib.hid (LI12.out.below hs12 b13)
      have MI13 := Lib.hid (MI12.out.below (Nat.le_refl _) b13)
      have hs13 : w12.heap.size ≤ w13.heap.size := b13.size
      clear b13
      go_wp2_with fail
      refine (draw_dqs A len cap _ HL.out (Code.later HC.out B13.out)).mono ?_
      rintro e w14 ⟨Q, rfl, hQ, b14⟩
      have B14 := Lib.hid (B13.out.trans (b14.mono B13.out.size))
      have LI14 := Lib.hid (LI13.out.below (Nat.le_trans hs12 hs13) b14)
      have MI14 := Lib.hid (MI13.out.below hs13 b14)
      have hs14 : w12.heap.size ≤ w14.heap.size := Nat.le_trans hs13 b14.size
      clear b14
      have hQsz : (⟨Q.toArray⟩ : ByteArray).size = Q.length := by simp [ByteArray.size]
      obtain ⟨f, hf1, hf2⟩ := decs_both ⟨Q.toArray⟩ (by rw [hQsz]; omega)
      have HF1 := Lib.hid hf1
      have HF2 := Lib.hid hf2
      clear hf1 hf2
      go_wp2_with fail
      refine (HF2.out w14 (HF.out.keep (Nat.le_refl _) B14.out)).mono ?_
      rintro e w15 ⟨⟨x1, rfl⟩, b15⟩
      have B15 := Lib.hid (B14.out.trans (b15.mono B14.out.size))
      have LI15 := Lib.hid (LI14.out.below (Nat.le_trans hs12 hs14) b15)
      have MI15 := Lib.hid (MI14.out.below hs14 b15)
      have hs15 : w12.heap.size ≤ w15.heap.size := Nat.le_trans hs14 b15.size
      clear b15
      go_wp2_with fail
      refine (HF1.out w15).mono ?_
      rintro e w16 ⟨⟨x2, rfl⟩, b16⟩
      have B16 := Lib.hid (B15.out.trans (b16.mono B15.out.size))
      have LI16 := Lib.hid (LI15.out.below (Nat.le_trans hs12 hs15) b16)
      have MI16 := Lib.hid (MI15.out.below hs15 b16)
      have hs16 : w12.heap.size ≤ w16.heap.size := Nat.le_trans hs15 b16.size
      clear b16 HF1 HF2 LI LI11 LI12 LI13 LI14 LI15 MI12 MI13 MI14 MI15
      have hVsz : (⟨V.toArray⟩ : ByteArray).size = V.length := by simp [ByteArray.size]
      obtain ⟨g, hg1, hg2⟩ := short_both ⟨V.toArray⟩ va (by rw [hVsz]; unfold maxLen; omega)
      have HG1 := Lib.hid hg1
      have HG2 := Lib.hid hg2
      clear hg1 hg2
      have HSE := Lib.hid (sencqs zs LA lc w16.heap.size w16 (Nat.le_refl _) (LI16.out.up (Nat.le_trans hs12 hs16)) (by omega) ZR.out)
      have hul := encQs_len zs
      generalize encQs zs = U at *
      go_wp2_with fail
      refine HSE.out.mono ?_
      rintro e w17 ⟨rfl, b17⟩
      have B17 := Lib.hid (B16.out.trans (b17.mono B16.out.size))
      have LI17 := Lib.hid (LI16.out.below (Nat.le_trans hs12 hs16) b17)
      have MI17 := Lib.hid (MI16.out.below hs16 b17)
      have hs17 : w12.heap.size ≤ w17.heap.size := Nat.le_trans hs16 b17.size
      clear b17
      clear MI16 LI16 HSE ZR HC
      by_cases hU : U = []
      · subst hU
        go_wp2_with fail
        refine (HG2.out w17 (HF.out.keep (Nat.le_refl _) B17.out)).mono ?_
        rintro e w18 ⟨rfl, b18⟩
        have B18 := Lib.hid (B17.out.trans (b18.mono B17.out.size))
        clear b18
        go_wp2_with fail
        refine (HG1.out w18).mono ?_
        rintro e w19 ⟨rfl, rfl⟩
        cases g <;> cases f
        all_goals
          go_wp2
          go_ret
          exact ⟨rfl, B18.out⟩
      · have hne : U.isEmpty = false := by simpa using hU
        obtain rfl : ys = zs := by
          rcases YS.out with h | h
          · exact absurd h hU
          · exact h
        clear hU YS
        go_wp2_with fail
        refine (sameints ys MA LA mc lc w17.heap.size w17 (Nat.le_refl _) (MI17.out.up hs17) (LI17.out.up (Nat.le_trans hs12 hs17)) (by omega)).mono ?_
        rintro e w18 ⟨rfl, b18⟩
        have B18 := Lib.hid (B17.out.trans (b18.mono B17.out.size))
        clear b18 MI17 LI17
        go_wp2_with fail
        refine (HG2.out w18 (HF.out.keep (Nat.le_refl _) B18.out)).mono ?_
        rintro e w19 ⟨rfl, b19⟩
        have B19 := Lib.hid (B18.out.trans (b19.mono B18.out.size))
        clear b19
        go_wp2_with fail
        refine (HG1.out w19).mono ?_
        rintro e w20 ⟨rfl, rfl⟩
        cases g <;> cases f
        all_goals
          go_wp2
          go_ret
          exact ⟨rfl, B19.out⟩
end Go.Proofs.YthigojonagocgaaDoor
