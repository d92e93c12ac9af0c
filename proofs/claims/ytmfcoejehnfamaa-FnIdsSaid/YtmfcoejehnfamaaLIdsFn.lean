/-
  The law on identities, walked.
-/
import Derived.Test.YtmfcoejehnfamaaLIds
import Derived.Test.YtmfcoejehnfamaaDraws5
import Derived.Test.YtmfcoejehnfamaaBig
import Derived.Deep.DeepCutAuto
namespace Go.Proofs.Ytmfcoejehnfamaa
open Go.RowKit Go.Deep Go.Proofs.Ytmfcoejehnfamaa.Num

set_option maxRecDepth 100000 in
set_option maxHeartbeats 2000000 in
/-- The law. -/
theorem law_Ids (A : Option Addr) (len cap : Nat) (w : World) (hlen : len ≤ maxLen) (hcode : Code w w.heap.size A len) :
    Calls Try.prog 3 #[.slice A len cap] w fun e w' => e = .returned (.bool true) ∧ Below w.heap.size w w' := by
  by_cases hbig : 1048576 < len
  · go_enter Try.func3, Try.ntmps3
    go_wp2_with (go_at_call 13; refine (big_yes A len cap _ hbig hlen).mono ?_; rintro e w' ⟨rfl, rfl⟩)
    go_ret
    exact ⟨rfl, Below.refl _ _⟩
  have hsm : len ≤ 1048576 := by omega
  clear hbig
  have HC := Lib.hid hcode
  have HL := Lib.hid hlen
  clear hcode hlen
  go_enter Try.func3, Try.ntmps3
  go_wp2_with fail
  refine (big_no A len cap _ hsm).mono ?_
  rintro e w' ⟨rfl, rfl⟩
  go_wp2_with fail
  refine (draw_make A len cap _ HL.out HC.out).mono ?_
  rintro e w1 ⟨i, s, u, rfl, b1⟩
  have B1 := Lib.hid b1
  clear b1
  have HIM := Lib.hid (iid_make i s u)
  have HSM := Lib.hid (sid_make i s u)
  have HT := Lib.hid (mkI_told i s u)
  generalize mkI i s u = m at *
  have HX := Lib.hid (iid_ix m)
  have HV := Lib.hid (iid_srv m)
  have HU := Lib.hid (iid_uni m)
  have HO := Lib.hid (iid_own s m)
  have HN := Lib.hid (iid_own (!s) m)
  have hmm : (m != m) = false := by simp
  go_wp2_with fail
  refine (HIM.out _).mono ?_
  rintro e w2 ⟨rfl, hb⟩
  have B2 := Lib.hid (B1.out.trans (hb.mono B1.out.size))
  clear hb
  go_wp2_with fail
  refine (HSM.out _).mono ?_
  rintro e w' ⟨rfl, rfl⟩
  go_upto_region 7 with fail
  go_cut [58] (fun c wx => c = .bool false ∧ Below w.heap.size w wx)
  case first =>
    by_cases h0 : 0 ≤ m
    · obtain ⟨t1, t2, t3, t4, t5⟩ := HT.out h0
      have hd : decide (0 ≤ m) = true := decide_eq_true h0
      rw [t1] at HX
      rw [t2] at HV
      rw [t3] at HU
      rw [t4] at HO
      rw [t5] at HN
      have hii : (i != i) = false := by simp
      have hss : (s != s) = false := by cases s <;> rfl
      have huu : (u != u) = false := by cases u <;> rfl
      clear h0 t1 t2 t3 t4 t5 HT
      go_wp2_with fail
      refine (HX.out _).mono ?_
      rintro e w3 ⟨rfl, hb⟩
      have B3 := Lib.hid (B2.out.trans (hb.mono B2.out.size))
      clear hb
      go_wp2_with fail
      refine (HV.out _).mono ?_
      rintro e w4 ⟨rfl, hb⟩
      have B4 := Lib.hid (B3.out.trans (hb.mono B3.out.size))
      clear hb
      go_wp2_with fail
      refine (HU.out _).mono ?_
      rintro e w5 ⟨rfl, hb⟩
      have B5 := Lib.hid (B4.out.trans (hb.mono B4.out.size))
      clear hb
      go_wp2_with fail
      refine (HO.out _).mono ?_
      rintro e w6 ⟨rfl, hb⟩
      have B6 := Lib.hid (B5.out.trans (hb.mono B5.out.size))
      clear hb
      go_wp2_with fail
      refine (HN.out _).mono ?_
      rintro e w7 ⟨rfl, hb⟩
      have B7 := Lib.hid (B6.out.trans (hb.mono B6.out.size))
      clear hb
      go_wp2
      go_meet
      exact ⟨rfl, B7.out⟩
    · have hd : decide (0 ≤ m) = false := decide_eq_false h0
      clear h0 HT
      go_wp2
      go_meet
      exact ⟨rfl, B2.out⟩
  case rest =>
    obtain ⟨rfl, hB⟩ := hcut
    have B3 := Lib.hid hB
    clear hB HT HX HV HU HO HN HIM HSM B1 B2 hmm
    go_wp2_with fail
    refine (draw_send A len cap _ HL.out (Code.later HC.out B3.out)).mono ?_
    rintro e w4 ⟨t, x, rfl, b4⟩
    have B4 := Lib.hid (B3.out.trans (b4.mono B3.out.size))
    clear b4
    have I1 := Lib.hid (iid_send t x)
    have S1 := Lib.hid (sid_send t x)
    have I2 := Lib.hid (iid_recv t x)
    have S2 := Lib.hid (sid_recv t x)
    have I3 := Lib.hid (iid_own t x)
    have S3 := Lib.hid (sid_own t x)
    have I4 := Lib.hid (iid_name x)
    have S4 := Lib.hid (sid_name x)
    have I5 := Lib.hid (iid_ok x)
    have S5 := Lib.hid (sid_ok x)
    have I6 := Lib.hid (iid_recv (!t) x)
    have I7 := Lib.hid (iid_uni x)
    have HP := Lib.hid (id_pair t x)
    generalize idSend t x = a1 at *
    generalize idRecv t x = a2 at *
    generalize idOwn t x = a3 at *
    generalize idName x = a4 at *
    generalize idOk x = a5 at *
    generalize idRecv (!t) x = a6 at *
    generalize idUni x = a7 at *
    have q1 : (a1 != a1) = false := by cases a1 <;> rfl
    have q2 : (a2 != a2) = false := by cases a2 <;> rfl
    have q3 : (a3 != a3) = false := by cases a3 <;> rfl
    have q5 : (a5 != a5) = false := by cases a5 <;> rfl
    go_upto_region 10 with fail
    go_cut [102] (fun c wx => c = .bool false ∧ Below w.heap.size w wx)
    case first =>
      go_wp2_with fail
      refine (I1.out _).mono ?_
      rintro e w5 ⟨rfl, hb⟩
      have B5 := Lib.hid (B4.out.trans (hb.mono B4.out.size))
      clear hb
      go_wp2_with fail
      refine (S1.out _).mono ?_
      rintro e w' ⟨rfl, rfl⟩
      go_wp2_with fail
      refine (I2.out _).mono ?_
      rintro e w6 ⟨rfl, hb⟩
      have B6 := Lib.hid (B5.out.trans (hb.mono B5.out.size))
      clear hb
      go_wp2_with fail
      refine (S2.out _).mono ?_
      rintro e w' ⟨rfl, rfl⟩
      go_wp2_with fail
      refine (I3.out _).mono ?_
      rintro e w7 ⟨rfl, hb⟩
      have B7 := Lib.hid (B6.out.trans (hb.mono B6.out.size))
      clear hb
      go_wp2_with fail
      refine (S3.out _).mono ?_
      rintro e w' ⟨rfl, rfl⟩
      go_wp2_with fail
      refine (I4.out _).mono ?_
      rintro e w8 ⟨rfl, hb⟩
      have B8 := Lib.hid (B7.out.trans (hb.mono B7.out.size))
      clear hb
      go_wp2_with fail
      refine (S4.out _).mono ?_
      rintro e w' ⟨rfl, rfl⟩
      go_wp2_with fail
      refine (I5.out _).mono ?_
      rintro e w9 ⟨rfl, hb⟩
      have B9 := Lib.hid (B8.out.trans (hb.mono B8.out.size))
      clear hb
      go_wp2_with fail
      refine (S5.out _).mono ?_
      rintro e w' ⟨rfl, rfl⟩
      go_wp2
      go_meet
      exact ⟨rfl, B9.out⟩
    case rest =>
      obtain ⟨rfl, hB⟩ := hcut
      have B5 := Lib.hid hB
      clear hB B4 q1 q2 q3 q5 I3 S3 I4 S4 I5 S1 S2
      cases a5 with
      | false =>
        go_wp2_with fail
        refine (S5.out _).mono ?_
        rintro e w' ⟨rfl, rfl⟩
        go_wp2
        go_ret
        exact ⟨rfl, B5.out⟩
      | true =>
        obtain ⟨p1, p2, p3⟩ := HP.out rfl
        subst p1
        clear HP
        cases a1 <;> cases a2 <;> simp at p2 p3
        · obtain rfl : a7 = true := by cases a7 <;> simp_all
          go_wp2_with fail
          refine (S5.out _).mono ?_
          rintro e w' ⟨rfl, rfl⟩
          go_wp2_with fail
          refine (I1.out _).mono ?_
          rintro e w6 ⟨rfl, hb⟩
          have B6 := Lib.hid (B5.out.trans (hb.mono B5.out.size))
          clear hb
          go_wp2_with fail
          refine (I6.out _).mono ?_
          rintro e w7 ⟨rfl, hb⟩
          have B7 := Lib.hid (B6.out.trans (hb.mono B6.out.size))
          clear hb
          go_wp2_with fail
          refine (I1.out _).mono ?_
          rintro e w8 ⟨rfl, hb⟩
          have B8 := Lib.hid (B7.out.trans (hb.mono B7.out.size))
          clear hb
          go_wp2_with fail
          refine (I2.out _).mono ?_
          rintro e w9 ⟨rfl, hb⟩
          have B9 := Lib.hid (B8.out.trans (hb.mono B8.out.size))
          clear hb
          go_wp2_with fail
          refine (I1.out _).mono ?_
          rintro e w10 ⟨rfl, hb⟩
          have B10 := Lib.hid (B9.out.trans (hb.mono B9.out.size))
          clear hb
          go_wp2_with fail
          refine (I7.out _).mono ?_
          rintro e w11 ⟨rfl, hb⟩
          have B11 := Lib.hid (B10.out.trans (hb.mono B10.out.size))
          clear hb
          go_wp2
          go_ret
          exact ⟨rfl, B11.out⟩
        · obtain rfl : a7 = true := by cases a7 <;> simp_all
          go_wp2_with fail
          refine (S5.out _).mono ?_
          rintro e w' ⟨rfl, rfl⟩
          go_wp2_with fail
          refine (I1.out _).mono ?_
          rintro e w6 ⟨rfl, hb⟩
          have B6 := Lib.hid (B5.out.trans (hb.mono B5.out.size))
          clear hb
          go_wp2_with fail
          refine (I6.out _).mono ?_
          rintro e w7 ⟨rfl, hb⟩
          have B7 := Lib.hid (B6.out.trans (hb.mono B6.out.size))
          clear hb
          go_wp2_with fail
          refine (I1.out _).mono ?_
          rintro e w8 ⟨rfl, hb⟩
          have B8 := Lib.hid (B7.out.trans (hb.mono B7.out.size))
          clear hb
          go_wp2_with fail
          refine (I1.out _).mono ?_
          rintro e w9 ⟨rfl, hb⟩
          have B9 := Lib.hid (B8.out.trans (hb.mono B8.out.size))
          clear hb
          go_wp2_with fail
          refine (I2.out _).mono ?_
          rintro e w10 ⟨rfl, hb⟩
          have B10 := Lib.hid (B9.out.trans (hb.mono B9.out.size))
          clear hb
          go_wp2_with fail
          refine (I7.out _).mono ?_
          rintro e w11 ⟨rfl, hb⟩
          have B11 := Lib.hid (B10.out.trans (hb.mono B10.out.size))
          clear hb
          go_wp2
          go_ret
          exact ⟨rfl, B11.out⟩
        · obtain rfl : a7 = false := by cases a7 <;> simp_all
          go_wp2_with fail
          refine (S5.out _).mono ?_
          rintro e w' ⟨rfl, rfl⟩
          go_wp2_with fail
          refine (I1.out _).mono ?_
          rintro e w6 ⟨rfl, hb⟩
          have B6 := Lib.hid (B5.out.trans (hb.mono B5.out.size))
          clear hb
          go_wp2_with fail
          refine (I6.out _).mono ?_
          rintro e w7 ⟨rfl, hb⟩
          have B7 := Lib.hid (B6.out.trans (hb.mono B6.out.size))
          clear hb
          go_wp2_with fail
          refine (I1.out _).mono ?_
          rintro e w8 ⟨rfl, hb⟩
          have B8 := Lib.hid (B7.out.trans (hb.mono B7.out.size))
          clear hb
          go_wp2_with fail
          refine (I1.out _).mono ?_
          rintro e w9 ⟨rfl, hb⟩
          have B9 := Lib.hid (B8.out.trans (hb.mono B8.out.size))
          clear hb
          go_wp2_with fail
          refine (I2.out _).mono ?_
          rintro e w10 ⟨rfl, hb⟩
          have B10 := Lib.hid (B9.out.trans (hb.mono B9.out.size))
          clear hb
          go_wp2_with fail
          refine (I7.out _).mono ?_
          rintro e w11 ⟨rfl, hb⟩
          have B11 := Lib.hid (B10.out.trans (hb.mono B10.out.size))
          clear hb
          go_wp2
          go_ret
          exact ⟨rfl, B11.out⟩
end Go.Proofs.Ytmfcoejehnfamaa
