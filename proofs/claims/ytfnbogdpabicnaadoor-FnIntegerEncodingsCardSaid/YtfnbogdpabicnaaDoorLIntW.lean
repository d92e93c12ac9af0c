/-
  The law on the integer encodings, walked, where the library's listed variables hold what the program's text lays there.
-/
import Derived.Test.YtfnbogdpabicnaaDoorLInt
namespace Go.Proofs.YtfnbogdpabicnaaDoor
open Go.RowKit Go.Deep Go.Proofs.YtfnbogdpabicnaaDoor.Num

set_option maxRecDepth 100000 in
set_option maxHeartbeats 4000000 in
/-- The law. -/
theorem law_Int (A : Option Addr) (len cap : Nat) (w : World) (hlen : len ≤ maxLen) (hcode : Code w w.heap.size A len) (hsent : Sent w) (hp : Pow w) :
    Calls Tryd.prog 3 #[.slice A len cap] w fun e w' => e = .returned (.bool true) ∧ Below w.heap.size w w' := by
  by_cases hbig : 1048576 < len
  · go_enter Tryd.func3, Tryd.ntmps3
    go_wp2_with (go_at_call 6; refine (big_yes A len cap _ hbig hlen).mono ?_; rintro e w' ⟨rfl, rfl⟩)
    go_ret
    exact ⟨rfl, Below.refl _ _⟩
  have hsm : len ≤ 1048576 := by omega
  clear hbig
  have HC := Lib.hid hcode
  have HL := Lib.hid hlen
  have HS := Lib.hid hsent
  have HP := Lib.hid hp
  clear hcode hlen hsent hp
  go_enter Tryd.func3, Tryd.ntmps3
  go_wp2_with fail
  refine (big_no A len cap _ hsm).mono ?_
  rintro e w' ⟨rfl, rfl⟩
  go_wp2_with fail
  refine (draw_ev A len cap _ HL.out HC.out).mono ?_
  rintro e w1 ⟨n, rfl, n0, n1, b1⟩
  have B1 := Lib.hid b1
  clear b1
  go_wp2_with fail
  refine (draw_eh A len cap _ HL.out (HC.out.later B1.out)).mono ?_
  rintro e w2 ⟨T, rfl, hT, b2⟩
  have B2 := Lib.hid (B1.out.trans (b2.mono B1.out.size))
  clear b2
  go_wp2_with fail
  refine (venc n _).mono ?_
  rintro e w3 ⟨S, hS, rfl, b3⟩
  have B3 := Lib.hid (B2.out.trans (b3.mono B2.out.size))
  have hSl := hS.len
  have HSS := Lib.hid hS
  clear b3 hS
  have hadd : ∀ W : World, (Op.stringOp .add ⟨S.toArray⟩ ⟨T.toArray⟩).run Tryd.prog W = .ok (.string ⟨(S ++ T).toArray⟩) W := fun W => run_string_add_lists W _ _ (by omega) (by omega)
  go_wp2_with fail
  refine (idv ⟨(S ++ T).toArray⟩ _ (by rw [size_list]; simp [maxLen]; omega)).mono ?_
  rintro e w4 ⟨x, k, rfl, hD, b4⟩
  have B4 := Lib.hid (B3.out.trans (b4.mono B3.out.size))
  have HD := Lib.hid hD
  clear b4 hD hadd
  go_upto_region 7 with fail
  go_cut [57] (fun b wx => b = .bool false ∧ wx = w4)
  case first =>
    rcases HSS.out with ⟨h0, h1, hS⟩ | ⟨hn, hS⟩
    · obtain ⟨m, rfl⟩ := Int.eq_ofNat_of_zero_le h0
      have hS' : S = encV 7 m := by simpa using hS
      obtain ⟨rfl, hk⟩ : x = m ∧ k = S.length := by
        have hd := dec_enc m (by omega) T
        rw [← hS'] at hd
        have := HD.out.uniq hd
        exact this
      have hne : S ≠ [] := by rw [hS']; exact encV_ne 7 _
      obtain ⟨c, S', rfl⟩ : ∃ c S', S = c :: S' := by
        cases S with
        | nil => exact absurd rfl hne
        | cons c S' => exact ⟨c, S', rfl⟩
      have hk' : (k : Int) = ((S'.length : Nat) : Int) + 1 := by rw [hk]; simp
      clear hS hS' hk hne HSS HD h0
      go_wp2
      go_meet
      exact ⟨rfl, rfl⟩
    · subst hS
      clear HSS HD
      rcases hn with hn | hn
      · go_wp2
        go_meet
        exact ⟨rfl, rfl⟩
      · have hn0 : 0 ≤ n := by omega
        have hd : decide (n ≤ 562949953421311) = false := decide_eq_false (by omega)
        go_wp2
        go_meet
        exact ⟨rfl, rfl⟩
  case rest =>
    obtain ⟨rfl, rfl⟩ := hcut
    clear HSS HD hSl
    go_wp2_with fail
    refine (draw_ef A len cap _ HL.out (HC.out.later B4.out)).mono ?_
    rintro e w5 ⟨v, wd, rfl, v0, v1, wd0, wd1, b5⟩
    have B5 := Lib.hid (B4.out.trans (b5.mono B4.out.size))
    clear b5
    go_wp2_with fail
    refine (fenc_i v wd _ v1).mono ?_
    rintro e w6 ⟨rfl, b6⟩
    have B6 := Lib.hid (B5.out.trans (b6.mono B5.out.size))
    have HF := Lib.hid (fixS_is v wd)
    have hFl : (fixS v wd).length ≤ 7 := by
      rcases fixS_is v wd with h | ⟨_, _, h7, hl, _⟩
      · rw [h]; simp
      · omega
    have HSC : ∀ W : World, Hid (Calls Tryd.prog 14 #[.int .i64 v, .int .i64 wd] W fun e w' => e = .returned (.string ⟨(fixS v wd).toArray⟩) ∧ Below W.heap.size W w') := fun W => fenc_s v wd W v1
    have HSC := Lib.hid HSC
    generalize fixS v wd = F at *
    clear b6
    have hadd : ∀ W : World, (Op.stringOp .add ⟨F.toArray⟩ ⟨T.toArray⟩).run Tryd.prog W = .ok (.string ⟨(F ++ T).toArray⟩) W := fun W => run_string_add_lists W _ _ (by omega) (by omega)
    go_wp2_with fail
    refine (fdec_any ⟨(F ++ T).toArray⟩ wd (by rw [size_list]; simp; omega) _).mono ?_
    rintro e w7 ⟨y, is, rfl, hy, rfl⟩
    have HY := Lib.hid hy
    clear hy hadd
    go_upto_region 12 with fail
    go_cut [99] (fun b wx => b = .bool false ∧ Below w.heap.size w wx)
    case first =>
      by_cases hne : F = []
      · subst hne
        clear HF HY
        go_wp2_with (go_at_call 14; refine (HSC.out _).out.mono ?_; rintro e w8 ⟨rfl, b8⟩)
        go_meet
        exact ⟨rfl, B6.out.trans (b8.mono B6.out.size)⟩
      · obtain ⟨rfl, rfl, hwl⟩ := fix_back HF.out hne HY.out
        clear HF HY
        obtain ⟨c, F', rfl⟩ : ∃ c F', F = c :: F' := by
          cases F with
          | nil => exact absurd rfl hne
          | cons c F' => exact ⟨c, F', rfl⟩
        have hq : (((F'.length : Nat) : Int) + 1 != wd) = false := by
          rw [bne_eq_false_iff_eq, ← hwl]; simp
        clear hne hwl
        go_wp2_with (go_at_call 14; refine (HSC.out _).out.mono ?_; rintro e w8 ⟨rfl, b8⟩)
        go_meet
        exact ⟨rfl, B6.out.trans (b8.mono B6.out.size)⟩
    case rest =>
      obtain ⟨rfl, hB7⟩ := hcut
      have B7 := Lib.hid hB7
      clear hB7 HY HF HSC hFl
      go_wp2_with fail
      refine (hex_make T hT _).mono ?_
      rintro e w8 ⟨rfl, b8⟩
      have B8 := Lib.hid (B7.out.trans (b8.mono B7.out.size))
      clear b8
      go_wp2_with fail
      refine (hex_round T hT _).mono ?_
      rintro e w9 ⟨rfl, b9⟩
      have B8b := Lib.hid (B8.out.trans (b9.mono B8.out.size))
      have hhl : ((hexL T).length : Int) = 2 * (T.length : Int) := by rw [hexL_len]; omega
      clear b9
      go_wp2_with fail
      refine (ifmt v _ v0 v1 (HP.out.keep B8b.out)).mono ?_
      rintro e w9b ⟨rfl, b9b⟩
      have B9 := Lib.hid (B8b.out.trans (b9b.mono B8b.out.size))
      clear b9b
      by_cases hv0 : v < -999999999
      · have hq0 : decide (-1000000000 < v) = false := decide_eq_false (by omega)
        go_wp2_with fail
        refine (parse_large v (.inl hv0) v0 v1 _ (HS.out.keep B9.out) (HP.out.keep B9.out)).mono ?_
        rintro e w10 ⟨rfl, b10⟩
        have B10 := Lib.hid (B9.out.trans (b10.mono B9.out.size))
        clear b10
        go_wp2_with (go_at_call 19; refine (sfmt v _ v0 v1).mono ?_; rintro e w11 ⟨rfl, b11⟩)
        go_ret
        exact ⟨rfl, B10.out.trans (b11.mono B10.out.size)⟩
      · by_cases hv1 : 999999999 < v
        · have hq0 : -1000000000 < v := by omega
          have hq1 : decide (v < 1000000000) = false := decide_eq_false (by omega)
          go_wp2_with fail
          refine (parse_large v (.inr hv1) v0 v1 _ (HS.out.keep B9.out) (HP.out.keep B9.out)).mono ?_
          rintro e w10 ⟨rfl, b10⟩
          have B10 := Lib.hid (B9.out.trans (b10.mono B9.out.size))
          clear b10
          go_wp2_with (go_at_call 19; refine (sfmt v _ v0 v1).mono ?_; rintro e w11 ⟨rfl, b11⟩)
          go_ret
          exact ⟨rfl, B10.out.trans (b11.mono B10.out.size)⟩
        · have hq0 : -1000000000 < v := by omega
          have hq1 : v < 1000000000 := by omega
          go_wp2_with fail
          refine (parse_small v (by omega) (by omega) _ (HS.out.keep B9.out) (HP.out.keep B9.out)).mono ?_
          rintro e w10 ⟨rfl, b10⟩
          have B10 := Lib.hid (B9.out.trans (b10.mono B9.out.size))
          clear b10
          go_wp2_with (go_at_call 19; refine (sfmt v _ v0 v1).mono ?_; rintro e w11 ⟨rfl, b11⟩)
          go_ret
          exact ⟨rfl, B10.out.trans (b11.mono B10.out.size)⟩
end Go.Proofs.YtfnbogdpabicnaaDoor
