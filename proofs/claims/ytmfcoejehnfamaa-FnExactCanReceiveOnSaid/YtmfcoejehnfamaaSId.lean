/-
  What spec's functions on identities return.
-/
import Derived.Test.YtmfcoejehnfamaaIn
import Derived.Test.YtmfcoejehnfamaaIdN
namespace Go.Proofs.Ytmfcoejehnfamaa
open Go.RowKit Go.Deep Go.Proofs.Ytmfcoejehnfamaa.Num

/-- spec.l4Quic -/
theorem sidq (n : Int) (w : World) :
    Calls Try.prog 45 #[.int .i64 n] w fun e w' => e = .returned (.bool (idOk n)) ∧ w' = w := by
  cases h : idOk n with
  | true =>
    have hb := (idOk_iff n).1 h
    clear h
    go_enter Try.func45, Try.ntmps45
    go_wp2_with fail
    refine (in_yes n 0 4611686018427387903 _ hb.1 hb.2).mono ?_
    rintro e w1 ⟨rfl, rfl⟩
    go_wp2
    go_ret
    exact ⟨rfl, rfl⟩
  | false =>
    have hb := (idOk_not n).1 h
    clear h
    go_enter Try.func45, Try.ntmps45
    go_wp2_with fail
    refine (in_no n 0 4611686018427387903 _ (by omega)).mono ?_
    rintro e w1 ⟨rfl, rfl⟩
    go_wp2
    go_ret
    exact ⟨rfl, rfl⟩
/-- spec.IsStreamId -/
theorem sid_ok (n : Int) (w : World) :
    Calls Try.prog 30 #[.int .i64 n] w fun e w' => e = .returned (.bool (idOk n)) ∧ w' = w := by
  have HQ := Lib.hid (sidq n)
  go_enter Try.func30, Try.ntmps30
  go_wp2_with fail
  refine (HQ.out _).mono ?_
  rintro e w1 ⟨rfl, rfl⟩
  go_wp2
  go_ret
  exact ⟨rfl, rfl⟩
/-- spec.IsServerId -/
theorem sid_srv (n : Int) (w : World) :
    Calls Try.prog 31 #[.int .i64 n] w fun e w' => e = .returned (.bool (idSrv n)) ∧ w' = w := by
  have HQ := Lib.hid (sidq n)
  cases h : idOk n with
  | true =>
    rw [h] at HQ
    have hb := id_bit1 n ((idOk_iff n).1 h)
    have HR : Hid (idSrv n = (n % 2 == 1)) := Lib.hid (by unfold idSrv; rw [h, Bool.true_and]; by_cases hx : n % 2 = 1 <;> simp [hx])
    clear h
    go_enter Try.func31, Try.ntmps31
    go_wp2_with fail
    refine (HQ.out _).mono ?_
    rintro e w1 ⟨rfl, rfl⟩
    go_wp2
    go_ret
    exact ⟨by rw [HR.out]; rfl, rfl⟩
  | false =>
    rw [h] at HQ
    have HR : Hid (idSrv n = false) := Lib.hid (by unfold idSrv; rw [h]; rfl)
    clear h
    go_enter Try.func31, Try.ntmps31
    go_wp2_with fail
    refine (HQ.out _).mono ?_
    rintro e w1 ⟨rfl, rfl⟩
    go_wp2
    go_ret
    exact ⟨by rw [HR.out]; rfl, rfl⟩
/-- spec.IsUniId -/
theorem sid_uni (n : Int) (w : World) :
    Calls Try.prog 32 #[.int .i64 n] w fun e w' => e = .returned (.bool (idUni n)) ∧ w' = w := by
  have HQ := Lib.hid (sidq n)
  cases h : idOk n with
  | true =>
    rw [h] at HQ
    have hb := id_bit2 n ((idOk_iff n).1 h)
    obtain ⟨y, hy⟩ : ∃ y : Int, n / 2 % 2 * 2 = y := ⟨_, rfl⟩
    rw [hy] at hb
    have HR : Hid (idUni n = (y == 2)) := Lib.hid (by
      unfold idUni
      rw [h, Bool.true_and, ← hy]
      by_cases hx : n / 2 % 2 = 1
      · simp [hx]
      · rw [decide_eq_false hx]
        symm
        simp
        omega)
    clear h hy
    go_enter Try.func32, Try.ntmps32
    go_wp2_with fail
    refine (HQ.out _).mono ?_
    rintro e w1 ⟨rfl, rfl⟩
    go_wp2
    go_ret
    exact ⟨by rw [HR.out]; rfl, rfl⟩
  | false =>
    rw [h] at HQ
    have HR : Hid (idUni n = false) := Lib.hid (by unfold idUni; rw [h]; rfl)
    clear h
    go_enter Try.func32, Try.ntmps32
    go_wp2_with fail
    refine (HQ.out _).mono ?_
    rintro e w1 ⟨rfl, rfl⟩
    go_wp2
    go_ret
    exact ⟨by rw [HR.out]; rfl, rfl⟩
/-- spec.IndexOf -/
theorem sid_ix (n : Int) (w : World) :
    Calls Try.prog 33 #[.int .i64 n] w fun e w' => e = .returned (.int .i64 (idIx n)) ∧ w' = w := by
  have HQ := Lib.hid (sidq n)
  cases h : idOk n with
  | true =>
    rw [h] at HQ
    have HR : Hid (idIx n = n / 4) := Lib.hid (if_pos h)
    clear h
    go_enter Try.func33, Try.ntmps33
    go_wp2_with fail
    refine (HQ.out _).mono ?_
    rintro e w1 ⟨rfl, rfl⟩
    go_wp2
    go_ret
    exact ⟨by rw [HR.out]; rfl, rfl⟩
  | false =>
    rw [h] at HQ
    have HR : Hid (idIx n = -1) := Lib.hid (if_neg (by rw [h]; decide))
    clear h
    go_enter Try.func33, Try.ntmps33
    go_wp2_with fail
    refine (HQ.out _).mono ?_
    rintro e w1 ⟨rfl, rfl⟩
    go_wp2
    go_ret
    exact ⟨by rw [HR.out]; rfl, rfl⟩
/-- spec.MakeId -/
theorem sid_make (i : Int) (s u : Bool) (w : World) :
    Calls Try.prog 16 #[.int .i64 i, .bool s, .bool u] w fun e w' => e = .returned (.int .i64 (mkI i s u)) ∧ w' = w := by
  by_cases h : 0 ≤ i ∧ i ≤ 1152921504606846975
  · have HR := Lib.hid (mkI_yes i s u h)
    have HI := Lib.hid fun W => in_yes i 0 1152921504606846975 W h.1 h.2
    have hi0 := h.1
    have hi1 := h.2
    clear h
    cases s <;> cases u
    all_goals (
      go_enter Try.func16, Try.ntmps16
      go_wp2_with fail
      refine (HI.out _).mono ?_
      rintro e w1 ⟨rfl, rfl⟩
      go_wp2
      go_ret
      exact ⟨by rw [HR.out]; first | rfl | (congr 2; simp) | (congr 2; simp; omega), rfl⟩)
  · have HR := Lib.hid (mkI_bad i s u h)
    have HI := Lib.hid fun W => in_no i 0 1152921504606846975 W (by omega)
    clear h
    go_enter Try.func16, Try.ntmps16
    go_wp2_with fail
    refine (HI.out _).mono ?_
    rintro e w1 ⟨rfl, rfl⟩
    go_wp2
    go_ret
    exact ⟨by rw [HR.out]; rfl, rfl⟩
/-- spec.IsOwn -/
theorem sid_own (s : Bool) (n : Int) (w : World) :
    Calls Try.prog 26 #[.bool s, .int .i64 n] w fun e w' => e = .returned (.bool (idOwn s n)) ∧ w' = w := by
  have HQ := Lib.hid (sidq n)
  have HS := Lib.hid (sid_srv n)
  have HR : Hid (idOwn s n = (idOk n && (idSrv n == s))) := Lib.hid rfl
  generalize idOk n = o at *
  generalize idSrv n = b at *
  cases o <;> cases b <;> cases s
  all_goals (
    go_enter Try.func26, Try.ntmps26
    go_wp2_with (first | (go_at_call 45; refine (HQ.out _).mono ?_; rintro e w1 ⟨rfl, rfl⟩) | (go_at_call 31; refine (HS.out _).mono ?_; rintro e w1 ⟨rfl, rfl⟩))
    go_ret
    exact ⟨by rw [HR.out]; rfl, rfl⟩)
/-- spec.CanSendOn -/
theorem sid_send (s : Bool) (n : Int) (w : World) :
    Calls Try.prog 23 #[.bool s, .int .i64 n] w fun e w' => e = .returned (.bool (idSend s n)) ∧ w' = w := by
  have HQ := Lib.hid (sidq n)
  have HU := Lib.hid (sid_uni n)
  have HO := Lib.hid (sid_own s n)
  have HR : Hid (idSend s n = (idOk n && (!idUni n || idOwn s n))) := Lib.hid rfl
  generalize idOk n = o at *
  generalize idUni n = u at *
  generalize idOwn s n = b at *
  cases o <;> cases u <;> cases b
  all_goals (
    go_enter Try.func23, Try.ntmps23
    go_wp2_with (first | (go_at_call 45; refine (HQ.out _).mono ?_; rintro e w1 ⟨rfl, rfl⟩) | (go_at_call 32; refine (HU.out _).mono ?_; rintro e w1 ⟨rfl, rfl⟩) | (go_at_call 26; refine (HO.out _).mono ?_; rintro e w1 ⟨rfl, rfl⟩))
    go_ret
    exact ⟨by rw [HR.out]; rfl, rfl⟩)
/-- spec.CanReceiveOn -/
theorem sid_recv (s : Bool) (n : Int) (w : World) :
    Calls Try.prog 25 #[.bool s, .int .i64 n] w fun e w' => e = .returned (.bool (idRecv s n)) ∧ w' = w := by
  have HQ := Lib.hid (sidq n)
  have HU := Lib.hid (sid_uni n)
  have HO := Lib.hid (sid_own s n)
  have HR : Hid (idRecv s n = (idOk n && (!idUni n || !idOwn s n))) := Lib.hid rfl
  generalize idOk n = o at *
  generalize idUni n = u at *
  generalize idOwn s n = b at *
  cases o <;> cases u <;> cases b
  all_goals (
    go_enter Try.func25, Try.ntmps25
    go_wp2_with (first | (go_at_call 45; refine (HQ.out _).mono ?_; rintro e w1 ⟨rfl, rfl⟩) | (go_at_call 32; refine (HU.out _).mono ?_; rintro e w1 ⟨rfl, rfl⟩) | (go_at_call 26; refine (HO.out _).mono ?_; rintro e w1 ⟨rfl, rfl⟩))
    go_ret
    exact ⟨by rw [HR.out]; rfl, rfl⟩)
/-- spec.NameOf -/
theorem sid_name (n : Int) (w : World) :
    Calls Try.prog 28 #[.int .i64 n] w fun e w' => e = .returned (.string (idName n)) ∧ w' = w := by
  have HQ := Lib.hid (sidq n)
  have HS := Lib.hid (sid_srv n)
  have HU := Lib.hid (sid_uni n)
  have HR : Hid (idName n = if idOk n = true then
    (if idSrv n = true then (if idUni n = true then ⟨#[115, 101, 114, 118, 101, 114, 32, 117, 110, 105]⟩ else ⟨#[115, 101, 114, 118, 101, 114, 32, 98, 105, 100, 105]⟩)
    else (if idUni n = true then ⟨#[99, 108, 105, 101, 110, 116, 32, 117, 110, 105]⟩ else ⟨#[99, 108, 105, 101, 110, 116, 32, 98, 105, 100, 105]⟩))
    else ⟨#[]⟩) := Lib.hid rfl
  generalize idOk n = o at *
  generalize idSrv n = b at *
  generalize idUni n = u at *
  cases o <;> cases b <;> cases u
  all_goals (
    go_enter Try.func28, Try.ntmps28
    go_wp2_with (first | (go_at_call 45; refine (HQ.out _).mono ?_; rintro e w1 ⟨rfl, rfl⟩) | (go_at_call 32; refine (HU.out _).mono ?_; rintro e w1 ⟨rfl, rfl⟩) | (go_at_call 31; refine (HS.out _).mono ?_; rintro e w1 ⟨rfl, rfl⟩))
    go_ret
    exact ⟨by rw [HR.out]; rfl, rfl⟩)
end Go.Proofs.Ytmfcoejehnfamaa
