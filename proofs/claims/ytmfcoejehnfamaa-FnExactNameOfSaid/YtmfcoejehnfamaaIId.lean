/-
  What impl's functions on identities return.
-/
import Derived.Test.YtmfcoejehnfamaaIdN
namespace Go.Proofs.Ytmfcoejehnfamaa
open Go.RowKit Go.Deep Go.Proofs.Ytmfcoejehnfamaa.Num

theorem iq (n : Int) (w : World) :
    Calls Try.prog 29 #[.int .i64 n] w fun e w' => e = .returned (.bool (idOk n)) ∧ w' = w := by
  have HR : Hid (idOk n = (decide (0 ≤ n) && decide (n ≤ 4611686018427387903))) := Lib.hid (by unfold idOk; rw [Bool.decide_and])
  by_cases h0 : 0 ≤ n
  · rw [decide_eq_true h0, Bool.true_and] at HR
    go_enter Try.func29, Try.ntmps29
    go_wp2
    go_ret
    exact ⟨by rw [HR.out]; rfl, rfl⟩
  · rw [decide_eq_false h0, Bool.false_and] at HR
    go_enter Try.func29, Try.ntmps29
    go_wp2
    go_ret
    exact ⟨by rw [HR.out]; rfl, rfl⟩
theorem is_m (n : Int) (w : World) (h : idOk n = true) :
    Calls Try.prog 40 #[.int .i64 n] w fun e w' => e = .returned (.bool (idSrv n)) ∧ w' = w := by
  have hb := id_bit1 n ((idOk_iff n).1 h)
  have HR : Hid (idSrv n = (n % 2 != 0)) := Lib.hid (by unfold idSrv; rw [h, Bool.true_and]; by_cases hx : n % 2 = 1 <;> simp [hx]; omega)
  clear h
  go_enter Try.func40, Try.ntmps40
  go_wp2
  go_ret
  exact ⟨by rw [HR.out]; rfl, rfl⟩
theorem iu_m (n : Int) (w : World) (h : idOk n = true) :
    Calls Try.prog 41 #[.int .i64 n] w fun e w' => e = .returned (.bool (idUni n)) ∧ w' = w := by
  have hb := id_bit2 n ((idOk_iff n).1 h)
  obtain ⟨y, hy⟩ : ∃ y : Int, n / 2 % 2 * 2 = y := ⟨_, rfl⟩
  rw [hy] at hb
  have HR : Hid (idUni n = (y != 0)) := Lib.hid (by
      unfold idUni
      rw [h, Bool.true_and, ← hy]
      by_cases hx : n / 2 % 2 = 1
      · simp [hx]
      · rw [decide_eq_false hx]
        symm
        simp
        omega)
  clear h hy
  go_enter Try.func41, Try.ntmps41
  go_wp2
  go_ret
  exact ⟨by rw [HR.out]; rfl, rfl⟩
theorem ix_m (n : Int) (w : World) (_h : idOk n = true) :
    Calls Try.prog 39 #[.int .i64 n] w fun e w' => e = .returned (.int .i64 (n / 4)) ∧ w' = w := by
  go_enter Try.func39, Try.ntmps39
  go_wp2
  go_ret
  exact ⟨rfl, rfl⟩
theorem io_m (s : Bool) (n : Int) (w : World) (h : idOk n = true) :
    Calls Try.prog 42 #[.int .i64 n, .bool s] w fun e w' => e = .returned (.bool (idOwn s n)) ∧ w' = w := by
  have HS := Lib.hid fun W => is_m n W h
  have HR : Hid (idOwn s n = (idSrv n == s)) := Lib.hid (by unfold idOwn; rw [h, Bool.true_and])
  clear h
  generalize idSrv n = b at *
  cases b <;> cases s
  all_goals (
    go_enter Try.func42, Try.ntmps42
    go_wp2_with ((go_at_call 40; refine (HS.out _).mono ?_; rintro e w1 ⟨rfl, rfl⟩))
    go_ret
    exact ⟨by rw [HR.out]; rfl, rfl⟩)
theorem ic_m (s : Bool) (n : Int) (w : World) (h : idOk n = true) :
    Calls Try.prog 44 #[.int .i64 n, .bool s] w fun e w' => e = .returned (.bool (!idUni n || idOwn s n)) ∧ w' = w := by
  have HU := Lib.hid fun W => iu_m n W h
  have HO := Lib.hid fun W => io_m s n W h
  clear h
  generalize idUni n = u at *
  generalize idOwn s n = b at *
  cases u <;> cases b
  all_goals (
    go_enter Try.func44, Try.ntmps44
    go_wp2_with (first | (go_at_call 41; refine (HU.out _).mono ?_; rintro e w1 ⟨rfl, rfl⟩) | (go_at_call 42; refine (HO.out _).mono ?_; rintro e w1 ⟨rfl, rfl⟩))
    go_ret
    exact ⟨rfl, rfl⟩)
theorem iop_m (n : Int) (w : World) (h : idOk n = true) :
    Calls Try.prog 46 #[.int .i64 n] w fun e w' => e = .returned (.string (if idSrv n = true then ⟨#[115, 101, 114, 118, 101, 114]⟩ else ⟨#[99, 108, 105, 101, 110, 116]⟩)) ∧ w' = w := by
  have HS := Lib.hid fun W => is_m n W h
  clear h
  generalize idSrv n = b at *
  cases b
  all_goals (
    go_enter Try.func46, Try.ntmps46
    go_wp2_with ((go_at_call 40; refine (HS.out _).mono ?_; rintro e w1 ⟨rfl, rfl⟩))
    go_ret
    exact ⟨rfl, rfl⟩)
theorem idr_m (n : Int) (w : World) (h : idOk n = true) :
    Calls Try.prog 47 #[.int .i64 n] w fun e w' => e = .returned (.string (if idUni n = true then ⟨#[117, 110, 105]⟩ else ⟨#[98, 105, 100, 105]⟩)) ∧ w' = w := by
  have HU := Lib.hid fun W => iu_m n W h
  clear h
  generalize idUni n = b at *
  cases b
  all_goals (
    go_enter Try.func47, Try.ntmps47
    go_wp2_with ((go_at_call 41; refine (HU.out _).mono ?_; rintro e w1 ⟨rfl, rfl⟩))
    go_ret
    exact ⟨rfl, rfl⟩)
theorem iid_ok (n : Int) (w : World) :
    Calls Try.prog 29 #[.int .i64 n] w fun e w' => e = .returned (.bool (idOk n)) ∧ Below w.heap.size w w' :=
  (iq n w).mono fun _ _ h => ⟨h.1, h.2 ▸ Below.refl _ _⟩
theorem iid_srv (n : Int) (w : World) :
    Calls Try.prog 18 #[.int .i64 n] w fun e w' => e = .returned (.bool (idSrv n)) ∧ Below w.heap.size w w' := by
  have HQ := Lib.hid (iq n)
  cases h : idOk n with
  | true =>
    rw [h] at HQ
    have HM := Lib.hid fun W => is_m n W h
    clear h
    go_enter Try.func18, Try.ntmps18
    go_wp2_with fail
    refine (HQ.out _).mono ?_
    rintro e w1 ⟨rfl, rfl⟩
    go_wp2_with fail
    refine (HM.out _).mono ?_
    rintro e w1 ⟨rfl, rfl⟩
    go_wp2
    go_ret
    exact ⟨rfl, Below.refl _ _⟩
  | false =>
    rw [h] at HQ
    have HR : Hid (idSrv n = false) := Lib.hid (by unfold idSrv; rw [h]; rfl)
    clear h
    go_enter Try.func18, Try.ntmps18
    go_wp2_with fail
    refine (HQ.out _).mono ?_
    rintro e w1 ⟨rfl, rfl⟩
    go_wp2
    go_ret
    exact ⟨by rw [HR.out]; rfl, Below.refl _ _⟩
theorem iid_uni (n : Int) (w : World) :
    Calls Try.prog 19 #[.int .i64 n] w fun e w' => e = .returned (.bool (idUni n)) ∧ Below w.heap.size w w' := by
  have HQ := Lib.hid (iq n)
  cases h : idOk n with
  | true =>
    rw [h] at HQ
    have HM := Lib.hid fun W => iu_m n W h
    clear h
    go_enter Try.func19, Try.ntmps19
    go_wp2_with fail
    refine (HQ.out _).mono ?_
    rintro e w1 ⟨rfl, rfl⟩
    go_wp2_with fail
    refine (HM.out _).mono ?_
    rintro e w1 ⟨rfl, rfl⟩
    go_wp2
    go_ret
    exact ⟨rfl, Below.refl _ _⟩
  | false =>
    rw [h] at HQ
    have HR : Hid (idUni n = false) := Lib.hid (by unfold idUni; rw [h]; rfl)
    clear h
    go_enter Try.func19, Try.ntmps19
    go_wp2_with fail
    refine (HQ.out _).mono ?_
    rintro e w1 ⟨rfl, rfl⟩
    go_wp2
    go_ret
    exact ⟨by rw [HR.out]; rfl, Below.refl _ _⟩
theorem iid_own (s : Bool) (n : Int) (w : World) :
    Calls Try.prog 20 #[.bool s, .int .i64 n] w fun e w' => e = .returned (.bool (idOwn s n)) ∧ Below w.heap.size w w' := by
  have HQ := Lib.hid (iq n)
  cases h : idOk n with
  | true =>
    rw [h] at HQ
    have HM := Lib.hid fun W => io_m s n W h
    clear h
    go_enter Try.func20, Try.ntmps20
    go_wp2_with fail
    refine (HQ.out _).mono ?_
    rintro e w1 ⟨rfl, rfl⟩
    go_wp2_with fail
    refine (HM.out _).mono ?_
    rintro e w1 ⟨rfl, rfl⟩
    go_wp2
    go_ret
    exact ⟨rfl, Below.refl _ _⟩
  | false =>
    rw [h] at HQ
    have HR : Hid (idOwn s n = false) := Lib.hid (by unfold idOwn; rw [h]; rfl)
    clear h
    go_enter Try.func20, Try.ntmps20
    go_wp2_with fail
    refine (HQ.out _).mono ?_
    rintro e w1 ⟨rfl, rfl⟩
    go_wp2
    go_ret
    exact ⟨by rw [HR.out]; rfl, Below.refl _ _⟩
theorem iid_send (s : Bool) (n : Int) (w : World) :
    Calls Try.prog 22 #[.bool s, .int .i64 n] w fun e w' => e = .returned (.bool (idSend s n)) ∧ Below w.heap.size w w' := by
  have HQ := Lib.hid (iq n)
  cases h : idOk n with
  | true =>
    rw [h] at HQ
    have HM := Lib.hid fun W => ic_m s n W h
    have HR : Hid (idSend s n = (!idUni n || idOwn s n)) := Lib.hid (by unfold idSend; rw [h, Bool.true_and])
    clear h
    go_enter Try.func22, Try.ntmps22
    go_wp2_with fail
    refine (HQ.out _).mono ?_
    rintro e w1 ⟨rfl, rfl⟩
    go_wp2_with fail
    refine (HM.out _).mono ?_
    rintro e w1 ⟨rfl, rfl⟩
    go_wp2
    go_ret
    exact ⟨by rw [HR.out]; rfl, Below.refl _ _⟩
  | false =>
    rw [h] at HQ
    have HR : Hid (idSend s n = false) := Lib.hid (by unfold idSend; rw [h]; rfl)
    clear h
    go_enter Try.func22, Try.ntmps22
    go_wp2_with fail
    refine (HQ.out _).mono ?_
    rintro e w1 ⟨rfl, rfl⟩
    go_wp2
    go_ret
    exact ⟨by rw [HR.out]; rfl, Below.refl _ _⟩
theorem iid_recv (s : Bool) (n : Int) (w : World) :
    Calls Try.prog 24 #[.bool s, .int .i64 n] w fun e w' => e = .returned (.bool (idRecv s n)) ∧ Below w.heap.size w w' := by
  have HQ := Lib.hid (iq n)
  cases h : idOk n with
  | true =>
    rw [h] at HQ
    have HM := Lib.hid fun W => ic_m (!s) n W h
    have HR : Hid (idRecv s n = (!idUni n || idOwn (!s) n)) := Lib.hid (by unfold idRecv idOwn; rw [h]; cases idUni n <;> cases idSrv n <;> cases s <;> rfl)
    clear h
    go_enter Try.func24, Try.ntmps24
    go_wp2_with fail
    refine (HQ.out _).mono ?_
    rintro e w1 ⟨rfl, rfl⟩
    go_wp2_with fail
    refine (HM.out _).mono ?_
    rintro e w1 ⟨rfl, rfl⟩
    go_wp2
    go_ret
    exact ⟨by rw [HR.out]; rfl, Below.refl _ _⟩
  | false =>
    rw [h] at HQ
    have HR : Hid (idRecv s n = false) := Lib.hid (by unfold idRecv; rw [h]; rfl)
    clear h
    go_enter Try.func24, Try.ntmps24
    go_wp2_with fail
    refine (HQ.out _).mono ?_
    rintro e w1 ⟨rfl, rfl⟩
    go_wp2
    go_ret
    exact ⟨by rw [HR.out]; rfl, Below.refl _ _⟩
theorem iid_ix (n : Int) (w : World) :
    Calls Try.prog 17 #[.int .i64 n] w fun e w' => e = .returned (.int .i64 (idIx n)) ∧ Below w.heap.size w w' := by
  have HQ := Lib.hid (iq n)
  cases h : idOk n with
  | true =>
    rw [h] at HQ
    have HM := Lib.hid fun W => ix_m n W h
    have HR : Hid (idIx n = n / 4) := Lib.hid (if_pos h)
    clear h
    go_enter Try.func17, Try.ntmps17
    go_wp2_with fail
    refine (HQ.out _).mono ?_
    rintro e w1 ⟨rfl, rfl⟩
    go_wp2_with fail
    refine (HM.out _).mono ?_
    rintro e w1 ⟨rfl, rfl⟩
    go_wp2
    go_ret
    exact ⟨by rw [HR.out]; rfl, Below.refl _ _⟩
  | false =>
    rw [h] at HQ
    have HR : Hid (idIx n = -1) := Lib.hid (by exact if_neg (by rw [h]; decide))
    clear h
    go_enter Try.func17, Try.ntmps17
    go_wp2_with fail
    refine (HQ.out _).mono ?_
    rintro e w1 ⟨rfl, rfl⟩
    go_wp2
    go_ret
    exact ⟨by rw [HR.out]; rfl, Below.refl _ _⟩
theorem iid_name (n : Int) (w : World) :
    Calls Try.prog 27 #[.int .i64 n] w fun e w' => e = .returned (.string (idName n)) ∧ Below w.heap.size w w' := by
  have HQ := Lib.hid (iq n)
  cases h : idOk n with
  | true =>
    rw [h] at HQ
    have HO := Lib.hid fun W => iop_m n W h
    have HD := Lib.hid fun W => idr_m n W h
    have HR : Hid (idName n = (if idSrv n = true then (if idUni n = true then ⟨#[115, 101, 114, 118, 101, 114, 32, 117, 110, 105]⟩ else ⟨#[115, 101, 114, 118, 101, 114, 32, 98, 105, 100, 105]⟩)
      else (if idUni n = true then ⟨#[99, 108, 105, 101, 110, 116, 32, 117, 110, 105]⟩ else ⟨#[99, 108, 105, 101, 110, 116, 32, 98, 105, 100, 105]⟩))) := Lib.hid (if_pos h)
    clear h
    generalize idSrv n = b at *
    generalize idUni n = u at *
    cases b <;> cases u
    all_goals (
      go_enter Try.func27, Try.ntmps27
      go_wp2_with fail
      refine (HQ.out _).mono ?_
      rintro e w1 ⟨rfl, rfl⟩
      go_wp2_with fail
      refine (HO.out _).mono ?_
      rintro e w1 ⟨rfl, rfl⟩
      go_wp2_with fail
      refine (HD.out _).mono ?_
      rintro e w1 ⟨rfl, rfl⟩
      go_wp2
      go_ret
      exact ⟨by rw [HR.out]; rfl, Below.refl _ _⟩)
  | false =>
    rw [h] at HQ
    have HR : Hid (idName n = ⟨#[]⟩) := Lib.hid (if_neg (by rw [h]; decide))
    clear h
    go_enter Try.func27, Try.ntmps27
    go_wp2_with fail
    refine (HQ.out _).mono ?_
    rintro e w1 ⟨rfl, rfl⟩
    go_wp2
    go_ret
    exact ⟨by rw [HR.out]; rfl, Below.refl _ _⟩
theorem iid_make (i : Int) (s u : Bool) (w : World) :
    Calls Try.prog 15 #[.int .i64 i, .bool s, .bool u] w fun e w' => e = .returned (.int .i64 (mkI i s u)) ∧ Below w.heap.size w w' := by
  by_cases h : 0 ≤ i ∧ i ≤ 1152921504606846975
  · have HR := Lib.hid (mkI_yes i s u h)
    obtain ⟨m, rfl⟩ := Int.eq_ofNat_of_zero_le h.1
    have o1 : bits .or .i64 ((m : Int) * 4) 1 = (m : Int) * 4 + 1 := by
      have := i64_or_join 2 (m * 4) 1 (by omega) (by decide) (by omega) (by decide)
      rw [Int.natCast_mul] at this
      exact this
    have o2 : bits .or .i64 ((m : Int) * 4) 2 = (m : Int) * 4 + 2 := by
      have := i64_or_join 2 (m * 4) 2 (by omega) (by decide) (by omega) (by decide)
      rw [Int.natCast_mul] at this
      exact this
    have o3 : bits .or .i64 ((m : Int) * 4 + 1) 2 = (m : Int) * 4 + 1 + 2 := by
      rw [i64_or_nat (m * 4 + 1) 2 (by omega) (by decide) |> (show bits .or .i64 ((m : Int) * 4 + 1) 2 = ((m * 4 + 1 ||| 2 : Nat) : Int) from ·)]
      have : m * 4 + 1 ||| 2 = m * 4 + 3 := by
        rw [show m * 4 + 1 = m * 4 ||| 1 from (nat_join 2 (m * 4) 1 (by omega) (by decide)).symm, Nat.or_assoc, show 1 ||| 2 = 3 from rfl, nat_join 2 (m * 4) 3 (by omega) (by decide)]
      rw [this]
      omega
    have hd1 : decide ((m : Int) < 0) = false := decide_eq_false (by omega)
    have hd2 : decide (1152921504606846976 ≤ (m : Int)) = false := decide_eq_false (by omega)
    have hm : (m : Int) ≤ 1152921504606846975 := h.2
    clear h
    cases s <;> cases u
    all_goals (
      go_enter Try.func15, Try.ntmps15
      go_wp2
      go_ret
      exact ⟨by rw [HR.out]; first | rfl | (congr 2; simp) | (congr 2; simp; omega), Below.refl _ _⟩)
  · have HR := Lib.hid (mkI_bad i s u h)
    by_cases h0 : i < 0
    · go_enter Try.func15, Try.ntmps15
      go_wp2
      go_ret
      exact ⟨by rw [HR.out]; rfl, Below.refl _ _⟩
    · have h1 : 1152921504606846976 ≤ i := by omega
      clear h
      go_enter Try.func15, Try.ntmps15
      go_wp2
      go_ret
      exact ⟨by rw [HR.out]; rfl, Below.refl _ _⟩
end Go.Proofs.Ytmfcoejehnfamaa
