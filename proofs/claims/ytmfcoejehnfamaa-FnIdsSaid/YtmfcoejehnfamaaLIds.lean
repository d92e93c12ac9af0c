/-
  The laws on each function of chapter 5, walked.
-/
import Derived.Test.YtmfcoejehnfamaaSId
import Derived.Test.YtmfcoejehnfamaaIId
namespace Go.Proofs.Ytmfcoejehnfamaa
open Go.RowKit Go.Deep Go.Proofs.Ytmfcoejehnfamaa.Num

/-- The law on IsStreamId. -/
theorem law_IsStreamId (n : Int) (w : World) :
    Calls Try.prog 4 #[.int .i64 n] w fun e w' => e = .returned (.bool true) ∧ Below w.heap.size w w' := by
  have HS := Lib.hid (sid_ok n)
  have HI := Lib.hid (iid_ok n)
  obtain ⟨x, hx⟩ : ∃ x : Bool, idOk n = x := ⟨_, rfl⟩
  rw [hx] at HS HI
  have hq : (x != x) = false := by cases x <;> rfl
  clear hx
  go_enter Try.func4, Try.ntmps4
  go_wp2_with fail
  refine (HS.out _).mono ?_
  rintro e w1 ⟨rfl, rfl⟩
  go_wp2_with fail
  refine (HI.out _).mono ?_
  rintro e w2 ⟨rfl, hb⟩
  have HB := Lib.hid hb
  clear hb
  go_wp2
  go_ret
  exact ⟨rfl, HB.out⟩
/-- The law on IsServerId. -/
theorem law_IsServerId (n : Int) (w : World) :
    Calls Try.prog 5 #[.int .i64 n] w fun e w' => e = .returned (.bool true) ∧ Below w.heap.size w w' := by
  have HS := Lib.hid (sid_srv n)
  have HI := Lib.hid (iid_srv n)
  obtain ⟨x, hx⟩ : ∃ x : Bool, idSrv n = x := ⟨_, rfl⟩
  rw [hx] at HS HI
  have hq : (x != x) = false := by cases x <;> rfl
  clear hx
  go_enter Try.func5, Try.ntmps5
  go_wp2_with fail
  refine (HS.out _).mono ?_
  rintro e w1 ⟨rfl, rfl⟩
  go_wp2_with fail
  refine (HI.out _).mono ?_
  rintro e w2 ⟨rfl, hb⟩
  have HB := Lib.hid hb
  clear hb
  go_wp2
  go_ret
  exact ⟨rfl, HB.out⟩
/-- The law on IsUniId. -/
theorem law_IsUniId (n : Int) (w : World) :
    Calls Try.prog 6 #[.int .i64 n] w fun e w' => e = .returned (.bool true) ∧ Below w.heap.size w w' := by
  have HS := Lib.hid (sid_uni n)
  have HI := Lib.hid (iid_uni n)
  obtain ⟨x, hx⟩ : ∃ x : Bool, idUni n = x := ⟨_, rfl⟩
  rw [hx] at HS HI
  have hq : (x != x) = false := by cases x <;> rfl
  clear hx
  go_enter Try.func6, Try.ntmps6
  go_wp2_with fail
  refine (HS.out _).mono ?_
  rintro e w1 ⟨rfl, rfl⟩
  go_wp2_with fail
  refine (HI.out _).mono ?_
  rintro e w2 ⟨rfl, hb⟩
  have HB := Lib.hid hb
  clear hb
  go_wp2
  go_ret
  exact ⟨rfl, HB.out⟩
/-- The law on IndexOf. -/
theorem law_IndexOf (n : Int) (w : World) :
    Calls Try.prog 7 #[.int .i64 n] w fun e w' => e = .returned (.bool true) ∧ Below w.heap.size w w' := by
  have HS := Lib.hid (sid_ix n)
  have HI := Lib.hid (iid_ix n)
  obtain ⟨x, hx⟩ : ∃ x : Int, idIx n = x := ⟨_, rfl⟩
  rw [hx] at HS HI
  have hq : (x != x) = false := by simp
  clear hx
  go_enter Try.func7, Try.ntmps7
  go_wp2_with fail
  refine (HS.out _).mono ?_
  rintro e w1 ⟨rfl, rfl⟩
  go_wp2_with fail
  refine (HI.out _).mono ?_
  rintro e w2 ⟨rfl, hb⟩
  have HB := Lib.hid hb
  clear hb
  go_wp2
  go_ret
  exact ⟨rfl, HB.out⟩
/-- The law on MakeId. -/
theorem law_MakeId (i : Int) (s u : Bool) (w : World) :
    Calls Try.prog 8 #[.int .i64 i, .bool s, .bool u] w fun e w' => e = .returned (.bool true) ∧ Below w.heap.size w w' := by
  have HS := Lib.hid (sid_make i s u)
  have HI := Lib.hid (iid_make i s u)
  obtain ⟨x, hx⟩ : ∃ x : Int, mkI i s u = x := ⟨_, rfl⟩
  rw [hx] at HS HI
  have hq : (x != x) = false := by simp
  clear hx
  go_enter Try.func8, Try.ntmps8
  go_wp2_with fail
  refine (HS.out _).mono ?_
  rintro e w1 ⟨rfl, rfl⟩
  go_wp2_with fail
  refine (HI.out _).mono ?_
  rintro e w2 ⟨rfl, hb⟩
  have HB := Lib.hid hb
  clear hb
  go_wp2
  go_ret
  exact ⟨rfl, HB.out⟩
/-- The law on IsOwn. -/
theorem law_IsOwn (s : Bool) (n : Int) (w : World) :
    Calls Try.prog 9 #[.bool s, .int .i64 n] w fun e w' => e = .returned (.bool true) ∧ Below w.heap.size w w' := by
  have HS := Lib.hid (sid_own s n)
  have HI := Lib.hid (iid_own s n)
  obtain ⟨x, hx⟩ : ∃ x : Bool, idOwn s n = x := ⟨_, rfl⟩
  rw [hx] at HS HI
  have hq : (x != x) = false := by cases x <;> rfl
  clear hx
  go_enter Try.func9, Try.ntmps9
  go_wp2_with fail
  refine (HS.out _).mono ?_
  rintro e w1 ⟨rfl, rfl⟩
  go_wp2_with fail
  refine (HI.out _).mono ?_
  rintro e w2 ⟨rfl, hb⟩
  have HB := Lib.hid hb
  clear hb
  go_wp2
  go_ret
  exact ⟨rfl, HB.out⟩
/-- The law on CanSendOn. -/
theorem law_CanSendOn (s : Bool) (n : Int) (w : World) :
    Calls Try.prog 10 #[.bool s, .int .i64 n] w fun e w' => e = .returned (.bool true) ∧ Below w.heap.size w w' := by
  have HS := Lib.hid (sid_send s n)
  have HI := Lib.hid (iid_send s n)
  obtain ⟨x, hx⟩ : ∃ x : Bool, idSend s n = x := ⟨_, rfl⟩
  rw [hx] at HS HI
  have hq : (x != x) = false := by cases x <;> rfl
  clear hx
  go_enter Try.func10, Try.ntmps10
  go_wp2_with fail
  refine (HS.out _).mono ?_
  rintro e w1 ⟨rfl, rfl⟩
  go_wp2_with fail
  refine (HI.out _).mono ?_
  rintro e w2 ⟨rfl, hb⟩
  have HB := Lib.hid hb
  clear hb
  go_wp2
  go_ret
  exact ⟨rfl, HB.out⟩
/-- The law on CanReceiveOn. -/
theorem law_CanReceiveOn (s : Bool) (n : Int) (w : World) :
    Calls Try.prog 11 #[.bool s, .int .i64 n] w fun e w' => e = .returned (.bool true) ∧ Below w.heap.size w w' := by
  have HS := Lib.hid (sid_recv s n)
  have HI := Lib.hid (iid_recv s n)
  obtain ⟨x, hx⟩ : ∃ x : Bool, idRecv s n = x := ⟨_, rfl⟩
  rw [hx] at HS HI
  have hq : (x != x) = false := by cases x <;> rfl
  clear hx
  go_enter Try.func11, Try.ntmps11
  go_wp2_with fail
  refine (HS.out _).mono ?_
  rintro e w1 ⟨rfl, rfl⟩
  go_wp2_with fail
  refine (HI.out _).mono ?_
  rintro e w2 ⟨rfl, hb⟩
  have HB := Lib.hid hb
  clear hb
  go_wp2
  go_ret
  exact ⟨rfl, HB.out⟩
/-- The law on NameOf. -/
theorem law_NameOf (n : Int) (w : World) :
    Calls Try.prog 12 #[.int .i64 n] w fun e w' => e = .returned (.bool true) ∧ Below w.heap.size w w' := by
  have HS := Lib.hid (sid_name n)
  have HI := Lib.hid (iid_name n)
  obtain ⟨x, hx⟩ : ∃ x : ByteArray, idName n = x := ⟨_, rfl⟩
  rw [hx] at HS HI
  clear hx
  go_enter Try.func12, Try.ntmps12
  go_wp2_with fail
  refine (HS.out _).mono ?_
  rintro e w1 ⟨rfl, rfl⟩
  go_wp2_with fail
  refine (HI.out _).mono ?_
  rintro e w2 ⟨rfl, hb⟩
  have HB := Lib.hid hb
  clear hb
  go_wp2
  go_ret
  exact ⟨rfl, HB.out⟩
end Go.Proofs.Ytmfcoejehnfamaa
