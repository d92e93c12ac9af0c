/-
  What impl.ParseInt returns: the number of at most nine digits that the string spells, or 0 and false; by the library's contracts for Atoi and Itoa, where its listed variables hold what the program's text lays there.
-/
import Derived.Test.YtfnbogdpabicnaaDoorSParse
import Derived.Test.YtfnbogdpabicnaaDoorLFormat
import Derived.Lib.AtoiErrMem
namespace Go.Proofs.YtfnbogdpabicnaaDoor
open Go.RowKit Go.Deep Go.Proofs.YtfnbogdpabicnaaDoor.Num

/-- The library's two sentinels hold an error each. -/
def Sent (w : World) : Prop := (∃ t p, w.cell? ⟨0, 0, none⟩ = some (.iface t p)) ∧ (∃ t p, w.cell? ⟨1, 0, none⟩ = some (.iface t p))

/-- strconv.Atoi, where the string spells an int. -/
theorem atoi_ok (s : ByteArray) (hmax : s.size ≤ 1048576) (v : Int) (h : Lib.atoiAll s.data.toList = .ok v) (w : World) :
    Calls Tryd.prog 28 #[.string s] w fun e w' => e = .returned (.tuple #[.int .i64 v, .nilIface]) ∧ Below w.heap.size w w' :=
  (Any.strconv_Atoi_ok Tryd.laysC172 s (by omega) v h w).mono fun e w' ⟨he, hw⟩ => ⟨he, by
    rcases hw with rfl | ⟨t, rfl⟩
    · exact Below.refl _ _
    · exact Lib.bytesWorld_below _ _ _⟩
/-- strconv.Atoi, where it spells none: an error that is not nil. -/
def BadPost (w : World) (e : Ending) (w' : World) : Prop := (∃ (x : Int) (t : TypeId) (N : Nat), e = .returned (.tuple #[.int .i64 x, .iface t (.pointer (some ⟨N, 0, none⟩))])) ∧ Below w.heap.size w w'
theorem atoi_bad (s : ByteArray) (hmax : s.size ≤ 1048576) (h : ∀ v, Lib.atoiAll s.data.toList ≠ .ok v) (w : World) (hsent : Sent w) :
    Calls Tryd.prog 28 #[.string s] w (BadPost w) := by
  obtain ⟨⟨t0, p0, hv0⟩, ⟨t1, p1, hv1⟩⟩ := hsent
  cases hq : Lib.atoiAll s.data.toList with
  | ok v => exact absurd hq (h v)
  | range => exact (Any.strconv_Atoi_range Tryd.laysC172 s (by omega) hq (.iface t1 p1) w hv1 (Or.inr ⟨_, _, rfl⟩)).mono fun e w' ⟨N, he, _, _, hb⟩ => ⟨⟨_, _, N, he⟩, hb⟩
  | _ => exact (Any.strconv_Atoi_syntax Tryd.laysC172 s (by omega) hq (.iface t0 p0) w hv0 (Or.inr ⟨_, _, rfl⟩)).mono fun e w' ⟨N, he, _, _, hb⟩ => ⟨⟨_, _, N, he⟩, hb⟩

set_option maxRecDepth 100000 in
set_option maxHeartbeats 400000 in
theorem iparse_bad (s : ByteArray) (hmax : s.size ≤ 1048576) (h : ∀ v, Lib.atoiAll s.data.toList ≠ .ok v) (w : World) (hsent : Sent w) :
    Calls Tryd.prog 18 #[.string s] w fun e w' => e = .returned (.tuple #[.int .i64 0, .bool false]) ∧ Below w.heap.size w w' := by
  have HC := Lib.hid (atoi_bad s hmax h w hsent)
  clear h hsent
  go_enter Tryd.func18, Tryd.ntmps18
  go_wp2_with fail
  refine HC.out.mono ?_
  rintro e w1 ⟨⟨x, t, N, rfl⟩, hb1⟩
  go_wp2
  go_ret2
  exact ⟨rfl, hb1⟩

set_option maxRecDepth 100000 in
set_option maxHeartbeats 800000 in
theorem iparse (s : ByteArray) (hmax : s.size ≤ 1048576) (w : World) (hsent : Sent w) (hp : Pow w) :
    Calls Tryd.prog 18 #[.string s] w (ParsePost s.data.toList w) := by
  by_cases hok : ∃ v, Lib.atoiAll s.data.toList = .ok v
  · obtain ⟨v, hv⟩ := hok
    have HC := Lib.hid (atoi_ok s hmax v hv w)
    have HV := Lib.hid hv
    have HP := Lib.hid hp
    clear hv hp hsent
    by_cases h0 : v < -999999999
    · go_enter Tryd.func18, Tryd.ntmps18
      go_wp2_with (go_at_call 28; refine HC.out.mono ?_; rintro e w1 ⟨rfl, hb1⟩)
      go_ret2
      exact ⟨.inr ⟨fun n hn => by have h1 := hn.atoi; rw [HV.out] at h1; have h2 := hn.1; injection h1 with h1; omega, rfl⟩, hb1⟩
    · by_cases h1 : 999999999 < v
      · go_enter Tryd.func18, Tryd.ntmps18
        go_wp2_with (go_at_call 28; refine HC.out.mono ?_; rintro e w1 ⟨rfl, hb1⟩)
        go_ret2
        exact ⟨.inr ⟨fun n hn => by have h1 := hn.atoi; rw [HV.out] at h1; have h2 := hn.2.1; injection h1 with h1; omega, rfl⟩, hb1⟩
      · by_cases hq : Lib.itoa v = s.data.toList
        · have hb : ((Lib.itoa v) == s.toList) = true := by rw [itoa_eq]; exact decide_eq_true hq
          have HQ := Lib.hid hq
          clear hq
          go_enter Tryd.func18, Tryd.ntmps18
          go_wp2_with (first | (go_at_call 28; refine HC.out.mono ?_; rintro e w1 ⟨rfl, hb1⟩) | (go_at_call 17; refine (ifmt v _ (by omega) (by omega) (HP.out.keep hb1)).mono ?_; rintro e w2 ⟨rfl, hb2⟩))
          go_ret2
          exact ⟨.inl ⟨v, ⟨by omega, by omega, HQ.out⟩, rfl⟩, hb1.trans (hb2.mono hb1.size)⟩
        · have hb : ((Lib.itoa v) == s.toList) = false := by rw [itoa_eq]; exact decide_eq_false hq
          have HQ := Lib.hid hq
          clear hq
          go_enter Tryd.func18, Tryd.ntmps18
          go_wp2_with (first | (go_at_call 28; refine HC.out.mono ?_; rintro e w1 ⟨rfl, hb1⟩) | (go_at_call 17; refine (ifmt v _ (by omega) (by omega) (HP.out.keep hb1)).mono ?_; rintro e w2 ⟨rfl, hb2⟩))
          go_ret2
          exact ⟨.inr ⟨fun n hn => by
            have h1 := hn.atoi
            rw [HV.out] at h1
            injection h1 with h1
            subst h1
            exact HQ.out hn.2.2, rfl⟩, hb1.trans (hb2.mono hb1.size)⟩
  · refine (iparse_bad s hmax (fun v hv => hok ⟨v, hv⟩) w hsent).mono fun e w' ⟨he, hb⟩ => ⟨.inr ⟨fun n hn => hok ⟨n, hn.atoi⟩, he⟩, hb⟩
end Go.Proofs.YtfnbogdpabicnaaDoor
