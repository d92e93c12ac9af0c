/-
  The law on the integer encodings, walked, where the library's listed variables hold what the program's text lays there.
-/
import Derived.Test.YtfnbogdpabicnaaDoorDraws1
import Derived.Test.YtfnbogdpabicnaaDoorLParseAid
import Derived.Test.YtfnbogdpabicnaaDoorSEncFixed
import Derived.Test.YtfnbogdpabicnaaDoorIEncFixed
import Derived.Test.YtfnbogdpabicnaaDoorIDecFixed
import Derived.Test.YtfnbogdpabicnaaDoorIEncVar
import Derived.Test.YtfnbogdpabicnaaDoorIDecVar
import Derived.Test.YtfnbogdpabicnaaDoorIEncHex
import Derived.Test.YtfnbogdpabicnaaDoorIDecHex
import Derived.Deep.DeepCutAuto
namespace Go.Proofs.YtfnbogdpabicnaaDoor
open Go.RowKit Go.Deep Go.Proofs.YtfnbogdpabicnaaDoor.Num

theorem big_yes (A : Option Addr) (len cap : Nat) (w : World) (h : 1048576 < len) (hl : len ≤ maxLen) :
    Calls Tryd.prog 6 #[.slice A len cap] w fun e w' => e = .returned (.bool true) ∧ w = w' := by
  unfold maxLen at hl
  have hd : decide ((1048576 : Int) < (len : Int)) = true := decide_eq_true (by omega)
  go_enter Tryd.func6, Tryd.ntmps6
  go_wp2
  go_ret
  exact ⟨rfl, rfl⟩
theorem big_no (A : Option Addr) (len cap : Nat) (w : World) (h : len ≤ 1048576) :
    Calls Tryd.prog 6 #[.slice A len cap] w fun e w' => e = .returned (.bool false) ∧ w = w' := by
  have hd : decide ((1048576 : Int) < (len : Int)) = false := decide_eq_false (by omega)
  go_enter Tryd.func6, Tryd.ntmps6
  go_wp2
  go_ret
  exact ⟨rfl, rfl⟩

/-- What EncodeVarint returns. -/
def EncIs (n : Int) (S : List UInt8) : Prop := (0 ≤ n ∧ n ≤ 562949953421311 ∧ S = encV 7 n.toNat) ∨ ((n < 0 ∨ 562949953421311 < n) ∧ S = [])
theorem EncIs.len {n : Int} {S : List UInt8} (h : EncIs n S) : S.length ≤ 7 := by
  rcases h with ⟨h0, h1, rfl⟩ | ⟨_, rfl⟩
  · exact encV_len 7 _ 7 (by omega) (by omega)
  · simp
theorem venc (n : Int) (w : World) : Calls Tryd.prog 9 #[.int .i64 n] w fun e w' => ∃ S, EncIs n S ∧ e = .returned (.string ⟨S.toArray⟩) ∧ Below w.heap.size w w' := by
  by_cases h : n < 0 ∨ 562949953421311 < n
  · exact (ivar_no n w h).mono fun e w' ⟨he, hw⟩ => ⟨[], .inr ⟨h, rfl⟩, he, by rw [← hw]; exact Below.refl _ _⟩
  · obtain ⟨m, rfl⟩ := Int.eq_ofNat_of_zero_le (a := n) (by omega)
    exact (ivar_yes m w (by omega)).mono fun e w' ⟨he, hw⟩ => ⟨encV 7 m, .inl ⟨by omega, by omega, by simp⟩, he, hw⟩

/-- What EncodeFixed returns: nothing, or as many bytes as the width says, which are read back. -/
def FixIs (v wd : Int) (F : List UInt8) : Prop := F = [] ∨ (0 ≤ v ∧ 1 ≤ wd ∧ wd ≤ 7 ∧ F.length = wd.toNat ∧ val256 F 0 = v.toNat ∧ F ≠ [])
def fixS (v wd : Int) : List UInt8 := if wd < 1 ∨ 7 < wd ∨ v < 0 then [] else if 0 < dn wd.toNat v.toNat then [] else fixB wd.toNat v.toNat
theorem fixS_is (v wd : Int) : FixIs v wd (fixS v wd) := by
  unfold fixS
  by_cases h : wd < 1 ∨ 7 < wd ∨ v < 0
  · rw [if_pos h]; exact .inl rfl
  · rw [if_neg h]
    by_cases hz : 0 < dn wd.toNat v.toNat
    · rw [if_pos hz]; exact .inl rfl
    · rw [if_neg hz]
      have hl := fixB_len wd.toNat v.toNat
      exact .inr ⟨by omega, by omega, by omega, hl, val256_fix _ _ (by omega), fun he => by rw [he] at hl; simp at hl; omega⟩
theorem fenc_s (v wd : Int) (w : World) (h1 : v ≤ 9223372036854775807) : Calls Tryd.prog 14 #[.int .i64 v, .int .i64 wd] w fun e w' => e = .returned (.string ⟨(fixS v wd).toArray⟩) ∧ Below w.heap.size w w' := by
  unfold fixS
  by_cases h : wd < 1 ∨ 7 < wd ∨ v < 0
  · rw [if_pos h]
    exact (senc_no v wd w h).mono fun e w' ⟨he, hw⟩ => ⟨he, by rw [← hw]; exact Below.refl _ _⟩
  · rw [if_neg h]
    obtain ⟨m, rfl⟩ := Int.eq_ofNat_of_zero_le (a := v) (by omega)
    obtain ⟨d, rfl⟩ := Int.eq_ofNat_of_zero_le (a := wd) (by omega)
    exact senc_any m d w (by omega) (by omega) (by omega)
theorem fenc_i (v wd : Int) (w : World) (h1 : v ≤ 9223372036854775807) : Calls Tryd.prog 12 #[.int .i64 v, .int .i64 wd] w fun e w' => e = .returned (.string ⟨(fixS v wd).toArray⟩) ∧ Below w.heap.size w w' := by
  unfold fixS
  by_cases h : wd < 1 ∨ 7 < wd ∨ v < 0
  · rw [if_pos h]
    exact (ienc_no v wd w h).mono fun e w' ⟨he, hw⟩ => ⟨he, by rw [← hw]; exact Below.refl _ _⟩
  · rw [if_neg h]
    obtain ⟨m, rfl⟩ := Int.eq_ofNat_of_zero_le (a := v) (by omega)
    obtain ⟨d, rfl⟩ := Int.eq_ofNat_of_zero_le (a := wd) (by omega)
    by_cases hz : 0 < dn (d : Int).toNat (m : Int).toNat
    · rw [if_pos hz]
      exact (ienc_big m d w (by omega) (by omega) hz).mono fun e w' ⟨he, hw⟩ => ⟨he, by rw [← hw]; exact Below.refl _ _⟩
    · rw [if_neg hz]
      exact ienc_yes m d w (by omega) (by omega) (by omega) hz
theorem fdec_any (s : ByteArray) (wd : Int) (hs : s.size ≤ 1048576) (w : World) :
    Calls Tryd.prog 13 #[.string s, .int .i64 wd] w fun e w' => ∃ (y : Int) (b : Bool), e = .returned (.tuple #[.int .i64 y, .bool b]) ∧ (1 ≤ wd → wd ≤ 7 → wd ≤ (s.size : Int) → y = (val256 (s.data.toList.take wd.toNat) 0 : Int) ∧ b = true) ∧ w = w' := by
  by_cases h : wd < 1 ∨ 7 < wd ∨ (s.size : Int) < wd
  · exact (idec_no s wd w h).mono fun e w' ⟨he, hw⟩ => ⟨0, false, he, fun a b c => by omega, hw⟩
  · obtain ⟨d, rfl⟩ := Int.eq_ofNat_of_zero_le (a := wd) (by omega)
    exact (idec_yes s d w (by omega) (by omega) (by unfold maxLen; omega) (by omega)).mono fun e w' ⟨he, hw⟩ => ⟨_, true, he, fun _ _ _ => ⟨rfl, rfl⟩, hw⟩
theorem size_list (l : List UInt8) : (⟨l.toArray⟩ : ByteArray).size = l.length := rfl
/-- DecodeFixed of what EncodeFixed returned, whatever follows. -/
theorem fix_back {v wd : Int} {F T : List UInt8} (hF : FixIs v wd F) (hne : F ≠ []) {y : Int} {b : Bool}
    (h : 1 ≤ wd → wd ≤ 7 → wd ≤ (((F ++ T).length : Nat) : Int) → y = (val256 ((F ++ T).take wd.toNat) 0 : Int) ∧ b = true) : y = v ∧ b = true ∧ (F.length : Int) = wd := by
  rcases hF with rfl | ⟨h0, h1, h7, hl, hv, _⟩
  · exact absurd rfl hne
  · obtain ⟨hy, hb⟩ := h h1 h7 (by simp; omega)
    have ht : (F ++ T).take wd.toNat = F := by rw [← hl]; simp
    rw [ht, hv] at hy
    exact ⟨by omega, hb, by omega⟩
/-- DecodeHex of what EncodeHex returned. -/
theorem hex_round (T : List UInt8) (hT : T.length ≤ 40) (w : World) :
    Calls Tryd.prog 16 #[.string ⟨(hexL T).toArray⟩] w fun e w' => e = .returned (.tuple #[.string ⟨T.toArray⟩, .bool true]) ∧ Below w.heap.size w w' := by
  have hl := hexL_len T
  refine (idh ⟨(hexL T).toArray⟩ w (by rw [size_list]; omega)).mono fun e w' ⟨he, hb⟩ => ⟨?_, hb⟩
  have h1 : hexR (⟨(hexL T).toArray⟩ : ByteArray).data.toList = T := (hex_back T).1
  have h2 : hexOk (⟨(hexL T).toArray⟩ : ByteArray).data.toList = true := (hex_back T).2
  rw [h1, h2] at he
  exact he
theorem hex_make (T : List UInt8) (hT : T.length ≤ 40) (w : World) :
    Calls Tryd.prog 15 #[.string ⟨T.toArray⟩] w fun e w' => e = .returned (.string ⟨(hexL T).toArray⟩) ∧ Below w.heap.size w w' :=
  ihex ⟨T.toArray⟩ w (by rw [size_list]; omega)
theorem itoa_short (v : Int) (h0 : -9223372036854775808 ≤ v) (h1 : v ≤ 9223372036854775807) : (Lib.itoa v).length ≤ 20 := by
  by_cases hneg : v < 0
  · obtain ⟨u, rfl⟩ : ∃ u : Nat, v = -(u : Int) := ⟨v.natAbs, by omega⟩
    have := dec_len u 19 (by omega) (by omega)
    rw [Lib.itoa_neg u (by omega), List.length_cons]; omega
  · obtain ⟨u, rfl⟩ : ∃ u : Nat, v = u := ⟨v.toNat, by omega⟩
    have := dec_len u 19 (by omega) (by omega)
    rw [Lib.itoa_nonneg]; omega
/-- ParseInt of what FormatInt returned, for numbers of at most nine digits. -/
theorem parse_small (v : Int) (h0 : -999999999 ≤ v) (h1 : v ≤ 999999999) (w : World) (hs : Sent w) (hp : Pow w) :
    Calls Tryd.prog 18 #[.string ⟨(Lib.itoa v).toArray⟩] w fun e w' => e = .returned (.tuple #[.int .i64 v, .bool true]) ∧ Below w.heap.size w w' := by
  have hl := itoa_short v (by omega) (by omega)
  refine (iparse ⟨(Lib.itoa v).toArray⟩ (by rw [size_list]; omega) w hs hp).mono fun e w' hq => ?_
  obtain ⟨hr, hb⟩ := hq
  refine ⟨?_, hb⟩
  rcases hr with ⟨n, hn, he⟩ | ⟨hn, _⟩
  · have h2 : Lib.itoa n = Lib.itoa v := hn.2.2
    rw [he, itoa_all h2]
  · exact absurd (show IsNum (Lib.itoa v) v from ⟨h0, h1, rfl⟩) (hn v)
/-- .. and for all others. -/
theorem parse_large (v : Int) (h : v < -999999999 ∨ 999999999 < v) (h0 : -9223372036854775808 ≤ v) (h1 : v ≤ 9223372036854775807) (w : World) (hs : Sent w) (hp : Pow w) :
    Calls Tryd.prog 18 #[.string ⟨(Lib.itoa v).toArray⟩] w fun e w' => e = .returned (.tuple #[.int .i64 0, .bool false]) ∧ Below w.heap.size w w' := by
  have hl := itoa_short v h0 h1
  refine (iparse ⟨(Lib.itoa v).toArray⟩ (by rw [size_list]; omega) w hs hp).mono fun e w' hq => ?_
  obtain ⟨hr, hb⟩ := hq
  refine ⟨?_, hb⟩
  rcases hr with ⟨n, hn, _⟩ | ⟨_, he⟩
  · have h2 : Lib.itoa n = Lib.itoa v := hn.2.2
    have h3 := itoa_all h2
    have := hn.1
    have := hn.2.1
    omega
  · exact he
end Go.Proofs.YtfnbogdpabicnaaDoor
