/-
  What spec.ParseInt returns: the number of at most nine digits that the string spells, or 0 and false.
-/
import Derived.Test.YtfnbogdpabicnaaDoorSFormat
namespace Go.Proofs.YtfnbogdpabicnaaDoor
open Go.RowKit Go.Deep Go.Proofs.YtfnbogdpabicnaaDoor.Num

/-- The number that l spells and true, or 0 and false where it spells none. -/
def ParsePost (l : List UInt8) (W : World) (e : Ending) (W' : World) : Prop :=
  ((∃ n : Int, IsNum l n ∧ e = .returned (.tuple #[.int .i64 n, .bool true])) ∨ ((∀ n, ¬ IsNum l n) ∧ e = .returned (.tuple #[.int .i64 0, .bool false]))) ∧ Below W.heap.size W W'

theorem itoa_eq (s : ByteArray) (n : Int) : ((Lib.itoa n) == s.toList) = decide (Lib.itoa n = s.data.toList) := by
  rw [ByteArray.toList_eq, Bool.eq_iff_iff]; simp

set_option maxRecDepth 100000 in
set_option maxHeartbeats 800000 in
theorem sparse (s : ByteArray) (w : World) (hs : s.size ≤ maxLen) :
    Calls Tryd.prog 20 #[.string s] w (ParsePost s.data.toList w) := by
  unfold maxLen at hs
  go_enter Tryd.func20, Tryd.ntmps20
  go_wp2
  go_loop [4, 5, 6] (fun n k i => ∃ j : Nat, j ≤ 11 ∧ j ≤ s.size ∧ i = .int .i64 j ∧ n = .int .i64 (scanN s.data.toList j) ∧ k = .int .i64 (scanK s.data.toList j)) (fun _ _ i => 11 - (intOf i).toNat)
  case atStart => exact ⟨0, by omega, by omega, rfl, rfl, rfl⟩
  case round =>
    obtain ⟨j, h11, hjs, rfl, rfl, rfl⟩ := hrel
    by_cases hlt : j < s.size ∧ j < 11
    · obtain ⟨hls, hl11⟩ := hlt
      have hb := scanN_small s.data.toList j (by omega)
      have hk := scanK_le s.data.toList j
      have hcc := s[j].toNat_lt
      by_cases hd : isD s[j] = true
      · have HY := Lib.hid (scan_yes s.data.toList j (by simpa using hls) hd)
        have hd' : 48 ≤ s[j].toNat ∧ s[j].toNat ≤ 57 := by simpa [isD] using hd
        obtain ⟨d1, d2⟩ := hd'
        clear hd
        go_wp2
        go_round
        case rel => exact ⟨j + 1, by omega, by omega, by go_num, by rw [HY.out.1, byte_at s j hls]; go_num, by rw [HY.out.2]; go_num⟩
        case measure => simp [intOf]; omega
      · have hd0 : isD s[j] = false := by simpa using hd
        have HY := Lib.hid (scan_no s.data.toList j (by simpa using hls) hd0)
        have hd' : s[j].toNat < 48 ∨ 57 < s[j].toNat := by
          have : ¬ (48 ≤ s[j].toNat ∧ s[j].toNat ≤ 57) := by simpa [isD] using hd
          omega
        clear hd hd0
        rcases hd' with d1 | d1
        · have d2 : ¬ 48 ≤ s[j].toNat := by omega
          go_wp2
          go_round
          case rel => exact ⟨j + 1, by omega, by omega, by go_num, by rw [HY.out.1], by rw [HY.out.2]⟩
          case measure => simp [intOf]; omega
        · have d2 : 48 ≤ s[j].toNat := by omega
          go_wp2
          go_round
          case rel => exact ⟨j + 1, by omega, by omega, by go_num, by rw [HY.out.1], by rw [HY.out.2]⟩
          case measure => simp [intOf]; omega
    · have he : s.data.toList.take j = s.data.toList.take 11 := scan_end _ _ (by simp; omega)
      have eN : scanN s.data.toList j = scanN s.data.toList 11 := by unfold scanN; rw [he]
      have eK : scanK s.data.toList j = scanK s.data.toList 11 := by unfold scanK; rw [he]
      rw [eN, eK]
      clear he eN eK
      have hN := scanN_small s.data.toList 11 (by omega)
      have hV : scanV s.data.toList = if s.data.toList.head? = some 45 then -(scanN s.data.toList 11 : Int) else (scanN s.data.toList 11 : Int) := rfl
      have hK : scanK s.data.toList 11 = scanK s.data.toList 11 := rfl
      generalize scanN s.data.toList 11 = N at hN hV ⊢
      generalize hKK : scanK s.data.toList 11 = K at hK ⊢
      have HK := Lib.hid hKK
      clear hKK hK
      by_cases h0 : 0 < s.size
      · have hh : s.data.toList.head? = some s[0] := by
          rw [List.head?_eq_getElem?, List.getElem?_eq_getElem (by simpa using h0)]; rfl
        rw [hh] at hV
        clear hh
        by_cases h45 : s[0] = 45
        · have hb45 : ((s[0].toNat : Int) == 45) = true := by rw [h45]; rfl
          rw [if_pos (by rw [h45])] at hV
          have HV := Lib.hid hV
          clear hV h45
          by_cases hk9 : 9 < K
          · go_wp2
            all_goals go_ret2
            all_goals exact ⟨.inr ⟨fun n hn => by have := (scan_num hn).2.1; have := HK.out; omega, rfl⟩, Below.refl _ _⟩
          · by_cases h10 : 10 < s.size
            · go_wp2
              all_goals go_ret2
              all_goals exact ⟨.inr ⟨fun n hn => by have := (scan_num hn).1; simp at this; omega, rfl⟩, Below.refl _ _⟩
            · by_cases hq : Lib.itoa (-(N : Int)) = s.data.toList
              · have hb : ((Lib.itoa (-(N : Int))) == s.toList) = true := by rw [itoa_eq]; exact decide_eq_true hq
                have HQ := Lib.hid hq
                clear hq
                go_wp2_with (go_at_call 19; refine (sfmt (-(N : Int)) _ (by omega) (by omega)).mono ?_; rintro e w1 ⟨rfl, hb1⟩)
                go_ret2
                exact ⟨.inl ⟨_, by have h := scan_is (l := s.data.toList) (by have := HK.out; omega) (by rw [HV.out]; exact HQ.out); rw [HV.out] at h; exact h, rfl⟩, hb1⟩
              · have hb : ((Lib.itoa (-(N : Int))) == s.toList) = false := by rw [itoa_eq]; exact decide_eq_false hq
                have HQ := Lib.hid hq
                clear hq
                go_wp2_with (go_at_call 19; refine (sfmt (-(N : Int)) _ (by omega) (by omega)).mono ?_; rintro e w1 ⟨rfl, hb1⟩)
                go_ret2
                exact ⟨.inr ⟨fun n hn => HQ.out (by have h1 := (scan_num hn).2.2; rw [HV.out] at h1; rw [h1]; exact hn.2.2), rfl⟩, hb1⟩
        · have hb45 : ((s[0].toNat : Int) == 45) = false := by
            rw [beq_eq_false_iff_ne]
            intro he
            exact h45 (UInt8.toNat_inj.1 (by have : s[0].toNat = 45 := by omega
                                             exact this))
          rw [if_neg (by intro he; exact h45 (Option.some.inj he))] at hV
          have HV := Lib.hid hV
          clear hV h45
          by_cases hk9 : 9 < K
          · go_wp2
            all_goals go_ret2
            all_goals exact ⟨.inr ⟨fun n hn => by have := (scan_num hn).2.1; have := HK.out; omega, rfl⟩, Below.refl _ _⟩
          · by_cases h10 : 10 < s.size
            · go_wp2
              all_goals go_ret2
              all_goals exact ⟨.inr ⟨fun n hn => by have := (scan_num hn).1; simp at this; omega, rfl⟩, Below.refl _ _⟩
            · by_cases hq : Lib.itoa ((N : Int)) = s.data.toList
              · have hb : ((Lib.itoa ((N : Int))) == s.toList) = true := by rw [itoa_eq]; exact decide_eq_true hq
                have HQ := Lib.hid hq
                clear hq
                go_wp2_with (go_at_call 19; refine (sfmt ((N : Int)) _ (by omega) (by omega)).mono ?_; rintro e w1 ⟨rfl, hb1⟩)
                go_ret2
                exact ⟨.inl ⟨_, by have h := scan_is (l := s.data.toList) (by have := HK.out; omega) (by rw [HV.out]; exact HQ.out); rw [HV.out] at h; exact h, rfl⟩, hb1⟩
              · have hb : ((Lib.itoa ((N : Int))) == s.toList) = false := by rw [itoa_eq]; exact decide_eq_false hq
                have HQ := Lib.hid hq
                clear hq
                go_wp2_with (go_at_call 19; refine (sfmt ((N : Int)) _ (by omega) (by omega)).mono ?_; rintro e w1 ⟨rfl, hb1⟩)
                go_ret2
                exact ⟨.inr ⟨fun n hn => HQ.out (by have h1 := (scan_num hn).2.2; rw [HV.out] at h1; rw [h1]; exact hn.2.2), rfl⟩, hb1⟩
      · have hh : s.data.toList.head? = none := by
          have : s.data.toList = [] := List.eq_nil_of_length_eq_zero (by have e : s.data.toList.length = s.size := Array.length_toList; omega)
          rw [this]; rfl
        rw [hh, if_neg (by simp)] at hV
        have HV := Lib.hid hV
        clear hV hh
        by_cases hk9 : 9 < K
        · go_wp2
          go_ret2
          exact ⟨.inr ⟨fun n hn => by have := (scan_num hn).2.1; have := HK.out; omega, rfl⟩, Below.refl _ _⟩
        · have h10 : ¬ 10 < s.size := by omega
          by_cases hq : Lib.itoa ((N : Int)) = s.data.toList
          · have hb : ((Lib.itoa ((N : Int))) == s.toList) = true := by rw [itoa_eq]; exact decide_eq_true hq
            have HQ := Lib.hid hq
            clear hq
            go_wp2_with (go_at_call 19; refine (sfmt ((N : Int)) _ (by omega) (by omega)).mono ?_; rintro e w1 ⟨rfl, hb1⟩)
            go_ret2
            exact ⟨.inl ⟨_, by have h := scan_is (l := s.data.toList) (by have := HK.out; omega) (by rw [HV.out]; exact HQ.out); rw [HV.out] at h; exact h, rfl⟩, hb1⟩
          · have hb : ((Lib.itoa ((N : Int))) == s.toList) = false := by rw [itoa_eq]; exact decide_eq_false hq
            have HQ := Lib.hid hq
            clear hq
            go_wp2_with (go_at_call 19; refine (sfmt ((N : Int)) _ (by omega) (by omega)).mono ?_; rintro e w1 ⟨rfl, hb1⟩)
            go_ret2
            exact ⟨.inr ⟨fun n hn => HQ.out (by have h1 := (scan_num hn).2.2; rw [HV.out] at h1; rw [h1]; exact hn.2.2), rfl⟩, hb1⟩
end Go.Proofs.YtfnbogdpabicnaaDoor
