/-
  The law on DecodeQuics, walked, where the table of forms holds what the program's text lays there.
-/
import Derived.Test.YthigojonagocgaaDoorMarks
import Derived.Test.YthigojonagocgaaDoorIDecQs
namespace Go.Proofs.YthigojonagocgaaDoor
open Go.RowKit Go.Deep Go.Proofs.YthigojonagocgaaDoor.Num

/-- Of one list of bytes, one list comes. -/
theorem listP_one (l : List UInt8) : ∃ zs b, ∀ w e w', ListP l w e w' → ∃ A cap, zs.length ≤ l.length ∧ e = .returned (.tuple #[.slice A zs.length cap, .bool b]) ∧ OwnI w' w.heap.size (.slice A zs.length cap) zs ∧ Ints w' w'.heap.size A zs ∧ Below w.heap.size w w' := by
  cases hq : decQs l.length l with
  | none =>
    refine ⟨[], false, ?_⟩
    rintro w e w' (⟨v, zs, a1, _⟩ | ⟨v, a1, rfl, a4, a5⟩)
    · rw [hq] at a1; cases a1
    · obtain ⟨A, cap, rfl, _, hi⟩ := a4.ints
      exact ⟨A, cap, by simp, rfl, a4, hi, a5⟩
  | some zs =>
    refine ⟨zs, true, ?_⟩
    rintro w e w' (⟨v, zs', a1, a2, rfl, a4, a5⟩ | ⟨v, a1, _⟩)
    · obtain rfl := Option.some.inj (hq.symm.trans a1)
      obtain ⟨A, cap, rfl, _, hi⟩ := a4.ints
      exact ⟨A, cap, a2, rfl, a4, hi, a5⟩
    · rw [hq] at a1; cases a1

/-- The marks of a slice of the call's own: nothing, or a row. -/
theorem mark_any (zs : List Int) (v : Value) (base : Nat) (w : World) (ho : OwnI w base v zs) (hn : zs.length ≤ 1000000000) :
    Calls Tryd.prog 31 #[v, .int .i64 1] w fun e w' => e = .returned (.int .i64 (1 + (zs.length : Int))) ∧ OwnI w' base v (marks 1 zs.length) ∧ Below base w w' := by
  have h0 := ho
  obtain ⟨_, h⟩ := h0
  rcases h with ⟨rfl, hz⟩ | ⟨g, cap, cur, rfl, _, _, _, _, _, _⟩
  · obtain rfl : zs = [] := List.eq_nil_of_length_eq_zero hz
    refine (mark_nil w).mono ?_
    rintro e w' ⟨rfl, rfl⟩
    exact ⟨rfl, OwnI.empty, Below.refl _ _⟩
  · refine (mark zs base g cap w ho hn).mono ?_
    rintro e w' ⟨rfl, h1, h2⟩
    refine ⟨rfl, ?_, h2⟩
    rw [marks_len] at h1
    unfold OwnI at h1 ⊢
    rwa [marks_len] at h1 ⊢

set_option maxRecDepth 100000 in
set_option maxHeartbeats 1600000 in
/-- The law. -/
theorem law_DecodeQuics (s : ByteArray) (w : World) (hs : s.size ≤ maxLen) (hF : Forms w) :
    Calls Tryd.prog 9 #[.string s] w fun e w' => e = .returned (.bool true) ∧ Below w.heap.size w w' := by
  by_cases hb : 1048576 < s.size
  · unfold maxLen at hs
    go_enter Tryd.func9, Tryd.ntmps9
    go_wp2
    go_ret
    exact ⟨rfl, Below.refl _ _⟩
  · have hn : s.size ≤ 1048576 := by omega
    have h3 : s.data.toList.length = s.size := by simp
    have HF := Lib.hid hF
    obtain ⟨zs, b, hone⟩ := listP_one s.data.toList
    have HO := Lib.hid hone
    have HS := Lib.hid (sdecqs s w hn)
    have HI : Hid (∀ wi, Forms wi → Hid (Calls Tryd.prog 21 #[.string s] wi (ListP s.data.toList wi))) := Lib.hid fun wi h => Lib.hid (idecqs s wi h hn)
    clear hF hone hb
    go_enter Tryd.func9, Tryd.ntmps9
    go_wp2_with fail
    refine HS.out.mono ?_
    intro e1 w1 hp1
    obtain ⟨A1, c1, hzl, rfl, _, hi1, hb1⟩ := HO.out _ _ _ hp1
    have HI1 := Lib.hid hi1
    have HB1 := Lib.hid hb1
    have hzn : zs.length ≤ 1048576 := by omega
    clear hp1 hi1 hb1 hzl
    go_wp2_with fail
    refine (HI.out w1 (HF.out.keep (Nat.le_refl _) HB1.out)).out.mono ?_
    intro e2 w2 hp2
    obtain ⟨A2, c2, _, rfl, ho2, hi2, hb2⟩ := HO.out _ _ _ hp2
    have HO2 := Lib.hid ho2
    have HI2 := Lib.hid hi2
    have HB2 := Lib.hid hb2
    clear hp2 ho2 hi2 hb2
    go_wp2_with fail
    refine (eqints zs A2 A1 c2 c1 w2.heap.size w2 (Nat.le_refl _) HI2.out ((HI1.out.below (Nat.le_refl _) HB2.out).up HB2.out.size) (by omega)).mono ?_
    rintro e3 w3 ⟨rfl, hb3⟩
    have HO3 := Lib.hid (HO2.out.later hb3)
    have HC3 := Lib.hid (HB2.out.trans (hb3.mono HB2.out.size))
    clear hb3
    cases b
    all_goals
      go_wp2_with fail
      refine (mark_any zs _ w1.heap.size w3 HO3.out (by omega)).mono ?_
      rintro e4 w4 ⟨rfl, ho4, hb4⟩
      obtain ⟨A4, c4, hv4, _, hi4⟩ := ho4.ints
      have hA4 : A4 = A2 := by
        injection hv4 with h1 _ _
        exact h1.symm
      subst hA4
      have HI4 := Lib.hid hi4
      have HC4 := Lib.hid (HC3.out.trans hb4)
      have HD4 := Lib.hid (HB1.out.trans (HC4.out.mono HB1.out.size))
      clear hb4 ho4 hi4 hv4
      go_wp2_with fail
      refine (held zs.length A4 c2 w4.heap.size w4 HI4.out (by omega)).mono ?_
      rintro e5 w5 ⟨rfl, rfl⟩
      go_wp2_with fail
      refine (HI.out w5 (HF.out.keep (Nat.le_refl _) HD4.out)).out.mono ?_
      intro e6 w6 hp6
      obtain ⟨A6, c6, _, rfl, _, hi6, hb6⟩ := HO.out _ _ _ hp6
      have HI6 := Lib.hid hi6
      have HB6 := Lib.hid hb6
      have HC6 := Lib.hid (HC4.out.trans (hb6.mono HC4.out.size))
      clear hp6 hi6 hb6
      go_wp2_with fail
      refine (eqints zs A6 A1 c6 c1 w6.heap.size w6 (Nat.le_refl _) HI6.out ((HI1.out.below (Nat.le_refl _) HC6.out).up HC6.out.size) (by omega)).mono ?_
      rintro e7 w7 ⟨rfl, hb7⟩
      have HB7 := Lib.hid (HB6.out.trans (hb7.mono HB6.out.size))
      have HI7 := Lib.hid (HI4.out.below (Nat.le_refl _) HB7.out)
      clear hb7
      go_wp2_with fail
      refine (held zs.length A4 c2 w5.heap.size w7 HI7.out (by omega)).mono ?_
      rintro e8 w8 ⟨rfl, rfl⟩
      go_wp2
      go_ret
      exact ⟨rfl, HD4.out.trans (HB7.out.mono HD4.out.size)⟩
end Go.Proofs.YthigojonagocgaaDoor
