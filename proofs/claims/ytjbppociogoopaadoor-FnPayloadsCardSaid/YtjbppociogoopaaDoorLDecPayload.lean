/-
  The law on DecodePayload, walked.
-/
import Derived.Test.YtjbppociogoopaaDoorHeldF
import Derived.Test.YtjbppociogoopaaDoorGIF
namespace Go.Proofs.YtjbppociogoopaaDoor
open Go.RowKit Go.Deep Go.Proofs.YtjbppociogoopaaDoor.Num

/-- Of one text, one list comes. -/
theorem payP_one (L : List UInt8) : ∃ (l : List Fr) (b : Bool), l.length ≤ L.length ∧ ((decP L.length L = none ∧ l = [] ∧ b = false) ∨ (decP L.length L = some l ∧ b = decide (1 ≤ L.length ∧ L.length ≤ 400))) ∧
    ∀ w e w', PayP L w e w' → ∃ A cap, e = .returned (.tuple #[.slice A l.length cap, .bool b]) ∧ OwnF w' w.heap.size (.slice A l.length cap) l ∧ Frs w' w'.heap.size A l ∧ Below w.heap.size w w' := by
  cases hq : decP L.length L with
  | none =>
    refine ⟨[], false, by simp, .inl ⟨rfl, rfl, rfl⟩, ?_⟩
    rintro w e w' ⟨⟨v, l, b, rfl, ho, h⟩, hb⟩
    rw [hq] at h
    rcases h with ⟨_, rfl, rfl⟩ | ⟨h, _⟩
    · obtain ⟨A, cap, rfl, _, hf⟩ := ho.frs
      exact ⟨A, cap, rfl, ho, hf, hb⟩
    · cases h
  | some l =>
    have hl : ∀ (w : World) (e : Ending) (w' : World), PayP L w e w' → ∃ A cap, e = .returned (.tuple #[.slice A l.length cap, .bool (decide (1 ≤ L.length ∧ L.length ≤ 400))]) ∧ OwnF w' w.heap.size (.slice A l.length cap) l ∧ Frs w' w'.heap.size A l ∧ Below w.heap.size w w' := by
      rintro w e w' ⟨⟨v, l', b, rfl, ho, h⟩, hb⟩
      rw [hq] at h
      rcases h with ⟨h, _⟩ | ⟨h, _, rfl⟩
      · cases h
      · obtain rfl := Option.some.inj h
        obtain ⟨A, cap, rfl, _, hf⟩ := ho.frs
        exact ⟨A, cap, rfl, ho, hf, hb⟩
    exact ⟨l, _, decP_short _ _ _ hq, .inr ⟨rfl, rfl⟩, hl⟩

/-- The marks of a slice of the call's own: nothing, or a row. -/
theorem markanyF (l : List Fr) (v : Value) (base : Nat) (w : World) (ho : OwnF w base v l) (hn : l.length ≤ 10000000) :
    Calls Tryd.prog 39 #[v, .int .i64 1] w fun e w' => e = .returned (.int .i64 ((1 + 9 * l.length : Nat) : Int)) ∧ OwnF w' base v (marksF 1 l.length) ∧ Below base w w' := by
  have h0 := ho
  obtain ⟨_, h⟩ := h0
  rcases h with ⟨rfl, hz⟩ | ⟨g, cap, cur, rfl, _, _, _, _, _, _⟩
  · obtain rfl : l = [] := List.eq_nil_of_length_eq_zero hz
    refine (marknoneF w).mono ?_
    rintro e w' ⟨rfl, rfl⟩
    exact ⟨rfl, OwnF.empty, Below.refl _ _⟩
  · refine (markrowF l base g l.length cap w (OwnF.row ho) hn).mono ?_
    rintro e w' ⟨rfl, h1, h2⟩
    exact ⟨rfl, h1.own, h2⟩

set_option maxRecDepth 100000 in
set_option maxHeartbeats 1600000 in
/-- The law. -/
theorem law_DecodePayload (s : ByteArray) (w : World) (hs : s.size ≤ maxLen) (hF : Forms w) :
    Calls Tryd.prog 9 #[.string s] w fun e w' => e = .returned (.bool true) ∧ Below w.heap.size w w' := by
  by_cases hb : 1048576 < s.size
  · unfold maxLen at hs
    go_enter Tryd.func9, Tryd.ntmps9
    go_wp2
    go_ret
    exact ⟨rfl, Below.refl _ _⟩
  · have hn : s.size ≤ 1048576 := by omega
    have h3 : s.data.toList.length = s.size := by simp
    have HF := Lib.hid hF
    obtain ⟨l, b, hll, _, hone⟩ := payP_one s.data.toList
    have HO := Lib.hid hone
    have HS := Lib.hid (sdecp s w hn)
    have HI : Hid (∀ wi, Forms wi → Hid (Calls Tryd.prog 27 #[.string s] wi (PayP s.data.toList wi))) := Lib.hid fun wi h => Lib.hid (idecp s wi hn h)
    have hln : l.length ≤ 1048576 := by omega
    have hml : (marksF 1 l.length).length = l.length := marksF_len _ _
    clear hF hone hb hll
    go_enter Tryd.func9, Tryd.ntmps9
    go_wp2_with fail
    refine HS.out.mono ?_
    intro e1 w1 hp1
    obtain ⟨A1, c1, rfl, _, hi1, hb1⟩ := HO.out _ _ _ hp1
    have HI1 := Lib.hid hi1
    have HB1 := Lib.hid hb1
    clear hp1 hi1 hb1
    go_wp2_with fail
    refine (HI.out w1 (HF.out.keep (Nat.le_refl _) HB1.out)).out.mono ?_
    intro e2 w2 hp2
    obtain ⟨A2, c2, rfl, ho2, hi2, hb2⟩ := HO.out _ _ _ hp2
    have HO2 := Lib.hid ho2
    have HI2 := Lib.hid hi2
    have HB2 := Lib.hid hb2
    clear hp2 ho2 hi2 hb2
    go_wp2_with fail
    refine (eqframes l A2 A1 c2 c1 w2.heap.size w2 (Nat.le_refl _) HI2.out ((HI1.out.below (Nat.le_refl _) HB2.out).up HB2.out.size) (by omega)).mono ?_
    rintro e3 w3 ⟨rfl, hb3⟩
    have HO3 := Lib.hid (HO2.out.later hb3)
    have HC3 := Lib.hid (HB2.out.trans (hb3.mono HB2.out.size))
    clear hb3
    cases b
    all_goals
      go_wp2_with fail
      refine (markanyF l _ w1.heap.size w3 HO3.out (by omega)).mono ?_
      rintro e4 w4 ⟨rfl, ho4, hb4⟩
      obtain ⟨A4, c4, hv4, _, hi4⟩ := ho4.frs
      have hA4 : A4 = A2 := by
        injection hv4 with h1 _ _
        exact h1.symm
      subst hA4
      have HI4 := Lib.hid hi4
      have HC4 := Lib.hid (HC3.out.trans hb4)
      have HD4 := Lib.hid (HB1.out.trans (HC4.out.mono HB1.out.size))
      clear hb4 ho4 hi4 hv4
      go_wp2_with fail
      refine (heldF l.length A4 c2 w4.heap.size w4 (Nat.le_refl _) HI4.out (by omega)).mono ?_
      rintro e5 w5 ⟨rfl, hb5⟩
      have HI5 := Lib.hid (HI4.out.below (Nat.le_refl _) hb5)
      have HC5 := Lib.hid (HC4.out.trans (hb5.mono HC4.out.size))
      have HD5 := Lib.hid (HD4.out.trans (hb5.mono HD4.out.size))
      have hs45 : w4.heap.size ≤ w5.heap.size := hb5.size
      clear hb5
      go_wp2_with fail
      refine (HI.out w5 (HF.out.keep (Nat.le_refl _) HD5.out)).out.mono ?_
      intro e6 w6 hp6
      obtain ⟨A6, c6, rfl, _, hi6, hb6⟩ := HO.out _ _ _ hp6
      have HI6 := Lib.hid hi6
      have HB6 := Lib.hid hb6
      have HC6 := Lib.hid (HC5.out.trans (hb6.mono HC5.out.size))
      clear hp6 hi6 hb6
      go_wp2_with fail
      refine (eqframes l A6 A1 c6 c1 w6.heap.size w6 (Nat.le_refl _) HI6.out ((HI1.out.below (Nat.le_refl _) HC6.out).up HC6.out.size) (by omega)).mono ?_
      rintro e7 w7 ⟨rfl, hb7⟩
      have HB7 := Lib.hid (HB6.out.trans (hb7.mono HB6.out.size))
      have HI7 := Lib.hid (HI5.out.below hs45 HB7.out)
      have hs57 : w4.heap.size ≤ w7.heap.size := Nat.le_trans hs45 HB7.out.size
      have HD7 := Lib.hid (HD5.out.trans (HB7.out.mono HD5.out.size))
      clear hb7
      go_wp2_with fail
      refine (heldF l.length A4 c2 w4.heap.size w7 hs57 HI7.out (by omega)).mono ?_
      rintro e8 w8 ⟨rfl, hb8⟩
      have HD8 := Lib.hid (HD7.out.trans (hb8.mono HD7.out.size))
      clear hb8
      go_wp2
      go_ret
      exact ⟨rfl, HD8.out⟩
end Go.Proofs.YtjbppociogoopaaDoor
