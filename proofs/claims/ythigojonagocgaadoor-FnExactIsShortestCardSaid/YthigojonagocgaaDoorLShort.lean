/-
  The law on IsShortest, walked, where the table of forms holds what the program's text lays there.
-/
import Derived.Test.YthigojonagocgaaDoorIShort
import Derived.Test.YthigojonagocgaaDoorSShort
namespace Go.Proofs.YthigojonagocgaaDoor
open Go.RowKit Go.Deep Go.Proofs.YthigojonagocgaaDoor.Num

/-- The law. -/
theorem law_IsShortest (s : ByteArray) (a : Int) (w : World) (hs : s.size ≤ maxLen) (hF : Forms w) :
    Calls Tryd.prog 7 #[.string s, .int .i64 a] w fun e w' => e = .returned (.bool true) ∧ Below w.heap.size w w' := by
  by_cases hb : 1048576 < s.size
  · go_enter Tryd.func7, Tryd.ntmps7
    go_wp2
    go_ret
    exact ⟨rfl, Below.refl _ _⟩
  · by_cases h0 : a < 0 ∨ decL (s.data.toList.drop a.toNat) = none
    · have HC := Lib.hid (sshort_no s a w hs h0)
      have HI := Lib.hid (ishort_no s a w hF hs h0)
      clear hF h0
      go_enter Tryd.func7, Tryd.ntmps7
      go_wp2_with fail
      refine HC.out.mono ?_
      rintro e w1 ⟨rfl, rfl⟩
      go_wp2_with fail
      refine HI.out.mono ?_
      rintro e w2 ⟨rfl, hb2⟩
      go_wp2
      go_ret
      exact ⟨rfl, hb2⟩
    · obtain ⟨m, rfl⟩ := Int.eq_ofNat_of_zero_le (by omega : 0 ≤ a)
      obtain ⟨n, k, hd⟩ : ∃ n k, decL (s.data.toList.drop m) = some (n, k) := by
        rw [Int.toNat_natCast] at h0
        cases hq : decL (s.data.toList.drop m) with
        | none => exact absurd (Or.inr hq) h0
        | some x => exact ⟨x.1, x.2, rfl⟩
      have HC := Lib.hid (sshort_yes s m n k w hs hd)
      have HI := Lib.hid (ishort_yes s m n k w hF hs hd)
      clear hF h0 hd
      generalize (k == qsz (n : Int)) = b at *
      go_enter Tryd.func7, Tryd.ntmps7
      go_wp2_with fail
      refine HC.out.mono ?_
      rintro e w1 ⟨rfl, rfl⟩
      go_wp2_with fail
      refine HI.out.mono ?_
      rintro e w2 ⟨rfl, hb2⟩
      cases b
      all_goals
        go_wp2
        go_ret
        exact ⟨rfl, hb2⟩
end Go.Proofs.YthigojonagocgaaDoor
