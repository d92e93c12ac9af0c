/-
  The law on EncodeQuic, walked, where the table of forms holds what the program's text lays there.
-/
import Derived.Test.YthigojonagocgaaDoorIEncQ
import Derived.Test.YthigojonagocgaaDoorSEncQ
namespace Go.Proofs.YthigojonagocgaaDoor
open Go.RowKit Go.Deep Go.Proofs.YthigojonagocgaaDoor.Num

/-- The law. -/
theorem law_EncodeQuic (n : Int) (w : World) (hn : -9223372036854775808 ≤ n ∧ n ≤ 9223372036854775807) (hF : Forms w) :
    Calls Tryd.prog 5 #[.int .i64 n] w fun e w' => e = .returned (.bool true) ∧ Below w.heap.size w w' := by
  have HC := Lib.hid (sencq n w hn)
  have HI : Hid (∀ w1, Below w.heap.size w w1 → Hid (Calls Tryd.prog 12 #[.int .i64 n] w1 fun e w' => e = .returned (.string ⟨(encQ n).toArray⟩) ∧ Below w1.heap.size w1 w')) := Lib.hid fun w1 h1 => Lib.hid (iencq n w1 (hF.keep (Nat.le_refl _) h1))
  have hlen := encQ_len n
  have h8 : qsz n ≤ 8 := by rcases qsz_cases n with h | h | h | h | h <;> omega
  clear hF
  generalize encQ n = l at *
  go_enter Tryd.func5, Tryd.ntmps5
  go_wp2_with fail
  refine HC.out.mono ?_
  rintro e w1 ⟨rfl, hb1⟩
  go_wp2_with fail
  refine (HI.out w1 hb1).out.mono ?_
  rintro e w2 ⟨rfl, hb2⟩
  go_wp2
  go_ret
  exact ⟨rfl, hb1.trans (hb2.mono hb1.size)⟩
end Go.Proofs.YthigojonagocgaaDoor
