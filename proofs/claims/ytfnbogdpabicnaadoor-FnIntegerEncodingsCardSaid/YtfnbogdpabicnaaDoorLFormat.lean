/-
  The law on FormatInt, walked, where the library's table holds what the program's text lays there.
-/
import Derived.Test.YtfnbogdpabicnaaDoorSFormat
import Derived.Test.YtfnbogdpabicnaaDoorIFormat
namespace Go.Proofs.YtfnbogdpabicnaaDoor
open Go.RowKit Go.Deep Go.Proofs.YtfnbogdpabicnaaDoor.Num

theorem gPow : Tryd.prog.globalNamed powName = some 2 := by kernel_rfl
theorem pow_lt {w : World} (h : Pow w) : 2 < w.heap.size := Lib.lt_of_cell (Lib.TabIs.cell h gPow 0 (by decide))
theorem Pow.keep {w w' : World} (h : Pow w) (hb : Below w.heap.size w w') : Pow w' := tab_keep gPow h hb (pow_lt h)

/-- The law. -/
theorem law_FormatInt (n : Int) (w : World) (hn : (Lit.int .i64 n).wf = true) (hp : Pow w) :
    Calls Tryd.prog 4 #[.int .i64 n] w fun e w' => e = .returned (.bool true) ∧ Below w.heap.size w w' := by
  have hn' : -9223372036854775808 ≤ n ∧ n ≤ 9223372036854775807 := by
    simp [Lit.wf, IntKind.min, IntKind.max, IntKind.signed, IntKind.bits] at hn; omega
  obtain ⟨h0, h1⟩ := hn'
  have HP := Lib.hid hp
  clear hn hp
  go_enter Tryd.func4, Tryd.ntmps4
  go_wp2_with (first | (go_at_call 19; refine (sfmt n _ h0 h1).mono ?_; rintro e w1 ⟨rfl, hb1⟩) | (go_at_call 17; refine (ifmt n _ h0 h1 (HP.out.keep hb1)).mono ?_; rintro e w2 ⟨rfl, hb2⟩))
  go_ret
  exact ⟨rfl, hb1.trans (hb2.mono hb1.size)⟩
end Go.Proofs.YtfnbogdpabicnaaDoor
