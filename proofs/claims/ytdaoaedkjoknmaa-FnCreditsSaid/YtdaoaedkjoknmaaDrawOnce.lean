/-
  What the drawing function spec.l1Once returns.
-/
import Derived.Test.YtdaoaedkjoknmaaDrawNew
namespace Go.Proofs.Ytdaoaedkjoknmaa
open Go.RowKit Go.Deep Go.Proofs.Ytdaoaedkjoknmaa.Num

/-- A bool comes back; nothing but the cursor has changed. -/
def BoolP (g B : Nat) (A : Option Addr) (len cap : Nat) (w : World) (e : Ending) (w' : World) : Prop :=
  ∃ b : Bool, e = .returned (.bool b) ∧ Draw w' g B A len cap ∧ w.grownBy w' (some g)

/-- spec.l1Once -/
theorem donce (n : Int) (h0 : 0 < n) (hn : n ≤ 4000000000) (g B : Nat) (A : Option Addr) (len cap : Nat) (w : World) (d : Draw w g B A len cap) :
    Calls Try.prog 40 #[.pointer (some ⟨g, 0, none⟩), .int .i64 n] w (BoolP g B A len cap w) := by
  have D := Lib.hid d
  clear d
  go_enter Try.func40, Try.ntmps40
  go_wp2_with fail
  refine (dbelow n h0 hn g B A len cap _ D.out).mono ?_
  rintro e w1 ⟨x, rfl, x0, x1, d1, g1⟩
  go_wp2
  go_ret
  exact ⟨_, rfl, d1, g1⟩
end Go.Proofs.Ytdaoaedkjoknmaa
