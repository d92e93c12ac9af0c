/-
  What the drawing functions of chapter 1 return, for whatever bytes: an int; a string of at most 40 bytes; an int and a width.
-/
import Derived.Test.YtfnbogdpabicnaaDoorDrawText
namespace Go.Proofs.YtfnbogdpabicnaaDoor
open Go.RowKit Go.Deep Go.Proofs.YtfnbogdpabicnaaDoor.Num

/-- An int comes back; nothing that was there has changed. -/
def IntP (w : World) (e : Ending) (w' : World) : Prop := ∃ x : Int, e = .returned (.int .i64 x) ∧ -9223372036854775808 ≤ x ∧ x ≤ 9223372036854775807 ∧ Below w.heap.size w w'
def StrP (most : Nat) (w : World) (e : Ending) (w' : World) : Prop := ∃ l : List UInt8, e = .returned (.string ⟨l.toArray⟩) ∧ l.length ≤ most ∧ Below w.heap.size w w'
def IntsP (w : World) (e : Ending) (w' : World) : Prop := ∃ x y : Int, e = .returned (.tuple #[.int .i64 x, .int .i64 y]) ∧ -9223372036854775808 ≤ x ∧ x ≤ 9223372036854775807 ∧ -1 ≤ y ∧ y ≤ 8 ∧ Below w.heap.size w w'
theorem Code.later {w w' : World} {A : Option Addr} {len : Nat} (c : Code w w.heap.size A len) (hb : Below w.heap.size w w') : Code w' w'.heap.size A len := by
  intro j hj
  obtain ⟨b, off, n, hA, hlt, h0, h1, hc⟩ := (c.keep (fun k hk => hb.block k hk)) j hj
  exact ⟨b, off, n, hA, Nat.lt_of_lt_of_le hlt hb.size, h0, h1, hc⟩

/-- spec.DrawEncodeVarint -/
theorem draw_ev (A : Option Addr) (len cap : Nat) (w : World) (hlen : len ≤ maxLen) (hcode : Code w w.heap.size A len) :
    Calls Tryd.prog 7 #[.slice A len cap] w (IntP w) := by
  have HC := Lib.hid hcode
  clear hcode
  go_enter Tryd.func7, Tryd.ntmps7
  go_wp2_with fail
  refine (dnew A len cap _ hlen HC.out).mono ?_
  rintro e w1 ⟨g, rfl, hg, d1, b1⟩
  go_wp2_with fail
  refine (dnum g w.heap.size A len cap _ d1).mono ?_
  rintro e w2 ⟨x, rfl, x0, x1, d2, g2⟩
  go_wp2
  go_ret
  exact ⟨x, rfl, x0, x1, b1.trans (only_below g2 hg b1.size)⟩

/-- spec.DrawEncodeHex -/
theorem draw_eh (A : Option Addr) (len cap : Nat) (w : World) (hlen : len ≤ maxLen) (hcode : Code w w.heap.size A len) :
    Calls Tryd.prog 8 #[.slice A len cap] w (StrP 40 w) := by
  have HC := Lib.hid hcode
  clear hcode
  go_enter Tryd.func8, Tryd.ntmps8
  go_wp2_with fail
  refine (dnew A len cap _ hlen HC.out).mono ?_
  rintro e w1 ⟨g, rfl, hg, d1, b1⟩
  go_wp2_with fail
  refine (dtext 40 (by decide) g w.heap.size A len cap _ d1).mono ?_
  rintro e w2 ⟨l, rfl, hl, d2, g2⟩
  go_wp2
  go_ret
  exact ⟨l, rfl, hl, b1.trans (only_below g2 hg b1.size)⟩

/-- spec.DrawEncodeFixed -/
theorem draw_ef (A : Option Addr) (len cap : Nat) (w : World) (hlen : len ≤ maxLen) (hcode : Code w w.heap.size A len) :
    Calls Tryd.prog 11 #[.slice A len cap] w (IntsP w) := by
  have HC := Lib.hid hcode
  clear hcode
  go_enter Tryd.func11, Tryd.ntmps11
  go_wp2_with fail
  refine (dnew A len cap _ hlen HC.out).mono ?_
  rintro e w1 ⟨g, rfl, hg, d1, b1⟩
  go_wp2_with fail
  refine (dnum g w.heap.size A len cap _ d1).mono ?_
  rintro e w2 ⟨x, rfl, x0, x1, d2, g2⟩
  go_wp2_with fail
  refine (dbelow 10 (by decide) (by decide) g w.heap.size A len cap _ d2).mono ?_
  rintro e w3 ⟨y, rfl, y0, y1, d3, g3⟩
  go_wp2
  go_ret2
  exact ⟨x, y - 1, rfl, x0, x1, by omega, by omega, b1.trans (only_below (only_trans g2 g3) hg b1.size)⟩
end Go.Proofs.YtfnbogdpabicnaaDoor
