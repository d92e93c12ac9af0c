/-
  What the drawing functions for the law on overlaps and popping return, for whatever bytes.
-/
import Derived.Test.YtjgabiklmloogaaDraw3
namespace Go.Proofs.Ytjgabiklmloogaa
open Go.RowKit Go.Deep Go.Proofs.Ytjgabiklmloogaa.Num

/-- Two lists of ranges come back; nothing that was there has changed. -/
def TwoP (w : World) (e : Ending) (w' : World) : Prop := ∃ (A A' : Option Addr) (cap cap' : Nat) (l m : List Rg), e = .returned (.tuple #[.slice A l.length cap, .slice A' m.length cap']) ∧ l.length ≤ 5 ∧ m.length ≤ 5 ∧ l.length ≤ cap ∧ m.length ≤ cap' ∧ InR l ∧ InR m ∧ Rgs w' w'.heap.size A l ∧ Rgs w' w'.heap.size A' m ∧ Below w.heap.size w w'
/-- A list of ranges and a number come back; nothing that was there has changed. -/
def NumberedP (lo hi : Int) (w : World) (e : Ending) (w' : World) : Prop := ∃ (A : Option Addr) (cap : Nat) (l : List Rg) (n : Int), e = .returned (.tuple #[.slice A l.length cap, .int .i64 n]) ∧ l.length ≤ 5 ∧ lo ≤ n ∧ n ≤ hi ∧ InR l ∧ Rgs w' w'.heap.size A l ∧ Below w.heap.size w w'

set_option maxRecDepth 100000 in
set_option maxHeartbeats 800000 in
/-- spec.DrawCommonRanges -/
theorem draw_com (A : Option Addr) (len cap : Nat) (w : World) (hlen : len ≤ maxLen) (hcode : Code w w.heap.size A len) :
    Calls Try.prog 14 #[.slice A len cap] w (TwoP w) := by
  have HC := Lib.hid hcode
  clear hcode
  go_enter Try.func14, Try.ntmps14
  go_wp2_with fail
  refine (dnew A len cap _ hlen HC.out).mono ?_
  rintro e w1 ⟨g, rfl, hg, d1, b1⟩
  have D1 := Lib.hid d1
  have B1 := Lib.hid b1
  have hlt := d1.lt
  clear d1 b1
  go_wp2_with fail
  refine (d3any g w.heap.size A len cap _ D1.out).mono ?_
  rintro e w2 ⟨v, l, rfl, o2, hl, hz2, d2, g2⟩
  have D2 := Lib.hid d2
  have O2 := Lib.hid o2
  have Z2 := Lib.hid hz2
  have B2 := Lib.hid (B1.out.trans (only_below g2 hg B1.out.size))
  clear d2 o2 hz2 g2
  go_wp2_with fail
  refine (d3any g w.heap.size A len cap _ D2.out).mono ?_
  rintro e w3 ⟨v', m, rfl, o3, hm, hz3, d3, g3⟩
  have O3 := Lib.hid o3
  have P3 := Lib.hid (O2.out.only g3 hlt)
  have Z3 := Lib.hid hz3
  have B3 := Lib.hid (B2.out.trans (only_below g3 hg B2.out.size))
  clear d3 o3 hz3 g3
  go_wp2
  go_ret2
  obtain ⟨A1, c1, rfl, k1, i1⟩ := P3.out.rgs
  obtain ⟨A2, c2, rfl, k2, i2⟩ := O3.out.rgs
  exact ⟨A1, A2, c1, c2, l, m, rfl, hl, hm, k1, k2, Z2.out, Z3.out, i1, i2, B3.out⟩

set_option maxRecDepth 100000 in
set_option maxHeartbeats 800000 in
/-- spec.DrawPopRange -/
theorem draw_pop (A : Option Addr) (len cap : Nat) (w : World) (hlen : len ≤ maxLen) (hcode : Code w w.heap.size A len) :
    Calls Try.prog 20 #[.slice A len cap] w (NumberedP (-1) 7 w) := by
  have HC := Lib.hid hcode
  clear hcode
  go_enter Try.func20, Try.ntmps20
  go_wp2_with fail
  refine (dnew A len cap _ hlen HC.out).mono ?_
  rintro e w1 ⟨g, rfl, hg, d1, b1⟩
  have D1 := Lib.hid d1
  have B1 := Lib.hid b1
  have hlt := d1.lt
  clear d1 b1
  go_wp2_with fail
  refine (d3any g w.heap.size A len cap _ D1.out).mono ?_
  rintro e w2 ⟨v, l, rfl, o2, hl, hz2, d2, g2⟩
  have D2 := Lib.hid d2
  have O2 := Lib.hid o2
  have Z2 := Lib.hid hz2
  have B2 := Lib.hid (B1.out.trans (only_below g2 hg B1.out.size))
  clear d2 o2 hz2 g2
  go_wp2_with fail
  refine (dbelow 9 (by decide) (by decide) g w.heap.size A len cap _ D2.out).mono ?_
  rintro e w3 ⟨n, rfl, n0, n1, d3, g3⟩
  have P3 := Lib.hid (O2.out.only g3 hlt)
  have B3 := Lib.hid (B2.out.trans (only_below g3 hg B2.out.size))
  clear d3 g3
  go_wp2
  go_ret2
  obtain ⟨A1, c1, rfl, k1, i1⟩ := P3.out.rgs
  exact ⟨A1, c1, l, n - 1, rfl, hl, by omega, by omega, Z2.out, i1, B3.out⟩
end Go.Proofs.Ytjgabiklmloogaa
