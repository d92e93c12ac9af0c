/-
  What the drawing functions for the law on ranges return, for whatever bytes.
-/
import Derived.Test.YtjgabiklmloogaaDoorDraw3
import Derived.Test.YtjgabiklmloogaaDoorSRng4
namespace Go.Proofs.YtjgabiklmloogaaDoor
open Go.RowKit Go.Deep Go.Proofs.YtjgabiklmloogaaDoor.Num

/-- Two lists of ranges come back; nothing that was there has changed. -/
def TwoP (w : World) (e : Ending) (w' : World) : Prop := ∃ (A A' : Option Addr) (cap cap' : Nat) (l m : List Rg), e = .returned (.tuple #[.slice A l.length cap, .slice A' m.length cap']) ∧ l.length ≤ 5 ∧ m.length ≤ 5 ∧ Rgs w' w'.heap.size A l ∧ Rgs w' w'.heap.size A' m ∧ Below w.heap.size w w'
/-- A list of ranges and a number come back; nothing that was there has changed. -/
def NumberedP (w : World) (e : Ending) (w' : World) : Prop := ∃ (A : Option Addr) (cap : Nat) (l : List Rg) (n : Int), e = .returned (.tuple #[.slice A l.length cap, .int .i64 n]) ∧ l.length ≤ 5 ∧ -1 ≤ n ∧ n ≤ 26 ∧ Rgs w' w'.heap.size A l ∧ Below w.heap.size w w'
/-- A list of ranges and a range come back; nothing that was there has changed. -/
def RangedP (w : World) (e : Ending) (w' : World) : Prop := ∃ (A : Option Addr) (cap : Nat) (l : List Rg) (y : Rg), e = .returned (.tuple #[.slice A l.length cap, rgV y]) ∧ l.length ≤ 5 ∧ InR [y] ∧ Rgs w' w'.heap.size A l ∧ Below w.heap.size w w'
/-- A list of ranges comes back; nothing that was there has changed. -/
def ListedP (w : World) (e : Ending) (w' : World) : Prop := ∃ (A : Option Addr) (cap : Nat) (l : List Rg), e = .returned (.slice A l.length cap) ∧ l.length ≤ 5 ∧ InR l ∧ Rgs w' w'.heap.size A l ∧ Below w.heap.size w w'

theorem results_cell2 {P : Program} {fn : Func} {p u : Tmp} {ty : TypeId} (h : fn.results = #[.tmp u, .cell p ty]) (tmps : Array Value) (w : World) (g : Nat) (t : TypeId) (cs : Array Value) (fr : Nat × Nat) (d : TypeDesc)
    (hp : tmps.getD p undef = .pointer (some ⟨g, 0, none⟩)) (hg : w.heap[g]? = some (.cells cs t fr))
    (hu : P.underlying ty = some d) (hd : (match d with | .struct _ | .array _ _ => true | _ => false) = true) (hi : (P.info? ty).map (·.size) = some cs.size) :
    (results fn tmps).run P w = .ok (.tuple #[tmps.getD u undef, .agg cs]) w := by
  have hp' : tmps[p]?.getD undef = .pointer (some ⟨g, 0, none⟩) := by simpa using hp
  simp [results, h, hp', asAddr, run_loadVar_row w g t ty cs fr d hg hu hd hi]

set_option maxRecDepth 100000 in
set_option maxHeartbeats 800000 in
/-- spec.DrawAddRange -/
theorem draw_add (A : Option Addr) (len cap : Nat) (w : World) (hlen : len ≤ maxLen) (hcode : Code w w.heap.size A len) :
    Calls Tryd.prog 6 #[.slice A len cap] w (RangedP w) := by
  have B0 := Lib.hid ((Below.refl w.heap.size w).alloc (Nat.le_refl _) (.cells #[.int .i64 0, .int .i64 0] 26))
  have X0 := Lib.hid (Box.new w (0, 0))
  have hk0 : w.heap.size < (w.alloc (.cells #[.int .i64 0, .int .i64 0] 26)).heap.size := by simp
  have HC := Lib.hid (Code.later hcode B0.out)
  clear hcode
  go_enter Tryd.func6, Tryd.ntmps6
  go_wp2_with fail
  refine (dnew A len cap _ hlen HC.out).mono ?_
  rintro e w1 ⟨g, rfl, hg, d1, b1⟩
  have D1 := Lib.hid d1
  have B1 := Lib.hid (B0.out.trans (b1.mono (Nat.le_of_lt hk0)))
  have X1 : Hid (Box w1 w.heap.size (0, 0)) := Lib.hid ((b1.block _ hk0).trans X0.out)
  have hlt := d1.lt
  have hwg : w.heap.size < g := by omega
  clear d1 b1
  go_wp2_with fail
  refine (d3any g _ A len cap _ D1.out).mono ?_
  rintro e w2 ⟨v, l, rfl, o2, hl, hz2, d2, g2⟩
  have D2 := Lib.hid d2
  have O2 := Lib.hid o2
  have B2 := Lib.hid (B1.out.trans (only_below g2 (Nat.le_of_lt hwg) B1.out.size))
  have X2 : Hid (Box w2 w.heap.size (0, 0)) := Lib.hid (Box.only X1.out g2 (by omega))
  clear d2 o2 hz2 g2
  go_wp2_with fail
  refine (d3range g _ A len cap _ D2.out).mono ?_
  rintro e w3 ⟨y, rfl, hy, d3, g3⟩
  have O3 := Lib.hid (O2.out.only g3 hlt)
  have B3 := Lib.hid (B2.out.trans (only_below g3 (Nat.le_of_lt hwg) B2.out.size))
  have X3 : Hid (Box w3 w.heap.size (0, 0)) := Lib.hid (Box.only X2.out g3 (by omega))
  have HY := Lib.hid hy
  clear d3 g3 hy
  obtain ⟨q1, q2⟩ := X3.out.cells
  have f0 := X3.out.free
  go_wp2
  have P3 := (O3.out.only (box_only (g := w.heap.size) 0 (.int .i64 y.1)) (by omega)).only (box_only (g := w.heap.size) 1 (.int .i64 y.2)) (by omega)
  obtain ⟨A1, c1, rfl, _, i1⟩ := P3.rgs
  refine bodyPost_ret (results_cell2 rfl _ _ w.heap.size _ _ _ _ rfl (Box.set1 (Box.set0 X3.out y.1) y.2) Tryd.underlying26 rfl (by kernel_rfl)) rfl ?_
  exact ⟨A1, c1, l, y, rfl, hl, HY.out, i1, (B3.out.setCell (Nat.le_refl _) _).setCell (Nat.le_refl _) _⟩

set_option maxRecDepth 100000 in
set_option maxHeartbeats 800000 in
/-- spec.DrawHasNumber -/
theorem draw_has (A : Option Addr) (len cap : Nat) (w : World) (hlen : len ≤ maxLen) (hcode : Code w w.heap.size A len) :
    Calls Tryd.prog 16 #[.slice A len cap] w (NumberedP w) := by
  have HC := Lib.hid hcode
  clear hcode
  go_enter Tryd.func16, Tryd.ntmps16
  go_wp2_with fail
  refine (dnew A len cap _ hlen HC.out).mono ?_
  rintro e w1 ⟨g, rfl, hg, d1, b1⟩
  have D1 := Lib.hid d1
  have B1 := Lib.hid b1
  have hlt := d1.lt
  clear d1 b1
  go_wp2_with fail
  refine (d3any g w.heap.size A len cap _ D1.out).mono ?_
  rintro e w2 ⟨v, l, rfl, o2, hl, hz2, d2, g2⟩
  have D2 := Lib.hid d2
  have O2 := Lib.hid o2
  have B2 := Lib.hid (B1.out.trans (only_below g2 hg B1.out.size))
  clear d2 o2 hz2 g2
  go_wp2_with fail
  refine (dbelow 28 (by decide) (by decide) g w.heap.size A len cap _ D2.out).mono ?_
  rintro e w3 ⟨n, rfl, n0, n1, d3, g3⟩
  have P3 := Lib.hid (O2.out.only g3 hlt)
  have B3 := Lib.hid (B2.out.trans (only_below g3 hg B2.out.size))
  clear d3 g3
  go_wp2
  go_ret2
  obtain ⟨A1, c1, rfl, k1, i1⟩ := P3.out.rgs
  exact ⟨A1, c1, l, n - 1, rfl, hl, by omega, by omega, i1, B3.out⟩

set_option maxRecDepth 100000 in
set_option maxHeartbeats 800000 in
/-- spec.DrawFormatRanges -/
theorem draw_fmt (A : Option Addr) (len cap : Nat) (w : World) (hlen : len ≤ maxLen) (hcode : Code w w.heap.size A len) :
    Calls Tryd.prog 20 #[.slice A len cap] w (ListedP w) := by
  have HC := Lib.hid hcode
  clear hcode
  go_enter Tryd.func20, Tryd.ntmps20
  go_wp2_with fail
  refine (dnew A len cap _ hlen HC.out).mono ?_
  rintro e w1 ⟨g, rfl, hg, d1, b1⟩
  have D1 := Lib.hid d1
  have B1 := Lib.hid b1
  clear d1 b1
  go_wp2_with fail
  refine (d3any g w.heap.size A len cap _ D1.out).mono ?_
  rintro e w2 ⟨v, l, rfl, o2, hl, hz2, d2, g2⟩
  have O2 := Lib.hid o2
  have Z2 := Lib.hid hz2
  have B2 := Lib.hid (B1.out.trans (only_below g2 hg B1.out.size))
  clear d2 o2 hz2 g2
  go_wp2
  go_ret
  obtain ⟨A1, c1, rfl, k1, i1⟩ := O2.out.rgs
  exact ⟨A1, c1, l, rfl, hl, Z2.out, i1, B2.out⟩

set_option maxRecDepth 100000 in
set_option maxHeartbeats 800000 in
/-- spec.DrawEqualRanges -/
theorem draw_eq (A : Option Addr) (len cap : Nat) (w : World) (hlen : len ≤ maxLen) (hcode : Code w w.heap.size A len) :
    Calls Tryd.prog 21 #[.slice A len cap] w (TwoP w) := by
  have HC := Lib.hid hcode
  clear hcode
  go_enter Tryd.func21, Tryd.ntmps21
  go_wp2_with fail
  refine (dnew A len cap _ hlen HC.out).mono ?_
  rintro e w1 ⟨g, rfl, hg, d1, b1⟩
  have D1 := Lib.hid d1
  have B1 := Lib.hid b1
  have hlt := d1.lt
  clear d1 b1
  go_wp2_with fail
  refine (d3any g w.heap.size A len cap _ D1.out).mono ?_
  rintro e w2 ⟨v, l, rfl, o2, hl, hz2, d2, g2⟩
  have D2 := Lib.hid d2
  have O2 := Lib.hid o2
  have B2 := Lib.hid (B1.out.trans (only_below g2 hg B1.out.size))
  clear d2 o2 hz2 g2
  go_wp2_with fail
  refine (donce3 2 (by decide) (by decide) g w.heap.size A len cap _ D2.out).mono ?_
  rintro e w3 ⟨b, rfl, d3, g3⟩
  have D3 := Lib.hid d3
  have O3 := Lib.hid (O2.out.only g3 hlt)
  have B3 := Lib.hid (B2.out.trans (only_below g3 hg B2.out.size))
  clear d3 g3
  obtain ⟨A1, c1, rfl, k1, i1⟩ := O3.out.rgs
  have I1 := Lib.hid i1
  clear i1
  cases b with
  | true =>
    go_wp2_with fail
    refine (scopy l A1 c1 w3.heap.size _ (Nat.le_refl _) I1.out (by omega)).mono ?_
    rintro e w4 ⟨v', rfl, o4, b4⟩
    have I4 := Lib.hid ((I1.out.below (Nat.le_refl _) b4).up b4.size)
    have B4 := Lib.hid (B3.out.trans (b4.mono B3.out.size))
    obtain ⟨A2, c2, rfl, k2, i2⟩ := o4.rgs
    clear b4 o4
    go_wp2
    go_ret2
    exact ⟨A1, A2, c1, c2, l, l, rfl, hl, hl, I4.out, i2, B4.out⟩
  | false =>
    go_wp2_with fail
    refine (d3any g w.heap.size A len cap _ D3.out).mono ?_
    rintro e w4 ⟨v', m, rfl, o4, hm, hz4, d4, g4⟩
    have P4 := Lib.hid (O3.out.only g4 hlt)
    have B4 := Lib.hid (B3.out.trans (only_below g4 hg B3.out.size))
    obtain ⟨A2, c2, rfl, k2, i2⟩ := o4.rgs
    have I2 := Lib.hid i2
    clear d4 o4 hz4 g4 i2
    obtain ⟨A3, c3, he, k3, i3⟩ := P4.out.rgs
    injection he with e1 e2 e3
    subst e1
    subst e3
    have I3 := Lib.hid i3
    clear i3
    go_wp2
    go_ret2
    exact ⟨A1, A2, c1, c2, l, m, rfl, hl, hm, I3.out, I2.out, B4.out⟩
end Go.Proofs.YtjgabiklmloogaaDoor
