/-
  What the drawing functions of chapter 3 return, for whatever bytes: ranges, lists of ranges.
-/
import Derived.Test.YtjgabiklmloogaaDoorSRng7
namespace Go.Proofs.YtjgabiklmloogaaDoor
open Go.RowKit Go.Deep Go.Proofs.YtjgabiklmloogaaDoor.Num

/-- spec.l1Once -/
theorem donce3 (n : Int) (h0 : 0 < n) (hn : n ≤ 4000000000) (g B : Nat) (A : Option Addr) (len cap : Nat) (w : World) (d : Draw w g B A len cap) :
    Calls Tryd.prog 41 #[.pointer (some ⟨g, 0, none⟩), .int .i64 n] w fun e w' => ∃ b : Bool, e = .returned (.bool b) ∧ Draw w' g B A len cap ∧ w.grownBy w' (some g) := by
  have D := Lib.hid d
  clear d
  go_enter Tryd.func41, Tryd.ntmps41
  go_wp2_with fail
  refine (dbelow n h0 hn g B A len cap _ D.out).mono ?_
  rintro e w1 ⟨x, rfl, x0, x1, d1, g1⟩
  have D1 := Lib.hid d1
  clear d1
  go_wp2
  go_ret
  exact ⟨_, rfl, D1.out, g1⟩
/-- A store into a block that is new. -/
theorem only_new {a w : World} {g : Nat} (h : a.grownBy w (some g)) (K j : Nat) (hK : a.heap.size ≤ K) (u : Value) : a.grownBy (w.setCell ⟨K, j, none⟩ u) (some g) :=
  ⟨h.os, h.tape, h.output, by simpa [World.setCell] using h.size, fun i hi hne => (Below.heap_setCell w ⟨K, j, none⟩ u i (by show i ≠ K; omega)).trans (h.block i hi hne)⟩
theorem Box.only {w w' : World} {g k : Nat} {x : Rg} (b : Box w k x) (h : w.grownBy w' (some g)) (hne : k ≠ g) : Box w' k x :=
  (h.block k (Array.getElem?_eq_some_iff.1 b).1 (by intro e; injection e with e; exact hne e)).trans b
theorem Draw.set {w : World} {g B K j : Nat} {A : Option Addr} {len cap : Nat} (d : Draw w g B A len cap) (h : g < K) (u : Value) : Draw (w.setCell ⟨K, j, none⟩ u) g B A len cap :=
  d.keep fun k hk => Below.heap_setCell w ⟨K, j, none⟩ u k (by show k ≠ K; omega)
/-- A range comes back; the cursor has moved on; nothing else has changed. -/
def RgP (g B : Nat) (A : Option Addr) (len cap : Nat) (w : World) (e : Ending) (w' : World) : Prop :=
  ∃ x : Rg, e = .returned (rgV x) ∧ InR [x] ∧ Draw w' g B A len cap ∧ w.grownBy w' (some g)
theorem inR_one (x : Rg) (h : (-9223372036854775808 ≤ x.1 ∧ x.1 ≤ 9223372036854775807) ∧ -9223372036854775808 ≤ x.2 ∧ x.2 ≤ 9223372036854775807) : InR [x] := fun y hy => by
  obtain rfl : y = x := by simpa using hy
  exact h

set_option maxRecDepth 100000 in
set_option maxHeartbeats 1600000 in
/-- spec.l3Range -/
theorem d3range (g B : Nat) (A : Option Addr) (len cap : Nat) (w : World) (d : Draw w g B A len cap) :
    Calls Tryd.prog 30 #[.pointer (some ⟨g, 0, none⟩)] w (RgP g B A len cap w) := by
  have hgs := d.lt
  have D0 := Lib.hid (d.alloc (.cells #[.int .i64 0, .int .i64 0] 26))
  have G0 := Lib.hid (only_alloc (World.grownBy.refl w (some g)) (.cells #[.int .i64 0, .int .i64 0] 26))
  have X0 := Lib.hid (Box.new w (0, 0))
  clear d
  go_enter Tryd.func30, Tryd.ntmps30
  go_wp2_with fail
  refine (dbelow 20 (by decide) (by decide) g B A len cap _ D0.out).mono ?_
  rintro e w1 ⟨a, rfl, a0, a1, d1, g1⟩
  have D1 := Lib.hid d1
  have G1 := Lib.hid (only_trans G0.out g1)
  have X1 := Lib.hid (X0.out.only g1 (by omega))
  clear d1 g1 D0 X0
  go_wp2_with fail
  refine (dbelow 6 (by decide) (by decide) g B A len cap _ D1.out).mono ?_
  rintro e w2 ⟨y, rfl, y0, y1, d2, g2⟩
  have D2 := Lib.hid d2
  have G2 := Lib.hid (only_trans G1.out g2)
  have X2 := Lib.hid (X1.out.only g2 (by omega))
  have hw2 : w.heap.size < w2.heap.size := (Array.getElem?_eq_some_iff.1 X2.out).1
  clear d2 g2 D1 X1 G1
  obtain ⟨b, hb⟩ : ∃ b : Int, a + 1 + y = b := ⟨_, rfl⟩
  have hw : IntKind.i64.wrap (a + 1 + y) = b := by rw [IntKind.wrap_i64]; omega
  have ha : IntKind.i64.wrap (a + 1) = a + 1 := by rw [IntKind.wrap_i64]; omega
  have hb1 : 0 ≤ b ∧ b ≤ 100 := by omega
  have D3 := Lib.hid (D2.out.alloc (.cells #[.int .i64 a, .int .i64 b] 26))
  have G3 := Lib.hid (only_alloc G2.out (.cells #[.int .i64 a, .int .i64 b] 26))
  have X3 : Hid (Box (w2.alloc (.cells #[.int .i64 a, .int .i64 b] 26)) w.heap.size (0, 0)) := Lib.hid ((heap_alloc_old w2 _ hw2).trans X2.out)
  have K3 : Hid (Box (w2.alloc (.cells #[.int .i64 a, .int .i64 b] 26)) w2.heap.size (a, b)) := Lib.hid (Box.new w2 (a, b))
  clear X2 D2 G2 G0
  go_wp2_with fail
  refine (dbelow 16 (by decide) (by decide) g B A len cap _ D3.out).mono ?_
  rintro e w4 ⟨z, rfl, z0, z1, d4, g4⟩
  have D4 := Lib.hid d4
  have G4 := Lib.hid (only_trans G3.out g4)
  have X4 := Lib.hid (X3.out.only g4 (by omega))
  have K4 := Lib.hid (K3.out.only g4 (by omega))
  have hw4 : w2.heap.size < w4.heap.size := (Array.getElem?_eq_some_iff.1 K4.out).1
  clear d4 g4 D3 G3 X3 K3 hb hw ha
  have hne : w2.heap.size ≠ w.heap.size := by omega
  by_cases hz0 : z = 0
  · have hd0 : (z == 0) = true := by simpa using hz0
    have HR := Lib.hid (row_cells w4 [-1, 0, 4611686018427387903, 4611686018427387904] (by decide))
    clear hz0
    go_wp2_with fail
    refine (dpick w4.heap.size 4 (by decide) (by decide) g B A len cap _ (D4.out.alloc _) (by omega) (by simp) HR.out).mono ?_
    rintro e w5 ⟨v, rfl, v0, v1, d5, g5⟩
    have D5 := Lib.hid d5
    have G5 := Lib.hid (only_trans (only_alloc G4.out _) g5)
    have X5 : Hid (Box w5 w.heap.size (0, 0)) := Lib.hid (Box.only ((heap_alloc_old w4 _ (by omega)).trans X4.out) g5 (by omega))
    have K5 : Hid (Box w5 w2.heap.size (a, b)) := Lib.hid (Box.only ((heap_alloc_old w4 _ (by omega)).trans K4.out) g5 (by omega))
    clear d5 g5 HR
    obtain ⟨q1, q2⟩ := X5.out.cells
    obtain ⟨r1, r2⟩ := K5.out.cells
    have f0 := X5.out.free
    have f1 := K5.out.free
    have X6 : Hid (Box (w5.setCell ⟨w2.heap.size, 1, none⟩ (.int .i64 v)) w.heap.size (0, 0)) := Lib.hid ((Below.heap_setCell _ ⟨w2.heap.size, 1, none⟩ _ _ (by show w.heap.size ≠ w2.heap.size; omega)).trans X5.out)
    go_wp2
    refine bodyPost_ret (results_cell_row rfl _ _ w.heap.size _ _ _ _ rfl (Box.set1 (Box.set0 X6.out a) v) Tryd.underlying26 rfl (by kernel_rfl)) rfl ?_
    exact ⟨(a, v), rfl, inR_one _ ⟨by show -9223372036854775808 ≤ a ∧ a ≤ 9223372036854775807; omega, v0, v1⟩, ((D5.out.set (by omega) _).set (by omega) _).set (by omega) _, only_new (only_new (only_new G5.out _ _ (by omega) _) _ _ (Nat.le_refl _) _) _ _ (Nat.le_refl _) _⟩
  · have hd0 : (z == 0) = false := by simpa using hz0
    by_cases hz1 : z = 1
    · have hd1 : (z == 1) = true := by simpa using hz1
      have HR := Lib.hid (row_cells w4 [-1, 4611686018427387902] (by decide))
      clear hz0 hz1
      go_wp2_with fail
      refine (dpick w4.heap.size 2 (by decide) (by decide) g B A len cap _ (D4.out.alloc _) (by omega) (by simp) HR.out).mono ?_
      rintro e w5 ⟨v, rfl, v0, v1, d5, g5⟩
      have D5 := Lib.hid d5
      have G5 := Lib.hid (only_trans (only_alloc G4.out _) g5)
      have X5 : Hid (Box w5 w.heap.size (0, 0)) := Lib.hid (Box.only ((heap_alloc_old w4 _ (by omega)).trans X4.out) g5 (by omega))
      have K5 : Hid (Box w5 w2.heap.size (a, b)) := Lib.hid (Box.only ((heap_alloc_old w4 _ (by omega)).trans K4.out) g5 (by omega))
      clear d5 g5 HR
      obtain ⟨q1, q2⟩ := X5.out.cells
      obtain ⟨r1, r2⟩ := K5.out.cells
      have f0 := X5.out.free
      have f1 := K5.out.free
      have X6 : Hid (Box (w5.setCell ⟨w2.heap.size, 0, none⟩ (.int .i64 v)) w.heap.size (0, 0)) := Lib.hid ((Below.heap_setCell _ ⟨w2.heap.size, 0, none⟩ _ _ (by show w.heap.size ≠ w2.heap.size; omega)).trans X5.out)
      go_wp2
      refine bodyPost_ret (results_cell_row rfl _ _ w.heap.size _ _ _ _ rfl (Box.set1 (Box.set0 X6.out v) b) Tryd.underlying26 rfl (by kernel_rfl)) rfl ?_
      exact ⟨(v, b), rfl, inR_one _ ⟨⟨v0, v1⟩, by show -9223372036854775808 ≤ b ∧ b ≤ 9223372036854775807; omega⟩, ((D5.out.set (by omega) _).set (by omega) _).set (by omega) _, only_new (only_new (only_new G5.out _ _ (by omega) _) _ _ (Nat.le_refl _) _) _ _ (Nat.le_refl _) _⟩
    · have hd1 : (z == 1) = false := by simpa using hz1
      clear hz0 hz1
      obtain ⟨q1, q2⟩ := X4.out.cells
      obtain ⟨r1, r2⟩ := K4.out.cells
      have f0 := X4.out.free
      go_wp2
      refine bodyPost_ret (results_cell_row rfl _ _ w.heap.size _ _ _ _ rfl (Box.set1 (Box.set0 X4.out a) b) Tryd.underlying26 rfl (by kernel_rfl)) rfl ?_
      exact ⟨(a, b), rfl, inR_one _ ⟨by show -9223372036854775808 ≤ a ∧ a ≤ 9223372036854775807; omega, by show -9223372036854775808 ≤ b ∧ b ≤ 9223372036854775807; omega⟩, (D4.out.set (by omega) _).set (by omega) _, only_new (only_new G4.out _ _ (Nat.le_refl _) _) _ _ (Nat.le_refl _) _⟩

/-- A list of ranges comes back, the call's own; the cursor has moved on; nothing else has changed. -/
def ListPR (most : Nat) (g B : Nat) (A : Option Addr) (len cap : Nat) (w : World) (e : Ending) (w' : World) : Prop :=
  ∃ (v : Value) (l : List Rg), e = .returned v ∧ OwnR w' w.heap.size v l ∧ l.length ≤ most ∧ InR l ∧ Draw w' g B A len cap ∧ w.grownBy w' (some g)
theorem addR_len' (l : List Rg) : ∀ r, (addR r l).length ≤ l.length + 1 := by
  induction l with
  | nil => intro r; simp [addR]
  | cons x l ih =>
    intro r
    rw [addR_cons]
    split
    · have := ih r; simp; omega
    · split
      · simp
      · have := ih (min r.1 x.1, max r.2 x.2); simp; omega
theorem addAny_in (l : List Rg) (r : Rg) (h : InR l) : InR (if okR (-1) l ∧ fineR r then addR r l else l) := by
  split
  · rename_i hk
    exact okR.inR (p := -1) (by omega) (addR_ok l (-1) r hk.1 (by have := hk.2.1; omega) hk.2.2.1 hk.2.2.2)
  · exact h
theorem addAny_len (l : List Rg) (r : Rg) : (if okR (-1) l ∧ fineR r then addR r l else l).length ≤ l.length + 1 := by
  split
  · exact addR_len' l r
  · omega
theorem inR_append {l m : List Rg} (h : InR l) (k : InR m) : InR (l ++ m) := fun x hx => by
  rcases List.mem_append.1 hx with hx | hx
  · exact h x hx
  · exact k x hx

set_option maxRecDepth 100000 in
set_option maxHeartbeats 1600000 in
/-- spec.l3Ranges -/
theorem d3ranges (g B : Nat) (A : Option Addr) (len cap : Nat) (w : World) (d : Draw w g B A len cap) :
    Calls Tryd.prog 48 #[.pointer (some ⟨g, 0, none⟩)] w (ListPR 4 g B A len cap w) := by
  have hlt := d.lt
  have D0 := Lib.hid (d.alloc (.cells #[] 26))
  have G0 := Lib.hid (only_alloc (World.grownBy.refl w (some g)) (.cells #[] 26))
  have O0 := Lib.hid (OwnR.lit w w.heap.size 0 #[] (Nat.le_refl _) (by decide) rfl)
  clear d
  go_enter Tryd.func48, Tryd.ntmps48
  go_wp2_with fail
  refine (dbelow 5 (by decide) (by decide) g B A len cap _ D0.out).mono ?_
  rintro e w2 ⟨n, rfl, n0, n1, d2, g2⟩
  have D2 := Lib.hid d2
  have G2 := Lib.hid (only_trans G0.out g2)
  have O2 := Lib.hid (O0.out.only g2 hlt)
  clear d2 g2 D0 G0 O0
  obtain ⟨m, rfl⟩ := Int.eq_ofNat_of_zero_le n0
  go_wp2_with fail
  go_loopw [3, 4] (fun v x wr => ∃ (k : Nat) (l : List Rg), x = .int .i64 k ∧ l.length + k ≤ 4 ∧ OwnR wr w.heap.size v l ∧ InR l ∧ Draw wr g B A len cap ∧ w.grownBy wr (some g)) (fun _ x _ => (intOf x).toNat)
  case atStart => exact ⟨m, [], rfl, by simp; omega, O2.out, (fun x hx => by cases hx), D2.out, G2.out⟩
  case round =>
    obtain ⟨k, l, rfl, hk, hown, hz, hd, hgr⟩ := hrel
    have HO := Lib.hid hown
    have HZ := Lib.hid hz
    have HD := Lib.hid hd
    have HG := Lib.hid hgr
    clear hown hz hd hgr
    by_cases hk0 : 0 < k
    · obtain ⟨k, rfl⟩ : ∃ j, k = j + 1 := ⟨k - 1, by omega⟩
      go_wp2_with fail
      refine (d3range g B A len cap _ HD.out).mono ?_
      rintro e w3 ⟨x, rfl, hx, d3, g3⟩
      have D3 := Lib.hid d3
      have O3 := Lib.hid (HO.out.only g3 hlt)
      have G3 := Lib.hid (only_trans HG.out g3)
      have hs3 : w.heap.size ≤ w3.heap.size := G3.out.size
      clear d3 g3 hx
      obtain ⟨A3, c3, hv3, _, hi3⟩ := O3.out.rgs
      subst hv3
      have HL := Lib.hid (addAny_len l x)
      have HI := Lib.hid (addAny_in l x HZ.out)
      have HS := Lib.hid (sadd l x A3 c3 w3.heap.size w3 (Nat.le_refl _) hi3 (by omega))
      generalize (if okR (-1) l ∧ fineR x then addR x l else l) = r at *
      clear hi3
      go_wp2_with fail
      refine HS.out.mono ?_
      rintro e w4 ⟨v, rfl, ho4, hb4⟩
      have O4 := Lib.hid (own_weaken ho4 hs3)
      have D4 := Lib.hid (D3.out.below D3.out.lt hb4)
      have G4 := Lib.hid (only_then G3.out (hb4.mono hs3))
      have hl := HL.out
      clear ho4 hb4
      go_wp2
      go_roundw
      case rel => exact ⟨k, r, by go_num, by omega, O4.out, HI.out, D4.out, G4.out⟩
      case measure => simp [intOf]
    · go_wp2
      go_ret
      exact ⟨_, l, rfl, HO.out, by omega, HZ.out, HD.out, HG.out⟩

set_option maxRecDepth 100000 in
set_option maxHeartbeats 1600000 in
/-- spec.l3Any -/
theorem d3any (g B : Nat) (A : Option Addr) (len cap : Nat) (w : World) (d : Draw w g B A len cap) :
    Calls Tryd.prog 29 #[.pointer (some ⟨g, 0, none⟩)] w (ListPR 5 g B A len cap w) := by
  have hlt := d.lt
  have D0 := Lib.hid d
  clear d
  go_enter Tryd.func29, Tryd.ntmps29
  go_wp2_with fail
  refine (d3ranges g B A len cap _ D0.out).mono ?_
  rintro e w1 ⟨v, l, rfl, o1, hl, hz, d1, g1⟩
  have D1 := Lib.hid d1
  have G1 := Lib.hid g1
  have O1 := Lib.hid o1
  have HZ := Lib.hid hz
  clear d1 g1 o1 hz
  go_wp2_with fail
  refine (donce3 12 (by decide) (by decide) g B A len cap _ D1.out).mono ?_
  rintro e w2 ⟨b, rfl, d2, g2⟩
  have D2 := Lib.hid d2
  have G2 := Lib.hid (only_trans G1.out g2)
  have O2 := Lib.hid (O1.out.only g2 hlt)
  clear d2 g2 D1 G1 O1
  cases b with
  | false =>
    go_wp2
    go_ret
    exact ⟨v, l, rfl, O2.out, by omega, HZ.out, D2.out, G2.out⟩
  | true =>
    go_wp2_with fail
    refine (d3range g B A len cap _ D2.out).mono ?_
    rintro e w3 ⟨x, rfl, hx, d3, g3⟩
    have D3 := Lib.hid d3
    have G3 := Lib.hid (only_trans G2.out g3)
    have O3 := Lib.hid (O2.out.only g3 hlt)
    have HX := Lib.hid hx
    have hs3 : w.heap.size ≤ w3.heap.size := G3.out.size
    clear d3 g3 hx
    go_wp2_with (at_builtin; refine wpList_append_rgs _ rfl (.tmp 8) (.tmp 11) rfl w.heap.size _ l rfl (OwnR.alloc (w := w3) O3.out _) w3.heap.size 0 1 1 _ [x] rfl rfl (rgs_one w3 x _) (by omega) (by simp; omega) ?_; intro v5 w5 h5 b5)
    have HB5 := Lib.hid (((Below.refl w.heap.size w3).alloc hs3 (.cells #[.int .i64 x.1, .int .i64 x.2] 26)).trans b5)
    go_ret
    exact ⟨v5, l ++ [x], rfl, h5, by simp; omega, inR_append HZ.out HX.out, D3.out.below hlt HB5.out, only_then G3.out HB5.out⟩
/-- A list of ranges that a draw hands back, seen from outside. -/
theorem OwnR.seen {w : World} {base : Nat} {v : Value} {l : List Rg} (h : OwnR w base v l) : ∃ A cap, v = .slice A l.length cap ∧ l.length ≤ cap ∧ Rgs w w.heap.size A l := h.rgs
end Go.Proofs.YtjgabiklmloogaaDoor
