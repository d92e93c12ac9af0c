/-
  What the drawing functions of chapter 10 return: credits, and what goes with them.
-/
import Derived.Test.YtdaoaedkjoknmaaSCr
import Derived.Test.YtdaoaedkjoknmaaDrawOnce
import Derived.Deep.RegionWith
import Derived.Deep.RegionHeld3
import Derived.BigQuiet
import Derived.Deep.QuietTactic
import Derived.Deep.RegionLaw
namespace Go.Proofs.Ytdaoaedkjoknmaa
open Go.RowKit Go.Deep Go.Proofs.Ytdaoaedkjoknmaa.Num

theorem putC_keep (W : World) (g : Nat) (y : Cr) (k : Nat) (hk : k ≠ g) : (putC W g y).heap[k]? = W.heap[k]? :=
  (Below.heap_setCell _ ⟨g, 3, none⟩ _ k hk).trans ((Below.heap_setCell _ ⟨g, 2, none⟩ _ k hk).trans ((Below.heap_setCell _ ⟨g, 1, none⟩ _ k hk).trans (Below.heap_setCell _ ⟨g, 0, none⟩ _ k hk)))
theorem only_othC {a w : World} {g : Nat} (h : a.grownBy w (some g)) (k j : Nat) (u : Value) (hk : a.heap.size ≤ k) : a.grownBy (w.setCell ⟨k, j, none⟩ u) (some g) :=
  ⟨h.os, h.tape, h.output, by simpa [World.setCell] using h.size, fun i hi hne => (Below.heap_setCell w ⟨k, j, none⟩ u i (by show i ≠ k; omega)).trans (h.block i hi hne)⟩
theorem grown_putC {a W : World} {g : Nat} (h : a.grownBy W (some g)) (k : Nat) (y : Cr) (hk : a.heap.size ≤ k) : a.grownBy (putC W k y) (some g) :=
  only_othC (only_othC (only_othC (only_othC h k 0 _ hk) k 1 _ hk) k 2 _ hk) k 3 _ hk
/-- The blocks of l10Credit: the result's, the credit's (gr), and the cursor's. -/
structure L10 (w : World) (g B : Nat) (A : Option Addr) (len cap gr : Nat) (x : Cr) (W : World) : Prop where
  o : BoxC W 25 w.heap.size 0 0 0 0
  b : BoxC W 25 gr x.lim x.used x.bl x.told
  lo : w.heap.size + 1 ≤ gr
  d : Draw W g B A len cap
  only : w.grownBy W (some g)
  lt : g < w.heap.size
theorem L10.drawn {w : World} {g B : Nat} {A : Option Addr} {len cap gr : Nat} {x : Cr} {W W' : World} (h : L10 w g B A len cap gr x W) (hg : W.grownBy W' (some g)) (hd : Draw W' g B A len cap) : L10 w g B A len cap gr x W' :=
  have := h.lt
  have := h.lo
  ⟨h.o.only hg (by omega), h.b.only hg (by omega), h.lo, hd, only_trans h.only hg, h.lt⟩
theorem L10.next {w : World} {g B : Nat} {A : Option Addr} {len cap gr : Nat} {x : Cr} {W W' : World} (h : L10 w g B A len cap gr x W) (hb : Below W.heap.size W W') : L10 w g B A len cap gr x W' :=
  ⟨h.o.next hb, h.b.next hb, h.lo, h.d.below h.d.lt hb, only_then h.only (hb.mono h.only.size), h.lt⟩
theorem L10.drew {w : World} {g B : Nat} {A : Option Addr} {len cap gr : Nat} {x : Cr} {W : World} (h : L10 w g B A len cap gr x W) : L10 w g B A len cap gr x W.drew := h.next (Below.refl _ _).drew
theorem L10.alloc {w : World} {g B : Nat} {A : Option Addr} {len cap gr : Nat} {x : Cr} {W : World} (h : L10 w g B A len cap gr x W) (o : Obj) : L10 w g B A len cap gr x (W.alloc o) := h.next ((Below.refl _ _).alloc (Nat.le_refl _) _)
/-- Another credit is laid into the block. -/
theorem L10.put {w : World} {g B : Nat} {A : Option Addr} {len cap gr : Nat} {x : Cr} {W : World} (h : L10 w g B A len cap gr x W) (y : Cr) : L10 w g B A len cap gr y (putC W gr y) := by
  have h1 := h.lo
  have h2 := h.lt
  exact ⟨h.o.putO y (by omega), h.b.put y, h.lo, h.d.keep fun j hj => putC_keep W gr y j (by omega), grown_putC h.only gr y (by omega), h.lt⟩
theorem L10.setn {w : World} {g B : Nat} {A : Option Addr} {len cap gr : Nat} {x y : Cr} {W : World} (h : L10 w g B A len cap gr x W) (k : Nat) (v : Value) (hb : BoxC (W.setCell ⟨gr, k, none⟩ v) 25 gr y.lim y.used y.bl y.told) : L10 w g B A len cap gr y (W.setCell ⟨gr, k, none⟩ v) := by
  have h1 := h.lo
  have h2 := h.lt
  exact ⟨h.o.other gr k v (by omega), hb, h.lo, h.d.keep fun j hj => Below.heap_setCell W ⟨gr, k, none⟩ _ j (by show j ≠ gr; omega), only_othC h.only gr k v (by omega), h.lt⟩
theorem L10.set0 {w : World} {g B : Nat} {A : Option Addr} {len cap gr : Nat} {x : Cr} {W : World} (h : L10 w g B A len cap gr x W) (y : Int) : L10 w g B A len cap gr ⟨y, x.used, x.bl, x.told⟩ (W.setCell ⟨gr, 0, none⟩ (.int .i64 y)) := h.setn (y := ⟨y, x.used, x.bl, x.told⟩) 0 _ (h.b.set0 y)
theorem L10.set1 {w : World} {g B : Nat} {A : Option Addr} {len cap gr : Nat} {x : Cr} {W : World} (h : L10 w g B A len cap gr x W) (y : Int) : L10 w g B A len cap gr ⟨x.lim, y, x.bl, x.told⟩ (W.setCell ⟨gr, 1, none⟩ (.int .i64 y)) := h.setn (y := ⟨x.lim, y, x.bl, x.told⟩) 1 _ (h.b.set1 y)
theorem L10.set2 {w : World} {g B : Nat} {A : Option Addr} {len cap gr : Nat} {x : Cr} {W : World} (h : L10 w g B A len cap gr x W) (y : Int) : L10 w g B A len cap gr ⟨x.lim, x.used, y, x.told⟩ (W.setCell ⟨gr, 2, none⟩ (.int .i64 y)) := h.setn (y := ⟨x.lim, x.used, y, x.told⟩) 2 _ (h.b.set2 y)
/-- The credit is laid into the result's cell. -/
theorem L10.fin {w : World} {g B : Nat} {A : Option Addr} {len cap gr : Nat} {x : Cr} {W : World} (h : L10 w g B A len cap gr x W) :
    BoxC (putC W w.heap.size x) 25 w.heap.size x.lim x.used x.bl x.told ∧ Draw (putC W w.heap.size x) g B A len cap ∧ w.grownBy (putC W w.heap.size x) (some g) := by
  have hlt := h.lt
  exact ⟨h.o.put x, h.d.keep fun k hk => putC_keep _ _ _ k (by omega), grown_putC h.only _ _ (Nat.le_refl _)⟩
theorem L10.init {w : World} {g B : Nat} {A : Option Addr} {len cap : Nat} (x : Cr) {w1 : World} (hlt : g < w.heap.size) (ho : BoxC w1 25 w.heap.size 0 0 0 0) (d : Draw w1 g B A len cap) (g1 : w.grownBy w1 (some g)) :
    L10 w g B A len cap w1.heap.size x (w1.alloc (.cells (crC x.lim x.used x.bl x.told) 25)) :=
  ⟨ho.alloc _, BoxC.new w1 _ _ _ _ _, ho.lt, d.alloc _, only_alloc g1 _, hlt⟩
/-- A credit comes back. -/
def CrP (g B : Nat) (A : Option Addr) (len cap : Nat) (w : World) (e : Ending) (w' : World) : Prop :=
  ∃ x : Cr, e = .returned (crV x) ∧ inCr x ∧ Draw w' g B A len cap ∧ w.grownBy w' (some g)

set_option maxRecDepth 100000 in
set_option maxHeartbeats 4000000 in
/-- spec.l10Credit -/
theorem d10cr (g B : Nat) (A : Option Addr) (len cap : Nat) (w : World) (d : Draw w g B A len cap) :
    Calls Try.prog 33 #[.pointer (some ⟨g, 0, none⟩)] w (CrP g B A len cap w) := by
  have hlt := d.lt
  have X0 := Lib.hid (BoxC.new w 25 0 0 0 0)
  have D0 := Lib.hid (d.alloc (.cells (crC 0 0 0 0) 25))
  have G0 := Lib.hid (only_alloc (World.grownBy.refl w (some g)) (.cells (crC 0 0 0 0) 25))
  clear d
  go_enter Try.func33, Try.ntmps33
  go_upto_region 1 with fail
  generalize w.alloc (.cells (crC 0 0 0 0) 25) = w0 at *
  go_wp2_with fail
  refine (dbelow 20 (by decide) (by decide) g B A len cap w0 D0.out).mono ?_
  rintro e w1 ⟨n, rfl, n0, n1, d1, g1⟩
  have G1 := Lib.hid (only_trans G0.out g1)
  have X1 := Lib.hid (X0.out.only g1 (by omega))
  have D1 := Lib.hid d1
  clear d1 g1 n0 n1 X0 D0 G0
  go_wp2_with fail
  refine (snew n w1).mono ?_
  rintro e w2 ⟨rfl, hb⟩
  have HW := Lib.hid (L10.init (newCr n) hlt (X1.out.next hb) (D1.out.below D1.out.lt hb) (only_then G1.out (hb.mono G1.out.size)))
  have HI := Lib.hid (newCr_in n)
  generalize newCr n = x at *
  generalize decide (okL n) = q at *
  clear hb X1 D1 G1
  go_upto_region 2 with fail
  generalize w2.alloc (.cells (crC x.lim x.used x.bl x.told) 25) = wa at *
  generalize w2.heap.size = gr at *
  go_wp2_with fail
  refine (dbelow 6 (by decide) (by decide) g B A len cap _ HW.out.d).mono ?_
  rintro e w3 ⟨m, rfl, m0, m1, d3, g3⟩
  have HW := Lib.hid (HW.out.drawn g3 d3)
  clear d3 g3
  obtain ⟨m, rfl⟩ := Int.eq_ofNat_of_zero_le m0
  go_wp2
  go_loopw [5] (fun v wr => ∃ (k : Nat) (x : Cr), v = .int .i64 k ∧ k ≤ 5 ∧ inCr x ∧ L10 w g B A len cap gr x wr) (fun v _ => (intOf v).toNat)
  case atStart => exact ⟨m, x, rfl, by omega, HI.out, HW.out⟩
  case round =>
    obtain ⟨k, x, rfl, hk, hx, hw⟩ := hrel
    have HW := Lib.hid hw
    have HI := Lib.hid hx
    clear hw hx
    obtain ⟨a0, a1, a2, a3⟩ := HW.out.b.cells
    by_cases hz : 0 < k
    · obtain ⟨k, rfl⟩ : ∃ j, k = j + 1 := ⟨k - 1, by omega⟩
      go_wp2_with fail
      refine (dbelow 4 (by decide) (by decide) g B A len cap _ HW.out.d).mono ?_
      rintro e w4 ⟨y, rfl, y0, y1, d4, g4⟩
      have HW := Lib.hid (HW.out.drawn g4 d4)
      clear d4 g4 a0 a1 a2 a3
      obtain ⟨a0, a1, a2, a3⟩ := HW.out.b.cells
      obtain ⟨p0, p1, p2, p3⟩ := HW.out.o.cells
      have bf := HW.out.b.free
      rcases (show y = 0 ∨ y = 1 ∨ y = 2 ∨ y = 3 by omega) with rfl | rfl | rfl | rfl
      · go_upto_region 8 with fail
        have HT := Lib.hid (dbelow 12 (by decide) (by decide) g B A len cap _ HW.out.drew.d)
        go_region_with (first | (go_at_call 34; refine HT.out.mono ?_; rintro e w5 ⟨n, rfl, n0, n1, d5, g5⟩; have HW5 := Lib.hid (HW.out.drew.drawn g5 d5); obtain ⟨s0, s1, s2, s3⟩ := HW5.out.b.cells; clear d5 g5) | (go_at_call 13; refine (suse x n _).mono ?_; rintro e w6 ⟨rfl, hb⟩; have HW6 := Lib.hid (HW5.out.next hb); obtain ⟨t0, t1, t2, t3⟩ := HW6.out.b.cells; have tf := HW6.out.b.free; clear hb))
        all_goals go_wp2
        all_goals go_roundw
        all_goals first | exact ⟨k, _, by go_num, by omega, useCr_in HI.out, HW6.out.put (useCr x n)⟩ | simp [intOf]
      · go_upto_region 8 with fail
        have HT := Lib.hid (dbelow 12 (by decide) (by decide) g B A len cap _ HW.out.drew.d)
        go_region_with (first | (go_at_call 34; refine HT.out.mono ?_; rintro e w5 ⟨n, rfl, n0, n1, d5, g5⟩; have HW5 := Lib.hid (HW.out.drew.drawn g5 d5); obtain ⟨s0, s1, s2, s3⟩ := HW5.out.b.cells; clear d5 g5) | (go_at_call 13; refine (suse x n _).mono ?_; rintro e w6 ⟨rfl, hb⟩; have HW6 := Lib.hid (HW5.out.next hb); obtain ⟨t0, t1, t2, t3⟩ := HW6.out.b.cells; have tf := HW6.out.b.free; clear hb))
        all_goals go_wp2
        all_goals go_roundw
        all_goals first | exact ⟨k, _, by go_num, by omega, useCr_in HI.out, HW6.out.put (useCr x n)⟩ | simp [intOf]
      · go_upto_region 10 with fail
        have HT := Lib.hid (dbelow 40 (by decide) (by decide) g B A len cap _ HW.out.drew.d)
        go_region_with (first | (go_at_call 34; refine HT.out.mono ?_; rintro e w5 ⟨n, rfl, n0, n1, d5, g5⟩; have HW5 := Lib.hid (HW.out.drew.drawn g5 d5); obtain ⟨s0, s1, s2, s3⟩ := HW5.out.b.cells; clear d5 g5) | (go_at_call 20; refine (sraise x n _).mono ?_; rintro e w6 ⟨rfl, hb⟩; have HW6 := Lib.hid (HW5.out.next hb); obtain ⟨t0, t1, t2, t3⟩ := HW6.out.b.cells; have tf := HW6.out.b.free; clear hb))
        all_goals go_wp2
        all_goals go_roundw
        all_goals first | exact ⟨k, _, by go_num, by omega, raiseCr_in HI.out, HW6.out.put (raiseCr x n)⟩ | simp [intOf]
      · go_wp2_with fail
        refine (snote x w4).mono ?_
        rintro e w5 ⟨rfl, hb⟩
        have HW := Lib.hid (HW.out.next hb)
        have HI := Lib.hid (noteCr_in HI.out)
        clear hb a0 a1 a2 a3 p0 p1 p2 p3 bf
        have bf := HW.out.b.free
        obtain ⟨a0, a1, a2, a3⟩ := HW.out.b.cells
        generalize noteCr x = x5 at *
        go_upto_region 13 with fail
        have HN := Lib.hid (HW.out.put x5)
        clear a0 a1 a2 a3 bf HW
        dsimp only [putC] at HN
        generalize (((w5.setCell ⟨gr, 0, none⟩ (.int .i64 x5.lim)).setCell ⟨gr, 1, none⟩ (.int .i64 x5.used)).setCell ⟨gr, 2, none⟩ (.int .i64 x5.bl)).setCell ⟨gr, 3, none⟩ (.int .i64 x5.told) = w6 at *
        have HW := HN
        clear HN
        go_wp2_with fail
        refine (donce 2 (by decide) (by decide) g B A len cap _ HW.out.d).mono ?_
        rintro e w7 ⟨c, rfl, d7, g7⟩
        have HW := Lib.hid (HW.out.drawn g7 d7)
        clear d7 g7
        cases c with
        | false =>
          go_wp2
          go_roundw
          case rel => exact ⟨k, x5, by go_num, by omega, HI.out, HW.out⟩
          case measure => simp [intOf]
        | true =>
          obtain ⟨a0, a1, a2, a3⟩ := HW.out.b.cells
          go_wp2_with fail
          refine (sclear x5 w7).mono ?_
          rintro e w8 ⟨rfl, hb⟩
          have HW := Lib.hid (HW.out.next hb)
          have HI := Lib.hid (clearCr_in HI.out)
          clear hb a0 a1 a2 a3
          have bf := HW.out.b.free
          obtain ⟨a0, a1, a2, a3⟩ := HW.out.b.cells
          generalize clearCr x5 = x8 at *
          go_wp2
          go_roundw
          case rel => exact ⟨k, x8, by go_num, by omega, HI.out, HW.out.put x8⟩
          case measure => simp [intOf]
    · obtain rfl : k = 0 := by omega
      clear hz hk
      go_wp2_with fail
      refine (dbelow 12 (by decide) (by decide) g B A len cap _ HW.out.d).mono ?_
      rintro e w4 ⟨y, rfl, y0, y1, d4, g4⟩
      have HW := Lib.hid (HW.out.drawn g4 d4)
      clear d4 g4 a0 a1 a2 a3
      by_cases hy0 : y = 0
      · have t0 : (y == 0) = true := by simpa using hy0
        clear hy0 y0 y1
        have HP := Lib.hid (dpick w4.heap.size 2 (by decide) (by decide) g B A len cap (w4.alloc (.cells #[.int .i64 (-1), .int .i64 50] 3)) ((HW.out.alloc _).d) (by have := HW.out.d.lt; omega) (by simp) (row_cells w4 [-1, 50] (by decide)))
        go_wp2_with fail
        refine HP.out.mono ?_
        rintro e w5 ⟨z, rfl, z0, z1, d5, g5⟩
        have HW := Lib.hid ((HW.out.alloc (.cells #[.int .i64 (-1), .int .i64 50] 3)).drawn g5 d5)
        have HQ : Hid (-9223372036854775808 ≤ z ∧ z ≤ 9223372036854775807) := Lib.hid ⟨z0, z1⟩
        clear d5 g5 z0 z1 HP
        obtain ⟨b0, b1, b2, b3⟩ := HW.out.b.cells
        have bf := HW.out.b.free
        go_upto_region 22 with fail
        have HW := Lib.hid (HW.out.set1 z)
        clear b0 b1 b2 b3 bf
        generalize w5.setCell ⟨gr, 1, none⟩ (.int .i64 z) = w6 at *
        obtain ⟨b0, b1, b2, b3⟩ := HW.out.b.cells
        simp only at b0 b1 b2 b3
        obtain ⟨p0, p1, p2, p3⟩ := HW.out.o.cells
        have pf := HW.out.o.free
        go_wp2
        refine bodyPost_ret (results_cell_row rfl _ _ w.heap.size _ _ _ _ rfl HW.out.fin.1 Try.underlying25 rfl (by kernel_rfl)) rfl ?_
        exact ⟨⟨x.lim, z, x.bl, x.told⟩, rfl, ⟨HI.out.1, HQ.out, HI.out.2.2.1, HI.out.2.2.2⟩, HW.out.fin.2.1, HW.out.fin.2.2⟩
      have t0 : (y == 0) = false := by simpa using hy0
      by_cases hy1 : y = 1
      · have t1 : (y == 1) = true := by simpa using hy1
        clear hy0 hy1 y0 y1
        have HP := Lib.hid (dpick w4.heap.size 3 (by decide) (by decide) g B A len cap (w4.alloc (.cells #[.int .i64 (-2), .int .i64 0, .int .i64 50] 3)) ((HW.out.alloc _).d) (by have := HW.out.d.lt; omega) (by simp) (row_cells w4 [-2, 0, 50] (by decide)))
        go_wp2_with fail
        refine HP.out.mono ?_
        rintro e w5 ⟨z, rfl, z0, z1, d5, g5⟩
        have HW := Lib.hid ((HW.out.alloc (.cells #[.int .i64 (-2), .int .i64 0, .int .i64 50] 3)).drawn g5 d5)
        have HQ : Hid (-9223372036854775808 ≤ z ∧ z ≤ 9223372036854775807) := Lib.hid ⟨z0, z1⟩
        clear d5 g5 z0 z1 HP
        obtain ⟨b0, b1, b2, b3⟩ := HW.out.b.cells
        have bf := HW.out.b.free
        go_upto_region 22 with fail
        have HW := Lib.hid (HW.out.set2 z)
        clear b0 b1 b2 b3 bf
        generalize w5.setCell ⟨gr, 2, none⟩ (.int .i64 z) = w6 at *
        obtain ⟨b0, b1, b2, b3⟩ := HW.out.b.cells
        simp only at b0 b1 b2 b3
        obtain ⟨p0, p1, p2, p3⟩ := HW.out.o.cells
        have pf := HW.out.o.free
        go_wp2
        refine bodyPost_ret (results_cell_row rfl _ _ w.heap.size _ _ _ _ rfl HW.out.fin.1 Try.underlying25 rfl (by kernel_rfl)) rfl ?_
        exact ⟨⟨x.lim, x.used, z, x.told⟩, rfl, ⟨HI.out.1, HI.out.2.1, HQ.out, HI.out.2.2.2⟩, HW.out.fin.2.1, HW.out.fin.2.2⟩
      have t1 : (y == 1) = false := by simpa using hy1
      by_cases hy2 : y = 2
      · have t2 : (y == 2) = true := by simpa using hy2
        clear hy0 hy1 hy2 y0 y1
        have HP := Lib.hid (dpick w4.heap.size 3 (by decide) (by decide) g B A len cap (w4.alloc (.cells #[.int .i64 (-1), .int .i64 4611686018427387903, .int .i64 4611686018427387904] 3)) ((HW.out.alloc _).d) (by have := HW.out.d.lt; omega) (by simp) (row_cells w4 [-1, 4611686018427387903, 4611686018427387904] (by decide)))
        go_wp2_with fail
        refine HP.out.mono ?_
        rintro e w5 ⟨z, rfl, z0, z1, d5, g5⟩
        have HW := Lib.hid ((HW.out.alloc (.cells #[.int .i64 (-1), .int .i64 4611686018427387903, .int .i64 4611686018427387904] 3)).drawn g5 d5)
        have HQ : Hid (-9223372036854775808 ≤ z ∧ z ≤ 9223372036854775807) := Lib.hid ⟨z0, z1⟩
        clear d5 g5 z0 z1 HP
        obtain ⟨b0, b1, b2, b3⟩ := HW.out.b.cells
        have bf := HW.out.b.free
        go_upto_region 22 with fail
        have HW := Lib.hid (HW.out.set0 z)
        clear b0 b1 b2 b3 bf
        generalize w5.setCell ⟨gr, 0, none⟩ (.int .i64 z) = w6 at *
        obtain ⟨b0, b1, b2, b3⟩ := HW.out.b.cells
        simp only at b0 b1 b2 b3
        obtain ⟨p0, p1, p2, p3⟩ := HW.out.o.cells
        have pf := HW.out.o.free
        go_wp2
        refine bodyPost_ret (results_cell_row rfl _ _ w.heap.size _ _ _ _ rfl HW.out.fin.1 Try.underlying25 rfl (by kernel_rfl)) rfl ?_
        exact ⟨⟨z, x.used, x.bl, x.told⟩, rfl, ⟨HQ.out, HI.out.2.1, HI.out.2.2.1, HI.out.2.2.2⟩, HW.out.fin.2.1, HW.out.fin.2.2⟩
      have t2 : (y == 2) = false := by simpa using hy2
      clear hy0 hy1 hy2 y0 y1
      obtain ⟨b0, b1, b2, b3⟩ := HW.out.b.cells
      obtain ⟨p0, p1, p2, p3⟩ := HW.out.o.cells
      have pf := HW.out.o.free
      go_wp2
      refine bodyPost_ret (results_cell_row rfl _ _ w.heap.size _ _ _ _ rfl HW.out.fin.1 Try.underlying25 rfl (by kernel_rfl)) rfl ?_
      exact ⟨x, rfl, HI.out, HW.out.fin.2.1, HW.out.fin.2.2⟩
end Go.Proofs.Ytdaoaedkjoknmaa
