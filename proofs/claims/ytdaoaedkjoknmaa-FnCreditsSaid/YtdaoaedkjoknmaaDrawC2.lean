/-
  What spec.DrawUseCredit, DrawRaiseLimit and DrawNewCredit return.
-/
import Derived.Test.YtdaoaedkjoknmaaDrawC
namespace Go.Proofs.Ytdaoaedkjoknmaa
open Go.RowKit Go.Deep Go.Proofs.Ytdaoaedkjoknmaa.Num

/-- The blocks of a drawing function: the result's (block k0), the cursor's, the credit's; w is the world ahead of the call. -/
structure DWC (w : World) (k0 g : Nat) (A : Option Addr) (len cap k : Nat) (x : Cr) (W : World) : Prop where
  o : BoxC W 25 k0 0 0 0 0
  b : BoxC W 25 k x.lim x.used x.bl x.told
  d : Draw W g (k0 + 1) A len cap
  bl : Below k0 w W
  l1 : k0 < g
  l2 : g < k
theorem DWC.drawn {w : World} {k0 g : Nat} {A : Option Addr} {len cap k : Nat} {x : Cr} {W W' : World} (h : DWC w k0 g A len cap k x W) (hg : W.grownBy W' (some g)) (hd : Draw W' g (k0 + 1) A len cap) : DWC w k0 g A len cap k x W' := by
  obtain ⟨h1, h2, h4, h5, h6, h7⟩ := h
  have := h1.lt
  exact ⟨h1.only hg (by omega), h2.only hg (by omega), hd, h5.trans (only_below hg (by omega) (by omega)), h6, h7⟩
theorem DWC.next {w : World} {k0 g : Nat} {A : Option Addr} {len cap k : Nat} {x : Cr} {W W' : World} (h : DWC w k0 g A len cap k x W) (hb : Below W.heap.size W W') : DWC w k0 g A len cap k x W' := by
  obtain ⟨h1, h2, h4, h5, h6, h7⟩ := h
  exact ⟨h1.next hb, h2.next hb, h4.below h4.lt hb, h5.trans (hb.mono (Nat.le_of_lt h1.lt)), h6, h7⟩
theorem DWC.drew {w : World} {k0 g : Nat} {A : Option Addr} {len cap k : Nat} {x : Cr} {W : World} (h : DWC w k0 g A len cap k x W) : DWC w k0 g A len cap k x W.drew := h.next (Below.refl _ _).drew
theorem DWC.new {w : World} {k0 g : Nat} {A : Option Addr} {len cap : Nat} (x : Cr) {W : World} (h1 : BoxC W 25 k0 0 0 0 0) (h4 : Draw W g (k0 + 1) A len cap) (h5 : Below k0 w W) (h6 : k0 < g) :
    DWC w k0 g A len cap W.heap.size x (W.alloc (.cells (crC x.lim x.used x.bl x.told) 25)) :=
  ⟨h1.alloc _, BoxC.new W _ _ _ _ _, h4.alloc _, h5.alloc (Nat.le_of_lt h1.lt) _, h6, h4.lt⟩
/-- The result is stored: what the caller gets. -/
theorem DWC.fin {w : World} {k0 g : Nat} {A : Option Addr} {len cap k : Nat} {x : Cr} {W : World} (h : DWC w k0 g A len cap k x W) :
    BoxC (putC W k0 x) 25 k0 x.lim x.used x.bl x.told ∧ Below k0 w (putC W k0 x) := ⟨h.o.put x, putC_below h.bl (Nat.le_refl _) x⟩
theorem DWC.keep {w : World} {k0 g : Nat} {A : Option Addr} {len cap k : Nat} {x : Cr} {W : World} (h : DWC w k0 g A len cap k x W) : C4 (putC W k0 x) k x.lim x.used x.bl x.told :=
  (h.b.putO x (by have := h.l1; have := h.l2; omega)).cells
set_option maxRecDepth 100000 in
set_option maxHeartbeats 2000000 in
/-- spec.DrawUseCredit -/
theorem draw_use (A : Option Addr) (len cap : Nat) (w : World) (hlen : len ≤ maxLen) (hcode : Code w w.heap.size A len) :
    Calls Try.prog 11 #[.slice A len cap] w fun e w' => ∃ (x : Cr) (n : Int), e = .returned (.tuple #[crV x, .int .i64 n]) ∧ inCr x ∧ (-1 ≤ n ∧ n ≤ 14) ∧ Below w.heap.size w w' := by
  have HC := Lib.hid hcode
  have X0 := Lib.hid (BoxC.new w 25 0 0 0 0)
  have HS0 := Lib.hid (show (w.alloc (.cells (crC 0 0 0 0) 25)).heap.size = w.heap.size + 1 by simp)
  have B0 := Lib.hid ((Below.refl w.heap.size w).alloc (Nat.le_refl _) (.cells (crC 0 0 0 0) 25))
  have HCC := Lib.hid (show Code (w.alloc (.cells (crC 0 0 0 0) 25)) (w.alloc (.cells (crC 0 0 0 0) 25)).heap.size A len from Code.later HC.out B0.out)
  clear hcode
  go_enter Try.func11, Try.ntmps11
  go_upto_region 1 with fail
  generalize w.alloc (.cells (crC 0 0 0 0) 25) = w0 at *
  go_wp2_with fail
  have hdn := dnew A len cap w0 hlen HCC.out
  refine hdn.mono ?_
  clear hdn
  rintro e w1 ⟨g, rfl, hg, d1, b1⟩
  rw [HS0.out] at hg d1
  have X1 := Lib.hid (X0.out.below b1 X0.out.lt)
  have D1 := Lib.hid d1
  have B1 := Lib.hid (B0.out.trans (b1.mono B0.out.size))
  clear b1 d1 X0 B0 HCC HS0
  go_wp2_with fail
  refine (d10cr g _ A len cap w1 D1.out).mono ?_
  rintro e w2 ⟨x, rfl, hx, d2, g2⟩
  have HI := Lib.hid hx
  have X2 := Lib.hid (X1.out.only g2 (by omega))
  have B2 := Lib.hid (B1.out.trans (only_below g2 (by omega) B1.out.size))
  have HD3 := Lib.hid (DWC.new x X2.out d2 B2.out (by omega))
  clear d2 g2 X1 D1 B1 X2 B2 hx
  go_upto_region 3 with fail
  generalize w2.alloc (.cells (crC x.lim x.used x.bl x.told) 25) = w3 at *
  generalize w2.heap.size = k3 at *
  have HCZ : Hid (∀ W, C4 W k3 x.lim x.used x.bl x.told → W.cell? ⟨k3, 0, none⟩ = some (.int .i64 x.lim) ∧ W.cell? ⟨k3, 1, none⟩ = some (.int .i64 x.used) ∧ W.cell? ⟨k3, 2, none⟩ = some (.int .i64 x.bl) ∧ W.cell? ⟨k3, 3, none⟩ = some (.int .i64 x.told)) := Lib.hid fun W h => h
  have HT := Lib.hid (dbelow 16 (by decide) (by decide) g _ A len cap w3.drew HD3.out.drew.d)
  have HK1 := Lib.hid (HCZ.out _ HD3.out.drew.b.cells)
  obtain ⟨p0, p1, p2, p3⟩ := HD3.out.b.cells
  obtain ⟨q0, q1, q2, q3⟩ := HD3.out.o.cells
  have qf := HD3.out.o.free
  go_region_held3 (fun W => W.cell? ⟨k3, 0, none⟩ = some (.int .i64 x.lim) ∧ W.cell? ⟨k3, 1, none⟩ = some (.int .i64 x.used) ∧ W.cell? ⟨k3, 2, none⟩ = some (.int .i64 x.bl) ∧ W.cell? ⟨k3, 3, none⟩ = some (.int .i64 x.told)) (first | with_reducible exact HK1.out | with_reducible exact HK2.out | with_reducible exact HK3.out) (first | (go_at_call 34; refine HT.out.mono ?_; rintro e w4 ⟨y, rfl, y0, y1, d4, g4⟩; have HD4 := Lib.hid (HD3.out.drew.drawn g4 d4); have HK2 := Lib.hid (HCZ.out _ HD4.out.b.cells); have HK3 := Lib.hid (HCZ.out _ HD4.out.keep); dsimp only [putC] at HK3; obtain ⟨r0, r1, r2, r3⟩ := HD4.out.o.cells; have rf := HD4.out.o.free; clear d4 g4))
  go_wp2
  refine bodyPost_ret (results_cr rfl _ _ w.heap.size _ _ _ _ rfl HD4.out.fin.1 Try.underlying25 rfl (by kernel_rfl)) rfl ?_
  exact ⟨x, IntKind.i64.wrap (y - 1), rfl, HI.out, by rw [IntKind.wrap_i64]; omega, HD4.out.fin.2⟩
set_option maxRecDepth 100000 in
set_option maxHeartbeats 2000000 in
/-- spec.DrawRaiseLimit -/
theorem draw_raise (A : Option Addr) (len cap : Nat) (w : World) (hlen : len ≤ maxLen) (hcode : Code w w.heap.size A len) :
    Calls Try.prog 18 #[.slice A len cap] w fun e w' => ∃ (x : Cr) (n : Int), e = .returned (.tuple #[crV x, .int .i64 n]) ∧ inCr x ∧ (-1 ≤ n ∧ n ≤ 38) ∧ Below w.heap.size w w' := by
  have HC := Lib.hid hcode
  have X0 := Lib.hid (BoxC.new w 25 0 0 0 0)
  have HS0 := Lib.hid (show (w.alloc (.cells (crC 0 0 0 0) 25)).heap.size = w.heap.size + 1 by simp)
  have B0 := Lib.hid ((Below.refl w.heap.size w).alloc (Nat.le_refl _) (.cells (crC 0 0 0 0) 25))
  have HCC := Lib.hid (show Code (w.alloc (.cells (crC 0 0 0 0) 25)) (w.alloc (.cells (crC 0 0 0 0) 25)).heap.size A len from Code.later HC.out B0.out)
  clear hcode
  go_enter Try.func18, Try.ntmps18
  go_upto_region 1 with fail
  generalize w.alloc (.cells (crC 0 0 0 0) 25) = w0 at *
  go_wp2_with fail
  have hdn := dnew A len cap w0 hlen HCC.out
  refine hdn.mono ?_
  clear hdn
  rintro e w1 ⟨g, rfl, hg, d1, b1⟩
  rw [HS0.out] at hg d1
  have X1 := Lib.hid (X0.out.below b1 X0.out.lt)
  have D1 := Lib.hid d1
  have B1 := Lib.hid (B0.out.trans (b1.mono B0.out.size))
  clear b1 d1 X0 B0 HCC HS0
  go_wp2_with fail
  refine (d10cr g _ A len cap w1 D1.out).mono ?_
  rintro e w2 ⟨x, rfl, hx, d2, g2⟩
  have HI := Lib.hid hx
  have X2 := Lib.hid (X1.out.only g2 (by omega))
  have B2 := Lib.hid (B1.out.trans (only_below g2 (by omega) B1.out.size))
  have HD3 := Lib.hid (DWC.new x X2.out d2 B2.out (by omega))
  clear d2 g2 X1 D1 B1 X2 B2 hx
  go_upto_region 3 with fail
  generalize w2.alloc (.cells (crC x.lim x.used x.bl x.told) 25) = w3 at *
  generalize w2.heap.size = k3 at *
  have HCZ : Hid (∀ W, C4 W k3 x.lim x.used x.bl x.told → W.cell? ⟨k3, 0, none⟩ = some (.int .i64 x.lim) ∧ W.cell? ⟨k3, 1, none⟩ = some (.int .i64 x.used) ∧ W.cell? ⟨k3, 2, none⟩ = some (.int .i64 x.bl) ∧ W.cell? ⟨k3, 3, none⟩ = some (.int .i64 x.told)) := Lib.hid fun W h => h
  have HT := Lib.hid (dbelow 40 (by decide) (by decide) g _ A len cap w3.drew HD3.out.drew.d)
  have HK1 := Lib.hid (HCZ.out _ HD3.out.drew.b.cells)
  obtain ⟨p0, p1, p2, p3⟩ := HD3.out.b.cells
  obtain ⟨q0, q1, q2, q3⟩ := HD3.out.o.cells
  have qf := HD3.out.o.free
  go_region_held3 (fun W => W.cell? ⟨k3, 0, none⟩ = some (.int .i64 x.lim) ∧ W.cell? ⟨k3, 1, none⟩ = some (.int .i64 x.used) ∧ W.cell? ⟨k3, 2, none⟩ = some (.int .i64 x.bl) ∧ W.cell? ⟨k3, 3, none⟩ = some (.int .i64 x.told)) (first | with_reducible exact HK1.out | with_reducible exact HK2.out | with_reducible exact HK3.out) (first | (go_at_call 34; refine HT.out.mono ?_; rintro e w4 ⟨y, rfl, y0, y1, d4, g4⟩; have HD4 := Lib.hid (HD3.out.drew.drawn g4 d4); have HK2 := Lib.hid (HCZ.out _ HD4.out.b.cells); have HK3 := Lib.hid (HCZ.out _ HD4.out.keep); dsimp only [putC] at HK3; obtain ⟨r0, r1, r2, r3⟩ := HD4.out.o.cells; have rf := HD4.out.o.free; clear d4 g4))
  go_wp2
  refine bodyPost_ret (results_cr rfl _ _ w.heap.size _ _ _ _ rfl HD4.out.fin.1 Try.underlying25 rfl (by kernel_rfl)) rfl ?_
  exact ⟨x, IntKind.i64.wrap (y - 1), rfl, HI.out, by rw [IntKind.wrap_i64]; omega, HD4.out.fin.2⟩
set_option maxRecDepth 100000 in
set_option maxHeartbeats 2000000 in
/-- spec.DrawNewCredit -/
theorem draw_newc (A : Option Addr) (len cap : Nat) (w : World) (hlen : len ≤ maxLen) (hcode : Code w w.heap.size A len) :
    Calls Try.prog 27 #[.slice A len cap] w fun e w' => ∃ n : Int, e = .returned (.int .i64 n) ∧ (-9223372036854775808 ≤ n ∧ n ≤ 9223372036854775807) ∧ Below w.heap.size w w' := by
  have hdn := Lib.hid (dnew A len cap w hlen hcode)
  clear hcode
  go_enter Try.func27, Try.ntmps27
  go_wp2_with fail
  refine hdn.out.mono ?_
  clear hdn
  rintro e w1 ⟨g, rfl, hg, d1, b1⟩
  have HP := Lib.hid (dpick w1.heap.size 5 (by decide) (by decide) g _ A len cap (w1.alloc (.cells #[.int .i64 (-1), .int .i64 0, .int .i64 5, .int .i64 4611686018427387903, .int .i64 4611686018427387904] 3)) (d1.alloc _) (by have := d1.lt; omega) (by simp) (row_cells w1 [-1, 0, 5, 4611686018427387903, 4611686018427387904] (by decide)))
  have B1 := Lib.hid (b1.alloc b1.size (.cells #[.int .i64 (-1), .int .i64 0, .int .i64 5, .int .i64 4611686018427387903, .int .i64 4611686018427387904] 3))
  clear d1 b1
  go_wp2_with fail
  refine HP.out.mono ?_
  rintro e w2 ⟨n, rfl, n0, n1, d2, g2⟩
  have B2 := Lib.hid (B1.out.trans (only_below g2 hg B1.out.size))
  clear d2 g2 HP B1
  go_wp2
  go_ret
  exact ⟨n, rfl, ⟨n0, n1⟩, B2.out⟩
end Go.Proofs.Ytdaoaedkjoknmaa
