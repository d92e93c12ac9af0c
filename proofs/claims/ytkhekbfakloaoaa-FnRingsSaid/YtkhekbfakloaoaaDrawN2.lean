/-
  What the drawing functions of chapter 8 return: small rings, and what goes with them.
-/
import Derived.Test.YtkhekbfakloaoaaDrawN
import Derived.Test.YtkhekbfakloaoaaDrawNew
namespace Go.Proofs.Ytkhekbfakloaoaa
open Go.RowKit Go.Deep Go.Proofs.Ytkhekbfakloaoaa.Num

theorem results_ctt {P : Program} {fn : Func} {p u v : Tmp} {ty : TypeId} (h : fn.results = #[.cell p ty, .tmp u, .tmp v]) (tmps : Array Value) (w : World) (g : Nat) (t : TypeId) (cs : Array Value) (fr : Nat × Nat) (d : TypeDesc)
    (hp : tmps.getD p undef = .pointer (some ⟨g, 0, none⟩)) (hg : w.heap[g]? = some (.cells cs t fr))
    (hu : P.underlying ty = some d) (hd : (match d with | .struct _ | .array _ _ => true | _ => false) = true) (hi : (P.info? ty).map (·.size) = some cs.size) :
    (results fn tmps).run P w = .ok (.tuple #[.agg cs, tmps.getD u undef, tmps.getD v undef]) w := by
  have hp' : tmps[p]?.getD undef = .pointer (some ⟨g, 0, none⟩) := by simpa using hp
  simp [results, h, hp', asAddr, run_loadVar_row w g t ty cs fr d hg hu hd hi]
theorem results_cc {P : Program} {fn : Func} {p q : Tmp} {ty : TypeId} (h : fn.results = #[.cell p ty, .cell q ty]) (tmps : Array Value) (w : World) (g g' : Nat) (t t' : TypeId) (cs cs' : Array Value) (fr fr' : Nat × Nat) (d : TypeDesc)
    (hp : tmps.getD p undef = .pointer (some ⟨g, 0, none⟩)) (hg : w.heap[g]? = some (.cells cs t fr)) (hq : tmps.getD q undef = .pointer (some ⟨g', 0, none⟩)) (hg' : w.heap[g']? = some (.cells cs' t' fr'))
    (hu : P.underlying ty = some d) (hd : (match d with | .struct _ | .array _ _ => true | _ => false) = true) (hi : (P.info? ty).map (·.size) = some cs.size) (hi' : (P.info? ty).map (·.size) = some cs'.size) :
    (results fn tmps).run P w = .ok (.tuple #[.agg cs, .agg cs']) w := by
  have hp' : tmps[p]?.getD undef = .pointer (some ⟨g, 0, none⟩) := by simpa using hp
  have hq' : tmps[q]?.getD undef = .pointer (some ⟨g', 0, none⟩) := by simpa using hq
  simp [results, h, hp', hq', asAddr, run_loadVar_row w g t ty cs fr d hg hu hd hi, run_loadVar_row w g' t' ty cs' fr' d hg' hu hd hi']
/-- The blocks of a drawing function: the result's (block k0), the cursor's, the ring's; w is the world ahead of the call. -/
structure DWN (w : World) (k0 : Nat) (g : Nat) (A : Option Addr) (len cap : Nat) (K k : Nat) (r : Rn) (v : Value) (W : World) : Prop where
  o : BoxN W k0 0 0 0 (.slice none 0 0)
  b : BoxN W k r.size r.base r.en v
  own : OwnK W K v r.cs
  d : Draw W g (k0 + 1) A len cap
  bl : Below k0 w W
  l1 : k0 < g
  l2 : g < K
  l3 : K ≤ k
theorem DWN.drawn {w : World} {k0 g : Nat} {A : Option Addr} {len cap K k : Nat} {r : Rn} {v : Value} {W W' : World} (h : DWN w k0 g A len cap K k r v W) (hg : W.grownBy W' (some g)) (hd : Draw W' g (k0 + 1) A len cap) : DWN w k0 g A len cap K k r v W' := by
  obtain ⟨h1, h2, h3, h4, h5, h6, h7, h8⟩ := h
  have := h1.lt
  exact ⟨h1.only hg (by omega), h2.only hg (by omega), h3.only hg h7, hd, h5.trans (only_below hg (by omega) (by omega)), h6, h7, h8⟩
theorem DWN.next {w : World} {k0 g : Nat} {A : Option Addr} {len cap K k : Nat} {r : Rn} {v : Value} {W W' : World} (h : DWN w k0 g A len cap K k r v W) (hb : Below W.heap.size W W') : DWN w k0 g A len cap K k r v W' := by
  obtain ⟨h1, h2, h3, h4, h5, h6, h7, h8⟩ := h
  exact ⟨h1.below hb h1.lt, h2.below hb h2.lt, h3.later hb, h4.below h4.lt hb, h5.trans (hb.mono (Nat.le_of_lt h1.lt)), h6, h7, h8⟩
theorem DWN.drew {w : World} {k0 g : Nat} {A : Option Addr} {len cap K k : Nat} {r : Rn} {v : Value} {W : World} (h : DWN w k0 g A len cap K k r v W) : DWN w k0 g A len cap K k r v W.drew := h.next (Below.refl _ _).drew
theorem DWN.new {w : World} {k0 g : Nat} {A : Option Addr} {len cap K : Nat} {r : Rn} {v : Value} {W : World} (h1 : BoxN W k0 0 0 0 (.slice none 0 0)) (h3 : OwnK W K v r.cs) (h4 : Draw W g (k0 + 1) A len cap) (h5 : Below k0 w W) (h6 : k0 < g) (h7 : g < K) (h8 : K ≤ W.heap.size) :
    DWN w k0 g A len cap K W.heap.size r v (W.alloc (.cells (rnC r.size r.base r.en v) 26)) :=
  ⟨h1.alloc _, BoxN.new W _ _ _ _, h3.alloc _, h4.alloc _, h5.alloc (Nat.le_of_lt h1.lt) _, h6, h7, h8⟩
theorem below_put4 {B : Nat} {a W : World} (h : Below B a W) (g : Nat) (s b e : Int) (v : Value) (hg : B ≤ g) : Below B a (put4 W g s b e v) :=
  (((h.setCell (p := ⟨g, 0, none⟩) hg _).setCell (p := ⟨g, 1, none⟩) hg _).setCell (p := ⟨g, 2, none⟩) hg _).setCell (p := ⟨g, 3, none⟩) hg _
/-- The result is stored: what the caller gets. -/
theorem DWN.fin {w : World} {k0 g : Nat} {A : Option Addr} {len cap K k : Nat} {r : Rn} {v : Value} {W : World} (h : DWN w k0 g A len cap K k r v W) :
    BoxN (put4 W k0 r.size r.base r.en v) k0 r.size r.base r.en v ∧ OwnK (put4 W k0 r.size r.base r.en v) k0 v r.cs ∧ Below k0 w (put4 W k0 r.size r.base r.en v) := by
  obtain ⟨h1, h2, h3, h4, h5, h6, h7, h8⟩ := h
  exact ⟨h1.put4 _ _ _ _, (h3.put4 _ _ _ _ _ (fun j hj => by have := (h3.lt j hj).1; omega)).weaken (by omega), below_put4 h5 _ _ _ _ _ (Nat.le_refl _)⟩
/-- The ring's cells, behind the store into the result. -/
theorem DWN.keep {w : World} {k0 g : Nat} {A : Option Addr} {len cap K k : Nat} {r : Rn} {v : Value} {W : World} (h : DWN w k0 g A len cap K k r v W) : CellN (put4 W k0 r.size r.base r.en v) k r v :=
  (h.b.put4_other _ _ _ _ _ (by have := h.l1; have := h.l2; have := h.l3; omega)).cells

set_option maxRecDepth 100000 in
set_option maxHeartbeats 2000000 in
/-- spec.DrawWriteRing -/
theorem draw_write (A : Option Addr) (len cap : Nat) (w : World) (hlen : len ≤ maxLen) (hcode : Code w w.heap.size A len) :
    Calls Try.prog 12 #[.slice A len cap] w fun e w' => ∃ (r : Rn) (v : Value) (l : List UInt8), e = .returned (.tuple #[rnV r v, .string ⟨l.toArray⟩]) ∧ smallRn r ∧ l.length ≤ 9 ∧ OwnK w' w.heap.size v r.cs ∧ Below w.heap.size w w' := by
  have HC := Lib.hid hcode
  have X0 := Lib.hid (BoxN.new w 0 0 0 (.slice none 0 0))
  have HS0 := Lib.hid (show (w.alloc (.cells (rnC 0 0 0 (.slice none 0 0)) 26)).heap.size = w.heap.size + 1 by simp)
  have B0 := Lib.hid ((Below.refl w.heap.size w).alloc (Nat.le_refl _) (.cells (rnC 0 0 0 (.slice none 0 0)) 26))
  have HCC := Lib.hid (show Code (w.alloc (.cells (rnC 0 0 0 (.slice none 0 0)) 26)) (w.alloc (.cells (rnC 0 0 0 (.slice none 0 0)) 26)).heap.size A len from Code.later HC.out B0.out)
  clear hcode
  go_enter Try.func12, Try.ntmps12
  go_upto_region 1 with fail
  generalize w.alloc (.cells (rnC 0 0 0 (.slice none 0 0)) 26) = w0 at *
  go_wp2_with fail
  have hdn := dnew A len cap w0 hlen HCC.out
  refine hdn.mono ?_
  clear hdn
  rintro e w1 ⟨g, rfl, hg, d1, b1⟩
  rw [HS0.out] at hg d1
  have X1 := Lib.hid (X0.out.below b1 X0.out.lt)
  have D1 := Lib.hid d1
  have B1 := Lib.hid (B0.out.trans (b1.mono B0.out.size))
  clear b1 d1 X0 B0 HCC HS0
  go_wp2_with fail
  refine (d8ring g _ A len cap w1 D1.out).mono ?_
  rintro e w2 ⟨r, v, rfl, hsm, ho, d2, g2⟩
  have hgl := D1.out.lt
  have HSM := Lib.hid hsm
  have X2 := Lib.hid (X1.out.only g2 (by omega))
  have B2 := Lib.hid (B1.out.trans (only_below g2 (by omega) B1.out.size))
  have hsz2 := g2.size
  obtain ⟨A2, c2, rfl, _, _⟩ := ho.frs
  have HD3 := Lib.hid (DWN.new X2.out ho d2 B2.out (by omega) hgl hsz2)
  clear ho d2 g2 X1 D1 B1 X2 B2 hsm
  go_upto_region 3 with fail
  generalize w2.alloc (.cells (rnC r.size r.base r.en (.slice A2 r.cs.length c2)) 26) = w3 at *
  generalize w2.heap.size = k3 at *
  have HCZ : Hid (∀ W, CellN W k3 r (.slice A2 r.cs.length c2) → W.cell? ⟨k3, 0, none⟩ = some (.int .i64 r.size) ∧ W.cell? ⟨k3, 1, none⟩ = some (.int .i64 r.base) ∧ W.cell? ⟨k3, 2, none⟩ = some (.int .i64 r.en) ∧ W.cell? ⟨k3, 3, none⟩ = some (.slice A2 r.cs.length c2)) := Lib.hid fun W h => h
  have HT := Lib.hid (d4data 9 (by decide) g _ A len cap w3.drew HD3.out.drew.d)
  have HK1 := Lib.hid (HCZ.out _ HD3.out.drew.b.cells)
  obtain ⟨p0, p1, p2, p3⟩ := HD3.out.b.cells
  obtain ⟨q0, q1, q2, q3⟩ := HD3.out.o.cells
  have qf := HD3.out.o.free
  go_region_held3 (fun W => W.cell? ⟨k3, 0, none⟩ = some (.int .i64 r.size) ∧ W.cell? ⟨k3, 1, none⟩ = some (.int .i64 r.base) ∧ W.cell? ⟨k3, 2, none⟩ = some (.int .i64 r.en) ∧ W.cell? ⟨k3, 3, none⟩ = some (.slice A2 r.cs.length c2)) (first | with_reducible exact HK1.out | with_reducible exact HK2.out | with_reducible exact HK3.out) (first | (go_at_call 38; refine HT.out.mono ?_; rintro e w4 ⟨l, rfl, hl, d4, g4⟩; have HD4 := Lib.hid (HD3.out.drew.drawn g4 d4); have HK2 := Lib.hid (HCZ.out _ HD4.out.b.cells); have HK3 := Lib.hid (HCZ.out _ HD4.out.keep); dsimp only [put4] at HK3; obtain ⟨r0, r1, r2, r3⟩ := HD4.out.o.cells; have rf := HD4.out.o.free; clear d4 g4))
  go_wp2
  refine bodyPost_ret (results_ct rfl _ _ w.heap.size _ _ _ _ rfl HD4.out.fin.1 Try.underlying26 rfl (by kernel_rfl)) rfl ?_
  exact ⟨r, _, l, rfl, HSM.out, hl, HD4.out.fin.2.1, HD4.out.fin.2.2⟩
set_option maxRecDepth 100000 in
set_option maxHeartbeats 2000000 in
/-- spec.DrawDropRing -/
theorem draw_drop (A : Option Addr) (len cap : Nat) (w : World) (hlen : len ≤ maxLen) (hcode : Code w w.heap.size A len) :
    Calls Try.prog 23 #[.slice A len cap] w fun e w' => ∃ (r : Rn) (v : Value) (t : Int), e = .returned (.tuple #[rnV r v, .int .i64 t]) ∧ smallRn r ∧ (-9223372036854775808 ≤ t ∧ t ≤ 9223372036854775807) ∧ OwnK w' w.heap.size v r.cs ∧ Below w.heap.size w w' := by
  have HC := Lib.hid hcode
  have X0 := Lib.hid (BoxN.new w 0 0 0 (.slice none 0 0))
  have HS0 := Lib.hid (show (w.alloc (.cells (rnC 0 0 0 (.slice none 0 0)) 26)).heap.size = w.heap.size + 1 by simp)
  have B0 := Lib.hid ((Below.refl w.heap.size w).alloc (Nat.le_refl _) (.cells (rnC 0 0 0 (.slice none 0 0)) 26))
  have HCC := Lib.hid (show Code (w.alloc (.cells (rnC 0 0 0 (.slice none 0 0)) 26)) (w.alloc (.cells (rnC 0 0 0 (.slice none 0 0)) 26)).heap.size A len from Code.later HC.out B0.out)
  clear hcode
  go_enter Try.func23, Try.ntmps23
  go_upto_region 1 with fail
  generalize w.alloc (.cells (rnC 0 0 0 (.slice none 0 0)) 26) = w0 at *
  go_wp2_with fail
  have hdn := dnew A len cap w0 hlen HCC.out
  refine hdn.mono ?_
  clear hdn
  rintro e w1 ⟨g, rfl, hg, d1, b1⟩
  rw [HS0.out] at hg d1
  have X1 := Lib.hid (X0.out.below b1 X0.out.lt)
  have D1 := Lib.hid d1
  have B1 := Lib.hid (B0.out.trans (b1.mono B0.out.size))
  clear b1 d1 X0 B0 HCC HS0
  go_wp2_with fail
  refine (d8ring g _ A len cap w1 D1.out).mono ?_
  rintro e w2 ⟨r, v, rfl, hsm, ho, d2, g2⟩
  have hgl := D1.out.lt
  have HSM := Lib.hid hsm
  have X2 := Lib.hid (X1.out.only g2 (by omega))
  have B2 := Lib.hid (B1.out.trans (only_below g2 (by omega) B1.out.size))
  have hsz2 := g2.size
  obtain ⟨A2, c2, rfl, _, _⟩ := ho.frs
  have HD3 := Lib.hid (DWN.new X2.out ho d2 B2.out (by omega) hgl hsz2)
  clear ho d2 g2 X1 D1 B1 X2 B2 hsm
  go_upto_region 3 with fail
  generalize w2.alloc (.cells (rnC r.size r.base r.en (.slice A2 r.cs.length c2)) 26) = w3 at *
  generalize w2.heap.size = k3 at *
  have HCZ : Hid (∀ W, CellN W k3 r (.slice A2 r.cs.length c2) → W.cell? ⟨k3, 0, none⟩ = some (.int .i64 r.size) ∧ W.cell? ⟨k3, 1, none⟩ = some (.int .i64 r.base) ∧ W.cell? ⟨k3, 2, none⟩ = some (.int .i64 r.en) ∧ W.cell? ⟨k3, 3, none⟩ = some (.slice A2 r.cs.length c2)) := Lib.hid fun W h => h
  have HT := Lib.hid (dbelow 9 (by decide) (by decide) g _ A len cap w3.drew HD3.out.drew.d)
  have HK1 := Lib.hid (HCZ.out _ HD3.out.drew.b.cells)
  obtain ⟨p0, p1, p2, p3⟩ := HD3.out.b.cells
  obtain ⟨q0, q1, q2, q3⟩ := HD3.out.o.cells
  have qf := HD3.out.o.free
  go_region_held3 (fun W => W.cell? ⟨k3, 0, none⟩ = some (.int .i64 r.size) ∧ W.cell? ⟨k3, 1, none⟩ = some (.int .i64 r.base) ∧ W.cell? ⟨k3, 2, none⟩ = some (.int .i64 r.en) ∧ W.cell? ⟨k3, 3, none⟩ = some (.slice A2 r.cs.length c2)) (first | with_reducible exact HK1.out | with_reducible exact HK2.out | with_reducible exact HK3.out) (first | (go_at_call 51; refine HT.out.mono ?_; rintro e w4 ⟨y, rfl, y0, y1, d4, g4⟩; have HD4 := Lib.hid (HD3.out.drew.drawn g4 d4); have HK2 := Lib.hid (HCZ.out _ HD4.out.b.cells); have HK3 := Lib.hid (HCZ.out _ HD4.out.keep); dsimp only [put4] at HK3; obtain ⟨r0, r1, r2, r3⟩ := HD4.out.o.cells; have rf := HD4.out.o.free; clear d4 g4))
  go_wp2
  refine bodyPost_ret (results_ct rfl _ _ w.heap.size _ _ _ _ rfl HD4.out.fin.1 Try.underlying26 rfl (by kernel_rfl)) rfl ?_
  exact ⟨r, _, IntKind.i64.wrap (IntKind.i64.wrap (r.base + y) - 1), rfl, HSM.out, by rw [IntKind.wrap_i64]; omega, HD4.out.fin.2.1, HD4.out.fin.2.2⟩
set_option maxRecDepth 100000 in
set_option maxHeartbeats 2000000 in
/-- spec.DrawPeekRing -/
theorem draw_peek (A : Option Addr) (len cap : Nat) (w : World) (hlen : len ≤ maxLen) (hcode : Code w w.heap.size A len) :
    Calls Try.prog 21 #[.slice A len cap] w fun e w' => ∃ (r : Rn) (v : Value) (o n : Int), e = .returned (.tuple #[rnV r v, .int .i64 o, .int .i64 n]) ∧ smallRn r ∧ (-9223372036854775808 ≤ o ∧ o ≤ 9223372036854775807) ∧ (-9223372036854775808 ≤ n ∧ n ≤ 9223372036854775807) ∧ OwnK w' w.heap.size v r.cs ∧ Below w.heap.size w w' := by
  have HC := Lib.hid hcode
  have X0 := Lib.hid (BoxN.new w 0 0 0 (.slice none 0 0))
  have HS0 := Lib.hid (show (w.alloc (.cells (rnC 0 0 0 (.slice none 0 0)) 26)).heap.size = w.heap.size + 1 by simp)
  have B0 := Lib.hid ((Below.refl w.heap.size w).alloc (Nat.le_refl _) (.cells (rnC 0 0 0 (.slice none 0 0)) 26))
  have HCC := Lib.hid (show Code (w.alloc (.cells (rnC 0 0 0 (.slice none 0 0)) 26)) (w.alloc (.cells (rnC 0 0 0 (.slice none 0 0)) 26)).heap.size A len from Code.later HC.out B0.out)
  clear hcode
  go_enter Try.func21, Try.ntmps21
  go_upto_region 1 with fail
  generalize w.alloc (.cells (rnC 0 0 0 (.slice none 0 0)) 26) = w0 at *
  go_wp2_with fail
  have hdn := dnew A len cap w0 hlen HCC.out
  refine hdn.mono ?_
  clear hdn
  rintro e w1 ⟨g, rfl, hg, d1, b1⟩
  rw [HS0.out] at hg d1
  have X1 := Lib.hid (X0.out.below b1 X0.out.lt)
  have D1 := Lib.hid d1
  have B1 := Lib.hid (B0.out.trans (b1.mono B0.out.size))
  clear b1 d1 X0 B0 HCC HS0
  go_wp2_with fail
  refine (d8ring g _ A len cap w1 D1.out).mono ?_
  rintro e w2 ⟨r, v, rfl, hsm, ho, d2, g2⟩
  have hgl := D1.out.lt
  have HSM := Lib.hid hsm
  have X2 := Lib.hid (X1.out.only g2 (by omega))
  have B2 := Lib.hid (B1.out.trans (only_below g2 (by omega) B1.out.size))
  have hsz2 := g2.size
  obtain ⟨A2, c2, rfl, _, _⟩ := ho.frs
  have HD3 := Lib.hid (DWN.new X2.out ho d2 B2.out (by omega) hgl hsz2)
  clear ho d2 g2 X1 D1 B1 X2 B2 hsm
  go_upto_region 3 with fail
  generalize w2.alloc (.cells (rnC r.size r.base r.en (.slice A2 r.cs.length c2)) 26) = w3 at *
  generalize w2.heap.size = k3 at *
  have HCZ : Hid (∀ W, CellN W k3 r (.slice A2 r.cs.length c2) → W.cell? ⟨k3, 0, none⟩ = some (.int .i64 r.size) ∧ W.cell? ⟨k3, 1, none⟩ = some (.int .i64 r.base) ∧ W.cell? ⟨k3, 2, none⟩ = some (.int .i64 r.en) ∧ W.cell? ⟨k3, 3, none⟩ = some (.slice A2 r.cs.length c2)) := Lib.hid fun W h => h
  have HT := Lib.hid (dbelow 6 (by decide) (by decide) g _ A len cap w3.drew HD3.out.drew.d)
  have HK1 := Lib.hid (HCZ.out _ HD3.out.drew.b.cells)
  obtain ⟨p0, p1, p2, p3⟩ := HD3.out.b.cells
  go_region_held3 (fun W => W.cell? ⟨k3, 0, none⟩ = some (.int .i64 r.size) ∧ W.cell? ⟨k3, 1, none⟩ = some (.int .i64 r.base) ∧ W.cell? ⟨k3, 2, none⟩ = some (.int .i64 r.en) ∧ W.cell? ⟨k3, 3, none⟩ = some (.slice A2 r.cs.length c2)) (first | with_reducible exact HK1.out | with_reducible exact HK2.out) (first | (go_at_call 51; refine HT.out.mono ?_; rintro e w5 ⟨y1, rfl, ya, yb, d4, g4⟩; have HD4 := Lib.hid (HD3.out.drew.drawn g4 d4); have HK2 := Lib.hid (HCZ.out _ HD4.out.b.cells); clear d4 g4))
  obtain ⟨ov, hov⟩ : ∃ q, IntKind.i64.wrap (IntKind.i64.wrap (r.base + y1) - 1) = q := ⟨_, rfl⟩
  have HOV : Hid (-9223372036854775808 ≤ ov ∧ ov ≤ 9223372036854775807) := Lib.hid (by rw [← hov, IntKind.wrap_i64]; omega)
  rw [hov]
  clear hov HT HK1 HK2 HCZ p0 p1 p2 p3 ya yb
  have HD3 := HD4
  clear HD4
  generalize w5 = w3 at *
  go_upto_region 4 with fail
  have HCZ : Hid (∀ W, CellN W k3 r (.slice A2 r.cs.length c2) → W.cell? ⟨k3, 0, none⟩ = some (.int .i64 r.size) ∧ W.cell? ⟨k3, 1, none⟩ = some (.int .i64 r.base) ∧ W.cell? ⟨k3, 2, none⟩ = some (.int .i64 r.en) ∧ W.cell? ⟨k3, 3, none⟩ = some (.slice A2 r.cs.length c2)) := Lib.hid fun W h => h
  have HT := Lib.hid (dbelow 7 (by decide) (by decide) g _ A len cap w3.drew HD3.out.drew.d)
  have HK1 := Lib.hid (HCZ.out _ HD3.out.drew.b.cells)
  obtain ⟨p0, p1, p2, p3⟩ := HD3.out.b.cells
  obtain ⟨q0, q1, q2, q3⟩ := HD3.out.o.cells
  have qf := HD3.out.o.free
  go_region_held3 (fun W => W.cell? ⟨k3, 0, none⟩ = some (.int .i64 r.size) ∧ W.cell? ⟨k3, 1, none⟩ = some (.int .i64 r.base) ∧ W.cell? ⟨k3, 2, none⟩ = some (.int .i64 r.en) ∧ W.cell? ⟨k3, 3, none⟩ = some (.slice A2 r.cs.length c2)) (first | with_reducible exact HK1.out | with_reducible exact HK2.out | with_reducible exact HK3.out) (first | (go_at_call 51; refine HT.out.mono ?_; rintro e w4 ⟨y, rfl, y0, y1, d4, g4⟩; have HD4 := Lib.hid (HD3.out.drew.drawn g4 d4); have HK2 := Lib.hid (HCZ.out _ HD4.out.b.cells); have HK3 := Lib.hid (HCZ.out _ HD4.out.keep); dsimp only [put4] at HK3; obtain ⟨r0, r1, r2, r3⟩ := HD4.out.o.cells; have rf := HD4.out.o.free; clear d4 g4))
  go_wp2
  refine bodyPost_ret (results_ctt rfl _ _ w.heap.size _ _ _ _ rfl HD4.out.fin.1 Try.underlying26 rfl (by kernel_rfl)) rfl ?_
  exact ⟨r, _, ov, IntKind.i64.wrap (y - 1), rfl, HSM.out, HOV.out, by rw [IntKind.wrap_i64]; omega, HD4.out.fin.2.1, HD4.out.fin.2.2⟩
set_option maxRecDepth 100000 in
set_option maxHeartbeats 2000000 in
/-- spec.DrawNewRing -/
theorem draw_new (A : Option Addr) (len cap : Nat) (w : World) (hlen : len ≤ maxLen) (hcode : Code w w.heap.size A len) :
    Calls Try.prog 26 #[.slice A len cap] w fun e w' => ∃ n : Int, e = .returned (.int .i64 n) ∧ (-9223372036854775808 ≤ n ∧ n ≤ 9223372036854775807) ∧ Below w.heap.size w w' := by
  have hdn := Lib.hid (dnew A len cap w hlen hcode)
  clear hcode
  go_enter Try.func26, Try.ntmps26
  go_wp2_with fail
  refine hdn.out.mono ?_
  clear hdn
  rintro e w1 ⟨g, rfl, hg, d1, b1⟩
  have HP := Lib.hid (dpick w1.heap.size 8 (by decide) (by decide) g _ A len cap (w1.alloc (.cells #[.int .i64 (-1), .int .i64 0, .int .i64 1, .int .i64 2, .int .i64 3, .int .i64 8, .int .i64 64, .int .i64 128] 3)) (d1.alloc _) (by have := d1.lt; omega) (by simp) (row_cells w1 [-1, 0, 1, 2, 3, 8, 64, 128] (by decide)))
  have B1 := Lib.hid (b1.alloc b1.size (.cells #[.int .i64 (-1), .int .i64 0, .int .i64 1, .int .i64 2, .int .i64 3, .int .i64 8, .int .i64 64, .int .i64 128] 3))
  clear d1 b1
  go_wp2_with fail
  refine HP.out.mono ?_
  rintro e w2 ⟨n, rfl, n0, n1, d2, g2⟩
  have B2 := Lib.hid (B1.out.trans (only_below g2 hg B1.out.size))
  clear d2 g2 HP B1
  go_wp2
  go_ret
  exact ⟨n, rfl, ⟨n0, n1⟩, B2.out⟩
end Go.Proofs.Ytkhekbfakloaoaa
