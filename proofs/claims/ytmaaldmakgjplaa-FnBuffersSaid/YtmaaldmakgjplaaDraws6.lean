/-
  What the drawing functions of chapter 6 return: small buffers, and what goes with them.
  What spec.DrawEqualBuffers returns: two small buffers.
-/
import Derived.Test.YtmaaldmakgjplaaDraw6
namespace Go.Proofs.Ytmaaldmakgjplaa
open Go.RowKit Go.Deep Go.Proofs.Ytmaaldmakgjplaa.Num

theorem results_cell_tmp {P : Program} {fn : Func} {p u : Tmp} {ty : TypeId} (h : fn.results = #[.cell p ty, .tmp u]) (tmps : Array Value) (w : World) (g : Nat) (t : TypeId) (cs : Array Value) (fr : Nat × Nat) (d : TypeDesc)
    (hp : tmps.getD p undef = .pointer (some ⟨g, 0, none⟩)) (hg : w.heap[g]? = some (.cells cs t fr))
    (hu : P.underlying ty = some d) (hd : (match d with | .struct _ | .array _ _ => true | _ => false) = true) (hi : (P.info? ty).map (·.size) = some cs.size) :
    (results fn tmps).run P w = .ok (.tuple #[.agg cs, tmps.getD u undef]) w := by
  have hp' : tmps[p]?.getD undef = .pointer (some ⟨g, 0, none⟩) := by simpa using hp
  simp [results, h, hp', asAddr, run_loadVar_row w g t ty cs fr d hg hu hd hi]
theorem results_cell_tmp2 {P : Program} {fn : Func} {p u v : Tmp} {ty : TypeId} (h : fn.results = #[.cell p ty, .tmp u, .tmp v]) (tmps : Array Value) (w : World) (g : Nat) (t : TypeId) (cs : Array Value) (fr : Nat × Nat) (d : TypeDesc)
    (hp : tmps.getD p undef = .pointer (some ⟨g, 0, none⟩)) (hg : w.heap[g]? = some (.cells cs t fr))
    (hu : P.underlying ty = some d) (hd : (match d with | .struct _ | .array _ _ => true | _ => false) = true) (hi : (P.info? ty).map (·.size) = some cs.size) :
    (results fn tmps).run P w = .ok (.tuple #[.agg cs, tmps.getD u undef, tmps.getD v undef]) w := by
  have hp' : tmps[p]?.getD undef = .pointer (some ⟨g, 0, none⟩) := by simpa using hp
  simp [results, h, hp', asAddr, run_loadVar_row w g t ty cs fr d hg hu hd hi]
/-- The blocks of a drawing function: the result's, the cursor's, the buffer's. -/
def DW (w : World) (g : Nat) (A : Option Addr) (len cap : Nat) (K k : Nat) (n : Int) (v : Value) (l : List Ch) (W : World) : Prop :=
  BoxB W w.heap.size 0 (.slice none 0 0) ∧ BoxB W k n v ∧ OwnC W K v l ∧ Draw W g (w.heap.size + 1) A len cap ∧ Below w.heap.size w W ∧ w.heap.size < g ∧ g < K ∧ K ≤ k
theorem DW.drawn {w : World} {g : Nat} {A : Option Addr} {len cap K k : Nat} {n : Int} {v : Value} {l : List Ch} {W W' : World} (h : DW w g A len cap K k n v l W) (hg : W.grownBy W' (some g)) (hd : Draw W' g (w.heap.size + 1) A len cap) : DW w g A len cap K k n v l W' := by
  obtain ⟨h1, h2, h3, h4, h5, h6, h7, h8⟩ := h
  exact ⟨h1.only hg (by omega), h2.only hg (by omega), h3.only hg h7, hd, h5.trans (only_below hg (by omega) h5.size), h6, h7, h8⟩
theorem DW.next {w : World} {g : Nat} {A : Option Addr} {len cap K k : Nat} {n : Int} {v : Value} {l : List Ch} {W W' : World} (h : DW w g A len cap K k n v l W) (hb : Below W.heap.size W W') : DW w g A len cap K k n v l W' := by
  obtain ⟨h1, h2, h3, h4, h5, h6, h7, h8⟩ := h
  exact ⟨h1.below hb h1.lt, h2.below hb h2.lt, h3.later hb, h4.below h4.lt hb, h5.trans (hb.mono h5.size), h6, h7, h8⟩
theorem DW.new {w : World} {g : Nat} {A : Option Addr} {len cap K : Nat} {n : Int} {v : Value} {l : List Ch} {W : World} (h1 : BoxB W w.heap.size 0 (.slice none 0 0)) (h3 : OwnC W K v l) (h4 : Draw W g (w.heap.size + 1) A len cap) (h5 : Below w.heap.size w W) (h6 : w.heap.size < g) (h7 : g < K) (h8 : K ≤ W.heap.size) :
    DW w g A len cap K W.heap.size n v l (W.alloc (.cells #[.int .i64 n, v] 26)) :=
  ⟨h1.alloc _, BoxB.new W n v, h3.alloc _, h4.alloc _, h5.alloc h5.size _, h6, h7, h8⟩
/-- The result is stored: what the caller gets. -/
theorem DW.fin {w : World} {g : Nat} {A : Option Addr} {len cap K k : Nat} {n : Int} {v : Value} {l : List Ch} {W : World} (h : DW w g A len cap K k n v l W) :
    BoxB ((W.setCell ⟨w.heap.size, 0, none⟩ (.int .i64 n)).setCell ⟨w.heap.size, 1, none⟩ v) w.heap.size n v ∧ OwnC ((W.setCell ⟨w.heap.size, 0, none⟩ (.int .i64 n)).setCell ⟨w.heap.size, 1, none⟩ v) w.heap.size v l ∧ Below w.heap.size w ((W.setCell ⟨w.heap.size, 0, none⟩ (.int .i64 n)).setCell ⟨w.heap.size, 1, none⟩ v) := by
  obtain ⟨h1, h2, h3, h4, h5, h6, h7, h8⟩ := h
  exact ⟨(h1.set0 n).set1 v, ownc_weaken ((h3.put w.heap.size 0 _ (by omega)).put w.heap.size 1 _ (by omega)) (by omega), (h5.setCell (p := ⟨_, _, _⟩) (Nat.le_refl _) _).setCell (p := ⟨_, _, _⟩) (Nat.le_refl _) _⟩

set_option maxRecDepth 100000 in
set_option maxHeartbeats 2000000 in
/-- spec.DrawEndOf -/
theorem draw_end (A : Option Addr) (len cap : Nat) (w : World) (hlen : len ≤ maxLen) (hcode : Code w w.heap.size A len) :
    Calls Try.prog 26 #[.slice A len cap] w fun e w' => ∃ (b : Bf) (v : Value), e = .returned (bfV b.next v) ∧ smallB b ∧ OwnC w' w.heap.size v b.chs ∧ Below w.heap.size w w' := by
  have HC := Lib.hid hcode
  have X0 := Lib.hid (BoxB.new w 0 (.slice none 0 0))
  have HS0 := Lib.hid (show (w.alloc (.cells #[.int .i64 0, .slice none 0 0] 26)).heap.size = w.heap.size + 1 by simp)
  have B0 := Lib.hid ((Below.refl w.heap.size w).alloc (Nat.le_refl _) (.cells #[.int .i64 0, .slice none 0 0] 26))
  have HCC := Lib.hid (show Code (w.alloc (.cells #[.int .i64 0, .slice none 0 0] 26)) (w.alloc (.cells #[.int .i64 0, .slice none 0 0] 26)).heap.size A len from Code.later HC.out B0.out)
  clear hcode
  go_enter Try.func26, Try.ntmps26
  go_upto_region 1 with fail
  generalize w.alloc (.cells #[.int .i64 0, .slice none 0 0] 26) = w0 at *
  go_wp2_with fail
  have hdn := dnew A len cap w0 hlen HCC.out
  refine hdn.mono ?_
  clear hdn
  rintro e w1 ⟨g, rfl, hg, d1, b1⟩
  rw [HS0.out] at hg d1
  have X1 := Lib.hid (X0.out.below b1 X0.out.lt)
  have D1 := Lib.hid d1
  have B1 := Lib.hid (B0.out.trans (b1.mono B0.out.size))
  clear b1 d1 X0 B0 HCC HS0
  go_wp2_with fail
  refine (d6buffer g _ A len cap w1 D1.out).mono ?_
  rintro e w2 ⟨b, v, rfl, hsm, ho, d2, g2⟩
  have hgl := D1.out.lt
  have HSM := Lib.hid hsm
  have X2 := Lib.hid (X1.out.only g2 (by omega))
  have B2 := Lib.hid (B1.out.trans (only_below g2 (by omega) B1.out.size))
  have hsz2 := g2.size
  obtain ⟨A2, c2, rfl, _, _⟩ := ho.frs
  obtain ⟨q0, q1⟩ := X2.out.cells
  have qf := X2.out.free
  have HO := Lib.hid ho
  clear ho d2 g2 hsm
  go_wp2
  refine bodyPost_ret (results_cell_row rfl _ _ w.heap.size _ _ _ _ rfl ((X2.out.set0 b.next).set1 _) Try.underlying26 rfl (by kernel_rfl)) rfl ?_
  exact ⟨b, _, rfl, HSM.out, ownc_weaken ((HO.out.put w.heap.size 0 _ (by omega)).put w.heap.size 1 _ (by omega)) (by omega), (B2.out.setCell (p := ⟨_, _, _⟩) (Nat.le_refl _) _).setCell (p := ⟨_, _, _⟩) (Nat.le_refl _) _⟩

set_option maxRecDepth 100000 in
set_option maxHeartbeats 2000000 in
/-- spec.DrawTakeBytes -/
theorem draw_take (A : Option Addr) (len cap : Nat) (w : World) (hlen : len ≤ maxLen) (hcode : Code w w.heap.size A len) :
    Calls Try.prog 34 #[.slice A len cap] w fun e w' => ∃ (b : Bf) (v : Value) (y : Int), e = .returned (.tuple #[bfV b.next v, .int .i64 y]) ∧ smallB b ∧ (-1 ≤ y ∧ y ≤ 6) ∧ OwnC w' w.heap.size v b.chs ∧ Below w.heap.size w w' := by
  have HC := Lib.hid hcode
  have X0 := Lib.hid (BoxB.new w 0 (.slice none 0 0))
  have HS0 := Lib.hid (show (w.alloc (.cells #[.int .i64 0, .slice none 0 0] 26)).heap.size = w.heap.size + 1 by simp)
  have B0 := Lib.hid ((Below.refl w.heap.size w).alloc (Nat.le_refl _) (.cells #[.int .i64 0, .slice none 0 0] 26))
  have HCC := Lib.hid (show Code (w.alloc (.cells #[.int .i64 0, .slice none 0 0] 26)) (w.alloc (.cells #[.int .i64 0, .slice none 0 0] 26)).heap.size A len from Code.later HC.out B0.out)
  clear hcode
  go_enter Try.func34, Try.ntmps34
  go_upto_region 1 with fail
  generalize w.alloc (.cells #[.int .i64 0, .slice none 0 0] 26) = w0 at *
  go_wp2_with fail
  have hdn := dnew A len cap w0 hlen HCC.out
  refine hdn.mono ?_
  clear hdn
  rintro e w1 ⟨g, rfl, hg, d1, b1⟩
  rw [HS0.out] at hg d1
  have X1 := Lib.hid (X0.out.below b1 X0.out.lt)
  have D1 := Lib.hid d1
  have B1 := Lib.hid (B0.out.trans (b1.mono B0.out.size))
  clear b1 d1 X0 B0 HCC HS0
  go_wp2_with fail
  refine (d6buffer g _ A len cap w1 D1.out).mono ?_
  rintro e w2 ⟨b, v, rfl, hsm, ho, d2, g2⟩
  have hgl := D1.out.lt
  have HSM := Lib.hid hsm
  have X2 := Lib.hid (X1.out.only g2 (by omega))
  have B2 := Lib.hid (B1.out.trans (only_below g2 (by omega) B1.out.size))
  have hsz2 := g2.size
  obtain ⟨A2, c2, rfl, _, _⟩ := ho.frs
  have HD3 := Lib.hid (DW.new (n := b.next) X2.out ho d2 B2.out (by omega) hgl hsz2)
  clear ho d2 g2 X1 D1 B1 X2 B2 hsm
  go_upto_region 3 with fail
  generalize w2.alloc (.cells #[.int .i64 b.next, .slice A2 b.chs.length c2] 26) = w3 at *
  generalize w2.heap.size = k3 at *
  have HT := Lib.hid (dbelow 8 (by decide) (by decide) g _ A len cap w3.drew (HD3.out.next (Below.refl _ _).drew).2.2.2.1)
  obtain ⟨p0, p1⟩ := HD3.out.2.1.cells
  obtain ⟨q0, q1⟩ := HD3.out.1.cells
  have qf := HD3.out.1.free
  have hne : k3 ≠ w.heap.size := by have := HD3.out.2.2.2.2.2; omega
  go_region_held3 (fun W => W.cell? ⟨k3, 0, none⟩ = some (.int .i64 b.next) ∧ W.cell? ⟨k3, 1, none⟩ = some (.slice A2 b.chs.length c2)) (first | exact HD3.out.2.1.cells | exact HD4.out.2.1.cells | exact (HD4.out.2.1.other _ _ _ hne).cells | exact ((HD4.out.2.1.other _ _ _ hne).other _ _ _ hne).cells) (first | (go_at_call 47; refine HT.out.mono ?_; rintro e w4 ⟨y, rfl, y0, y1, d4, g4⟩; have HD4 := Lib.hid ((HD3.out.next (Below.refl _ _).drew).drawn g4 d4); obtain ⟨r0, r1⟩ := HD4.out.1.cells; have rf := HD4.out.1.free; clear d4 g4))
  go_wp2
  refine bodyPost_ret (results_cell_tmp rfl _ _ w.heap.size _ _ _ _ rfl HD4.out.fin.1 Try.underlying26 rfl (by kernel_rfl)) rfl ?_
  exact ⟨b, _, IntKind.i64.wrap (y - 1), rfl, HSM.out, by rw [IntKind.wrap_i64]; omega, HD4.out.fin.2.1, HD4.out.fin.2.2⟩

set_option maxRecDepth 100000 in
set_option maxHeartbeats 2000000 in
/-- spec.DrawByteAt -/
theorem draw_at (A : Option Addr) (len cap : Nat) (w : World) (hlen : len ≤ maxLen) (hcode : Code w w.heap.size A len) :
    Calls Try.prog 27 #[.slice A len cap] w fun e w' => ∃ (b : Bf) (v : Value) (y : Int), e = .returned (.tuple #[bfV b.next v, .int .i64 y]) ∧ smallB b ∧ (-1 ≤ y ∧ y ≤ 18) ∧ OwnC w' w.heap.size v b.chs ∧ Below w.heap.size w w' := by
  have HC := Lib.hid hcode
  have X0 := Lib.hid (BoxB.new w 0 (.slice none 0 0))
  have HS0 := Lib.hid (show (w.alloc (.cells #[.int .i64 0, .slice none 0 0] 26)).heap.size = w.heap.size + 1 by simp)
  have B0 := Lib.hid ((Below.refl w.heap.size w).alloc (Nat.le_refl _) (.cells #[.int .i64 0, .slice none 0 0] 26))
  have HCC := Lib.hid (show Code (w.alloc (.cells #[.int .i64 0, .slice none 0 0] 26)) (w.alloc (.cells #[.int .i64 0, .slice none 0 0] 26)).heap.size A len from Code.later HC.out B0.out)
  clear hcode
  go_enter Try.func27, Try.ntmps27
  go_upto_region 1 with fail
  generalize w.alloc (.cells #[.int .i64 0, .slice none 0 0] 26) = w0 at *
  go_wp2_with fail
  have hdn := dnew A len cap w0 hlen HCC.out
  refine hdn.mono ?_
  clear hdn
  rintro e w1 ⟨g, rfl, hg, d1, b1⟩
  rw [HS0.out] at hg d1
  have X1 := Lib.hid (X0.out.below b1 X0.out.lt)
  have D1 := Lib.hid d1
  have B1 := Lib.hid (B0.out.trans (b1.mono B0.out.size))
  clear b1 d1 X0 B0 HCC HS0
  go_wp2_with fail
  refine (d6buffer g _ A len cap w1 D1.out).mono ?_
  rintro e w2 ⟨b, v, rfl, hsm, ho, d2, g2⟩
  have hgl := D1.out.lt
  have HSM := Lib.hid hsm
  have X2 := Lib.hid (X1.out.only g2 (by omega))
  have B2 := Lib.hid (B1.out.trans (only_below g2 (by omega) B1.out.size))
  have hsz2 := g2.size
  obtain ⟨A2, c2, rfl, _, _⟩ := ho.frs
  have HD3 := Lib.hid (DW.new (n := b.next) X2.out ho d2 B2.out (by omega) hgl hsz2)
  clear ho d2 g2 X1 D1 B1 X2 B2 hsm
  go_upto_region 3 with fail
  generalize w2.alloc (.cells #[.int .i64 b.next, .slice A2 b.chs.length c2] 26) = w3 at *
  generalize w2.heap.size = k3 at *
  have HT := Lib.hid (dbelow 20 (by decide) (by decide) g _ A len cap w3.drew (HD3.out.next (Below.refl _ _).drew).2.2.2.1)
  obtain ⟨p0, p1⟩ := HD3.out.2.1.cells
  obtain ⟨q0, q1⟩ := HD3.out.1.cells
  have qf := HD3.out.1.free
  have hne : k3 ≠ w.heap.size := by have := HD3.out.2.2.2.2.2; omega
  go_region_held3 (fun W => W.cell? ⟨k3, 0, none⟩ = some (.int .i64 b.next) ∧ W.cell? ⟨k3, 1, none⟩ = some (.slice A2 b.chs.length c2)) (first | exact HD3.out.2.1.cells | exact HD4.out.2.1.cells | exact (HD4.out.2.1.other _ _ _ hne).cells | exact ((HD4.out.2.1.other _ _ _ hne).other _ _ _ hne).cells) (first | (go_at_call 47; refine HT.out.mono ?_; rintro e w4 ⟨y, rfl, y0, y1, d4, g4⟩; have HD4 := Lib.hid ((HD3.out.next (Below.refl _ _).drew).drawn g4 d4); obtain ⟨r0, r1⟩ := HD4.out.1.cells; have rf := HD4.out.1.free; clear d4 g4))
  go_wp2
  refine bodyPost_ret (results_cell_tmp rfl _ _ w.heap.size _ _ _ _ rfl HD4.out.fin.1 Try.underlying26 rfl (by kernel_rfl)) rfl ?_
  exact ⟨b, _, IntKind.i64.wrap (y - 1), rfl, HSM.out, by rw [IntKind.wrap_i64]; omega, HD4.out.fin.2.1, HD4.out.fin.2.2⟩

theorem row_3d (a b c : Int) (w : World) (ha : -9223372036854775808 ≤ a ∧ a ≤ 9223372036854775807) (hb : -9223372036854775808 ≤ b ∧ b ≤ 9223372036854775807) (hc : -9223372036854775808 ≤ c ∧ c ≤ 9223372036854775807) :
    ∀ j, j < 3 → ∃ v : Int, (w.alloc (.cells #[.int .i64 a, .int .i64 b, .int .i64 c] 3)).cell? ⟨w.heap.size, j, none⟩ = some (.int .i64 v) ∧ -9223372036854775808 ≤ v ∧ v ≤ 9223372036854775807 := by
  intro j hj
  rw [World.cell?_alloc_at _ _ _ _ rfl]
  match j, hj with
  | 0, _ => exact ⟨a, rfl, ha⟩
  | 1, _ => exact ⟨b, rfl, hb⟩
  | 2, _ => exact ⟨c, rfl, hc⟩

set_option maxRecDepth 100000 in
set_option maxHeartbeats 4000000 in
/-- spec.DrawInsertData -/
theorem draw_ins (A : Option Addr) (len cap : Nat) (w : World) (hlen : len ≤ maxLen) (hcode : Code w w.heap.size A len) :
    Calls Try.prog 14 #[.slice A len cap] w fun e w' => ∃ (b : Bf) (v : Value) (o : Int) (l : List UInt8), e = .returned (.tuple #[bfV b.next v, .int .i64 o, .string ⟨l.toArray⟩]) ∧ smallB b ∧ (-9223372036854775808 ≤ o ∧ o ≤ 9223372036854775807) ∧ l.length ≤ 5 ∧ OwnC w' w.heap.size v b.chs ∧ Below w.heap.size w w' := by
  have HC := Lib.hid hcode
  have X0 := Lib.hid (BoxB.new w 0 (.slice none 0 0))
  have HS0 := Lib.hid (show (w.alloc (.cells #[.int .i64 0, .slice none 0 0] 26)).heap.size = w.heap.size + 1 by simp)
  have B0 := Lib.hid ((Below.refl w.heap.size w).alloc (Nat.le_refl _) (.cells #[.int .i64 0, .slice none 0 0] 26))
  have HCC := Lib.hid (show Code (w.alloc (.cells #[.int .i64 0, .slice none 0 0] 26)) (w.alloc (.cells #[.int .i64 0, .slice none 0 0] 26)).heap.size A len from Code.later HC.out B0.out)
  clear hcode
  go_enter Try.func14, Try.ntmps14
  go_upto_region 1 with fail
  generalize w.alloc (.cells #[.int .i64 0, .slice none 0 0] 26) = w0 at *
  go_wp2_with fail
  have hdn := dnew A len cap w0 hlen HCC.out
  refine hdn.mono ?_
  clear hdn
  rintro e w1 ⟨g, rfl, hg, d1, b1⟩
  rw [HS0.out] at hg d1
  have X1 := Lib.hid (X0.out.below b1 X0.out.lt)
  have D1 := Lib.hid d1
  have B1 := Lib.hid (B0.out.trans (b1.mono B0.out.size))
  clear b1 d1 X0 B0 HCC HS0
  go_wp2_with fail
  refine (d6buffer g _ A len cap w1 D1.out).mono ?_
  rintro e w2 ⟨b, v, rfl, hsm, ho, d2, g2⟩
  have hgl := D1.out.lt
  have HSM := Lib.hid hsm
  have X2 := Lib.hid (X1.out.only g2 (by omega))
  have B2 := Lib.hid (B1.out.trans (only_below g2 (by omega) B1.out.size))
  have hsz2 := g2.size
  obtain ⟨A2, c2, rfl, _, _⟩ := ho.frs
  have HD3 := Lib.hid (DW.new (n := b.next) X2.out ho d2 B2.out (by omega) hgl hsz2)
  clear ho d2 g2 X1 D1 B1 X2 B2 hsm
  go_upto_region 3 with fail
  generalize w2.alloc (.cells #[.int .i64 b.next, .slice A2 b.chs.length c2] 26) = w3 at *
  generalize w2.heap.size = k3 at *
  go_wp2_with fail
  refine (dbelow 16 (by decide) (by decide) g _ A len cap _ HD3.out.2.2.2.1).mono ?_
  rintro e w4 ⟨o, rfl, o0, o1, d4, g4⟩
  have HD4 := Lib.hid (HD3.out.drawn g4 d4)
  clear d4 g4 HD3
  go_wp2_with fail
  refine (donce 12 (by decide) (by decide) g _ A len cap _ HD4.out.2.2.2.1).mono ?_
  rintro e w5 ⟨c, rfl, d5, g5⟩
  have HD5 := Lib.hid (HD4.out.drawn g5 d5)
  clear d5 g5 HD4
  have hne : k3 ≠ w.heap.size := by have := HD5.out.2.2.2.2.2; omega
  cases c with
  | true =>
    have HR := Lib.hid (row_3d (-1) 4611686018427387901 4611686018427387903 w5 (by decide) (by decide) (by decide))
    have HDA := Lib.hid (HD5.out.next ((Below.refl _ _).alloc (Nat.le_refl _) (.cells #[.int .i64 (-1), .int .i64 4611686018427387901, .int .i64 4611686018427387903] 3)))
    have hgl5 : g < w5.heap.size := HD5.out.2.2.2.1.lt
    go_wp2_with fail
    refine (dpick w5.heap.size 3 (by decide) (by decide) g _ A len cap _ HDA.out.2.2.2.1 (by omega) (by simp) HR.out).mono ?_
    rintro e w6 ⟨y, rfl, y0, y1, d6, g6⟩
    have HD6 := Lib.hid (HDA.out.drawn g6 d6)
    clear d6 g6 HDA HR HD5
    have HT := Lib.hid (d4data 5 (by decide) g _ A len cap w6.drew (HD6.out.next (Below.refl _ _).drew).2.2.2.1)
    obtain ⟨p0, p1⟩ := HD6.out.2.1.cells
    obtain ⟨q0, q1⟩ := HD6.out.1.cells
    have qf := HD6.out.1.free
    go_upto_region 6 with fail
    go_region_held3 (fun W => W.cell? ⟨k3, 0, none⟩ = some (.int .i64 b.next) ∧ W.cell? ⟨k3, 1, none⟩ = some (.slice A2 b.chs.length c2)) (first | exact HD6.out.2.1.cells | exact HD7.out.2.1.cells | exact (HD7.out.2.1.other _ _ _ hne).cells | exact ((HD7.out.2.1.other _ _ _ hne).other _ _ _ hne).cells) (first | (go_at_call 50; refine HT.out.mono ?_; rintro e w7 ⟨l, rfl, hl, d7, g7⟩; have HD7 := Lib.hid ((HD6.out.next (Below.refl _ _).drew).drawn g7 d7); obtain ⟨r0, r1⟩ := HD7.out.1.cells; have rf := HD7.out.1.free; clear d7 g7))
    go_wp2
    refine bodyPost_ret (results_cell_tmp2 rfl _ _ w.heap.size _ _ _ _ rfl HD7.out.fin.1 Try.underlying26 rfl (by kernel_rfl)) rfl ?_
    exact ⟨b, _, y, l, rfl, HSM.out, ⟨y0, y1⟩, hl, HD7.out.fin.2.1, HD7.out.fin.2.2⟩
  | false =>
    obtain ⟨y, hy⟩ : ∃ y : Int, o = y := ⟨_, rfl⟩
    have y0 : -9223372036854775808 ≤ y := by omega
    have y1 : y ≤ 9223372036854775807 := by omega
    subst hy
    have HD6 := HD5
    have HT := Lib.hid (d4data 5 (by decide) g _ A len cap w5.drew (HD6.out.next (Below.refl _ _).drew).2.2.2.1)
    obtain ⟨p0, p1⟩ := HD6.out.2.1.cells
    obtain ⟨q0, q1⟩ := HD6.out.1.cells
    have qf := HD6.out.1.free
    go_upto_region 6 with fail
    go_region_held3 (fun W => W.cell? ⟨k3, 0, none⟩ = some (.int .i64 b.next) ∧ W.cell? ⟨k3, 1, none⟩ = some (.slice A2 b.chs.length c2)) (first | exact HD6.out.2.1.cells | exact HD7.out.2.1.cells | exact (HD7.out.2.1.other _ _ _ hne).cells | exact ((HD7.out.2.1.other _ _ _ hne).other _ _ _ hne).cells) (first | (go_at_call 50; refine HT.out.mono ?_; rintro e w7 ⟨l, rfl, hl, d7, g7⟩; have HD7 := Lib.hid ((HD6.out.next (Below.refl _ _).drew).drawn g7 d7); obtain ⟨r0, r1⟩ := HD7.out.1.cells; have rf := HD7.out.1.free; clear d7 g7))
    go_wp2
    refine bodyPost_ret (results_cell_tmp2 rfl _ _ w.heap.size _ _ _ _ rfl HD7.out.fin.1 Try.underlying26 rfl (by kernel_rfl)) rfl ?_
    exact ⟨b, _, o, l, rfl, HSM.out, ⟨y0, y1⟩, hl, HD7.out.fin.2.1, HD7.out.fin.2.2⟩
end Go.Proofs.Ytmaaldmakgjplaa

namespace Go.Proofs.Ytmaaldmakgjplaa
open Go.RowKit Go.Deep Go.Proofs.Ytmaaldmakgjplaa.Num

theorem results_cell_cell {P : Program} {fn : Func} {p q : Tmp} {ty : TypeId} (h : fn.results = #[.cell p ty, .cell q ty]) (tmps : Array Value) (w : World) (g g' : Nat) (t t' : TypeId) (cs cs' : Array Value) (fr fr' : Nat × Nat) (d : TypeDesc)
    (hp : tmps.getD p undef = .pointer (some ⟨g, 0, none⟩)) (hg : w.heap[g]? = some (.cells cs t fr)) (hq : tmps.getD q undef = .pointer (some ⟨g', 0, none⟩)) (hg' : w.heap[g']? = some (.cells cs' t' fr'))
    (hu : P.underlying ty = some d) (hd : (match d with | .struct _ | .array _ _ => true | _ => false) = true) (hi : (P.info? ty).map (·.size) = some cs.size) (hi' : (P.info? ty).map (·.size) = some cs'.size) :
    (results fn tmps).run P w = .ok (.tuple #[.agg cs, .agg cs']) w := by
  have hp' : tmps[p]?.getD undef = .pointer (some ⟨g, 0, none⟩) := by simpa using hp
  have hq' : tmps[q]?.getD undef = .pointer (some ⟨g', 0, none⟩) := by simpa using hq
  simp [results, h, hp', hq', asAddr, run_loadVar_row w g t ty cs fr d hg hu hd hi, run_loadVar_row w g' t' ty cs' fr' d hg' hu hd hi']

set_option maxRecDepth 100000 in
set_option maxHeartbeats 4000000 in
/-- spec.DrawEqualBuffers -/
theorem draw_eqb (A : Option Addr) (len cap : Nat) (w : World) (hlen : len ≤ maxLen) (hcode : Code w w.heap.size A len) :
    Calls Try.prog 25 #[.slice A len cap] w fun e w' => ∃ (b b' : Bf) (v v' : Value), e = .returned (.tuple #[bfV b.next v, bfV b'.next v']) ∧ smallB b ∧ smallB b' ∧ OwnC w' w.heap.size v b.chs ∧ OwnC w' w.heap.size v' b'.chs ∧ Below w.heap.size w w' := by
  have HC := Lib.hid hcode
  have Xa := BoxB.new w 0 (.slice none 0 0)
  have Ba := (Below.refl w.heap.size w).alloc (Nat.le_refl _) (.cells #[.int .i64 0, .slice none 0 0] 26)
  have hSa : (w.alloc (.cells #[.int .i64 0, .slice none 0 0] 26)).heap.size = w.heap.size + 1 := by simp
  obtain ⟨wa, hwa⟩ : ∃ wa, w.alloc (.cells #[.int .i64 0, .slice none 0 0] 26) = wa := ⟨_, rfl⟩
  rw [hwa] at Xa Ba hSa
  have X0 := Lib.hid (BoxB.new wa 0 (.slice none 0 0))
  have HS0 := Lib.hid (show (wa.alloc (.cells #[.int .i64 0, .slice none 0 0] 26)).heap.size = wa.heap.size + 1 by simp)
  have B0 := Lib.hid ((Below.refl wa.heap.size wa).alloc (Nat.le_refl _) (.cells #[.int .i64 0, .slice none 0 0] 26))
  have HCC := Lib.hid (show Code (wa.alloc (.cells #[.int .i64 0, .slice none 0 0] 26)) (wa.alloc (.cells #[.int .i64 0, .slice none 0 0] 26)).heap.size A len from Code.later HC.out (Ba.trans (B0.out.mono (by omega))))
  have HXa := Lib.hid Xa
  have HBa := Lib.hid Ba
  have HSa := Lib.hid hSa
  have HWA := Lib.hid hwa
  clear hcode Xa Ba hSa hwa
  go_enter Try.func25, Try.ntmps25
  go_upto_region 1 with fail
  rw [HWA.out]
  clear HWA
  generalize wa.alloc (.cells #[.int .i64 0, .slice none 0 0] 26) = w0 at *
  go_wp2_with fail
  have hdn := dnew A len cap w0 hlen HCC.out
  refine hdn.mono ?_
  clear hdn
  rintro e w1 ⟨g, rfl, hg, d1, b1⟩
  rw [HS0.out] at hg d1
  have X1 := Lib.hid (X0.out.below b1 X0.out.lt)
  have D1 := Lib.hid d1
  have B1 := Lib.hid (B0.out.trans (b1.mono B0.out.size))
  clear b1 d1 X0 B0 HCC HS0
  go_wp2_with fail
  refine (d6buffer g _ A len cap w1 D1.out).mono ?_
  rintro e w2 ⟨b, v, rfl, hsm, ho, d2, g2⟩
  have hgl := D1.out.lt
  have HSM := Lib.hid hsm
  have X2 := Lib.hid (X1.out.only g2 (by omega))
  have B2 := Lib.hid (B1.out.trans (only_below g2 (by omega) B1.out.size))
  have hsz2 := g2.size
  obtain ⟨A2, c2, rfl, _, _⟩ := ho.frs
  have HD3 := Lib.hid (DW.new (w := wa) (n := b.next) X2.out ho d2 B2.out (by omega) hgl hsz2)
  clear ho d2 g2 X1 D1 B1 X2 B2 hsm
  go_upto_region 3 with fail
  generalize w2.alloc (.cells #[.int .i64 b.next, .slice A2 b.chs.length c2] 26) = w3 at *
  generalize w2.heap.size = k3 at *
  go_wp2_with fail
  refine (donce 2 (by decide) (by decide) g _ A len cap _ HD3.out.2.2.2.1).mono ?_
  rintro e w4 ⟨c, rfl, d4, g4⟩
  have HD4 := Lib.hid (HD3.out.drawn g4 d4)
  clear d4 g4 HD3
  have hk1 : k3 ≠ w.heap.size := by have := HD4.out.2.2.2.2.2; have := HSa.out; omega
  have hk2 : k3 ≠ w.heap.size + 1 := by have := HD4.out.2.2.2.2.2; have := HSa.out; omega
  obtain ⟨p0, p1⟩ := HD4.out.2.1.cells
  have HK0 : Hid (w4.drew.cell? ⟨k3, 0, none⟩ = some (.int .i64 b.next) ∧ w4.drew.cell? ⟨k3, 1, none⟩ = some (.slice A2 b.chs.length c2)) := Lib.hid HD4.out.2.1.cells
  cases c with
  | true =>
    have HT := Lib.hid (scopyb b.next b.chs A2 c2 w4.drew.heap.size w4.drew (Nat.le_refl _) (HD4.out.next (Below.refl _ _).drew).2.2.1.chs2 (by have := HSM.out.1; omega))
    go_upto_region 4 with fail
    go_region_held3 (fun W => W.cell? ⟨k3, 0, none⟩ = some (.int .i64 b.next) ∧ W.cell? ⟨k3, 1, none⟩ = some (.slice A2 b.chs.length c2)) (first | with_reducible exact HK0.out | with_reducible exact HK1.out | with_reducible exact HK3.out | with_reducible exact HK5.out | with_reducible exact HK2.out | with_reducible exact HK4.out) (first | (go_at_call 54; refine HT.out.mono ?_; rintro e w5 ⟨v5, rfl, ho5, hb5⟩; have HD5 := Lib.hid ((HD4.out.next (Below.refl _ _).drew).next hb5); have hlo5 : w4.heap.size ≤ w4.drew.heap.size := Nat.le_refl _; obtain ⟨A5, c5, rfl, _, _⟩ := ho5.frs; have HO5 := Lib.hid ho5; have HX5 := Lib.hid (HXa.out.below HD5.out.2.2.2.2.1 (by have := HSa.out; omega)); obtain ⟨q0, q1⟩ := HX5.out.cells; have qf := HX5.out.free; have hx6 := HD5.out.1; rw [HSa.out] at hx6; have HX6 := Lib.hid hx6; clear hx6; obtain ⟨r0, r1⟩ := HX6.out.cells; have rf := HX6.out.free; have HK1 := Lib.hid HD5.out.2.1.cells; have HK2 := Lib.hid (HD5.out.2.1.other w.heap.size 0 (.int .i64 b.next) hk1).cells; have HK3 := Lib.hid ((HD5.out.2.1.other w.heap.size 0 (.int .i64 b.next) hk1).other w.heap.size 1 (.slice A2 b.chs.length c2) hk1).cells; have HK4 := Lib.hid (((HD5.out.2.1.other w.heap.size 0 (.int .i64 b.next) hk1).other w.heap.size 1 (.slice A2 b.chs.length c2) hk1).other (w.heap.size + 1) 0 (.int .i64 b.next) hk2).cells; have HK5 := Lib.hid ((((HD5.out.2.1.other w.heap.size 0 (.int .i64 b.next) hk1).other w.heap.size 1 (.slice A2 b.chs.length c2) hk1).other (w.heap.size + 1) 0 (.int .i64 b.next) hk2).other (w.heap.size + 1) 1 (.slice A5 b.chs.length c5) hk2).cells; clear ho5 hb5))
    all_goals go_wp2
    all_goals (
      have hd := HD5.out.2.2.2.2.2
      have hsa := HSa.out
      have hl4 : k3 < w4.drew.heap.size := HD4.out.2.1.lt
      refine bodyPost_ret (results_cell_cell rfl _ _ w.heap.size (w.heap.size + 1) _ _ _ _ _ _ _ rfl ((((HX5.out.set0 b.next).set1 _).other (w.heap.size + 1) 0 _ (by omega)).other (w.heap.size + 1) 1 _ (by omega)) rfl ((((HX6.out.other w.heap.size 0 _ (by omega)).other w.heap.size 1 _ (by omega)).set0 b.next).set1 _) Try.underlying26 rfl (by kernel_rfl) (by kernel_rfl)) rfl ?_
      refine ⟨b, b, _, _, rfl, HSM.out, HSM.out, ?_, ?_, ?_⟩
      · exact ownc_weaken ((((HD5.out.2.2.1.put w.heap.size 0 _ (by omega)).put w.heap.size 1 _ (by omega)).put (w.heap.size + 1) 0 _ (by omega)).put (w.heap.size + 1) 1 _ (by omega)) (by omega)
      · exact ownc_weaken ((((HO5.out.put w.heap.size 0 _ (by omega)).put w.heap.size 1 _ (by omega)).put (w.heap.size + 1) 0 _ (by omega)).put (w.heap.size + 1) 1 _ (by omega)) (by omega)
      · exact ((((HBa.out.trans (HD5.out.2.2.2.2.1.mono (by omega))).setCell (p := ⟨_, _, _⟩) (Nat.le_refl _) _).setCell (p := ⟨_, _, _⟩) (Nat.le_refl _) _).setCell (p := ⟨_, _, _⟩) (by show w.heap.size ≤ w.heap.size + 1; omega) _).setCell (p := ⟨_, _, _⟩) (by show w.heap.size ≤ w.heap.size + 1; omega) _)
  | false =>
    have HT := Lib.hid (d6buffer g _ A len cap w4.drew (HD4.out.next (Below.refl _ _).drew).2.2.2.1)
    go_upto_region 5 with fail
    go_region_held3 (fun W => W.cell? ⟨k3, 0, none⟩ = some (.int .i64 b.next) ∧ W.cell? ⟨k3, 1, none⟩ = some (.slice A2 b.chs.length c2)) (first | with_reducible exact HK0.out | with_reducible exact HK1.out | with_reducible exact HK3.out | with_reducible exact HK5.out | with_reducible exact HK2.out | with_reducible exact HK4.out) (first | (go_at_call 46; refine HT.out.mono ?_; rintro e w5 ⟨b5, v5, rfl, hsm5, ho5, d5, g5⟩; have HD5 := Lib.hid ((HD4.out.next (Below.refl _ _).drew).drawn g5 d5); have HSM5 := Lib.hid hsm5; obtain ⟨A5, c5, rfl, _, _⟩ := ho5.frs; have HO5 := Lib.hid ho5; have HX5 := Lib.hid (HXa.out.below HD5.out.2.2.2.2.1 (by have := HSa.out; omega)); obtain ⟨q0, q1⟩ := HX5.out.cells; have qf := HX5.out.free; have hx6 := HD5.out.1; rw [HSa.out] at hx6; have HX6 := Lib.hid hx6; clear hx6; obtain ⟨r0, r1⟩ := HX6.out.cells; have rf := HX6.out.free; have HK1 := Lib.hid HD5.out.2.1.cells; have HK2 := Lib.hid (HD5.out.2.1.other w.heap.size 0 (.int .i64 b.next) hk1).cells; have HK3 := Lib.hid ((HD5.out.2.1.other w.heap.size 0 (.int .i64 b.next) hk1).other w.heap.size 1 (.slice A2 b.chs.length c2) hk1).cells; have HK4 := Lib.hid (((HD5.out.2.1.other w.heap.size 0 (.int .i64 b.next) hk1).other w.heap.size 1 (.slice A2 b.chs.length c2) hk1).other (w.heap.size + 1) 0 (.int .i64 b5.next) hk2).cells; have HK5 := Lib.hid ((((HD5.out.2.1.other w.heap.size 0 (.int .i64 b.next) hk1).other w.heap.size 1 (.slice A2 b.chs.length c2) hk1).other (w.heap.size + 1) 0 (.int .i64 b5.next) hk2).other (w.heap.size + 1) 1 (.slice A5 b5.chs.length c5) hk2).cells; clear ho5 d5 g5 hsm5))
    all_goals go_wp2
    all_goals (
      have hd := HD5.out.2.2.2.2.2
      have hsa := HSa.out
      have hl4 : k3 < w4.drew.heap.size := HD4.out.2.1.lt
      refine bodyPost_ret (results_cell_cell rfl _ _ w.heap.size (w.heap.size + 1) _ _ _ _ _ _ _ rfl ((((HX5.out.set0 b.next).set1 _).other (w.heap.size + 1) 0 _ (by omega)).other (w.heap.size + 1) 1 _ (by omega)) rfl ((((HX6.out.other w.heap.size 0 _ (by omega)).other w.heap.size 1 _ (by omega)).set0 b5.next).set1 _) Try.underlying26 rfl (by kernel_rfl) (by kernel_rfl)) rfl ?_
      refine ⟨b, b5, _, _, rfl, HSM.out, HSM5.out, ?_, ?_, ?_⟩
      · exact ownc_weaken ((((HD5.out.2.2.1.put w.heap.size 0 _ (by omega)).put w.heap.size 1 _ (by omega)).put (w.heap.size + 1) 0 _ (by omega)).put (w.heap.size + 1) 1 _ (by omega)) (by omega)
      · exact ownc_weaken ((((HO5.out.put w.heap.size 0 _ (by omega)).put w.heap.size 1 _ (by omega)).put (w.heap.size + 1) 0 _ (by omega)).put (w.heap.size + 1) 1 _ (by omega)) (by omega)
      · exact ((((HBa.out.trans (HD5.out.2.2.2.2.1.mono (by omega))).setCell (p := ⟨_, _, _⟩) (Nat.le_refl _) _).setCell (p := ⟨_, _, _⟩) (Nat.le_refl _) _).setCell (p := ⟨_, _, _⟩) (by show w.heap.size ≤ w.heap.size + 1; omega) _).setCell (p := ⟨_, _, _⟩) (by show w.heap.size ≤ w.heap.size + 1; omega) _)
end Go.Proofs.Ytmaaldmakgjplaa
