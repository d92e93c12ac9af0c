/-
  What spec.TakeBytes returns.
  What spec.TakeBytes returns, whatever it is given.
-/
import Derived.Test.YtmmoedhfeaokgaaSBCopy
import Derived.Test.YtmmoedhfeaokgaaSBuf2
import Derived.RegionTactic
namespace Go.Proofs.Ytmmoedhfeaokgaa
open Go.RowKit Go.Deep Go.Proofs.Ytmmoedhfeaokgaa.Num

/-- A result that lies in a slot and one that lies in a cell. -/
theorem results_tmp_cell {P : Program} {fn : Func} {p u : Tmp} {ty : TypeId} (h : fn.results = #[.tmp u, .cell p ty]) (tmps : Array Value) (w : World) (g : Nat) (t : TypeId) (cs : Array Value) (fr : Nat × Nat) (d : TypeDesc)
    (hp : tmps.getD p undef = .pointer (some ⟨g, 0, none⟩)) (hg : w.heap[g]? = some (.cells cs t fr))
    (hu : P.underlying ty = some d) (hd : (match d with | .struct _ | .array _ _ => true | _ => false) = true) (hi : (P.info? ty).map (·.size) = some cs.size) :
    (results fn tmps).run P w = .ok (.tuple #[tmps.getD u undef, .agg cs]) w := by
  have hp' : tmps[p]?.getD undef = .pointer (some ⟨g, 0, none⟩) := by simpa using hp
  simp [results, h, hp', asAddr, run_loadVar_row w g t ty cs fr d hg hu hd hi]
theorem Chs.tail {w : World} {B b off : Nat} {x : Ch} {l : List Ch} (h : Chs w B (some ⟨b, off, none⟩) (x :: l)) : Chs w B (some ⟨b, off + 2, none⟩) l := by
  intro j hj
  obtain ⟨b', off', hA, hlt, h1⟩ := h (j + 1) (by simpa using hj)
  injection hA with hA
  injection hA with e1 e2 _
  subst e1
  subst e2
  refine ⟨b, off + 2, rfl, hlt, fun i hi => ?_⟩
  have := h1 i hi
  rw [show off + (j + 1) * 2 + i = off + 2 + j * 2 + i by omega] at this
  simpa using this
theorem OwnC.cons {w : World} {base : Nat} {v : Value} {x : Ch} {l : List Ch} (h : OwnC w base v (x :: l)) : ∃ g cap, v = .slice (some ⟨g, 0, none⟩) (l.length + 1) cap ∧ l.length + 1 ≤ cap ∧ RowC w base g (l.length + 1) cap (x :: l) := by
  obtain ⟨h0, h1⟩ := h
  rcases h1 with ⟨rfl, hn⟩ | ⟨g, cap, cur, rfl, a, b, c, d, e, f⟩
  · simp at hn
  · exact ⟨g, cap, rfl, c, ⟨rfl, ⟨h0, .inr ⟨g, cap, cur, rfl, a, b, c, d, e, f⟩⟩⟩⟩

set_option maxRecDepth 100000 in
set_option maxHeartbeats 2000000 in
/-- spec.TakeBytes, where nothing is taken. -/
theorem stake_none (b : Bf) (m : Int) (A : Option Addr) (cap B : Nat) (w : World) (hB : B ≤ w.heap.size) (hr : Chs w B A b.chs) (hn : b.chs.length ≤ 10000000) (hi : inB b.chs) (hnx : -9223372036854775808 ≤ b.next ∧ b.next ≤ 9223372036854775807) (hm : -9223372036854775808 ≤ m ∧ m ≤ 9223372036854775807) (h0 : cntT b m = 0) :
    Calls Try.prog 57 #[bfV b.next (.slice A b.chs.length cap), .int .i64 m] w fun e w' => ∃ v, e = .returned (.tuple #[.string ⟨#[]⟩, bfV b.next v]) ∧ OwnC w' w.heap.size v b.chs ∧ Below w.heap.size w w' := by
  have HR := Lib.hid hr
  have HRD : Hid (∀ W, B ≤ W.heap.size → Chs W B A b.chs → Calls Try.prog 52 #[bfV b.next (.slice A b.chs.length cap)] W fun e w' => e = .returned (.int .i64 (rdyB b : Nat)) ∧ Below W.heap.size W w') := Lib.hid fun W h1 h2 => sready b A cap B W h1 h2 (by omega) hi hnx
  have HCP : Hid (∀ W, B ≤ W.heap.size → Chs W B A b.chs → Calls Try.prog 74 #[bfV b.next (.slice A b.chs.length cap)] W fun e w' => ∃ v, e = .returned (bfV b.next v) ∧ OwnC w' W.heap.size v b.chs ∧ Below W.heap.size W w') := Lib.hid fun W h1 h2 => scopyb b.next b.chs A cap B W h1 h2 (by omega)
  have H2 := Lib.hid ((HeldB.start w b.next (.slice A b.chs.length cap)).alloc (.cells #[.int .i64 0, .slice none 0 0] 26))
  have X2 := BoxB.new (w.alloc (.cells #[.int .i64 b.next, .slice A b.chs.length cap] 26)) 0 (.slice none 0 0)
  rw [show (w.alloc (.cells #[.int .i64 b.next, .slice A b.chs.length cap] 26)).heap.size = w.heap.size + 1 by simp] at X2
  have HX2 := Lib.hid X2
  clear X2 hr hi
  unfold cntT at h0
  obtain ⟨M, hmax⟩ : ∃ M : Int, (if m < 0 then 0 else m) = M := ⟨_, rfl⟩
  have hM : 0 ≤ M := by rw [← hmax]; split <;> omega
  have hMm : (max m 0).toNat = M.toNat := by rw [← hmax]; split <;> omega
  rw [hMm] at h0
  generalize rdyB b = r at *
  have hmin : (if M < (r : Int) then M else (r : Int)) = 0 := by split <;> omega
  obtain ⟨nx, l⟩ := b
  dsimp only at *
  clear h0 hMm
  go_enter Try.func57, Try.ntmps57
  go_upto_region 1 with fail
  generalize (w.alloc (.cells #[.int .i64 nx, .slice A l.length cap] 26)).alloc (.cells #[.int .i64 0, .slice none 0 0] 26) = w2 at *
  obtain ⟨q0, q1⟩ := H2.out.1.cells
  go_wp2_with fail
  refine (HRD.out w2 (Nat.le_trans hB H2.out.2.size) (HR.out.below hB H2.out.2)).mono ?_
  rintro e w3 ⟨rfl, hb3⟩
  have H3 := Lib.hid (H2.out.next hb3)
  have HX3 := Lib.hid (HX2.out.below hb3 HX2.out.lt)
  clear hb3 q0 q1 H2 HX2 HRD
  obtain ⟨q0, q1⟩ := H3.out.1.cells
  go_wp2_with fail
  refine (HCP.out w3 (Nat.le_trans hB H3.out.2.size) (HR.out.below hB H3.out.2)).mono ?_
  rintro e w4 ⟨v4, rfl, ho4, hb4⟩
  have HO4 := Lib.hid ho4
  have HX4 := Lib.hid (HX3.out.below hb4 HX3.out.lt)
  have HB4 := Lib.hid ((H3.out.next hb4).2)
  have hlt4 : w.heap.size + 1 < w3.heap.size := HX3.out.lt
  clear ho4 hb4 q0 q1 HCP
  obtain ⟨A4, c4, rfl, _, _⟩ := HO4.out.frs
  have H5 := Lib.hid (HB4.out.alloc HB4.out.size (.cells #[.int .i64 nx, .slice A4 l.length c4] 26))
  have HO5 := Lib.hid (HO4.out.alloc (.cells #[.int .i64 nx, .slice A4 l.length c4] 26))
  have HX5 := Lib.hid (HX4.out.alloc (.cells #[.int .i64 nx, .slice A4 l.length c4] 26))
  have HY5 := Lib.hid (BoxB.new w4 nx (.slice A4 l.length c4))
  go_upto_region 4 with fail
  clear hmax hmin
  generalize hg : w4.heap.size = g at *
  generalize w4.alloc (.cells #[.int .i64 nx, .slice A4 l.length c4] 26) = w5 at *
  clear hg
  obtain ⟨q0, q1⟩ := HX5.out.cells
  obtain ⟨p0, p1⟩ := HY5.out.cells
  have qf := HX5.out.free
  go_region
  go_wp2
  refine bodyPost_ret (results_tmp_cell rfl _ _ (w.heap.size + 1) _ _ _ _ rfl ((HX5.out.set0 nx).set1 _) Try.underlying26 rfl (by kernel_rfl)) rfl ?_
  exact ⟨_, rfl, ownc_weaken ((HO5.out.put (w.heap.size + 1) 0 _ hlt4).put (w.heap.size + 1) 1 _ hlt4) (by omega), ((H5.out.setCell (p := ⟨_, _, _⟩) (by show w.heap.size ≤ w.heap.size + 1; omega) _).setCell (p := ⟨_, _, _⟩) (by show w.heap.size ≤ w.heap.size + 1; omega) _).drew⟩

/-- What taking a part of the first chunk leaves of it. -/
def cutC (c : Ch) (nx : Int) (n : Nat) : Ch := ⟨nx + n, ⟨(c.data.data.toList.drop n).toArray⟩⟩

theorem RowC.apart {w : World} {base g n cap : Nat} {l : List Ch} (h : RowC w base g n cap l) (g' k : Nat) (u : Value) (hg : g ≠ g') : RowC (w.setCell ⟨g', k, none⟩ u) base g n cap l :=
  ⟨h.1, World.ownsRow.kept h.2 (only_setC w g' k u) (.inr (fun e => hg (Option.some.inj e)))⟩
theorem take_str (d : ByteArray) (n : Nat) : d.extract 0 n = ⟨(d.data.toList.take n).toArray⟩ := by
  apply ByteArray.ext
  apply Array.toList_inj.mp
  simp
theorem drop_str (d : ByteArray) (n : Nat) : d.extract n d.size = ⟨(d.data.toList.drop n).toArray⟩ := by
  apply ByteArray.ext
  apply Array.toList_inj.mp
  have h : d.size = d.data.toList.length := by simp
  rw [show (d.extract n d.size).data.toList = (d.data.toList.drop n).take (d.size - n) by simp]
  rw [List.take_of_length_le (by rw [List.length_drop]; omega)]

set_option maxRecDepth 100000 in
set_option maxHeartbeats 4000000 in
/-- spec.TakeBytes, where the whole first chunk is taken. -/
theorem stake_all (nx : Int) (c : Ch) (l : List Ch) (m : Int) (A : Option Addr) (cap B : Nat) (w : World) (hB : B ≤ w.heap.size) (hr : Chs w B A (c :: l)) (hn : (c :: l).length ≤ 10000000) (hi : inB (c :: l)) (hnx : 0 ≤ nx ∧ nx + c.data.size ≤ 4611686018427387903) (hrd : rdyB ⟨nx, c :: l⟩ = c.data.size) (hm : c.data.size ≤ m) (hm2 : m ≤ 9223372036854775807) (h0 : 0 < c.data.size) :
    Calls Try.prog 57 #[bfV nx (.slice A (c :: l).length cap), .int .i64 m] w fun e w' => ∃ v, e = .returned (.tuple #[.string c.data, bfV (nx + c.data.size) v]) ∧ OwnC w' w.heap.size v l ∧ Below w.heap.size w w' := by
  have HR := Lib.hid hr
  have HRD : Hid (∀ W, B ≤ W.heap.size → Chs W B A (c :: l) → Calls Try.prog 52 #[bfV nx (.slice A (c :: l).length cap)] W fun e w' => e = .returned (.int .i64 (c.data.size : Nat)) ∧ Below W.heap.size W w') := Lib.hid fun W h1 h2 => by
    have h := sready ⟨nx, c :: l⟩ A cap B W h1 h2 (by show (c :: l).length ≤ _; omega) hi ⟨by show _ ≤ nx; omega, by show nx ≤ _; omega⟩
    rw [hrd] at h
    exact h
  have HCP : Hid (∀ W, B ≤ W.heap.size → Chs W B A (c :: l) → Calls Try.prog 74 #[bfV nx (.slice A (c :: l).length cap)] W fun e w' => ∃ v, e = .returned (bfV nx v) ∧ OwnC w' W.heap.size v (c :: l) ∧ Below W.heap.size W w') := Lib.hid fun W h1 h2 => scopyb nx (c :: l) A cap B W h1 h2 (by omega)
  have HCQ : Hid (∀ (A : Option Addr) (k : Nat) W, Chs W W.heap.size A l → Calls Try.prog 74 #[bfV (nx + c.data.size) (.slice A l.length k)] W fun e w' => ∃ v, e = .returned (bfV (nx + c.data.size) v) ∧ OwnC w' W.heap.size v l ∧ Below W.heap.size W w') := Lib.hid fun A k W h => scopyb (nx + c.data.size) l A k W.heap.size W (Nat.le_refl _) h (by simp at hn; omega)
  have H2 := Lib.hid ((HeldB.start w nx (.slice A (c :: l).length cap)).alloc (.cells #[.int .i64 0, .slice none 0 0] 26))
  have X2 := BoxB.new (w.alloc (.cells #[.int .i64 nx, .slice A (c :: l).length cap] 26)) 0 (.slice none 0 0)
  rw [show (w.alloc (.cells #[.int .i64 nx, .slice A (c :: l).length cap] 26)).heap.size = w.heap.size + 1 by simp] at X2
  have HX2 := Lib.hid X2
  have hlen : (c :: l).length = l.length + 1 := rfl
  have hnx2 := hnx.1
  have hnx3 : nx + c.data.size ≤ 4611686018427387903 := hnx.2
  clear X2 hr hi hrd hnx
  rw [hlen] at HRD HCP H2 HX2 hn ⊢
  clear hlen
  go_enter Try.func57, Try.ntmps57
  go_upto_region 1 with fail
  generalize (w.alloc (.cells #[.int .i64 nx, .slice A (l.length + 1) cap] 26)).alloc (.cells #[.int .i64 0, .slice none 0 0] 26) = w2 at *
  obtain ⟨q0, q1⟩ := H2.out.1.cells
  go_wp2_with fail
  refine (HRD.out w2 (Nat.le_trans hB H2.out.2.size) (HR.out.below hB H2.out.2)).mono ?_
  rintro e w3 ⟨rfl, hb3⟩
  have H3 := Lib.hid (H2.out.next hb3)
  have HX3 := Lib.hid (HX2.out.below hb3 HX2.out.lt)
  clear hb3 q0 q1 H2 HX2 HRD
  obtain ⟨q0, q1⟩ := H3.out.1.cells
  go_wp2_with fail
  refine (HCP.out w3 (Nat.le_trans hB H3.out.2.size) (HR.out.below hB H3.out.2)).mono ?_
  rintro e w4 ⟨v4, rfl, ho4, hb4⟩
  have HX4 := Lib.hid (HX3.out.below hb4 HX3.out.lt)
  have HB4 := Lib.hid ((H3.out.next hb4).2)
  have hlt4 : w.heap.size + 1 < w3.heap.size := HX3.out.lt
  have hsz4 := hb4.size
  obtain ⟨g4, c4, rfl, hc4, hrow⟩ := ho4.cons
  have HO4 := Lib.hid hrow
  have hg4 := hrow.ge
  clear ho4 hb4 q0 q1 HCP hrow H3 HX3
  have H5 := Lib.hid (HB4.out.alloc HB4.out.size (.cells #[.int .i64 nx, .slice (some ⟨g4, 0, none⟩) (l.length + 1) c4] 26))
  have HO5 := Lib.hid (HO4.out.alloc (.cells #[.int .i64 nx, .slice (some ⟨g4, 0, none⟩) (l.length + 1) c4] 26))
  have HX5 := Lib.hid (HX4.out.alloc (.cells #[.int .i64 nx, .slice (some ⟨g4, 0, none⟩) (l.length + 1) c4] 26))
  have HY5 := Lib.hid (BoxB.new w4 nx (.slice (some ⟨g4, 0, none⟩) (l.length + 1) c4))
  go_upto_region 3 with fail
  clear HX4 HO4
  generalize hg : w4.heap.size = g at *
  generalize w4.alloc (.cells #[.int .i64 nx, .slice (some ⟨g4, 0, none⟩) (l.length + 1) c4] 26) = w5 at *
  clear hg
  have hz := HO5.out.cells 0 (Nat.succ_pos _)
  simp only [List.getElem_cons_zero, Nat.zero_mul, Nat.zero_add] at hz
  obtain ⟨c0, c1⟩ := hz
  obtain ⟨q0, q1⟩ := HX5.out.cells
  obtain ⟨p0, p1⟩ := HY5.out.cells
  have qf := HX5.out.free
  have pf := HY5.out.free
  have cf := HO5.out.free
  have hne1 : g4 ≠ g := by omega
  have hq : ((c.data.size : Int) == (c.data.size : Int)) = true := by simp
  have hq0 : ((c.data.size : Int) == 0) = false := by
    have : (c.data.size : Int) ≠ 0 := by omega
    simpa using this
  go_upto_region 8 with fail
  have HY6 := Lib.hid (HY5.out.set0 (nx + c.data.size))
  have HX6 := Lib.hid (HX5.out.other g 0 (.int .i64 (nx + c.data.size)) (by omega))
  have HO6 := Lib.hid (HO5.out.apart g 0 (.int .i64 (nx + c.data.size)) hne1)
  have H6 := Lib.hid (H5.out.setCell (p := ⟨g, 0, none⟩) (by show w.heap.size ≤ g; omega) (.int .i64 (nx + c.data.size)))
  have HS6 := Lib.hid (show (w5.setCell ⟨g, 0, none⟩ (.int .i64 (nx + c.data.size))).heap.size = w5.heap.size by simp [World.setCell])
  have hgl : g < w5.heap.size := HY5.out.lt
  clear q0 q1 p0 p1 c0 c1 qf pf cf HY5 HX5 HO5 H5
  generalize w5.setCell ⟨g, 0, none⟩ (.int .i64 (nx + c.data.size)) = w6 at *
  obtain ⟨p0, p1⟩ := HY6.out.cells
  have pf := HY6.out.free
  by_cases hc1 : c4 = 1
  · subst hc1
    obtain rfl : l = [] := List.eq_nil_of_length_eq_zero (by omega)
    go_upto_region 9 with fail
    have HY7 := Lib.hid (HY6.out.set1 (.slice (some ⟨g4, 0, none⟩) 0 0))
    have HX7 := Lib.hid (HX6.out.other g 1 (.slice (some ⟨g4, 0, none⟩) 0 0) (by omega))
    have H7 := Lib.hid (H6.out.setCell (p := ⟨g, 1, none⟩) (by show w.heap.size ≤ g; omega) (.slice (some ⟨g4, 0, none⟩) 0 0))
    have HO7 := Lib.hid (HO6.out.apart g 1 (.slice (some ⟨g4, 0, none⟩) 0 0) hne1)
    clear p0 p1 pf HY6 HX6 H6
    have HR7 := Lib.hid ((Chs.nil : Chs (w6.setCell ⟨g, 1, none⟩ (.slice (some ⟨g4, 0, none⟩) 0 0)) (w6.setCell ⟨g, 1, none⟩ (.slice (some ⟨g4, 0, none⟩) 0 0)).heap.size (some ⟨g4, 0, none⟩) []))
    generalize w6.setCell ⟨g, 1, none⟩ (.slice (some ⟨g4, 0, none⟩) 0 0) = w7 at *
    obtain ⟨p0, p1⟩ := HY7.out.cells
    go_wp2_with fail
    refine (HCQ.out _ _ w7 HR7.out).mono ?_
    rintro e w8 ⟨v8, rfl, ho8, hb8⟩
    have HX8 := Lib.hid (HX7.out.below hb8 HX7.out.lt)
    have H8 := Lib.hid (H7.out.trans (hb8.mono H7.out.size))
    have hlt8 : w.heap.size + 1 < w7.heap.size := HX7.out.lt
    obtain ⟨A8, c8, rfl, _, _⟩ := ho8.frs
    have HO8 := Lib.hid ho8
    clear ho8 hb8 p0 p1
    obtain ⟨q0, q1⟩ := HX8.out.cells
    have qf := HX8.out.free
    go_wp2
    refine bodyPost_ret (results_tmp_cell rfl _ _ (w.heap.size + 1) _ _ _ _ rfl ((HX8.out.set0 (nx + c.data.size)).set1 _) Try.underlying26 rfl (by kernel_rfl)) rfl ?_
    exact ⟨_, rfl, ownc_weaken ((HO8.out.put (w.heap.size + 1) 0 _ hlt8).put (w.heap.size + 1) 1 _ hlt8) (by omega), (H8.out.setCell (p := ⟨_, _, _⟩) (by show w.heap.size ≤ w.heap.size + 1; omega) _).setCell (p := ⟨_, _, _⟩) (by show w.heap.size ≤ w.heap.size + 1; omega) _⟩
  · have hc2 : 1 < c4 := by omega
    clear hc1
    go_upto_region 9 with fail
    have HY7 := Lib.hid (HY6.out.set1 (.slice (some ⟨g4, 2, none⟩) l.length (c4 - 1)))
    have HX7 := Lib.hid (HX6.out.other g 1 (.slice (some ⟨g4, 2, none⟩) l.length (c4 - 1)) (by omega))
    have H7 := Lib.hid (H6.out.setCell (p := ⟨g, 1, none⟩) (by show w.heap.size ≤ g; omega) (.slice (some ⟨g4, 2, none⟩) l.length (c4 - 1)))
    have HO7 := Lib.hid (HO6.out.apart g 1 (.slice (some ⟨g4, 2, none⟩) l.length (c4 - 1)) hne1)
    clear p0 p1 pf HY6 HX6 H6
    have HR7 := Lib.hid (HO7.out.chs.tail)
    generalize w6.setCell ⟨g, 1, none⟩ (.slice (some ⟨g4, 2, none⟩) l.length (c4 - 1)) = w7 at *
    obtain ⟨p0, p1⟩ := HY7.out.cells
    go_wp2_with fail
    refine (HCQ.out _ _ w7 HR7.out).mono ?_
    rintro e w8 ⟨v8, rfl, ho8, hb8⟩
    have HX8 := Lib.hid (HX7.out.below hb8 HX7.out.lt)
    have H8 := Lib.hid (H7.out.trans (hb8.mono H7.out.size))
    have hlt8 : w.heap.size + 1 < w7.heap.size := HX7.out.lt
    obtain ⟨A8, c8, rfl, _, _⟩ := ho8.frs
    have HO8 := Lib.hid ho8
    clear ho8 hb8 p0 p1
    obtain ⟨q0, q1⟩ := HX8.out.cells
    have qf := HX8.out.free
    go_wp2
    refine bodyPost_ret (results_tmp_cell rfl _ _ (w.heap.size + 1) _ _ _ _ rfl ((HX8.out.set0 (nx + c.data.size)).set1 _) Try.underlying26 rfl (by kernel_rfl)) rfl ?_
    exact ⟨_, rfl, ownc_weaken ((HO8.out.put (w.heap.size + 1) 0 _ hlt8).put (w.heap.size + 1) 1 _ hlt8) (by omega), (H8.out.setCell (p := ⟨_, _, _⟩) (by show w.heap.size ≤ w.heap.size + 1; omega) _).setCell (p := ⟨_, _, _⟩) (by show w.heap.size ≤ w.heap.size + 1; omega) _⟩
set_option maxRecDepth 100000 in
set_option maxHeartbeats 4000000 in
/-- spec.TakeBytes, where a part of the first chunk is taken. -/
theorem stake_part (nx : Int) (c : Ch) (l : List Ch) (n : Nat) (A : Option Addr) (cap B : Nat) (w : World) (hB : B ≤ w.heap.size) (hr : Chs w B A (c :: l)) (hn : (c :: l).length ≤ 10000000) (hi : inB (c :: l)) (hnx : 0 ≤ nx ∧ nx + c.data.size ≤ 4611686018427387903) (hrd : rdyB ⟨nx, c :: l⟩ = c.data.size) (h0 : 0 < n) (hlt : n < c.data.size) :
    Calls Try.prog 57 #[bfV nx (.slice A (c :: l).length cap), .int .i64 (n : Int)] w fun e w' => ∃ v, e = .returned (.tuple #[.string ⟨(c.data.data.toList.take n).toArray⟩, bfV (nx + n) v]) ∧ OwnC w' w.heap.size v (cutC c nx n :: l) ∧ Below w.heap.size w w' := by
  have HR := Lib.hid hr
  have HRD : Hid (∀ W, B ≤ W.heap.size → Chs W B A (c :: l) → Calls Try.prog 52 #[bfV nx (.slice A (c :: l).length cap)] W fun e w' => e = .returned (.int .i64 (c.data.size : Nat)) ∧ Below W.heap.size W w') := Lib.hid fun W h1 h2 => by
    have h := sready ⟨nx, c :: l⟩ A cap B W h1 h2 (by show (c :: l).length ≤ _; omega) hi ⟨by show _ ≤ nx; omega, by show nx ≤ _; omega⟩
    rw [hrd] at h
    exact h
  have HCP : Hid (∀ W, B ≤ W.heap.size → Chs W B A (c :: l) → Calls Try.prog 74 #[bfV nx (.slice A (c :: l).length cap)] W fun e w' => ∃ v, e = .returned (bfV nx v) ∧ OwnC w' W.heap.size v (c :: l) ∧ Below W.heap.size W w') := Lib.hid fun W h1 h2 => scopyb nx (c :: l) A cap B W h1 h2 (by omega)
  have HCQ : Hid (∀ (A : Option Addr) (k : Nat) W, Chs W W.heap.size A l → Calls Try.prog 74 #[bfV (nx + n) (.slice A l.length k)] W fun e w' => ∃ v, e = .returned (bfV (nx + n) v) ∧ OwnC w' W.heap.size v l ∧ Below W.heap.size W w') := Lib.hid fun A k W h => scopyb (nx + n) l A k W.heap.size W (Nat.le_refl _) h (by simp at hn; omega)
  have H2 := Lib.hid ((HeldB.start w nx (.slice A (c :: l).length cap)).alloc (.cells #[.int .i64 0, .slice none 0 0] 26))
  have X2 := BoxB.new (w.alloc (.cells #[.int .i64 nx, .slice A (c :: l).length cap] 26)) 0 (.slice none 0 0)
  rw [show (w.alloc (.cells #[.int .i64 nx, .slice A (c :: l).length cap] 26)).heap.size = w.heap.size + 1 by simp] at X2
  have HX2 := Lib.hid X2
  have hlen : (c :: l).length = l.length + 1 := rfl
  have hnx2 := hnx.1
  have hnx3 : nx + c.data.size ≤ 4611686018427387903 := hnx.2
  clear X2 hr hi hrd hnx
  rw [hlen] at HRD HCP H2 HX2 hn ⊢
  clear hlen
  go_enter Try.func57, Try.ntmps57
  go_upto_region 1 with fail
  generalize (w.alloc (.cells #[.int .i64 nx, .slice A (l.length + 1) cap] 26)).alloc (.cells #[.int .i64 0, .slice none 0 0] 26) = w2 at *
  obtain ⟨q0, q1⟩ := H2.out.1.cells
  go_wp2_with fail
  refine (HRD.out w2 (Nat.le_trans hB H2.out.2.size) (HR.out.below hB H2.out.2)).mono ?_
  rintro e w3 ⟨rfl, hb3⟩
  have H3 := Lib.hid (H2.out.next hb3)
  have HX3 := Lib.hid (HX2.out.below hb3 HX2.out.lt)
  clear hb3 q0 q1 H2 HX2 HRD
  obtain ⟨q0, q1⟩ := H3.out.1.cells
  go_wp2_with fail
  refine (HCP.out w3 (Nat.le_trans hB H3.out.2.size) (HR.out.below hB H3.out.2)).mono ?_
  rintro e w4 ⟨v4, rfl, ho4, hb4⟩
  have HX4 := Lib.hid (HX3.out.below hb4 HX3.out.lt)
  have HB4 := Lib.hid ((H3.out.next hb4).2)
  have hlt4 : w.heap.size + 1 < w3.heap.size := HX3.out.lt
  have hsz4 := hb4.size
  obtain ⟨g4, c4, rfl, hc4, hrow⟩ := ho4.cons
  have HO4 := Lib.hid hrow
  have hg4 := hrow.ge
  clear ho4 hb4 q0 q1 HCP hrow H3 HX3
  have H5 := Lib.hid (HB4.out.alloc HB4.out.size (.cells #[.int .i64 nx, .slice (some ⟨g4, 0, none⟩) (l.length + 1) c4] 26))
  have HO5 := Lib.hid (HO4.out.alloc (.cells #[.int .i64 nx, .slice (some ⟨g4, 0, none⟩) (l.length + 1) c4] 26))
  have HX5 := Lib.hid (HX4.out.alloc (.cells #[.int .i64 nx, .slice (some ⟨g4, 0, none⟩) (l.length + 1) c4] 26))
  have HY5 := Lib.hid (BoxB.new w4 nx (.slice (some ⟨g4, 0, none⟩) (l.length + 1) c4))
  go_upto_region 3 with fail
  clear HX4 HO4
  generalize hg : w4.heap.size = g at *
  generalize w4.alloc (.cells #[.int .i64 nx, .slice (some ⟨g4, 0, none⟩) (l.length + 1) c4] 26) = w5 at *
  clear hg
  have hz := HO5.out.cells 0 (Nat.succ_pos _)
  simp only [List.getElem_cons_zero, Nat.zero_mul, Nat.zero_add] at hz
  obtain ⟨c0, c1⟩ := hz
  obtain ⟨q0, q1⟩ := HX5.out.cells
  obtain ⟨p0, p1⟩ := HY5.out.cells
  have qf := HX5.out.free
  have pf := HY5.out.free
  have cf := HO5.out.free
  have hne1 : g4 ≠ g := by omega
  have hq : ((n : Int) == (c.data.size : Int)) = false := by
    have : (n : Int) ≠ (c.data.size : Int) := by omega
    simpa using this
  have hq0 : ((n : Int) == 0) = false := by
    have : (n : Int) ≠ 0 := by omega
    simpa using this
  go_upto_region 10 with fail
  have HY6 := Lib.hid (HY5.out.set0 (nx + n))
  have HX6 := Lib.hid (HX5.out.other g 0 (.int .i64 (nx + n)) (by omega))
  have HO6 := Lib.hid (HO5.out.apart g 0 (.int .i64 (nx + n)) hne1)
  have H6 := Lib.hid (H5.out.setCell (p := ⟨g, 0, none⟩) (by show w.heap.size ≤ g; omega) (.int .i64 (nx + n)))
  clear q0 q1 p0 p1 c0 c1 qf pf cf HY5 HX5 HO5 H5
  generalize w5.setCell ⟨g, 0, none⟩ (.int .i64 (nx + n)) = w6 at *
  obtain ⟨p0, p1⟩ := HY6.out.cells
  have hz := HO6.out.cells 0 (Nat.succ_pos _)
  simp only [List.getElem_cons_zero, Nat.zero_mul, Nat.zero_add] at hz
  obtain ⟨c0, c1⟩ := hz
  have cf := HO6.out.free
  go_region
  have HO7 := Lib.hid (HO6.out.store 0 (Nat.succ_pos _) ⟨nx + n, c.data.extract n c.data.size⟩)
  have HY7 := Lib.hid ((HY6.out.other g4 0 (.int .i64 (nx + n)) (by omega)).other g4 1 (.string (c.data.extract n c.data.size)) (by omega))
  have HX7 := Lib.hid ((HX6.out.other g4 0 (.int .i64 (nx + n)) (by omega)).other g4 1 (.string (c.data.extract n c.data.size)) (by omega))
  have H7 := Lib.hid (((H6.out.setCell (p := ⟨g4, 0, none⟩) (by show w.heap.size ≤ g4; omega) (.int .i64 (nx + n))).setCell (p := ⟨g4, 1, none⟩) (by show w.heap.size ≤ g4; omega) (.string (c.data.extract n c.data.size))))
  simp only [Nat.zero_mul, Nat.zero_add, List.set_cons_zero] at HO7
  clear p0 p1 c0 c1 cf HY6 HX6 HO6 H6
  go_upto_region 11 with fail
  generalize (w6.setCell ⟨g4, 0, none⟩ (.int .i64 (nx + n))).setCell ⟨g4, 1, none⟩ (.string (c.data.extract n c.data.size)) = w7 at *
  obtain ⟨p0, p1⟩ := HY7.out.cells
  obtain ⟨q0, q1⟩ := HX7.out.cells
  have qf := HX7.out.free
  go_region
  go_wp2
  refine bodyPost_ret (results_tmp_cell rfl _ _ (w.heap.size + 1) _ _ _ _ rfl ((HX7.out.set0 (nx + n)).set1 _) Try.underlying26 rfl (by kernel_rfl)) rfl ?_
  refine ⟨_, by rw [← take_str]; rfl, ?_, ((H7.out.setCell (p := ⟨_, _, _⟩) (by show w.heap.size ≤ w.heap.size + 1; omega) _).setCell (p := ⟨_, _, _⟩) (by show w.heap.size ≤ w.heap.size + 1; omega) _).drew.drew⟩
  unfold cutC
  rw [← drop_str]
  have h := ((HO7.out.apart (w.heap.size + 1) 0 (.int .i64 (nx + n)) (by omega)).apart (w.heap.size + 1) 1 (.slice (some ⟨g4, 0, none⟩) (l.length + 1) c4) (by omega)).own
  exact ownc_weaken h (by omega)
end Go.Proofs.Ytmmoedhfeaokgaa

namespace Go.Proofs.Ytmmoedhfeaokgaa
open Go.RowKit Go.Deep Go.Proofs.Ytmmoedhfeaokgaa.Num

theorem take_all_str (d : ByteArray) : (⟨(d.data.toList.take d.size).toArray⟩ : ByteArray) = d := by
  apply ByteArray.ext
  apply Array.toList_inj.mp
  have h : d.size = d.data.toList.length := by simp
  rw [h, List.take_length]
/-- spec.TakeBytes -/
theorem stake (b : Bf) (m : Int) (A : Option Addr) (cap B : Nat) (w : World) (hB : B ≤ w.heap.size) (hr : Chs w B A b.chs) (hn : b.chs.length ≤ 10000000) (hi : inB b.chs) (hnx : -9223372036854775808 ≤ b.next ∧ b.next ≤ 9223372036854775807) (hm : -9223372036854775808 ≤ m ∧ m ≤ 9223372036854775807) :
    Calls Try.prog 57 #[bfV b.next (.slice A b.chs.length cap), .int .i64 m] w fun e w' => ∃ v, e = .returned (.tuple #[.string (headT b (cntT b m)), bfV (dropT b (cntT b m)).next v]) ∧ OwnC w' w.heap.size v (dropT b (cntT b m)).chs ∧ Below w.heap.size w w' := by
  by_cases h0 : cntT b m = 0
  · have h := stake_none b m A cap B w hB hr hn hi hnx hm h0
    rw [h0, show dropT b 0 = b from if_pos rfl, show headT b 0 = ⟨#[]⟩ from if_pos rfl]
    exact h
  · have hr0 : rdyB b ≠ 0 := by unfold cntT at h0; omega
    obtain ⟨hok, c, l, hl, hn2, hs⟩ := rdyB_pos hr0
    obtain ⟨nx, chs⟩ := b
    dsimp only at *
    subst hl
    have hk := okR.below hok.1 (ckR c) (List.mem_map_of_mem (List.mem_cons_self ..))
    have hk2 : c.off + (c.data.size : Int) ≤ 4611686018427387903 := hk.2.2
    have hk0 : 0 ≤ nx := hok.2.1
    have hc : cntT ⟨nx, c :: l⟩ m = min c.data.size (max m 0).toNat := by unfold cntT; rw [hs]
    by_cases hall : c.data.size ≤ m
    · have hcn : cntT ⟨nx, c :: l⟩ m = c.data.size := by omega
      have h := stake_all nx c l m A cap B w hB hr hn hi ⟨hk0, by omega⟩ hs hall hm.2 (by omega)
      rw [hcn]
      rw [hcn] at h0
      unfold dropT headT
      rw [if_neg h0, if_neg h0]
      simp only [if_true]
      rw [take_all_str]
      exact h
    · obtain ⟨n, rfl⟩ := Int.eq_ofNat_of_zero_le (show 0 ≤ m by omega)
      have hcn : cntT ⟨nx, c :: l⟩ (n : Int) = n := by omega
      have h := stake_part nx c l n A cap B w hB hr hn hi ⟨hk0, by omega⟩ hs (by omega) (by omega)
      rw [hcn]
      rw [hcn] at h0
      unfold dropT headT
      rw [if_neg h0, if_neg h0]
      simp only
      rw [if_neg (show ¬ n = c.data.size by omega)]
      exact h
end Go.Proofs.Ytmmoedhfeaokgaa
