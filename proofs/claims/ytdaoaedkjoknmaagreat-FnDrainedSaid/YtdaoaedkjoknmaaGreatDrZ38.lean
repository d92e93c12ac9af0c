/-
  Contracts and lemmas for the law on draining.
-/
import Derived.Test.YtdaoaedkjoknmaaGreatDrZ0
import Derived.Test.YtdaoaedkjoknmaaGreatDrZ37
import Derived.Test.YtdaoaedkjoknmaaGreatDrZ14
import Derived.Test.YtdaoaedkjoknmaaGreatDrZ26
import Derived.Test.YtdaoaedkjoknmaaGreatDrZ29
set_option maxRecDepth 1000000
set_option maxHeartbeats 8000000
namespace Go.Proofs.YtdaoaedkjoknmaaGreat
open Go.RowKit Go.Deep Go.Proofs.YtdaoaedkjoknmaaGreat.Num

theorem first_cut {x : Rg} {m l : Int} (hx : x.1 < x.2) : (1 ≤ m ∧ x.1 < min (topR x m).2 l ↔ ¬ (min x.2 l ≤ x.1 ∨ cutS x m l ≤ x.1)) ∧ (1 ≤ m → x.1 < min (topR x m).2 l → min (topR x m).2 l = cutS x m l) := by
  unfold topR cutS
  refine ⟨⟨fun h => ?_, fun h => ?_⟩, fun h1 h2 => ?_⟩ <;> (repeat' split at *) <;> (try dsimp only at *) <;> omega
def InF (w : World) (v : Value) (W : World) : Prop := W.cell? ⟨w.heap.size, 0, none⟩ = some v ∧ Box W (w.heap.size + 1) (0, 0) ∧ Below w.heap.size w W
theorem InF.start (w : World) (v : Value) : InF w v ((w.alloc (.cells #[v] 72)).alloc (.cells #[.int .i64 0, .int .i64 0] 59)) := by
  have h1 : (w.alloc (.cells #[v] 72)).heap.size = w.heap.size + 1 := by simp
  have hb : Below (w.heap.size + 1) _ _ := (Below.refl (w.heap.size + 1) (w.alloc (.cells #[v] 72))).alloc (Nat.le_of_eq h1.symm) (.cells #[.int .i64 0, .int .i64 0] 59)
  have hx := Box.new (w.alloc (.cells #[v] 72)) (0, 0)
  rw [h1] at hx
  exact ⟨(hb.cell (p := ⟨w.heap.size, 0, none⟩) (Nat.lt_succ_self _)).trans (cell_alloc1 w v _), hx, ((Below.refl _ _).alloc (Nat.le_refl _) _).trans (hb.mono (Nat.le_succ _))⟩
theorem InF.next {w : World} {v : Value} {W W' : World} (h : InF w v W) (hb : Below W.heap.size W W') : InF w v W' := by
  have hl : w.heap.size + 1 < W.heap.size := (Array.getElem?_eq_some_iff.1 h.2.1).1
  exact ⟨(hb.cell (p := ⟨w.heap.size, 0, none⟩) (show w.heap.size < _ by omega)).trans h.1, (hb.block _ hl).trans h.2.1, h.2.2.trans (hb.mono (by omega))⟩
theorem ifirst (x : Rg) (l : List Rg) (m k : Int) (A : Option Addr) (cap B : Nat) (w : World) (hB : B ≤ w.heap.size) (hr : Rgs w B A (x :: l)) (hn : (x :: l).length ≤ 1048576) (hk : okR (-1) (x :: l)) :
    Calls Tryz.prog 39 #[.agg #[.slice A (x :: l).length cap], .int .i64 m, .int .i64 k] w fun e w' => ∃ r : Rg, e = .returned (.tuple #[rgV r, .bool (decide (1 ≤ m ∧ x.1 < min (topR x m).2 k))]) ∧ (1 ≤ m → r = (x.1, min (topR x m).2 k)) ∧ Below w.heap.size w w' := by
  have HH := LH (InF.start w (.slice A (x :: l).length cap))
  have HPY : Hid (1 ≤ m → ∀ W, Below w.heap.size w W → Calls Tryz.prog 97 #[.slice A (x :: l).length cap, .int .i64 m] W fun e w' => ∃ v, e = .returned (.tuple #[.agg #[.int .i64 (topR x m).1, .int .i64 (topR x m).2], v, .bool true]) ∧ Below W.heap.size W w') := LH fun hm W h => (ipop_yes x l m A cap B W (Nat.le_trans hB h.size) (hr.below hB h) (Nat.le_trans hn (by decide)) hk hm).mono fun e w2 ⟨v, h1, _, h3⟩ => ⟨v, h1, h3⟩
  have HPN : Hid (¬ 1 ≤ m → ∀ W, Below w.heap.size w W → Calls Tryz.prog 97 #[.slice A (x :: l).length cap, .int .i64 m] W fun e w' => ∃ v, e = .returned (.tuple #[.agg #[.int .i64 0, .int .i64 0], v, .bool false]) ∧ Below W.heap.size W w') := LH fun hm W h => (ipop_no (x :: l) m A cap B W (Nat.le_trans hB h.size) (hr.below hB h) (Nat.le_trans hn (by decide)) (fun k => hm k.2.2)).mono fun e w2 ⟨v, h1, _, h3⟩ => ⟨v, h1, h3⟩
  have HX1 : Hid ((topR x m).1 = x.1) := LH (by unfold topR; split <;> rfl)
  clear hr hn hk
  by_cases hm : 1 ≤ m
  rotate_left
  · have HP := LH (HPN.out hm)
    rw [decide_eq_false (fun k => hm k.1)]
    have HNM := LH hm
    clear hm HPN HPY HX1
    go_enter Tryz.func39, Tryz.ntmps39
    obtain ⟨a0, b0, _⟩ := HH.out
    go_upto_region 1 with fail
    generalize (w.alloc (.cells #[.slice A (x :: l).length cap] 72)).alloc (.cells #[.int .i64 0, .int .i64 0] 59) = w1 at *
    go_wp2_with fail
    refine (HP.out _ HH.out.2.2).mono ?_
    rintro e w2 ⟨v, rfl, hb⟩
    have HH := LH (HH.out.next hb)
    have HGX : Hid (w2.heap.size ≠ w.heap.size + 1) := LH (by have : w.heap.size + 1 < w2.heap.size := (Array.getElem?_eq_some_iff.1 HH.out.2.1).1; omega)
    have hgx : w.heap.size ≤ w2.heap.size := HH.out.2.2.size
    clear hb a0 b0 HP
    go_upto_region 2 with fail
    have HX := LH (Box.new w2 (0, 0))
    have HH := LH (HH.out.next ((Below.refl _ _).alloc (Nat.le_refl _) (.cells #[.int .i64 0, .int .i64 0] 59)))
    generalize w2.alloc (.cells #[.int .i64 0, .int .i64 0] 59) = w3 at *
    generalize w2.heap.size = gx at *
    obtain ⟨x0, x1⟩ := HX.out.cells
    (try simp only at x0 x1)
    have xf := HX.out.free
    go_upto_region 3 with fail
    rw [show (if k < 0 then k else 0) = min 0 k by split <;> omega]
    have HX := LH (Box.set1 HX.out (min 0 k))
    have HBO : Hid (Box (w3.setCell ⟨gx, 1, none⟩ (.int .i64 (min 0 k))) (w.heap.size + 1) (0, 0)) := LH ((Below.heap_setCell w3 ⟨gx, 1, none⟩ (.int .i64 (min 0 k)) (w.heap.size + 1) (fun h => HGX.out h.symm)).trans HH.out.2.1)
    have HBL := LH (HH.out.2.2.setCell (p := ⟨gx, 1, none⟩) hgx (.int .i64 (min 0 k)))
    clear x0 x1 xf HH
    generalize w3.setCell ⟨gx, 1, none⟩ (.int .i64 (min 0 k)) = w4 at *
    generalize hmn : min 0 k = mn at *
    obtain ⟨x0, x1⟩ := HX.out.cells
    (try simp only at x0 x1)
    obtain ⟨r0, r1⟩ := HBO.out.cells
    have rf := HBO.out.free
    have hne := HGX.out
    go_region
    go_wp2
    have X := Box.set1 (Box.set0 HBO.out 0) mn
    refine bodyPost_ret (results_ct rfl _ _ (w.heap.size + 1) _ _ _ _ rfl X Tryz.underlying59 rfl (by kernel_rfl)) rfl ?_
    refine ⟨0, mn, rfl, fun k => absurd k (by have := HNM.out; omega), ?_⟩
    exact ((HBL.out.setCell (p := ⟨w.heap.size + 1, 0, none⟩) (Nat.le_succ _) _).setCell (p := ⟨w.heap.size + 1, 1, none⟩) (Nat.le_succ _) _).drew
  have HP := LH (HPY.out hm)
  have HV : Hid (decide (1 ≤ m ∧ x.1 < min (topR x m).2 k) = decide (x.1 < min (topR x m).2 k)) := LH (decide_eq_decide.2 ⟨fun h => h.2, fun h => ⟨hm, h⟩⟩)
  rw [HV.out]
  rw [HX1.out] at HP
  clear hm HPN HPY HX1 HV
  generalize (topR x m).2 = y at *
  go_enter Tryz.func39, Tryz.ntmps39
  obtain ⟨a0, b0, _⟩ := HH.out
  go_upto_region 1 with fail
  generalize (w.alloc (.cells #[.slice A (x :: l).length cap] 72)).alloc (.cells #[.int .i64 0, .int .i64 0] 59) = w1 at *
  go_wp2_with fail
  refine (HP.out _ HH.out.2.2).mono ?_
  rintro e w2 ⟨v, rfl, hb⟩
  have HH := LH (HH.out.next hb)
  have HGX : Hid (w2.heap.size ≠ w.heap.size + 1) := LH (by have : w.heap.size + 1 < w2.heap.size := (Array.getElem?_eq_some_iff.1 HH.out.2.1).1; omega)
  have hgx : w.heap.size ≤ w2.heap.size := HH.out.2.2.size
  clear hb a0 b0 HP
  go_upto_region 2 with fail
  have HX := LH (Box.new w2 (x.1, y))
  have HH := LH (HH.out.next ((Below.refl _ _).alloc (Nat.le_refl _) (.cells #[.int .i64 x.1, .int .i64 y] 59)))
  generalize w2.alloc (.cells #[.int .i64 x.1, .int .i64 y] 59) = w3 at *
  generalize w2.heap.size = gx at *
  obtain ⟨x0, x1⟩ := HX.out.cells
  (try simp only at x0 x1)
  have xf := HX.out.free
  go_upto_region 3 with fail
  rw [show (if k < y then k else y) = min y k by split <;> omega]
  have HX := LH (Box.set1 HX.out (min y k))
  have HBO : Hid (Box (w3.setCell ⟨gx, 1, none⟩ (.int .i64 (min y k))) (w.heap.size + 1) (0, 0)) := LH ((Below.heap_setCell w3 ⟨gx, 1, none⟩ (.int .i64 (min y k)) (w.heap.size + 1) (fun h => HGX.out h.symm)).trans HH.out.2.1)
  have HBL := LH (HH.out.2.2.setCell (p := ⟨gx, 1, none⟩) hgx (.int .i64 (min y k)))
  clear x0 x1 xf HH
  generalize w3.setCell ⟨gx, 1, none⟩ (.int .i64 (min y k)) = w4 at *
  generalize hmn : min y k = mn at *
  obtain ⟨x0, x1⟩ := HX.out.cells
  (try simp only at x0 x1)
  obtain ⟨r0, r1⟩ := HBO.out.cells
  have rf := HBO.out.free
  have hne := HGX.out
  go_region
  go_wp2
  have X := Box.set1 (Box.set0 HBO.out x.1) mn
  refine bodyPost_ret (results_ct rfl _ _ (w.heap.size + 1) _ _ _ _ rfl X Tryz.underlying59 rfl (by kernel_rfl)) rfl ?_
  refine ⟨x.1, mn, by rw [← hmn]; rfl, fun _ => ⟨rfl, rfl⟩, ?_⟩
  exact ((HBL.out.setCell (p := ⟨w.heap.size + 1, 0, none⟩) (Nat.le_succ _) _).setCell (p := ⟨w.heap.size + 1, 1, none⟩) (Nat.le_succ _) _).drew

theorem ownK_keep {w w' : World} {base K : Nat} {v : Value} {l : List Int} (h : OwnK w base v l) (hu : ∀ k, v.ownBlock = some k → k < K) (hb : Below K w w') : OwnK w' base v l := by
  rcases h with h | ⟨g, off, cap, rfl, hle, h⟩
  · exact .inl h
  · refine .inr ⟨g, off, cap, rfl, hle, ?_⟩
    obtain ⟨h1, cs, t, h2, h3⟩ := h
    exact ⟨h1, cs, t, (hb.block g (hu g rfl)).trans h2, h3⟩
theorem ownP_keep {w w' : World} {base K : Nat} {v : Value} {l : List Rg} (h : OwnP w base v l) (hu : ∀ k, v.ownBlock = some k → k < K) (hb : Below K w w') : OwnP w' base v l := by
  rcases h with h | ⟨g, off, cap, rfl, hle, h⟩
  · exact .inl h
  · refine .inr ⟨g, off, cap, rfl, hle, ?_⟩
    obtain ⟨h1, cs, t, h2, h3⟩ := h
    exact ⟨h1, cs, t, (hb.block g (hu g rfl)).trans h2, h3⟩
theorem apart_mv {g : Nat} {x v v0 : Value} (h : v = v0 ∨ ∀ k, v.ownBlock = some k → g < k) (a : Apart x v0) (hx : ∀ k, x.ownBlock = some k → k < g) : Apart x v := by
  rcases h with h | h
  · rw [h]; exact a
  · exact apart_new hx fun k hk => Nat.le_of_lt (h k hk)
theorem MvI.start {w : World} {g k1 k2 : Nat} {cs : Array Value} {t : TypeId} {B : Nat} {v u : Value} {l m : List Rg} (x : w.heap[g]? = some (.cells cs t (0, 0))) (h1 : cs[k1]? = some v) (h2 : cs[k2]? = some u) (hv : OwnP w B v l) (hu : OwnP w B u m) (ha : Apart v u) (nv : ∀ k, v.ownBlock = some k → k < g) (nu : ∀ k, u.ownBlock = some k → k < g) : MvI w g k1 k2 cs t B v u w v u l m :=
  ⟨⟨cs, x, h1, h2, fun _ _ _ => rfl⟩, hv, hu, ha, .inl rfl, .inl rfl, fun e => Nat.lt_irrefl g (nv g e), fun e => Nat.lt_irrefl g (nu g e), Below.refl _ _, (Array.getElem?_eq_some_iff.1 x).1⟩
structure StS (w : World) (n go : Nat) (R : Nat → Option Obj) (x : Sn) (u1 u2 u3 u4 : Value) (g : Nat) (y2 y3 y4 : Value) (l2 l3 l4 : List Rg) (W : World) : Prop where
  i : IrS w n go R x u1 u2 u3 u4 W
  own : OwnS W (w.heap.size + n) u1 y2 y3 y4 x.rn.cs l2 l3 l4
  c : W.cell? ⟨g, 0, none⟩ = some y2 ∧ W.cell? ⟨g, 1, none⟩ = some y3 ∧ W.cell? ⟨g, 2, none⟩ = some y4
  lo : w.heap.size + n ≤ g
  lt : g < W.heap.size
theorem StS.next {w : World} {n go : Nat} {R : Nat → Option Obj} {x : Sn} {u1 u2 u3 u4 : Value} {g : Nat} {y2 y3 y4 : Value} {l2 l3 l4 : List Rg} {W W' : World} (h : StS w n go R x u1 u2 u3 u4 g y2 y3 y4 l2 l3 l4 W) (hb : Below W.heap.size W W') : StS w n go R x u1 u2 u3 u4 g y2 y3 y4 l2 l3 l4 W' :=
  ⟨h.i.next hb, h.own.later hb, ⟨(hb.cell (p := ⟨g, 0, none⟩) h.lt).trans h.c.1, (hb.cell (p := ⟨g, 1, none⟩) h.lt).trans h.c.2.1, (hb.cell (p := ⟨g, 2, none⟩) h.lt).trans h.c.2.2⟩, h.lo, Nat.lt_of_lt_of_le h.lt hb.size⟩
theorem StS.putn {w : World} {n go : Nat} {R : Nat → Option Obj} {x x' : Sn} {u1 u2 u3 u4 : Value} {g : Nat} {y2 y3 y4 : Value} {l2 l3 l4 : List Rg} {W : World} (h : StS w n go R x u1 u2 u3 u4 g y2 y3 y4 l2 l3 l4 W) (k : Nat) (y : Value) (hb : RowS (W.setCell ⟨w.heap.size, k, none⟩ y) w.heap.size x' u1 u2 u3 u4) (e1 : x'.rn.cs = x.rn.cs) : StS w n go R x' u1 u2 u3 u4 g y2 y3 y4 l2 l3 l4 (W.setCell ⟨w.heap.size, k, none⟩ y) := by
  have hg : w.heap.size < w.heap.size + n := by have := h.i.lo; omega
  have hne : ∀ j, (W.setCell ⟨w.heap.size, k, none⟩ y).cell? ⟨g, j, none⟩ = W.cell? ⟨g, j, none⟩ := fun j => World.cell?_of_block (Below.heap_setCell W ⟨w.heap.size, k, none⟩ y g (by show g ≠ w.heap.size; have := h.lo; omega))
  refine ⟨h.i.putc k y hb, ?_, ⟨(hne 0).trans h.c.1, (hne 1).trans h.c.2.1, (hne 2).trans h.c.2.2⟩, h.lo, by simpa [World.setCell] using h.lt⟩
  rw [e1]
  exact h.own.apart w.heap.size k y hg
theorem StS.putR {w : World} {n go : Nat} {R : Nat → Option Obj} {x : Sn} {u1 u2 u3 u4 : Value} {g : Nat} {y2 y3 y4 : Value} {l2 l3 l4 : List Rg} {W W' : World} (h : StS w n go R x u1 u2 u3 u4 g y2 y3 y4 l2 l3 l4 W) (hb : Below W.heap.size W W') {v : Value} {r : Rn} (ho : OwnK W' W.heap.size v r.cs) : StS w n go R { x with rn := r } v u2 u3 u4 g y2 y3 y4 l2 l3 l4 ((((W'.setCell ⟨w.heap.size, 1, none⟩ (.int .i64 r.size)).setCell ⟨w.heap.size, 2, none⟩ (.int .i64 r.base)).setCell ⟨w.heap.size, 3, none⟩ (.int .i64 r.en)).setCell ⟨w.heap.size, 4, none⟩ v) := by
  have h' := h.next hb
  have hg : w.heap.size < w.heap.size + n := by have := h.i.lo; omega
  have hgn : g ≠ w.heap.size := by have := h.lo; omega
  have hne : ∀ (W : World) (k j : Nat) (y : Value), (W.setCell ⟨w.heap.size, k, none⟩ y).cell? ⟨g, j, none⟩ = W.cell? ⟨g, j, none⟩ := fun W k j y => World.cell?_of_block (Below.heap_setCell W ⟨w.heap.size, k, none⟩ y g hgn)
  have hu := h.own.under
  refine ⟨h'.i.putN r v, ⟨⟨(ho.weaken h.i.sz).laidN _ hg _ _, (h'.own.1.2.1).laidN _ hg _ _, (h'.own.1.2.2.1).laidN _ hg _ _, (h'.own.1.2.2.2).laidN _ hg _ _⟩, ⟨(apart_new hu.2.1 ho.lo).symm, (apart_new hu.2.2.1 ho.lo).symm, (apart_new hu.2.2.2 ho.lo).symm⟩, h.own.2.2.1, h.own.2.2.2⟩, ?_, h.lo, by simpa [World.setCell] using h'.lt⟩
  simp only [hne]
  exact h'.c
theorem StS.out {w : World} {n go : Nat} {R : Nat → Option Obj} {x : Sn} {u1 u2 u3 u4 : Value} {g : Nat} {y2 y3 y4 : Value} {l2 l3 l4 : List Rg} {W : World} (h : StS w n go R x u1 u2 u3 u4 g y2 y3 y4 l2 l3 l4 W) (z : Sn) (e1 : z.rn.cs = x.rn.cs) (e2 : z.pe = l2) (e3 : z.fl = l3) (e4 : z.ac = l4) :
    RowS (laidS W go z u1 y2 y3 y4) go z u1 y2 y3 y4 ∧ OwnSn (laidS W go z u1 y2 y3 y4) w.heap.size u1 y2 y3 y4 z ∧ Below w.heap.size w (laidS W go z u1 y2 y3 y4) := by
  refine h.i.out z u1 y2 y3 y4 ?_
  show OwnS _ _ _ _ _ _ z.rn.cs z.pe z.fl z.ac
  rw [e1, e2, e3, e4]
  exact h.own
theorem OrS.sets {w : World} {n go : Nat} {R : Nat → Option Obj} {x : Sn} {u1 u2 u3 u4 : Value} {W : World} (h : OrS w n go R x u1 u2 u3 u4 W) (t : TypeId) : OrS w n go R x u1 u2 u3 u4 (W.alloc (.cells #[u2, u3, u4] t)) ∧ (W.alloc (.cells #[u2, u3, u4] t)).heap[W.heap.size]? = some (.cells #[u2, u3, u4] t (0, 0)) ∧ Under W.heap.size u1 u2 u3 u4 ∧ w.heap.size + n ≤ W.heap.size :=
  ⟨h.alloc _, heap_alloc_new W _, h.2.under, h.1.sz⟩
theorem OrS.moved {w : World} {n go : Nat} {R : Nat → Option Obj} {x : Sn} {u1 u2 u3 u4 : Value} {W W' : World} (h : OrS w n go R x u1 u2 u3 u4 W) {g : Nat} (hu : Under g u1 u2 u3 u4) (hg : w.heap.size + n ≤ g) (hb : Below g W W') : IrS w n go R x u1 u2 u3 u4 W' ∧ OwnSn W' (w.heap.size + n) u1 u2 u3 u4 x :=
  ⟨h.1.up (hb.mono hg), ⟨⟨ownK_keep h.2.1.1 hu.1 hb, ownP_keep h.2.1.2.1 hu.2.1 hb, ownP_keep h.2.1.2.2.1 hu.2.2.1 hb, ownP_keep h.2.1.2.2.2 hu.2.2.2 hb⟩, h.2.2⟩⟩
theorem comQ_of {s : Sn} {p : Pc} (hd : docSn s) (h : inP s p) : comQ s.fl (pcR p) = comS s p := by
  unfold comQ comS
  have he : s.rn.en ≤ 4611686018427387903 := hd.1.1.2.2.2.2.2.1
  obtain ⟨h0, _, h2, _⟩ := h
  by_cases hz : p.data.size = 0
  · rw [if_neg (show ¬ p.data.size ≠ 0 from fun e => e hz), if_neg]
    intro k
    have : p.off < p.off + (p.data.size : Int) := k.2.1
    omega
  · rw [if_pos (show p.data.size ≠ 0 from hz), if_pos]
    exact ⟨by show (-1 : Int) < p.off; omega, by show p.off < p.off + (p.data.size : Int); omega, by show p.off + (p.data.size : Int) ≤ _; omega, trivial⟩
theorem comQ_one {l : List Rg} {s : Sn} {p : Pc} (hd : docSn s) (h : inP s p) (hc : p.data.size ≠ 0 → comR l [pcR p] = [pcR p]) : comQ l (pcR p) = if p.data.size ≠ 0 then [pcR p] else [] := by
  unfold comQ
  have he : s.rn.en ≤ 4611686018427387903 := hd.1.1.2.2.2.2.2.1
  obtain ⟨h0, _, h2, _⟩ := h
  by_cases hz : p.data.size = 0
  · rw [if_neg (show ¬ p.data.size ≠ 0 from fun e => e hz), if_neg]
    intro k
    have : p.off < p.off + (p.data.size : Int) := k.2.1
    omega
  · rw [if_pos (show p.data.size ≠ 0 from hz), if_pos]
    · exact hc hz
    · exact ⟨by show (-1 : Int) < p.off; omega, by show p.off < p.off + (p.data.size : Int); omega, by show p.off + (p.data.size : Int) ≤ _; omega, trivial⟩

theorem iholdc (x q : Rg) (gq : Nat) (w : World) (hq : Box w gq q) :
    Calls Tryz.prog 132 #[rgV x, .pointer (some ⟨gq, 0, none⟩)] w fun e w' => e = .returned (.bool (decide (x.1 ≤ q.1 ∧ q.2 ≤ x.2))) ∧ Below w.heap.size w w' := by
  have HB := LH ((Below.refl w.heap.size w).alloc (Nat.le_refl _) (.cells #[.int .i64 x.1, .int .i64 x.2] 59))
  have HX := LH (Box.new w x)
  have HQ := LH (box_later hq ((Below.refl w.heap.size w).alloc (Nat.le_refl _) (.cells #[.int .i64 x.1, .int .i64 x.2] 59)))
  clear hq
  by_cases h1 : x.1 ≤ q.1
  · have d1 : decide (x.1 ≤ q.1) = true := decide_eq_true h1
    have HV : Hid (decide (x.1 ≤ q.1 ∧ q.2 ≤ x.2) = decide (q.2 ≤ x.2)) := LH (decide_eq_decide.2 ⟨fun k => k.2, fun k => ⟨h1, k⟩⟩)
    rw [HV.out]
    clear h1 HV
    go_enter Tryz.func132, Tryz.ntmps132
    go_upto_region 1 with fail
    generalize w.alloc (.cells #[.int .i64 x.1, .int .i64 x.2] 59) = w1 at *
    obtain ⟨x0, x1⟩ := HX.out.cells
    obtain ⟨q0, q1⟩ := HQ.out.cells
    go_wp2
    go_ret
    exact ⟨rfl, HB.out⟩
  · have d1 : decide (x.1 ≤ q.1) = false := decide_eq_false h1
    rw [decide_eq_false (fun k => h1 k.1)]
    clear h1
    go_enter Tryz.func132, Tryz.ntmps132
    go_upto_region 1 with fail
    generalize w.alloc (.cells #[.int .i64 x.1, .int .i64 x.2] 59) = w1 at *
    obtain ⟨x0, x1⟩ := HX.out.cells
    obtain ⟨q0, q1⟩ := HQ.out.cells
    go_wp2
    go_ret
    exact ⟨rfl, HB.out⟩
theorem iindexq (l : List Rg) (q : Rg) (gq : Nat) (A : Option Addr) (cap B : Nat) (w : World) (hB : B ≤ w.heap.size) (hr : Rgs w B A l) (hn : l.length ≤ 1000000) (hq : Box w gq q) :
    Calls Tryz.prog 149 #[.slice A l.length cap, .func (.func 132) #[] #[.pointer (some ⟨gq, 0, none⟩)]] w fun e w' => (∃ i : Int, e = .returned (.int .i64 i) ∧ (0 ≤ i ↔ hldS l q)) ∧ Below w.heap.size w w' := by
  have HR := LH hr
  have HQ := LH hq
  have HC := LH fun (x : Rg) (W : World) (h : Box W gq q) => iholdc x q gq W h
  clear hr hq
  go_enter Tryz.func149, Tryz.ntmps149
  go_wp2
  go_loopw [8] (fun i wr => ∃ j : Nat, j ≤ l.length ∧ i = .int .i64 j ∧ (∀ x ∈ l.take j, ¬ (x.1 ≤ q.1 ∧ q.2 ≤ x.2)) ∧ Below w.heap.size w wr) (fun i _ => l.length - (intOf i).toNat)
  case atStart => exact ⟨0, Nat.zero_le _, rfl, fun x hx => by simp at hx, Below.refl _ _⟩
  case round =>
    obtain ⟨j, hj, rfl, hno, hb⟩ := hrel
    have HO := LH hno
    have HB := LH hb
    clear hno hb
    by_cases hlt : j < l.length
    · have HRW := LH (HR.out.below hB HB.out)
      have HQW := LH (box_later HQ.out HB.out)
      obtain ⟨b, off, rfl, hbB, c1, c2⟩ := HRW.out j hlt
      have HTK : Hid (∀ z, z ∈ l.take (j + 1) → z ∈ l.take j ∨ z = l[j]) := LH (fun z hz => by
        rw [List.take_succ_eq_append_getElem hlt] at hz
        rcases List.mem_append.1 hz with h | h
        · exact .inl h
        · exact .inr (List.mem_singleton.1 h))
      have HM : Hid (l[j] ∈ l) := LH (List.getElem_mem hlt)
      generalize l[j] = z at *
      have HI := LH (HC.out z wr HQW.out)
      by_cases hz : z.1 ≤ q.1 ∧ q.2 ≤ z.2
      · have HY : Hid (hldS l q) := LH ⟨z, HM.out, hz⟩
        rw [decide_eq_true hz] at HI
        clear hz
        go_wp2_with fail
        refine HI.out.mono ?_
        rintro e w1 ⟨rfl, hb1⟩
        have HB := LH (HB.out.trans (hb1.mono HB.out.size))
        clear hb1
        go_wp2
        go_ret
        exact ⟨⟨_, rfl, fun _ => HY.out, fun _ => by omega⟩, HB.out⟩
      · have HZ := LH hz
        rw [decide_eq_false hz] at HI
        clear hz
        go_wp2_with fail
        refine HI.out.mono ?_
        rintro e w1 ⟨rfl, hb1⟩
        have HB := LH (HB.out.trans (hb1.mono HB.out.size))
        clear hb1
        go_wp2
        go_roundw
        case rel => exact ⟨j + 1, hlt, by go_num, fun y hy => (HTK.out y hy).elim (fun h => HO.out y h) (fun h => by rw [h]; exact HZ.out), HB.out⟩
        case measure => simp [intOf]; omega
    · obtain rfl : j = l.length := by omega
      have HY : Hid (¬ hldS l q) := LH (fun ⟨x, hx, h⟩ => HO.out x (by rw [List.take_length]; exact hx) h)
      go_wp2
      go_ret
      exact ⟨⟨_, rfl, fun h => by omega, fun h => absurd h HY.out⟩, HB.out⟩
theorem iholds (l : List Rg) (q : Rg) (A : Option Addr) (cap B : Nat) (w : World) (hB : B ≤ w.heap.size) (hr : Rgs w B A l) (hn : l.length ≤ 1000000) :
    Calls Tryz.prog 100 #[.agg #[.slice A l.length cap], rgV q] w fun e w' => e = .returned (.bool (decide (hldS l q))) ∧ Below w.heap.size w w' := by
  have h1 : (w.alloc (.cells #[.slice A l.length cap] 70)).heap.size = w.heap.size + 1 := by simp
  have hb1 := (Below.refl w.heap.size w).alloc (Nat.le_refl _) (.cells #[.slice A l.length cap] 70)
  have hb2 := hb1.alloc hb1.size (.cells #[.int .i64 q.1, .int .i64 q.2] 59)
  have X2 := ((Below.refl (w.heap.size + 1) (w.alloc (.cells #[.slice A l.length cap] 70))).alloc (by rw [h1]; exact Nat.le_refl _) (.cells #[.int .i64 q.1, .int .i64 q.2] 59)).cell (p := ⟨w.heap.size, 0, none⟩) (Nat.lt_succ_self _)
  rw [cell_alloc1 w] at X2
  have hq := Box.new (w.alloc (.cells #[.slice A l.length cap] 70)) q
  rw [h1] at hq
  have HB := LH hb2
  have HC : Hid (Calls Tryz.prog 131 #[.slice A l.length cap, .func (.func 132) #[] #[.pointer (some ⟨w.heap.size + 1, 0, none⟩)]] ((w.alloc (.cells #[.slice A l.length cap] 70)).alloc (.cells #[.int .i64 q.1, .int .i64 q.2] 59)) fun e w' => e = .returned (.bool (decide (hldS l q))) ∧ Below w.heap.size w w') := LH (by
    have hI := iindexq l q (w.heap.size + 1) A cap B _ (Nat.le_trans hB hb2.size) (hr.below hB hb2) hn hq
    have HI := LH hI
    clear hI X2 hq h1 hb1 hb2 hr
    generalize (w.alloc (.cells #[.slice A l.length cap] 70)).alloc (.cells #[.int .i64 q.1, .int .i64 q.2] 59) = w2 at *
    go_enter Tryz.func131, Tryz.ntmps131
    go_wp2_with fail
    refine HI.out.mono ?_
    rintro e w1 ⟨⟨i, rfl, hi⟩, hb⟩
    have HE : Hid (decide (hldS l q) = decide (0 ≤ i)) := LH (decide_eq_decide.2 hi.symm)
    have HB2 := LH (HB.out.trans (hb.mono HB.out.size))
    clear hi hb
    go_wp2
    go_ret
    exact ⟨by rw [HE.out]; rfl, HB2.out⟩)
  clear hr hn hb1 hb2 hq h1
  go_enter Tryz.func100, Tryz.ntmps100
  go_upto_region 1 with fail
  generalize (w.alloc (.cells #[.slice A l.length cap] 70)).alloc (.cells #[.int .i64 q.1, .int .i64 q.2] 59) = w2 at *
  go_wp2_with fail
  refine HC.out.mono ?_
  rintro e w1 ⟨rfl, hb⟩
  have HB := LH hb
  clear hb
  go_wp2
  go_ret
  exact ⟨rfl, HB.out⟩
end Go.Proofs.YtdaoaedkjoknmaaGreat
