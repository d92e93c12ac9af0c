/-
  What the drawing function spec.l8Ring returns: a small ring.
-/
import Derived.Test.YtkhekbfakloaoaaSRn3
import Derived.Test.YtkhekbfakloaoaaDrawPick
import Derived.Test.YtkhekbfakloaoaaDrawOnce
import Derived.Deep.DeepCutAuto
namespace Go.Proofs.Ytkhekbfakloaoaa
open Go.RowKit Go.Deep Go.Proofs.Ytkhekbfakloaoaa.Num

/-- Four cells are stored. -/
abbrev put4 (W : World) (g : Nat) (s b e : Int) (v : Value) : World :=
  (((W.setCell ⟨g, 0, none⟩ (.int .i64 s)).setCell ⟨g, 1, none⟩ (.int .i64 b)).setCell ⟨g, 2, none⟩ (.int .i64 e)).setCell ⟨g, 3, none⟩ v
theorem put4_keep (W : World) (g : Nat) (s b e : Int) (v : Value) (k : Nat) (hk : k ≠ g) : (put4 W g s b e v).heap[k]? = W.heap[k]? :=
  (Below.heap_setCell _ ⟨g, 3, none⟩ _ k hk).trans ((Below.heap_setCell _ ⟨g, 2, none⟩ _ k hk).trans ((Below.heap_setCell _ ⟨g, 1, none⟩ _ k hk).trans (Below.heap_setCell _ ⟨g, 0, none⟩ _ k hk)))
theorem BoxN.put4 {W : World} {g : Nat} {s b e : Int} {v : Value} (x : BoxN W g s b e v) (s' b' e' : Int) (v' : Value) : BoxN (put4 W g s' b' e' v') g s' b' e' v' := (((x.set0 _).set1 _).set2 _).set3 _
theorem BoxN.put4_other {W : World} {k : Nat} {s b e : Int} {v : Value} (x : BoxN W k s b e v) (g : Nat) (s' b' e' : Int) (v' : Value) (hk : k ≠ g) : BoxN (Go.Proofs.Ytkhekbfakloaoaa.put4 W g s' b' e' v') k s b e v := (put4_keep W g s' b' e' v' k hk).trans x
theorem OwnK.put4 {W : World} {base : Nat} {u : Value} {l : List Int} (h : OwnK W base u l) (g : Nat) (s b e : Int) (v : Value) (hne : ∀ k, u.ownBlock = some k → k ≠ g) : OwnK (put4 W g s b e v) base u l := by
  have hn : u.ownBlock = none ∨ u.ownBlock ≠ some g := by
    cases hv : u.ownBlock with
    | none => exact .inl rfl
    | some q => exact .inr (fun e => hne q hv (by injection e))
  exact (((h.kept (only_setI _ _ 0 _) hn).kept (only_setI _ _ 1 _) hn).kept (only_setI _ _ 2 _) hn).kept (only_setI _ _ 3 _) hn
theorem only_othN {a w : World} {g : Nat} (h : a.grownBy w (some g)) (k j : Nat) (u : Value) (hk : a.heap.size ≤ k) : a.grownBy (w.setCell ⟨k, j, none⟩ u) (some g) :=
  ⟨h.os, h.tape, h.output, by simpa [World.setCell] using h.size, fun i hi hne => (Below.heap_setCell w ⟨k, j, none⟩ u i (by show i ≠ k; omega)).trans (h.block i hi hne)⟩
theorem grown_put4 {a W : World} {g : Nat} (h : a.grownBy W (some g)) (k : Nat) (s b e : Int) (v : Value) (hk : a.heap.size ≤ k) : a.grownBy (put4 W k s b e v) (some g) :=
  only_othN (only_othN (only_othN (only_othN h k 0 _ hk) k 1 _ hk) k 2 _ hk) k 3 _ hk
theorem OwnK.only {w w' : World} {base g : Nat} {v : Value} {l : List Int} (h : OwnK w base v l) (hg : w.grownBy w' (some g)) (hb : g < base) : OwnK w' base v l := by
  refine h.kept hg ?_
  cases hv : v.ownBlock with
  | none => exact .inl rfl
  | some q => exact .inr (fun e => by have := (h.lt q hv).1; injection e; omega)
/-- The blocks of l8Ring: the result's, the ring's (gr), its cells, and the cursor. -/
structure L8W (w : World) (g B : Nat) (A : Option Addr) (len cap gr : Nat) (r : Rn) (v : Value) (W : World) : Prop where
  o : BoxN W w.heap.size 0 0 0 (.slice none 0 0)
  b : BoxN W gr r.size r.base r.en v
  own : OwnK W (w.heap.size + 1) v r.cs
  lo : w.heap.size + 1 ≤ gr
  d : Draw W g B A len cap
  only : w.grownBy W (some g)
  lt : g < w.heap.size
  nr : ∀ k, v.ownBlock = some k → k ≠ gr
theorem L8W.drawn {w : World} {g B : Nat} {A : Option Addr} {len cap gr : Nat} {r : Rn} {v : Value} {W W' : World} (h : L8W w g B A len cap gr r v W) (hg : W.grownBy W' (some g)) (hd : Draw W' g B A len cap) : L8W w g B A len cap gr r v W' :=
  have := h.lt
  have := h.lo
  ⟨h.o.only hg (by omega), h.b.only hg (by omega), h.own.only hg (by omega), h.lo, hd, only_trans h.only hg, h.lt, h.nr⟩
theorem L8W.next {w : World} {g B : Nat} {A : Option Addr} {len cap gr : Nat} {r : Rn} {v : Value} {W W' : World} (h : L8W w g B A len cap gr r v W) (hb : Below W.heap.size W W') : L8W w g B A len cap gr r v W' :=
  ⟨h.o.below hb h.o.lt, h.b.below hb h.b.lt, h.own.later hb, h.lo, h.d.below h.d.lt hb, only_then h.only (hb.mono h.only.size), h.lt, h.nr⟩
theorem L8W.drew {w : World} {g B : Nat} {A : Option Addr} {len cap gr : Nat} {r : Rn} {v : Value} {W : World} (h : L8W w g B A len cap gr r v W) : L8W w g B A len cap gr r v W.drew := h.next (Below.refl _ _).drew
/-- What a call made is laid into the ring. -/
theorem L8W.put {w : World} {g B : Nat} {A : Option Addr} {len cap gr : Nat} {r r' : Rn} {v v' : Value} {W W' : World} (h : L8W w g B A len cap gr r v W) (hb : Below W.heap.size W W') (ho : OwnK W' W.heap.size v' r'.cs) :
    L8W w g B A len cap gr r' v' (put4 W' gr r'.size r'.base r'.en v') := by
  have h' := h.next hb
  have hlo := h.lo
  have hlt := h.lt
  have hgr := h.b.lt
  have hsz := h.only.size
  refine ⟨h'.o.put4_other _ _ _ _ _ (by omega), h'.b.put4 _ _ _ _, ?_, hlo, h'.d.keep fun k hk => put4_keep _ _ _ _ _ _ k (by omega), grown_put4 h'.only _ _ _ _ _ (by omega), hlt, fun k hk => by have := (ho.lt k hk).1; omega⟩
  exact (ho.weaken (by omega)).put4 _ _ _ _ _ (fun k hk => by have := (ho.lt k hk).1; omega)
/-- A number is stored into the ring. -/
theorem L8W.setn {w : World} {g B : Nat} {A : Option Addr} {len cap gr : Nat} {r r' : Rn} {v : Value} {W : World} (h : L8W w g B A len cap gr r v W) (k : Nat) (y : Value) (hb : BoxN (W.setCell ⟨gr, k, none⟩ y) gr r'.size r'.base r'.en v) (hc : r'.cs = r.cs) :
    L8W w g B A len cap gr r' v (W.setCell ⟨gr, k, none⟩ y) := by
  have h1 := h.lo
  have h2 := h.lt
  refine ⟨h.o.other gr k y (by omega), hb, ?_, h.lo, h.d.keep fun j hj => Below.heap_setCell W ⟨gr, k, none⟩ _ j (by show j ≠ gr; omega), only_othN h.only gr k y (by omega), h.lt, h.nr⟩
  rw [hc]
  refine h.own.kept (only_setI W gr k y) ?_
  cases hv : v.ownBlock with
  | none => exact .inl rfl
  | some q => exact .inr (fun e => h.nr q hv (by injection e))
theorem L8W.set0 {w : World} {g B : Nat} {A : Option Addr} {len cap gr : Nat} {r : Rn} {v : Value} {W : World} (h : L8W w g B A len cap gr r v W) (y : Int) : L8W w g B A len cap gr ⟨y, r.base, r.en, r.cs⟩ v (W.setCell ⟨gr, 0, none⟩ (.int .i64 y)) := h.setn (r' := ⟨y, r.base, r.en, r.cs⟩) 0 _ (h.b.set0 y) rfl
theorem L8W.set2 {w : World} {g B : Nat} {A : Option Addr} {len cap gr : Nat} {r : Rn} {v : Value} {W : World} (h : L8W w g B A len cap gr r v W) (y : Int) : L8W w g B A len cap gr ⟨r.size, r.base, y, r.cs⟩ v (W.setCell ⟨gr, 2, none⟩ (.int .i64 y)) := h.setn (r' := ⟨r.size, r.base, y, r.cs⟩) 2 _ (h.b.set2 y) rfl
/-- The ring is laid into the result's cell. -/
theorem L8W.fin {w : World} {g B : Nat} {A : Option Addr} {len cap gr : Nat} {r : Rn} {v : Value} {W : World} (h : L8W w g B A len cap gr r v W) :
    BoxN (put4 W w.heap.size r.size r.base r.en v) w.heap.size r.size r.base r.en v ∧ OwnK (put4 W w.heap.size r.size r.base r.en v) w.heap.size v r.cs ∧ Draw (put4 W w.heap.size r.size r.base r.en v) g B A len cap ∧ w.grownBy (put4 W w.heap.size r.size r.base r.en v) (some g) := by
  have hlt := h.lt
  exact ⟨h.o.put4 _ _ _ _, (h.own.put4 _ _ _ _ _ (fun k hk => by have := (h.own.lt k hk).1; omega)).weaken (by omega), h.d.keep fun k hk => put4_keep _ _ _ _ _ _ k (by omega), grown_put4 h.only _ _ _ _ _ (Nat.le_refl _)⟩
theorem L8W.init {w : World} {g B : Nat} {A : Option Addr} {len cap : Nat} {r : Rn} {v : Value} {w1 : World} (hlt : g < w.heap.size) (ho0 : BoxN w1 w.heap.size 0 0 0 (.slice none 0 0)) (d : Draw w1 g B A len cap) (g1 : w.grownBy w1 (some g)) (ho : OwnK w1 (w.heap.size + 1) v r.cs) :
    L8W w g B A len cap w1.heap.size r v (w1.alloc (.cells (rnC r.size r.base r.en v) 26)) :=
  ⟨ho0.alloc _, BoxN.new w1 _ _ _ _, ho.alloc _, ho0.lt, d.alloc _, only_alloc g1 _, hlt, fun k hk => by have := (ho.lt k hk).2; omega⟩
/-- A small ring: few cells, bytes in them, places near the beginning. -/
def litRn (k : Nat) (r : Rn) : Prop := r.cs.length ≤ 64 ∧ (∀ z ∈ r.cs, 0 ≤ z ∧ z ≤ 255) ∧ 0 ≤ r.base ∧ r.base ≤ r.en ∧ r.en + 6 * (k : Int) ≤ 30 ∧ 0 ≤ r.size ∧ r.size ≤ 64
theorem litRn.inr {k : Nat} {r : Rn} (h : litRn k r) : inRn r := by
  obtain ⟨_, _, h1, h2, h3, h4, h5⟩ := h
  exact ⟨by omega, by omega, by omega, by omega⟩
theorem litRn.new (n : Int) : litRn 5 (nwR n) := by
  unfold nwR
  split
  · rename_i h
    have h1 := h.lo
    refine ⟨?_, ?_, Int.le_refl _, Int.le_refl _, ?_, ?_, h1.2⟩
    · show (List.replicate n.toNat (0 : Int)).length ≤ 64
      rw [List.length_replicate]; omega
    · intro z hz
      rw [List.eq_of_mem_replicate hz]
      omega
    · show (0 : Int) + 6 * (5 : Nat) ≤ 30; decide
    · show 0 ≤ n; omega
  · exact ⟨Nat.zero_le 64, (by intro z hz; cases hz), Int.le_refl _, Int.le_refl _, show (0 : Int) + 6 * (5 : Nat) ≤ 30 by decide, Int.le_refl _, show (0 : Int) ≤ 64 by decide⟩
theorem litRn.less {k k' : Nat} {r : Rn} (h : litRn k r) (hk : k' ≤ k) : litRn k' r := by
  obtain ⟨h0, h0', h1, h2, h3, h4, h5⟩ := h
  exact ⟨h0, h0', h1, h2, by omega, h4, h5⟩
theorem litRn.write {k : Nat} {r : Rn} (h : litRn (k + 1) r) (d : ByteArray) (hd : d.size ≤ 6) : litRn k (wrR r d) := by
  obtain ⟨h0, h0', h1, h2, h3, h4, h5⟩ := h
  have hc := cntW_in r d
  refine ⟨by rw [wrR_len]; exact h0, putR_all (fun z a b => ⟨a, b⟩) _ _ _ h0' _, h1, ?_, ?_, h4, h5⟩
  · show r.base ≤ r.en + cntW r d; omega
  · show r.en + cntW r d + 6 * (k : Int) ≤ 30; omega
theorem litRn.drop {k : Nat} {r : Rn} (h : litRn k r) (t : Int) : litRn k (drR r t) := by
  unfold drR
  split
  · rename_i hd
    obtain ⟨h0, h0', h1, h2, h3, h4, h5⟩ := h
    have hb := hd.2.1
    have he := hd.2.2
    refine ⟨?_, zerR_all ⟨by omega, by omega⟩ _ _ h0' _, ?_, he, h3, h4, h5⟩
    · show (zerR r.size r.base r.cs _).length ≤ 64
      rw [zerR_len]; exact h0
    · show 0 ≤ t; omega
  · exact h
/-- A ring comes back: small, its numbers fit. -/
def smallRn (r : Rn) : Prop := r.cs.length ≤ 64 ∧ (∀ z ∈ r.cs, 0 ≤ z ∧ z ≤ 255) ∧ 0 ≤ r.base ∧ r.base ≤ 30 ∧ inRn r
def RnP (g B : Nat) (A : Option Addr) (len cap : Nat) (w : World) (e : Ending) (w' : World) : Prop :=
  ∃ (r : Rn) (v : Value), e = .returned (rnV r v) ∧ smallRn r ∧ OwnK w' w.heap.size v r.cs ∧ Draw w' g B A len cap ∧ w.grownBy w' (some g)

set_option maxRecDepth 100000 in
set_option maxHeartbeats 4000000 in
/-- spec.l8Ring -/
theorem d8ring (g B : Nat) (A : Option Addr) (len cap : Nat) (w : World) (d : Draw w g B A len cap) :
    Calls Try.prog 37 #[.pointer (some ⟨g, 0, none⟩)] w (RnP g B A len cap w) := by
  have hlt := d.lt
  have HD := Lib.hid d
  have X0 := Lib.hid (BoxN.new w 0 0 0 (.slice none 0 0))
  have hz0 : (w.alloc (.cells (rnC 0 0 0 (.slice none 0 0)) 26)).heap.size = w.heap.size + 1 := by simp
  have HZ0 := Lib.hid hz0
  have D0 := Lib.hid (d.alloc (.cells (rnC 0 0 0 (.slice none 0 0)) 26))
  have G0 := Lib.hid (only_alloc (World.grownBy.refl w (some g)) (.cells (rnC 0 0 0 (.slice none 0 0)) 26))
  clear d hz0
  go_enter Try.func37, Try.ntmps37
  go_upto_region 1 with fail
  generalize w.alloc (.cells (rnC 0 0 0 (.slice none 0 0)) 26) = w0 at *
  have HP := Lib.hid (dpick w0.heap.size 6 (by decide) (by decide) g B A len cap (w0.alloc (.cells #[.int .i64 1, .int .i64 2, .int .i64 4, .int .i64 8, .int .i64 8, .int .i64 16] 3)) (D0.out.alloc _) (by have := D0.out.lt; omega) (by simp) (row_cells w0 [1, 2, 4, 8, 8, 16] (by decide)))
  go_wp2_with fail
  refine HP.out.mono ?_
  rintro e w1 ⟨n, rfl, n0, n1, d1, g1⟩
  have G1 := Lib.hid (only_trans (only_alloc G0.out (.cells #[.int .i64 1, .int .i64 2, .int .i64 4, .int .i64 8, .int .i64 8, .int .i64 16] 3)) g1)
  have X1 := Lib.hid ((X0.out.alloc (.cells #[.int .i64 1, .int .i64 2, .int .i64 4, .int .i64 8, .int .i64 8, .int .i64 16] 3)).only g1 (by omega))
  have D1 := Lib.hid d1
  have hsz1 : w.heap.size + 1 ≤ w1.heap.size := by have h1 := g1.size; have h2 := HZ0.out; simp at h1; omega
  clear d1 g1 HP n0 n1 X0 D0 G0 HZ0
  go_wp2_with fail
  refine (snewrn n w1).mono ?_
  rintro e w2 ⟨v, rfl, ho, hb⟩
  have HW := Lib.hid (L8W.init hlt (X1.out.below hb X1.out.lt) (D1.out.below D1.out.lt hb) (only_then G1.out (hb.mono (by omega))) (ho.weaken (base' := w.heap.size + 1) hsz1))
  have HL := Lib.hid (litRn.new n)
  generalize nwR n = r at *
  obtain ⟨A0, c0, rfl, _, _⟩ := ho.frs
  clear ho hb hsz1
  go_upto_region 2 with fail
  generalize w2.alloc (.cells (rnC r.size r.base r.en (.slice A0 r.cs.length c0)) 26) = wa at *
  generalize w2.heap.size = gr at *
  go_wp2_with fail
  refine (dbelow 6 (by decide) (by decide) g B A len cap _ HW.out.d).mono ?_
  rintro e w3 ⟨m, rfl, m0, m1, d3, g3⟩
  have HW := Lib.hid (HW.out.drawn g3 d3)
  clear d3 g3
  obtain ⟨m, rfl⟩ := Int.eq_ofNat_of_zero_le m0
  go_wp2
  go_loopw [5] (fun x wr => ∃ (k : Nat) (r : Rn) (v : Value), x = .int .i64 k ∧ k ≤ 5 ∧ litRn k r ∧ L8W w g B A len cap gr r v wr) (fun x _ => (intOf x).toNat)
  case atStart => exact ⟨m, r, _, rfl, by omega, HL.out.less (by omega), HW.out⟩
  case round =>
    obtain ⟨k, r, v, rfl, hk, hl, hw⟩ := hrel
    have HW := Lib.hid hw
    have HL := Lib.hid hl
    clear hw hl
    obtain ⟨A2, c2, rfl, _, _⟩ := HW.out.own.frs
    obtain ⟨a0, a1, a2, a3⟩ := HW.out.b.cells
    by_cases hz : 0 < k
    · obtain ⟨k, rfl⟩ : ∃ j, k = j + 1 := ⟨k - 1, by omega⟩
      have HT := Lib.hid (d4data 6 (by decide) g B A len cap _ HW.out.drew.d)
      have HWR : Hid (∀ (l : List UInt8) W, l.length ≤ 6 → L8W w g B A len cap gr r (.slice A2 r.cs.length c2) W → Calls Try.prog 14 #[rnV r (.slice A2 r.cs.length c2), .string ⟨l.toArray⟩] W fun e w' => ∃ (r' : Rn) (n' : Nat) (v : Value), e = .returned (.tuple #[rnV r' v, .int .i64 (n' : Int)]) ∧ OwnK w' W.heap.size v r'.cs ∧ Below W.heap.size W w' ∧ litRn k r') := Lib.hid fun l W hl h => by
        have hsl : (⟨l.toArray⟩ : ByteArray).size = l.length := by show l.toArray.size = _; simp
        have h64 := HL.out.1
        refine (swrite r ⟨l.toArray⟩ A2 c2 W.heap.size W (Nat.le_refl _) h.own.chs (by omega) HL.out.inr (by omega)).mono ?_
        rintro e w' ⟨v, rfl, ho, hb⟩
        exact ⟨_, _, v, rfl, ho, hb, HL.out.write _ (by omega)⟩
      go_upto_region 5 with fail
      go_cut [] (fun wx => ∃ (r' : Rn) (v' : Value), litRn k r' ∧ L8W w g B A len cap gr r' v' wx)
      case first =>
        go_region_with (first | (go_at_call 38; refine HT.out.mono ?_; rintro e w3 ⟨l, rfl, hl, d3, g3⟩; have HW3 := Lib.hid (HW.out.drew.drawn g3 d3); obtain ⟨p0, p1, p2, p3⟩ := HW3.out.b.cells; clear d3 g3) | (go_at_call 14; refine (HWR.out l w3 hl HW3.out).mono ?_; rintro e w4 ⟨r4, n4, v4, rfl, ho4, hb4, hl4⟩; have HW4 := Lib.hid (HW3.out.next hb4); have HO4 := Lib.hid (HW3.out.put hb4 ho4); have HL4 := Lib.hid hl4; obtain ⟨A4, c4, rfl, _, _⟩ := ho4.frs; obtain ⟨q0, q1, q2, q3⟩ := HW4.out.b.cells; have qf := HW4.out.b.free; clear ho4 hb4 hl4))
        all_goals (
          go_wp2
          go_meet
          exact ⟨r4, _, HL4.out, HO4.out⟩)
      case rest =>
        obtain ⟨r5, v5, hl5, hw5⟩ := hcut
        have HW := Lib.hid hw5
        have HL := Lib.hid hl5
        clear hw5 hl5 HT HWR a0 a1 a2 a3
        go_wp2_with fail
        refine (donce 2 (by decide) (by decide) g B A len cap _ HW.out.d).mono ?_
        rintro e w6 ⟨c, rfl, d6, g6⟩
        have HW := Lib.hid (HW.out.drawn g6 d6)
        clear d6 g6
        cases c with
        | false =>
          go_wp2
          go_roundw
          case rel => exact ⟨k, r5, v5, by go_num, by omega, HL.out, HW.out⟩
          case measure => simp [intOf]
        | true =>
          obtain ⟨A6, c6, rfl, _, _⟩ := HW.out.own.frs
          obtain ⟨a0, a1, a2, a3⟩ := HW.out.b.cells
          have HT := Lib.hid (dbelow 5 (by decide) (by decide) g B A len cap _ HW.out.drew.d)
          have HDR : Hid (∀ (x : Int) W, L8W w g B A len cap gr r5 (.slice A6 r5.cs.length c6) W → Calls Try.prog 25 #[rnV r5 (.slice A6 r5.cs.length c6), .int .i64 x] W fun e w' => ∃ (r' : Rn) (b' : Bool) (v : Value), e = .returned (.tuple #[rnV r' v, .bool b']) ∧ OwnK w' W.heap.size v r'.cs ∧ Below W.heap.size W w' ∧ litRn k r') := Lib.hid fun x W h => by
            have h64 := HL.out.1
            refine (sdropn r5 x A6 c6 W.heap.size W (Nat.le_refl _) h.own.chs (by omega) HL.out.inr).mono ?_
            rintro e w' ⟨v, rfl, ho, hb⟩
            exact ⟨_, _, v, rfl, ho, hb, HL.out.drop _⟩
          go_upto_region 7 with fail
          go_region_with (first | (go_at_call 51; refine HT.out.mono ?_; rintro e w7 ⟨x, rfl, x0, x1, d7, g7⟩; have HW7 := Lib.hid (HW.out.drew.drawn g7 d7); obtain ⟨p0, p1, p2, p3⟩ := HW7.out.b.cells; clear d7 g7) | (go_at_call 25; refine (HDR.out _ w7 HW7.out).mono ?_; rintro e w8 ⟨r8, b8, v8, rfl, ho8, hb8, hl8⟩; have HW8 := Lib.hid (HW7.out.next hb8); have HO8 := Lib.hid (HW7.out.put hb8 ho8); have HL8 := Lib.hid hl8; obtain ⟨A8, c8, rfl, _, _⟩ := ho8.frs; obtain ⟨q0, q1, q2, q3⟩ := HW8.out.b.cells; have qf := HW8.out.b.free; clear ho8 hb8 hl8))
          all_goals go_wp2
          all_goals go_roundw
          all_goals first | exact ⟨k, r8, _, by go_num, by omega, HL8.out, HO8.out⟩ | simp [intOf]
    · obtain rfl : k = 0 := by omega
      have HSM : Hid (r.cs.length ≤ 64 ∧ (∀ z ∈ r.cs, 0 ≤ z ∧ z ≤ 255) ∧ 0 ≤ r.base ∧ r.base ≤ 30 ∧ inRn r) := Lib.hid ⟨HL.out.1, HL.out.2.1, HL.out.2.2.1, by have h1 := HL.out.2.2.2.1; have h2 := HL.out.2.2.2.2.1; omega, HL.out.inr⟩
      clear hz hk
      go_wp2_with fail
      refine (dbelow 16 (by decide) (by decide) g B A len cap _ HW.out.d).mono ?_
      rintro e w2 ⟨y, rfl, y0, y1, d2, g2⟩
      have HW := Lib.hid (HW.out.drawn g2 d2)
      clear d2 g2 a0 a1 a2 a3
      by_cases hy0 : y = 0
      · have t0 : (y == 0) = true := by simpa using hy0
        clear hy0 y0 y1
        have HP := Lib.hid (dpick w2.heap.size 4 (by decide) (by decide) g B A len cap (w2.alloc (.cells #[.int .i64 0, .int .i64 3, .int .i64 64, .int .i64 128] 3)) ((HW.out.next ((Below.refl _ _).alloc (Nat.le_refl _) _)).d) (by have := HW.out.d.lt; omega) (by simp) (row_cells w2 [0, 3, 64, 128] (by decide)))
        go_wp2_with fail
        refine HP.out.mono ?_
        rintro e w3 ⟨z, rfl, z0, z1, d3, g3⟩
        have HW := Lib.hid ((HW.out.next ((Below.refl _ _).alloc (Nat.le_refl _) _)).drawn g3 d3)
        have HQ : Hid (-9223372036854775808 ≤ z ∧ z ≤ 9223372036854775807) := Lib.hid ⟨z0, z1⟩
        clear d3 g3 z0 z1 HP
        obtain ⟨b0, b1, b2, b3⟩ := HW.out.b.cells
        have bf := HW.out.b.free
        go_upto_region 13 with fail
        have HW := Lib.hid (HW.out.set0 z)
        clear b0 b1 b2 b3 bf
        generalize w3.setCell ⟨gr, 0, none⟩ (.int .i64 z) = w4 at *
        obtain ⟨b0, b1, b2, b3⟩ := HW.out.b.cells
        simp only at b0 b1 b2 b3
        obtain ⟨p0, p1, p2, p3⟩ := HW.out.o.cells
        have pf := HW.out.o.free
        go_wp2
        refine bodyPost_ret (results_cell_row rfl _ _ w.heap.size _ _ _ _ rfl HW.out.fin.1 Try.underlying26 rfl (by kernel_rfl)) rfl ?_
        exact ⟨⟨z, r.base, r.en, r.cs⟩, _, rfl, ⟨HSM.out.1, HSM.out.2.1, HSM.out.2.2.1, HSM.out.2.2.2.1, HQ.out, HSM.out.2.2.2.2.2⟩, HW.out.fin.2.1, HW.out.fin.2.2.1, HW.out.fin.2.2.2⟩
      have t0 : (y == 0) = false := by simpa using hy0
      by_cases hy1 : y = 1
      · have t1 : (y == 1) = true := by simpa using hy1
        clear hy0 hy1 y0 y1
        have HP := Lib.hid (dpick w2.heap.size 3 (by decide) (by decide) g B A len cap (w2.alloc (.cells #[.int .i64 (-1), .int .i64 100, .int .i64 4611686018427387904] 3)) ((HW.out.next ((Below.refl _ _).alloc (Nat.le_refl _) _)).d) (by have := HW.out.d.lt; omega) (by simp) (row_cells w2 [-1, 100, 4611686018427387904] (by decide)))
        go_wp2_with fail
        refine HP.out.mono ?_
        rintro e w3 ⟨z, rfl, z0, z1, d3, g3⟩
        have HW := Lib.hid ((HW.out.next ((Below.refl _ _).alloc (Nat.le_refl _) _)).drawn g3 d3)
        have HQ : Hid (-9223372036854775808 ≤ z ∧ z ≤ 9223372036854775807) := Lib.hid ⟨z0, z1⟩
        clear d3 g3 z0 z1 HP
        obtain ⟨b0, b1, b2, b3⟩ := HW.out.b.cells
        have bf := HW.out.b.free
        go_upto_region 13 with fail
        have HW := Lib.hid (HW.out.set2 z)
        clear b0 b1 b2 b3 bf
        generalize w3.setCell ⟨gr, 2, none⟩ (.int .i64 z) = w4 at *
        obtain ⟨b0, b1, b2, b3⟩ := HW.out.b.cells
        simp only at b0 b1 b2 b3
        obtain ⟨p0, p1, p2, p3⟩ := HW.out.o.cells
        have pf := HW.out.o.free
        go_wp2
        refine bodyPost_ret (results_cell_row rfl _ _ w.heap.size _ _ _ _ rfl HW.out.fin.1 Try.underlying26 rfl (by kernel_rfl)) rfl ?_
        exact ⟨⟨r.size, r.base, z, r.cs⟩, _, rfl, ⟨HSM.out.1, HSM.out.2.1, HSM.out.2.2.1, HSM.out.2.2.2.1, HSM.out.2.2.2.2.1, HSM.out.2.2.2.2.2.1, HQ.out⟩, HW.out.fin.2.1, HW.out.fin.2.2.1, HW.out.fin.2.2.2⟩
      have t1 : (y == 1) = false := by simpa using hy1
      clear hy0 hy1 y0 y1
      obtain ⟨b0, b1, b2, b3⟩ := HW.out.b.cells
      obtain ⟨p0, p1, p2, p3⟩ := HW.out.o.cells
      have pf := HW.out.o.free
      go_wp2
      refine bodyPost_ret (results_cell_row rfl _ _ w.heap.size _ _ _ _ rfl HW.out.fin.1 Try.underlying26 rfl (by kernel_rfl)) rfl ?_
      exact ⟨r, _, rfl, HSM.out, HW.out.fin.2.1, HW.out.fin.2.2.1, HW.out.fin.2.2.2⟩
end Go.Proofs.Ytkhekbfakloaoaa
