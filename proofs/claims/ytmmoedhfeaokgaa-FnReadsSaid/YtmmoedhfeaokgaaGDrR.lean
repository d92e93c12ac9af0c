/-
  What the drawing function spec.l7Receiver returns: a valid, small receiver.
  What the drawing function spec.l7Receiver returns: a valid, small receiver.
  What the drawing functions spec.l7Any, DrawReceiveReset and DrawReadReceiver return: small receivers, and what goes with them.
  What the drawing functions spec.DrawReceiveReset and DrawReadReceiver return: small receivers, and what goes with them.
  What laws.big returns.
  A slice of bytes that came in is bytes that can be read.
-/
import Derived.Test.YtmmoedhfeaokgaaRcN2
import Derived.Test.YtmmoedhfeaokgaaDrawPick
import Derived.Test.YtmmoedhfeaokgaaSRc3
import Derived.Test.YtmmoedhfeaokgaaSRc4
import Derived.Deep.DeepCutAuto
import Derived.Test.YtmmoedhfeaokgaaKit
import Derived.Test.YtmmoedhfeaokgaaDrawByte
import Derived.Laws.Rows
namespace Go.Proofs.Ytmmoedhfeaokgaa
open Go.RowKit Go.Deep Go.Proofs.Ytmmoedhfeaokgaa.Num

theorem okB_in {b : Bf} (h : okB b) (hs : sumC b.chs ≤ 8000000) : inB b.chs := by
  intro c hc
  have h1 := okB_off h c hc
  have h2 := sumC_mem _ c hc
  exact ⟨by unfold maxLen; omega, by omega, by omega⟩
theorem okRc_in {r : Rc} (h : okRc r) : inRc r := by
  obtain ⟨⟨⟨_, b1, b2⟩, a2, _, a4, _, a6, a7⟩, hs⟩ := h
  refine ⟨?_, by omega, by omega, by omega, by omega⟩
  rcases hs with ⟨h0, _⟩ | ⟨h0, _⟩ | ⟨h0, _⟩ | ⟨h0, _⟩ | ⟨h0 | h0, _⟩ <;> omega
/-- Six cells are stored. -/
abbrev put6 (W : World) (g : Nat) (s n : Int) (v : Value) (f h c : Int) : World :=
  (((((W.setCell ⟨g, 0, none⟩ (.int .i64 s)).setCell ⟨g, 1, none⟩ (.int .i64 n)).setCell ⟨g, 2, none⟩ v).setCell ⟨g, 3, none⟩ (.int .i64 f)).setCell ⟨g, 4, none⟩ (.int .i64 h)).setCell ⟨g, 5, none⟩ (.int .i64 c)
theorem put6_size (W : World) (g : Nat) (s n : Int) (v : Value) (f h c : Int) : (put6 W g s n v f h c).heap.size = W.heap.size := by simp [World.setCell]
theorem put6_keep (W : World) (g : Nat) (s n : Int) (v : Value) (f h c : Int) (k : Nat) (hk : k ≠ g) : (put6 W g s n v f h c).heap[k]? = W.heap[k]? :=
  (Below.heap_setCell _ ⟨g, 5, none⟩ _ k hk).trans ((Below.heap_setCell _ ⟨g, 4, none⟩ _ k hk).trans ((Below.heap_setCell _ ⟨g, 3, none⟩ _ k hk).trans ((Below.heap_setCell _ ⟨g, 2, none⟩ _ k hk).trans ((Below.heap_setCell _ ⟨g, 1, none⟩ _ k hk).trans (Below.heap_setCell _ ⟨g, 0, none⟩ _ k hk)))))
theorem BoxR.put6 {W : World} {g : Nat} {s n : Int} {v : Value} {f h c : Int} (x : BoxR W g s n v f h c) (s' n' : Int) (v' : Value) (f' h' c' : Int) : BoxR (put6 W g s' n' v' f' h' c') g s' n' v' f' h' c' := (((((x.set0 _).set1 _).set2 _).set3 _).set4 _).set5 _
theorem BoxR.put6_other {W : World} {k : Nat} {s n : Int} {v : Value} {f h c : Int} (x : BoxR W k s n v f h c) (g : Nat) (s' n' : Int) (v' : Value) (f' h' c' : Int) (hk : k ≠ g) : BoxR (Go.Proofs.Ytmmoedhfeaokgaa.put6 W g s' n' v' f' h' c') k s n v f h c := (put6_keep W g s' n' v' f' h' c' k hk).trans x
theorem OwnX.put6 {W : World} {base : Nat} {u : Value} {l : List Ch} (h : OwnX W base u l) (g : Nat) (s n : Int) (v : Value) (f h' c : Int) (hne : ∀ k, u.ownBlock = some k → k ≠ g) : OwnX (put6 W g s n v f h' c) base u l := by
  have hn : u.ownBlock = none ∨ u.ownBlock ≠ some g := by
    cases hv : u.ownBlock with
    | none => exact .inl rfl
    | some q => exact .inr (fun e => hne q hv (by injection e))
  exact (((((h.kept (only_setC _ _ 0 _) hn).kept (only_setC _ _ 1 _) hn).kept (only_setC _ _ 2 _) hn).kept (only_setC _ _ 3 _) hn).kept (only_setC _ _ 4 _) hn).kept (only_setC _ _ 5 _) hn
theorem only_oth {a w : World} {g : Nat} (h : a.grownBy w (some g)) (k j : Nat) (u : Value) (hk : a.heap.size ≤ k) : a.grownBy (w.setCell ⟨k, j, none⟩ u) (some g) :=
  ⟨h.os, h.tape, h.output, by simpa [World.setCell] using h.size, fun i hi hne => (Below.heap_setCell w ⟨k, j, none⟩ u i (by show i ≠ k; omega)).trans (h.block i hi hne)⟩
theorem grown_put6 {a W : World} {g : Nat} (h : a.grownBy W (some g)) (k : Nat) (s n : Int) (v : Value) (f h' c : Int) (hk : a.heap.size ≤ k) : a.grownBy (put6 W k s n v f h' c) (some g) :=
  only_oth (only_oth (only_oth (only_oth (only_oth (only_oth h k 0 _ hk) k 1 _ hk) k 2 _ hk) k 3 _ hk) k 4 _ hk) k 5 _ hk
/-- The blocks of l7Receiver: the result's, the receiver's (gr), its chunks, and the cursor. -/
structure LRW (w : World) (g B : Nat) (A : Option Addr) (len cap gr : Nat) (r : Rc) (v : Value) (W : World) : Prop where
  o : BoxR W w.heap.size 0 0 (.slice none 0 0) 0 0 0
  b : BoxR W gr r.st r.buf.next v r.fin r.hi r.code
  own : OwnX W (w.heap.size + 1) v r.buf.chs
  lo : w.heap.size + 1 ≤ gr
  d : Draw W g B A len cap
  only : w.grownBy W (some g)
  lt : g < w.heap.size
  nr : ∀ k, v.ownBlock = some k → k ≠ gr
theorem BoxR.only {w w' : World} {k g : Nat} {s n : Int} {v : Value} {f h c : Int} (x : BoxR w k s n v f h c) (hg : w.grownBy w' (some g)) (hne : k ≠ g) : BoxR w' k s n v f h c :=
  (hg.block k x.lt (fun e => hne (Option.some.inj e))).trans x
theorem OwnX.only {w w' : World} {base g : Nat} {v : Value} {l : List Ch} (h : OwnX w base v l) (hg : w.grownBy w' (some g)) (hb : g < base) : OwnX w' base v l := by
  refine h.kept hg ?_
  cases hv : v.ownBlock with
  | none => exact .inl rfl
  | some q => exact .inr (fun e => by have := (h.lt q hv).1; injection e; omega)
theorem LRW.drawn {w : World} {g B : Nat} {A : Option Addr} {len cap gr : Nat} {r : Rc} {v : Value} {W W' : World} (h : LRW w g B A len cap gr r v W) (hg : W.grownBy W' (some g)) (hd : Draw W' g B A len cap) : LRW w g B A len cap gr r v W' :=
  have := h.lt
  have := h.lo
  ⟨h.o.only hg (by omega), h.b.only hg (by omega), h.own.only hg (by omega), h.lo, hd, only_trans h.only hg, h.lt, h.nr⟩
theorem LRW.next {w : World} {g B : Nat} {A : Option Addr} {len cap gr : Nat} {r : Rc} {v : Value} {W W' : World} (h : LRW w g B A len cap gr r v W) (hb : Below W.heap.size W W') : LRW w g B A len cap gr r v W' :=
  ⟨h.o.below hb h.o.lt, h.b.below hb h.b.lt, h.own.later hb, h.lo, h.d.below h.d.lt hb, only_then h.only (hb.mono h.only.size), h.lt, h.nr⟩
/-- .. and the receiver that is made in this round. -/
structure LRX (w : World) (g B : Nat) (A : Option Addr) (len cap gr : Nat) (r : Rc) (v : Value) (gx : Nat) (x : Rc) (u : Value) (W : World) : Prop where
  q : LRW w g B A len cap gr r v W
  b : BoxR W gx x.st x.buf.next u x.fin x.hi x.code
  own : OwnX W (w.heap.size + 1) u x.buf.chs
  lo : gr < gx
  ne : ∀ k, v.ownBlock = some k → k ≠ gx
  nx : ∀ k, u.ownBlock = some k → k ≠ gr
theorem LRX.start {w : World} {g B : Nat} {A : Option Addr} {len cap gr : Nat} {r : Rc} {v : Value} {W : World} (h : LRW w g B A len cap gr r v W) :
    LRX w g B A len cap gr r v W.heap.size r v (W.alloc (.cells (rcC r.st r.buf.next v r.fin r.hi r.code) 28)) :=
  ⟨h.next ((Below.refl _ _).alloc (Nat.le_refl _) _), BoxR.new W _ _ _ _ _ _, h.own.alloc _, h.b.lt, fun k hk => by have := (h.own.lt k hk).2; omega, h.nr⟩
theorem LRX.drawn {w : World} {g B : Nat} {A : Option Addr} {len cap gr : Nat} {r : Rc} {v : Value} {gx : Nat} {x : Rc} {u : Value} {W W' : World} (h : LRX w g B A len cap gr r v gx x u W) (hg : W.grownBy W' (some g)) (hd : Draw W' g B A len cap) : LRX w g B A len cap gr r v gx x u W' :=
  have := h.q.lt
  have := h.q.lo
  have := h.lo
  ⟨h.q.drawn hg hd, h.b.only hg (by omega), h.own.only hg (by omega), h.lo, h.ne, h.nx⟩
theorem LRX.next {w : World} {g B : Nat} {A : Option Addr} {len cap gr : Nat} {r : Rc} {v : Value} {gx : Nat} {x : Rc} {u : Value} {W W' : World} (h : LRX w g B A len cap gr r v gx x u W) (hb : Below W.heap.size W W') : LRX w g B A len cap gr r v gx x u W' :=
  ⟨h.q.next hb, h.b.below hb h.b.lt, h.own.later hb, h.lo, h.ne, h.nx⟩
theorem LRX.drew {w : World} {g B : Nat} {A : Option Addr} {len cap gr : Nat} {r : Rc} {v : Value} {gx : Nat} {x : Rc} {u : Value} {W : World} (h : LRX w g B A len cap gr r v gx x u W) : LRX w g B A len cap gr r v gx x u W.drew := h.next (Below.refl _ _).drew
/-- What a call made is laid into x. -/
theorem LRX.put {w : World} {g B : Nat} {A : Option Addr} {len cap gr : Nat} {r : Rc} {v : Value} {gx : Nat} {x x' : Rc} {u u' : Value} {W W' : World} (h : LRX w g B A len cap gr r v gx x u W) (hb : Below W.heap.size W W') (ho : OwnX W' W.heap.size u' x'.buf.chs) :
    LRX w g B A len cap gr r v gx x' u' (put6 W' gx x'.st x'.buf.next u' x'.fin x'.hi x'.code) := by
  have h' := h.next hb
  have hlo := h.lo
  have hlo2 := h.q.lo
  have hlt := h.q.lt
  have hgx := h.b.lt
  refine ⟨⟨h'.q.o.put6_other _ _ _ _ _ _ _ (by omega), h'.q.b.put6_other _ _ _ _ _ _ _ (by omega), h'.q.own.put6 _ _ _ _ _ _ _ h.ne, hlo2, h'.q.d.keep fun k hk => put6_keep _ _ _ _ _ _ _ _ k (by omega), grown_put6 h'.q.only _ _ _ _ _ _ _ (by omega), hlt, h.q.nr⟩, h'.b.put6 _ _ _ _ _ _, ?_, h.lo, h.ne, fun k hk => by have := (ho.lt k hk).1; omega⟩
  exact (ho.weaken (by omega)).put6 _ _ _ _ _ _ _ (fun k hk => by have := (ho.lt k hk).1; omega)
/-- x is laid into r. -/
theorem LRX.fin {w : World} {g B : Nat} {A : Option Addr} {len cap gr : Nat} {r : Rc} {v : Value} {gx : Nat} {x : Rc} {u : Value} {W : World} (h : LRX w g B A len cap gr r v gx x u W) :
    LRW w g B A len cap gr x u (put6 W gr x.st x.buf.next u x.fin x.hi x.code) := by
  have hlt := h.q.lt
  have hlo2 := h.q.lo
  exact ⟨h.q.o.put6_other _ _ _ _ _ _ _ (by omega), h.q.b.put6 _ _ _ _ _ _, h.own.put6 _ _ _ _ _ _ _ h.nx, hlo2, h.q.d.keep fun k hk => put6_keep _ _ _ _ _ _ _ _ k (by omega), grown_put6 h.q.only _ _ _ _ _ _ _ (by omega), hlt, h.nx⟩
/-- r is laid into the result's cell. -/
theorem LRW.fin {w : World} {g B : Nat} {A : Option Addr} {len cap gr : Nat} {r : Rc} {v : Value} {W : World} (h : LRW w g B A len cap gr r v W) :
    BoxR (put6 W w.heap.size r.st r.buf.next v r.fin r.hi r.code) w.heap.size r.st r.buf.next v r.fin r.hi r.code ∧ OwnX (put6 W w.heap.size r.st r.buf.next v r.fin r.hi r.code) w.heap.size v r.buf.chs ∧ Draw (put6 W w.heap.size r.st r.buf.next v r.fin r.hi r.code) g B A len cap ∧ w.grownBy (put6 W w.heap.size r.st r.buf.next v r.fin r.hi r.code) (some g) := by
  have hlt := h.lt
  refine ⟨h.o.put6 _ _ _ _ _ _, (h.own.put6 _ _ _ _ _ _ _ (fun k hk => by have := (h.own.lt k hk).1; omega)).weaken (by omega), h.d.keep fun k hk => put6_keep _ _ _ _ _ _ _ _ k (by omega), grown_put6 h.only _ _ _ _ _ _ _ (Nat.le_refl _)⟩
theorem LRW.init {w : World} {g B : Nat} {A : Option Addr} {len cap : Nat} (d : Draw w g B A len cap) {r : Rc} {v : Value} {w1 : World} (hb : Below (w.alloc (.cells (rcC 0 0 (.slice none 0 0) 0 0 0) 28)).heap.size (w.alloc (.cells (rcC 0 0 (.slice none 0 0) 0 0 0) 28)) w1) (ho : OwnX w1 (w.alloc (.cells (rcC 0 0 (.slice none 0 0) 0 0 0) 28)).heap.size v r.buf.chs) :
    LRW w g B A len cap w1.heap.size r v (w1.alloc (.cells (rcC r.st r.buf.next v r.fin r.hi r.code) 28)) := by
  have hs : (w.alloc (.cells (rcC 0 0 (.slice none 0 0) 0 0 0) 28)).heap.size = w.heap.size + 1 := by simp
  have hz := hb.size
  have hlt := d.lt
  refine ⟨((BoxR.new w 0 0 (.slice none 0 0) 0 0 0).below hb (by omega)).alloc _, BoxR.new w1 _ _ _ _ _ _, ?_, by omega, ((d.alloc _).below (by omega) hb).alloc _, only_alloc (only_then (only_alloc (World.grownBy.refl _ _) _) (hb.mono (by omega))) _, d.lt, fun k hk => by have := (ho.lt k hk).2; omega⟩
  rw [hs] at ho
  exact ho.alloc _
theorem rcvRc_sum {r : Rc} (o : Int) (d : ByteArray) (f : Bool) (h : okRc r) : sumC (rcvRc r o d f).1.buf.chs ≤ sumC r.buf.chs + d.size := by
  have h1 := insB_sum r.buf o d h.1.1
  unfold rcvRc
  split
  · show sumC r.buf.chs ≤ _; omega
  · split
    · show sumC r.buf.chs ≤ _; omega
    · split
      · show sumC r.buf.chs ≤ _; omega
      · show sumC (datRc r o d f).buf.chs ≤ _
        rw [show (datRc r o d f).buf = insB r.buf o d from fillRc_buf _]
        exact h1
theorem rstRc_sum {r : Rc} (c n : Int) : sumC (rstRc r c n).1.buf.chs ≤ sumC r.buf.chs := by
  have h1 := sumC_nonneg r.buf.chs
  unfold rstRc
  split
  · exact Int.le_refl _
  · split
    · exact Int.le_refl _
    · split
      · exact Int.le_refl _
      · exact h1
theorem readRc_sum {r : Rc} (m : Int) : sumC (readRc r m).2.buf.chs ≤ sumC r.buf.chs := by
  have h := dropT_sum r.buf (cntT r.buf m)
  unfold readRc
  split
  · exact Int.le_refl _
  · split
    · exact Int.le_refl _
    · exact h
/-- A receiver comes back: small, its numbers fit. -/
def RcP (P : Rc → Prop) (g B : Nat) (A : Option Addr) (len cap : Nat) (w : World) (e : Ending) (w' : World) : Prop :=
  ∃ (r : Rc) (v : Value), e = .returned (rcV r v) ∧ P r ∧ OwnX w' w.heap.size v r.buf.chs ∧ Draw w' g B A len cap ∧ w.grownBy w' (some g)
def smallRc (r : Rc) : Prop := okB r.buf ∧ r.buf.chs.length ≤ 6 ∧ sumC r.buf.chs ≤ 24 ∧ inRc r
end Go.Proofs.Ytmmoedhfeaokgaa

namespace Go.Proofs.Ytmmoedhfeaokgaa
open Go.RowKit Go.Deep Go.Proofs.Ytmmoedhfeaokgaa.Num

/-- What a call makes of the receiver. -/
def MadeR (k : Nat) (W : World) (x : Rc) (v : Value) (W' : World) : Prop := OwnX W' W.heap.size v x.buf.chs ∧ Below W.heap.size W W' ∧ x.buf.chs.length + k ≤ 6 ∧ sumC x.buf.chs + 4 * (k : Int) ≤ 24 ∧ okRc x
set_option maxRecDepth 100000 in
set_option maxHeartbeats 1500000 in
/-- spec.l7Receiver -/
theorem d7receiver (g B : Nat) (A : Option Addr) (len cap : Nat) (w : World) (d : Draw w g B A len cap) :
    Calls Try.prog 70 #[.pointer (some ⟨g, 0, none⟩)] w (RcP (fun r => okRc r ∧ r.buf.chs.length ≤ 6 ∧ sumC r.buf.chs ≤ 24) g B A len cap w) := by
  have hlt := d.lt
  have HD := Lib.hid d
  have HN : Hid (okRc nuRc ∧ nuRc.buf.chs.length = 0 ∧ sumC nuRc.buf.chs = 0) := Lib.hid ⟨by decide, rfl, rfl⟩
  have HNEW := Lib.hid snewrc
  generalize nuRc = r0 at *
  clear d
  go_enter Try.func70, Try.ntmps70
  go_wp2_with fail
  refine (HNEW.out _).mono ?_
  rintro e w1 ⟨v, rfl, ho, hb⟩
  have HW1 := Lib.hid (LRW.init HD.out hb ho)
  obtain ⟨A0, c0, rfl, _, _⟩ := ho.frs
  clear ho hb HD HNEW
  go_upto_region 2 with fail
  generalize w1.alloc (.cells (rcC r0.st r0.buf.next (.slice A0 r0.buf.chs.length c0) r0.fin r0.hi r0.code) 28) = wa at *
  generalize w1.heap.size = gr at *
  go_wp2_with fail
  refine (dbelow 7 (by decide) (by decide) g B A len cap _ HW1.out.d).mono ?_
  rintro e w2 ⟨n, rfl, n0, n1, d2, g2⟩
  have HW2 := Lib.hid (HW1.out.drawn g2 d2)
  clear d2 g2 HW1
  obtain ⟨m, rfl⟩ := Int.eq_ofNat_of_zero_le n0
  go_wp2
  go_loopw [4] (fun x wr => ∃ (k : Nat) (r : Rc) (v : Value), x = .int .i64 k ∧ r.buf.chs.length + k ≤ 6 ∧ sumC r.buf.chs + 4 * (k : Int) ≤ 24 ∧ okRc r ∧ LRW w g B A len cap gr r v wr) (fun x _ => (intOf x).toNat)
  case atStart => exact ⟨m, r0, _, rfl, by have := HN.out.2.1; omega, by have := HN.out.2.2; omega, HN.out.1, HW2.out⟩
  case round =>
    obtain ⟨k, r, v, rfl, hk1, hk2, hok, hw⟩ := hrel
    have HW := Lib.hid hw
    have HOK := Lib.hid hok
    clear hw hok HW2 HN
    by_cases hz : 0 < k
    · obtain ⟨k, rfl⟩ : ∃ j, k = j + 1 := ⟨k - 1, by omega⟩
      go_wp2_with fail
      refine (dbelow 10 (by decide) (by decide) g B A len cap _ HW.out.d).mono ?_
      rintro e w3 ⟨o, rfl, o0, o1, d3, g3⟩
      have HW3 := Lib.hid (HW.out.drawn g3 d3)
      clear d3 g3 HW
      go_wp2_with fail
      refine (d4data 4 (by decide) g B A len cap _ HW3.out.d).mono ?_
      rintro e w4 ⟨l, rfl, hl, d4, g4⟩
      have HW4 := Lib.hid (HW3.out.drawn g4 d4)
      clear d4 g4 HW3
      have hsl : (⟨l.toArray⟩ : ByteArray).size = l.length := by show l.toArray.size = _; simp
      have HSL := Lib.hid hsl
      generalize (⟨l.toArray⟩ : ByteArray) = dt at *
      clear hsl
      obtain ⟨A2, c2, rfl, hc2, _⟩ := HW4.out.own.frs
      obtain ⟨a0, a1, a2, a3, a4, a5⟩ := HW4.out.b.cells
      have HX4 := Lib.hid (LRX.start HW4.out)
      go_upto_region 8 with fail
      clear a0 a1 a2 a3 a4 a5
      generalize w4.alloc (.cells (rcC r.st r.buf.next (.slice A2 r.buf.chs.length c2) r.fin r.hi r.code) 28) = w5 at *
      generalize w4.heap.size = gx at *
      go_wp2_with fail
      refine (dbelow 8 (by decide) (by decide) g B A len cap _ HX4.out.q.d).mono ?_
      rintro e w6 ⟨y, rfl, y0, y1, d6, g6⟩
      have HX := Lib.hid (HX4.out.drawn g6 d6)
      clear d6 g6 HX4 HW4
      have hin := okB_in HOK.out.1.1 (by omega)
      have hrx := okRc_in HOK.out
      have HRD : Hid (∀ (f : Bool) (u : Value) (x : Rc) W, LRX w g B A len cap gr r (.slice A2 r.buf.chs.length c2) gx x u W → Calls Try.prog 34 #[rcV r (.slice A2 r.buf.chs.length c2), .int .i64 o, .string dt, .bool f] W fun e w' => ∃ (x' : Rc) (v' : Value) (z : Int), e = .returned (.tuple #[rcV x' v', .int .i64 z]) ∧ MadeR k W x' v' w') := Lib.hid fun f u x W h => by
        refine (sdat r o dt f A2 c2 W.heap.size W (Nat.le_refl _) h.q.own.chs (by omega) hin hrx (by omega) (by have := HSL.out; omega)).mono ?_
        rintro e w' ⟨v', rfl, ho, hb⟩
        have h1 := rcvRc_len r o dt f
        have h2 := rcvRc_sum o dt f HOK.out
        exact ⟨_, v', _, rfl, ho, hb, by omega, by have := HSL.out; omega, okRc_rcv o dt f HOK.out⟩
      have HRR : Hid (∀ (q : Int) (u : Value) (x : Rc) W, 0 ≤ q → q ≤ 100 → LRX w g B A len cap gr r (.slice A2 r.buf.chs.length c2) gx x u W → Calls Try.prog 23 #[rcV r (.slice A2 r.buf.chs.length c2), .int .i64 q] W fun e w' => ∃ (s : ByteArray) (x' : Rc) (v' : Value), e = .returned (.tuple #[.string s, rcV x' v']) ∧ MadeR k W x' v' w') := Lib.hid fun q u x W q0 q1 h => by
        refine (sreadrc r q A2 c2 W.heap.size W (Nat.le_refl _) h.q.own.chs (by omega) hin hrx (by omega)).mono ?_
        rintro e w' ⟨v', rfl, ho, hb⟩
        have h1 := readRc_len r q
        have h2 := readRc_sum (r := r) q
        exact ⟨_, _, v', rfl, ho, hb, by omega, by omega, okRc_read q HOK.out⟩
      have HRS : Hid (∀ (c n : Int) (u : Value) (x : Rc) W, LRX w g B A len cap gr r (.slice A2 r.buf.chs.length c2) gx x u W → Calls Try.prog 17 #[rcV r (.slice A2 r.buf.chs.length c2), .int .i64 c, .int .i64 n] W fun e w' => ∃ (x' : Rc) (v' : Value) (z : Int), e = .returned (.tuple #[rcV x' v', .int .i64 z]) ∧ MadeR k W x' v' w') := Lib.hid fun c n u x W h => by
        refine (srstrc r c n A2 c2 W.heap.size W (Nat.le_refl _) h.q.own.chs (by omega) hin hrx).mono ?_
        rintro e w' ⟨v', rfl, ho, hb⟩
        have h1 := rstRc_len r c n
        have h2 := rstRc_sum (r := r) c n
        exact ⟨_, v', _, rfl, ho, hb, by omega, by omega, okRc_rst c n HOK.out⟩
      have hk3 : r.buf.chs.length + k ≤ 6 ∧ sumC r.buf.chs + 4 * (k : Int) ≤ 24 := ⟨by omega, by omega⟩
      have HK3 := Lib.hid hk3
      have hkb : k ≤ 6 := by omega
      clear hin hrx hk1 hk2 hk3 hl hz
      by_cases hy0 : y = 0
      · subst hy0
        obtain ⟨a0, a1, a2, a3, a4, a5⟩ := HX.out.q.b.cells
        go_wp2_with fail
        refine (HRD.out true _ _ _ HX.out).mono ?_
        rintro e w7 ⟨x7, v7, z7, rfl, ho7, hb7, hk4, hk5, hok7⟩
        obtain ⟨A7, c7, rfl, _, _⟩ := ho7.frs
        have HX7 := Lib.hid (HX.out.next hb7)
        have HX8 := Lib.hid (HX.out.put hb7 ho7)
        dsimp only [put6] at HX8
        have HF7 : Hid (x7.buf.chs.length + k ≤ 6 ∧ sumC x7.buf.chs + 4 * (k : Int) ≤ 24 ∧ okRc x7) := Lib.hid ⟨hk4, hk5, hok7⟩
        clear ho7 hb7 hk4 hk5 hok7 a0 a1 a2 a3 a4 a5
        obtain ⟨b0, b1, b2, b3, b4, b5⟩ := HX7.out.b.cells
        have bf := HX7.out.b.free
        go_upto_region 17 with fail
        clear b0 b1 b2 b3 b4 b5 bf HX7
        generalize (((((w7.setCell ⟨gx, 0, none⟩ (.int .i64 x7.st)).setCell ⟨gx, 1, none⟩ (.int .i64 x7.buf.next)).setCell ⟨gx, 2, none⟩ (.slice A7 x7.buf.chs.length c7)).setCell ⟨gx, 3, none⟩ (.int .i64 x7.fin)).setCell ⟨gx, 4, none⟩ (.int .i64 x7.hi)).setCell ⟨gx, 5, none⟩ (.int .i64 x7.code) = w8 at *
        obtain ⟨b0, b1, b2, b3, b4, b5⟩ := HX8.out.b.cells
        obtain ⟨a0, a1, a2, a3, a4, a5⟩ := HX8.out.q.b.cells
        have af := HX8.out.q.b.free
        go_wp2
        go_roundw
        case rel => exact ⟨k, x7, _, by go_num, HF7.out.1, HF7.out.2.1, HF7.out.2.2, HX8.out.fin⟩
        case measure => simp [intOf]
      have t0 : (y == 0) = false := by simpa using hy0
      by_cases hy1 : y = 1
      · subst hy1
        clear t0 hy0
        have HT := Lib.hid (dbelow 5 (by decide) (by decide) g B A len cap _ HX.out.drew.q.d)
        obtain ⟨a0, a1, a2, a3, a4, a5⟩ := HX.out.q.b.cells
        go_upto_region 13 with fail
        go_region_with (first | (go_at_call 42; refine HT.out.mono ?_; rintro e wz ⟨q, rfl, q0, q1, dz, gz⟩; have HX6 := Lib.hid (HX.out.drew.drawn gz dz); obtain ⟨e0, e1, e2, e3, e4, e5⟩ := HX6.out.q.b.cells; clear dz gz) | (go_at_call 23; refine (HRR.out q _ _ _ q0 (by omega) HX6.out).mono ?_; rintro e w7 ⟨s7, x7, v7, rfl, ho7, hb7, hk4, hk5, hok7⟩; obtain ⟨A7, c7, rfl, _, _⟩ := ho7.frs; have HX7 := Lib.hid (HX6.out.next hb7); have HX8 := Lib.hid (HX6.out.put hb7 ho7); dsimp only [put6] at HX8; have HF7 : Hid (x7.buf.chs.length + k ≤ 6 ∧ sumC x7.buf.chs + 4 * (k : Int) ≤ 24 ∧ okRc x7) := Lib.hid ⟨hk4, hk5, hok7⟩; clear ho7 hb7 hk4 hk5 hok7; obtain ⟨b0, b1, b2, b3, b4, b5⟩ := HX7.out.b.cells; have bf := HX7.out.b.free))
        all_goals (
          go_upto_region 17 with fail
          generalize (((((w7.setCell ⟨gx, 0, none⟩ (.int .i64 x7.st)).setCell ⟨gx, 1, none⟩ (.int .i64 x7.buf.next)).setCell ⟨gx, 2, none⟩ (.slice A7 x7.buf.chs.length c7)).setCell ⟨gx, 3, none⟩ (.int .i64 x7.fin)).setCell ⟨gx, 4, none⟩ (.int .i64 x7.hi)).setCell ⟨gx, 5, none⟩ (.int .i64 x7.code) = w8 at *
          clear a0 a1 a2 a3 a4 a5
          obtain ⟨b0, b1, b2, b3, b4, b5⟩ := HX8.out.b.cells
          obtain ⟨a0, a1, a2, a3, a4, a5⟩ := HX8.out.q.b.cells
          have af := HX8.out.q.b.free
          go_wp2
          go_roundw)
        all_goals first | exact ⟨k, x7, _, by go_num, HF7.out.1, HF7.out.2.1, HF7.out.2.2, HX8.out.fin⟩ | simp [intOf]
      have t1 : (y == 1) = false := by simpa using hy1
      by_cases hy2 : y = 2
      · subst hy2
        clear t0 t1 hy0 hy1
        obtain ⟨a0, a1, a2, a3, a4, a5⟩ := HX.out.q.b.cells
        go_wp2_with fail
        refine (donce 3 (by decide) (by decide) g B A len cap _ HX.out.q.d).mono ?_
        rintro e w6b ⟨cc, rfl, d6, g6⟩
        have HX := Lib.hid (HX.out.drawn g6 d6)
        clear d6 g6 a0 a1 a2 a3 a4 a5
        cases cc with
        | false =>
          have HF7 : Hid (r.buf.chs.length + k ≤ 6 ∧ sumC r.buf.chs + 4 * (k : Int) ≤ 24 ∧ okRc r) := Lib.hid ⟨HK3.out.1, HK3.out.2, HOK.out⟩
          obtain ⟨b0, b1, b2, b3, b4, b5⟩ := HX.out.b.cells
          obtain ⟨a0, a1, a2, a3, a4, a5⟩ := HX.out.q.b.cells
          have af := HX.out.q.b.free
          go_wp2
          go_roundw
          case rel => exact ⟨k, r, _, by go_num, HF7.out.1, HF7.out.2.1, HF7.out.2.2, HX.out.fin⟩
          case measure => simp [intOf]
        | true =>
          have HT := Lib.hid (dbelow 4 (by decide) (by decide) g B A len cap _ HX.out.drew.q.d)
          obtain ⟨a0, a1, a2, a3, a4, a5⟩ := HX.out.q.b.cells
          go_upto_region 16 with fail
          go_region_with (first | (go_at_call 42; refine HT.out.mono ?_; rintro e wz ⟨q, rfl, q0, q1, dz, gz⟩; have HX6 := Lib.hid (HX.out.drew.drawn gz dz); obtain ⟨e0, e1, e2, e3, e4, e5⟩ := HX6.out.q.b.cells; clear dz gz) | (go_at_call 17; refine (HRS.out q _ _ _ _ HX6.out).mono ?_; rintro e w7 ⟨x7, v7, z7, rfl, ho7, hb7, hk4, hk5, hok7⟩; obtain ⟨A7, c7, rfl, _, _⟩ := ho7.frs; have HX7 := Lib.hid (HX6.out.next hb7); have HX8 := Lib.hid (HX6.out.put hb7 ho7); dsimp only [put6] at HX8; have HF7 : Hid (x7.buf.chs.length + k ≤ 6 ∧ sumC x7.buf.chs + 4 * (k : Int) ≤ 24 ∧ okRc x7) := Lib.hid ⟨hk4, hk5, hok7⟩; clear ho7 hb7 hk4 hk5 hok7; obtain ⟨b0, b1, b2, b3, b4, b5⟩ := HX7.out.b.cells; have bf := HX7.out.b.free))
          all_goals (
            go_upto_region 17 with fail
            generalize (((((w7.setCell ⟨gx, 0, none⟩ (.int .i64 x7.st)).setCell ⟨gx, 1, none⟩ (.int .i64 x7.buf.next)).setCell ⟨gx, 2, none⟩ (.slice A7 x7.buf.chs.length c7)).setCell ⟨gx, 3, none⟩ (.int .i64 x7.fin)).setCell ⟨gx, 4, none⟩ (.int .i64 x7.hi)).setCell ⟨gx, 5, none⟩ (.int .i64 x7.code) = w8 at *
            clear a0 a1 a2 a3 a4 a5
            obtain ⟨b0, b1, b2, b3, b4, b5⟩ := HX8.out.b.cells
            obtain ⟨a0, a1, a2, a3, a4, a5⟩ := HX8.out.q.b.cells
            have af := HX8.out.q.b.free
            go_wp2
            go_roundw)
          all_goals first | exact ⟨k, x7, _, by go_num, HF7.out.1, HF7.out.2.1, HF7.out.2.2, HX8.out.fin⟩ | simp [intOf]
      have t2 : (y == 2) = false := by simpa using hy2
      clear hy0 hy1 hy2
      obtain ⟨a0, a1, a2, a3, a4, a5⟩ := HX.out.q.b.cells
      go_wp2_with fail
      refine (HRD.out false _ _ _ HX.out).mono ?_
      rintro e w7 ⟨x7, v7, z7, rfl, ho7, hb7, hk4, hk5, hok7⟩
      obtain ⟨A7, c7, rfl, _, _⟩ := ho7.frs
      have HX7 := Lib.hid (HX.out.next hb7)
      have HX8 := Lib.hid (HX.out.put hb7 ho7)
      dsimp only [put6] at HX8
      have HF7 : Hid (x7.buf.chs.length + k ≤ 6 ∧ sumC x7.buf.chs + 4 * (k : Int) ≤ 24 ∧ okRc x7) := Lib.hid ⟨hk4, hk5, hok7⟩
      clear ho7 hb7 hk4 hk5 hok7 a0 a1 a2 a3 a4 a5
      obtain ⟨b0, b1, b2, b3, b4, b5⟩ := HX7.out.b.cells
      have bf := HX7.out.b.free
      go_upto_region 17 with fail
      clear b0 b1 b2 b3 b4 b5 bf HX7
      generalize (((((w7.setCell ⟨gx, 0, none⟩ (.int .i64 x7.st)).setCell ⟨gx, 1, none⟩ (.int .i64 x7.buf.next)).setCell ⟨gx, 2, none⟩ (.slice A7 x7.buf.chs.length c7)).setCell ⟨gx, 3, none⟩ (.int .i64 x7.fin)).setCell ⟨gx, 4, none⟩ (.int .i64 x7.hi)).setCell ⟨gx, 5, none⟩ (.int .i64 x7.code) = w8 at *
      obtain ⟨b0, b1, b2, b3, b4, b5⟩ := HX8.out.b.cells
      obtain ⟨a0, a1, a2, a3, a4, a5⟩ := HX8.out.q.b.cells
      have af := HX8.out.q.b.free
      go_wp2
      go_roundw
      case rel => exact ⟨k, x7, _, by go_num, HF7.out.1, HF7.out.2.1, HF7.out.2.2, HX8.out.fin⟩
      case measure => simp [intOf]
    · have HKK : Hid (r.buf.chs.length ≤ 6 ∧ sumC r.buf.chs ≤ 24) := Lib.hid ⟨by omega, by omega⟩
      clear hk1 hk2
      obtain ⟨A2, c2, rfl, _, _⟩ := HW.out.own.frs
      obtain ⟨a0, a1, a2, a3, a4, a5⟩ := HW.out.b.cells
      obtain ⟨p0, p1, p2, p3, p4, p5⟩ := HW.out.o.cells
      have pf := HW.out.o.free
      go_wp2
      refine bodyPost_ret (results_cell_row rfl _ _ w.heap.size _ _ _ _ rfl HW.out.fin.1 Try.underlying28 rfl (by kernel_rfl)) rfl ?_
      exact ⟨r, _, rfl, ⟨HOK.out, HKK.out.1, HKK.out.2⟩, HW.out.fin.2.1, HW.out.fin.2.2.1, HW.out.fin.2.2.2⟩
end Go.Proofs.Ytmmoedhfeaokgaa

namespace Go.Proofs.Ytmmoedhfeaokgaa
open Go.RowKit Go.Deep Go.Proofs.Ytmmoedhfeaokgaa.Num

theorem LRW.init2 {w : World} {g B : Nat} {A : Option Addr} {len cap : Nat} {r : Rc} {v : Value} {w1 : World} (hlt : g < w.heap.size) (d : Draw w1 g B A len cap) (g1 : (w.alloc (.cells (rcC 0 0 (.slice none 0 0) 0 0 0) 28)).grownBy w1 (some g)) (ho : OwnX w1 (w.alloc (.cells (rcC 0 0 (.slice none 0 0) 0 0 0) 28)).heap.size v r.buf.chs) :
    LRW w g B A len cap w1.heap.size r v (w1.alloc (.cells (rcC r.st r.buf.next v r.fin r.hi r.code) 28)) := by
  have hs : (w.alloc (.cells (rcC 0 0 (.slice none 0 0) 0 0 0) 28)).heap.size = w.heap.size + 1 := by simp
  have hz := g1.size
  refine ⟨((BoxR.new w 0 0 (.slice none 0 0) 0 0 0).only g1 (by omega)).alloc _, BoxR.new w1 _ _ _ _ _ _, ?_, by omega, d.alloc _, only_alloc (only_trans (only_alloc (World.grownBy.refl _ _) _) g1) _, hlt, fun k hk => by have := (ho.lt k hk).2; omega⟩
  rw [hs] at ho
  exact ho.alloc _
/-- A number is stored into the receiver. -/
theorem LRW.setn {w : World} {g B : Nat} {A : Option Addr} {len cap gr : Nat} {r r' : Rc} {v : Value} {W : World} (h : LRW w g B A len cap gr r v W) (k : Nat) (y : Value) (hb : BoxR (W.setCell ⟨gr, k, none⟩ y) gr r'.st r'.buf.next v r'.fin r'.hi r'.code) (hc : r'.buf.chs = r.buf.chs) :
    LRW w g B A len cap gr r' v (W.setCell ⟨gr, k, none⟩ y) := by
  have h1 := h.lo
  have h2 := h.lt
  refine ⟨h.o.other gr k y (by omega), hb, ?_, h.lo, h.d.keep fun j hj => Below.heap_setCell W ⟨gr, k, none⟩ _ j (by show j ≠ gr; omega), only_oth h.only gr k y (by omega), h.lt, h.nr⟩
  rw [hc]
  refine h.own.kept (only_setC W gr k y) ?_
  cases hv : v.ownBlock with
  | none => exact .inl rfl
  | some q => exact .inr (fun e => h.nr q hv (by injection e))
theorem LRW.set0 {w : World} {g B : Nat} {A : Option Addr} {len cap gr : Nat} {r : Rc} {v : Value} {W : World} (h : LRW w g B A len cap gr r v W) (y : Int) : LRW w g B A len cap gr ⟨y, r.buf, r.fin, r.hi, r.code⟩ v (W.setCell ⟨gr, 0, none⟩ (.int .i64 y)) := h.setn (r' := ⟨y, r.buf, r.fin, r.hi, r.code⟩) 0 _ (h.b.set0 y) rfl
theorem LRW.set3 {w : World} {g B : Nat} {A : Option Addr} {len cap gr : Nat} {r : Rc} {v : Value} {W : World} (h : LRW w g B A len cap gr r v W) (y : Int) : LRW w g B A len cap gr ⟨r.st, r.buf, y, r.hi, r.code⟩ v (W.setCell ⟨gr, 3, none⟩ (.int .i64 y)) := h.setn (r' := ⟨r.st, r.buf, y, r.hi, r.code⟩) 3 _ (h.b.set3 y) rfl
theorem LRW.set4 {w : World} {g B : Nat} {A : Option Addr} {len cap gr : Nat} {r : Rc} {v : Value} {W : World} (h : LRW w g B A len cap gr r v W) (y : Int) : LRW w g B A len cap gr ⟨r.st, r.buf, r.fin, y, r.code⟩ v (W.setCell ⟨gr, 4, none⟩ (.int .i64 y)) := h.setn (r' := ⟨r.st, r.buf, r.fin, y, r.code⟩) 4 _ (h.b.set4 y) rfl

set_option maxRecDepth 100000 in
set_option maxHeartbeats 2000000 in
/-- spec.l7Any -/
theorem d7any (g B : Nat) (A : Option Addr) (len cap : Nat) (w : World) (d : Draw w g B A len cap) :
    Calls Try.prog 41 #[.pointer (some ⟨g, 0, none⟩)] w (RcP smallRc g B A len cap w) := by
  have hlt := d.lt
  have HD := Lib.hid d
  clear d
  go_enter Try.func41, Try.ntmps41
  go_wp2_with fail
  refine (d7receiver g B A len cap _ (HD.out.alloc _)).mono ?_
  rintro e w1 ⟨r, v, rfl, ⟨hok, hl6, hs24⟩, ho, d1, g1⟩
  have HW1 := Lib.hid (LRW.init2 hlt d1 g1 ho)
  have HSM : Hid (okB r.buf ∧ r.buf.chs.length ≤ 6 ∧ sumC r.buf.chs ≤ 24 ∧ inRc r) := Lib.hid ⟨hok.1.1, hl6, hs24, okRc_in hok⟩
  obtain ⟨A0, c0, rfl, _, _⟩ := ho.frs
  clear ho d1 g1 hok HD
  go_upto_region 2 with fail
  generalize w1.alloc (.cells (rcC r.st r.buf.next (.slice A0 r.buf.chs.length c0) r.fin r.hi r.code) 28) = wa at *
  generalize w1.heap.size = gr at *
  go_wp2_with fail
  refine (dbelow 16 (by decide) (by decide) g B A len cap _ HW1.out.d).mono ?_
  rintro e w2 ⟨y, rfl, y0, y1, d2, g2⟩
  have HW2 := Lib.hid (HW1.out.drawn g2 d2)
  clear d2 g2 HW1
  by_cases hy0 : y = 0
  · have t0 : (y == 0) = true := by simpa using hy0
    clear hy0 y0 y1
    go_wp2_with fail
    refine (dbelow 8 (by decide) (by decide) g B A len cap _ HW2.out.d).mono ?_
    rintro e w3 ⟨z, rfl, z0, z1, d3, g3⟩
    have HW3 := Lib.hid (HW2.out.drawn g3 d3)
    obtain ⟨q, hq⟩ : ∃ q, wrap64 (z - 1) = q := ⟨_, rfl⟩
    have HQ : Hid (-9223372036854775808 ≤ q ∧ q ≤ 9223372036854775807) := Lib.hid (by rw [← hq]; unfold wrap64; omega)
    clear d3 g3 HW2 z0 z1
    obtain ⟨b0, b1, b2, b3, b4, b5⟩ := HW3.out.b.cells
    have bf := HW3.out.b.free
    go_upto_region 9 with fail
    have HW4 := Lib.hid (HW3.out.set0 q)
    clear b0 b1 b2 b3 b4 b5 bf HW3
    generalize w3.setCell ⟨gr, 0, none⟩ (.int .i64 q) = w4 at *
    obtain ⟨b0, b1, b2, b3, b4, b5⟩ := HW4.out.b.cells
    simp only at b0 b1 b2 b3 b4 b5
    obtain ⟨p0, p1, p2, p3, p4, p5⟩ := HW4.out.o.cells
    have pf := HW4.out.o.free
    go_wp2
    refine bodyPost_ret (results_cell_row rfl _ _ w.heap.size _ _ _ _ rfl HW4.out.fin.1 Try.underlying28 rfl (by kernel_rfl)) rfl ?_
    exact ⟨⟨q, r.buf, r.fin, r.hi, r.code⟩, _, rfl, ⟨HSM.out.1, HSM.out.2.1, HSM.out.2.2.1, HQ.out, HSM.out.2.2.2.2⟩, HW4.out.fin.2.1, HW4.out.fin.2.2.1, HW4.out.fin.2.2.2⟩
  have t0 : (y == 0) = false := by simpa using hy0
  by_cases hy1 : y = 1
  · have t1 : (y == 1) = true := by simpa using hy1
    clear hy0 hy1 y0 y1
    have HP := Lib.hid (dpick w2.heap.size 6 (by decide) (by decide) g B A len cap (w2.alloc (.cells #[.int .i64 (-2), .int .i64 (-1), .int .i64 0, .int .i64 5, .int .i64 30, .int .i64 4611686018427387904] 3)) ((HW2.out.next ((Below.refl _ _).alloc (Nat.le_refl _) _)).d) (by have := HW2.out.d.lt; omega) (by simp) (row_cells w2 [-2, -1, 0, 5, 30, 4611686018427387904] (by decide)))
    go_wp2_with fail
    refine HP.out.mono ?_
    rintro e w3 ⟨z, rfl, z0, z1, d3, g3⟩
    have HW3 := Lib.hid ((HW2.out.next ((Below.refl _ _).alloc (Nat.le_refl _) _)).drawn g3 d3)
    have HQ : Hid (-9223372036854775808 ≤ z ∧ z ≤ 9223372036854775807) := Lib.hid ⟨z0, z1⟩
    clear d3 g3 HW2 z0 z1 HP
    obtain ⟨b0, b1, b2, b3, b4, b5⟩ := HW3.out.b.cells
    have bf := HW3.out.b.free
    go_upto_region 9 with fail
    have HW4 := Lib.hid (HW3.out.set3 z)
    clear b0 b1 b2 b3 b4 b5 bf HW3
    generalize w3.setCell ⟨gr, 3, none⟩ (.int .i64 z) = w4 at *
    obtain ⟨b0, b1, b2, b3, b4, b5⟩ := HW4.out.b.cells
    simp only at b0 b1 b2 b3 b4 b5
    obtain ⟨p0, p1, p2, p3, p4, p5⟩ := HW4.out.o.cells
    have pf := HW4.out.o.free
    go_wp2
    refine bodyPost_ret (results_cell_row rfl _ _ w.heap.size _ _ _ _ rfl HW4.out.fin.1 Try.underlying28 rfl (by kernel_rfl)) rfl ?_
    exact ⟨⟨r.st, r.buf, z, r.hi, r.code⟩, _, rfl, ⟨HSM.out.1, HSM.out.2.1, HSM.out.2.2.1, HSM.out.2.2.2.1, HSM.out.2.2.2.2.1, HQ.out, HSM.out.2.2.2.2.2.2⟩, HW4.out.fin.2.1, HW4.out.fin.2.2.1, HW4.out.fin.2.2.2⟩
  have t1 : (y == 1) = false := by simpa using hy1
  by_cases hy2 : y = 2
  · have t2 : (y == 2) = true := by simpa using hy2
    clear hy0 hy1 hy2 y0 y1
    have HP := Lib.hid (dpick w2.heap.size 3 (by decide) (by decide) g B A len cap (w2.alloc (.cells #[.int .i64 (-1), .int .i64 0, .int .i64 30] 3)) ((HW2.out.next ((Below.refl _ _).alloc (Nat.le_refl _) _)).d) (by have := HW2.out.d.lt; omega) (by simp) (row_cells w2 [-1, 0, 30] (by decide)))
    go_wp2_with fail
    refine HP.out.mono ?_
    rintro e w3 ⟨z, rfl, z0, z1, d3, g3⟩
    have HW3 := Lib.hid ((HW2.out.next ((Below.refl _ _).alloc (Nat.le_refl _) _)).drawn g3 d3)
    have HQ : Hid (-9223372036854775808 ≤ z ∧ z ≤ 9223372036854775807) := Lib.hid ⟨z0, z1⟩
    clear d3 g3 HW2 z0 z1 HP
    obtain ⟨b0, b1, b2, b3, b4, b5⟩ := HW3.out.b.cells
    have bf := HW3.out.b.free
    go_upto_region 9 with fail
    have HW4 := Lib.hid (HW3.out.set4 z)
    clear b0 b1 b2 b3 b4 b5 bf HW3
    generalize w3.setCell ⟨gr, 4, none⟩ (.int .i64 z) = w4 at *
    obtain ⟨b0, b1, b2, b3, b4, b5⟩ := HW4.out.b.cells
    simp only at b0 b1 b2 b3 b4 b5
    obtain ⟨p0, p1, p2, p3, p4, p5⟩ := HW4.out.o.cells
    have pf := HW4.out.o.free
    go_wp2
    refine bodyPost_ret (results_cell_row rfl _ _ w.heap.size _ _ _ _ rfl HW4.out.fin.1 Try.underlying28 rfl (by kernel_rfl)) rfl ?_
    exact ⟨⟨r.st, r.buf, r.fin, z, r.code⟩, _, rfl, ⟨HSM.out.1, HSM.out.2.1, HSM.out.2.2.1, HSM.out.2.2.2.1, HSM.out.2.2.2.2.1, HSM.out.2.2.2.2.2.1, HQ.out, HSM.out.2.2.2.2.2.2.2⟩, HW4.out.fin.2.1, HW4.out.fin.2.2.1, HW4.out.fin.2.2.2⟩
  have t2 : (y == 2) = false := by simpa using hy2
  clear hy0 hy1 hy2 y0 y1
  obtain ⟨b0, b1, b2, b3, b4, b5⟩ := HW2.out.b.cells
  obtain ⟨p0, p1, p2, p3, p4, p5⟩ := HW2.out.o.cells
  have pf := HW2.out.o.free
  go_wp2
  refine bodyPost_ret (results_cell_row rfl _ _ w.heap.size _ _ _ _ rfl HW2.out.fin.1 Try.underlying28 rfl (by kernel_rfl)) rfl ?_
  exact ⟨r, _, rfl, HSM.out, HW2.out.fin.2.1, HW2.out.fin.2.2.1, HW2.out.fin.2.2.2⟩
end Go.Proofs.Ytmmoedhfeaokgaa

namespace Go.Proofs.Ytmmoedhfeaokgaa
open Go.RowKit Go.Deep Go.Proofs.Ytmmoedhfeaokgaa.Num

theorem results_cell_tmp2 {P : Program} {fn : Func} {p u v : Tmp} {ty : TypeId} (h : fn.results = #[.cell p ty, .tmp u, .tmp v]) (tmps : Array Value) (w : World) (g : Nat) (t : TypeId) (cs : Array Value) (fr : Nat × Nat) (d : TypeDesc)
    (hp : tmps.getD p undef = .pointer (some ⟨g, 0, none⟩)) (hg : w.heap[g]? = some (.cells cs t fr))
    (hu : P.underlying ty = some d) (hd : (match d with | .struct _ | .array _ _ => true | _ => false) = true) (hi : (P.info? ty).map (·.size) = some cs.size) :
    (results fn tmps).run P w = .ok (.tuple #[.agg cs, tmps.getD u undef, tmps.getD v undef]) w := by
  have hp' : tmps[p]?.getD undef = .pointer (some ⟨g, 0, none⟩) := by simpa using hp
  simp [results, h, hp', asAddr, run_loadVar_row w g t ty cs fr d hg hu hd hi]
/-- The blocks of a drawing function: the result's, the cursor's, the receiver's. -/
structure DWR (w : World) (g : Nat) (A : Option Addr) (len cap : Nat) (K k : Nat) (r : Rc) (v : Value) (W : World) : Prop where
  o : BoxR W w.heap.size 0 0 (.slice none 0 0) 0 0 0
  b : BoxR W k r.st r.buf.next v r.fin r.hi r.code
  own : OwnX W K v r.buf.chs
  d : Draw W g (w.heap.size + 1) A len cap
  bl : Below w.heap.size w W
  l1 : w.heap.size < g
  l2 : g < K
  l3 : K ≤ k
theorem DWR.drawn {w : World} {g : Nat} {A : Option Addr} {len cap K k : Nat} {r : Rc} {v : Value} {W W' : World} (h : DWR w g A len cap K k r v W) (hg : W.grownBy W' (some g)) (hd : Draw W' g (w.heap.size + 1) A len cap) : DWR w g A len cap K k r v W' := by
  obtain ⟨h1, h2, h3, h4, h5, h6, h7, h8⟩ := h
  exact ⟨h1.only hg (by omega), h2.only hg (by omega), h3.only hg h7, hd, h5.trans (only_below hg (by omega) h5.size), h6, h7, h8⟩
theorem DWR.next {w : World} {g : Nat} {A : Option Addr} {len cap K k : Nat} {r : Rc} {v : Value} {W W' : World} (h : DWR w g A len cap K k r v W) (hb : Below W.heap.size W W') : DWR w g A len cap K k r v W' := by
  obtain ⟨h1, h2, h3, h4, h5, h6, h7, h8⟩ := h
  exact ⟨h1.below hb h1.lt, h2.below hb h2.lt, h3.later hb, h4.below h4.lt hb, h5.trans (hb.mono h5.size), h6, h7, h8⟩
theorem DWR.drew {w : World} {g : Nat} {A : Option Addr} {len cap K k : Nat} {r : Rc} {v : Value} {W : World} (h : DWR w g A len cap K k r v W) : DWR w g A len cap K k r v W.drew := h.next (Below.refl _ _).drew
theorem DWR.new {w : World} {g : Nat} {A : Option Addr} {len cap K : Nat} {r : Rc} {v : Value} {W : World} (h1 : BoxR W w.heap.size 0 0 (.slice none 0 0) 0 0 0) (h3 : OwnX W K v r.buf.chs) (h4 : Draw W g (w.heap.size + 1) A len cap) (h5 : Below w.heap.size w W) (h6 : w.heap.size < g) (h7 : g < K) (h8 : K ≤ W.heap.size) :
    DWR w g A len cap K W.heap.size r v (W.alloc (.cells (rcC r.st r.buf.next v r.fin r.hi r.code) 28)) :=
  ⟨h1.alloc _, BoxR.new W _ _ _ _ _ _, h3.alloc _, h4.alloc _, h5.alloc h5.size _, h6, h7, h8⟩
/-- The result is stored: what the caller gets. -/
theorem DWR.fin {w : World} {g : Nat} {A : Option Addr} {len cap K k : Nat} {r : Rc} {v : Value} {W : World} (h : DWR w g A len cap K k r v W) :
    BoxR (put6 W w.heap.size r.st r.buf.next v r.fin r.hi r.code) w.heap.size r.st r.buf.next v r.fin r.hi r.code ∧ OwnX (put6 W w.heap.size r.st r.buf.next v r.fin r.hi r.code) w.heap.size v r.buf.chs ∧ Below w.heap.size w (put6 W w.heap.size r.st r.buf.next v r.fin r.hi r.code) := by
  obtain ⟨h1, h2, h3, h4, h5, h6, h7, h8⟩ := h
  have hq := Nat.le_refl w.heap.size
  refine ⟨h1.put6 _ _ _ _ _ _, (h3.put6 _ _ _ _ _ _ _ (fun j hj => by have := (h3.lt j hj).1; omega)).weaken (by omega), ?_⟩
  exact (((((h5.setCell (p := ⟨_, _, _⟩) hq _).setCell (p := ⟨_, _, _⟩) hq _).setCell (p := ⟨_, _, _⟩) hq _).setCell (p := ⟨_, _, _⟩) hq _).setCell (p := ⟨_, _, _⟩) hq _).setCell (p := ⟨_, _, _⟩) hq _
/-- The receiver's cells, behind the store into the result. -/
theorem DWR.keep {w : World} {g : Nat} {A : Option Addr} {len cap K k : Nat} {r : Rc} {v : Value} {W : World} (h : DWR w g A len cap K k r v W) : CellR (put6 W w.heap.size r.st r.buf.next v r.fin r.hi r.code) k r v :=
  (h.b.put6_other _ _ _ _ _ _ _ (by have := h.l1; have := h.l2; have := h.l3; omega)).cells

set_option maxRecDepth 100000 in
set_option maxHeartbeats 2000000 in
/-- spec.DrawReadReceiver -/
theorem draw_read (A : Option Addr) (len cap : Nat) (w : World) (hlen : len ≤ maxLen) (hcode : Code w w.heap.size A len) :
    Calls Try.prog 21 #[.slice A len cap] w fun e w' => ∃ (r : Rc) (v : Value) (y : Int), e = .returned (.tuple #[rcV r v, .int .i64 y]) ∧ smallRc r ∧ (-1 ≤ y ∧ y ≤ 8) ∧ OwnX w' w.heap.size v r.buf.chs ∧ Below w.heap.size w w' := by
  have HC := Lib.hid hcode
  have X0 := Lib.hid (BoxR.new w 0 0 (.slice none 0 0) 0 0 0)
  have HS0 := Lib.hid (show (w.alloc (.cells (rcC 0 0 (.slice none 0 0) 0 0 0) 28)).heap.size = w.heap.size + 1 by simp)
  have B0 := Lib.hid ((Below.refl w.heap.size w).alloc (Nat.le_refl _) (.cells (rcC 0 0 (.slice none 0 0) 0 0 0) 28))
  have HCC := Lib.hid (show Code (w.alloc (.cells (rcC 0 0 (.slice none 0 0) 0 0 0) 28)) (w.alloc (.cells (rcC 0 0 (.slice none 0 0) 0 0 0) 28)).heap.size A len from Code.later HC.out B0.out)
  clear hcode
  go_enter Try.func21, Try.ntmps21
  go_upto_region 1 with fail
  generalize w.alloc (.cells (rcC 0 0 (.slice none 0 0) 0 0 0) 28) = w0 at *
  go_wp2_with fail
  have hdn := dnew A len cap w0 hlen HCC.out
  refine hdn.mono ?_
  clear hdn
  rintro e w1 ⟨g, rfl, hg, d1, b1⟩
  rw [HS0.out] at hg d1
  have X1 := Lib.hid (X0.out.below b1 X0.out.lt)
  have D1 := Lib.hid d1
  have B1 := Lib.hid (B0.out.trans (b1.mono B0.out.size))
  clear b1 d1 X0 B0 HCC HS0
  go_wp2_with fail
  refine (d7any g _ A len cap w1 D1.out).mono ?_
  rintro e w2 ⟨r, v, rfl, hsm, ho, d2, g2⟩
  have hgl := D1.out.lt
  have HSM := Lib.hid hsm
  have X2 := Lib.hid (X1.out.only g2 (by omega))
  have B2 := Lib.hid (B1.out.trans (only_below g2 (by omega) B1.out.size))
  have hsz2 := g2.size
  obtain ⟨A2, c2, rfl, _, _⟩ := ho.frs
  have HD3 := Lib.hid (DWR.new X2.out ho d2 B2.out (by omega) hgl hsz2)
  clear ho d2 g2 X1 D1 B1 X2 B2 hsm
  go_upto_region 3 with fail
  generalize w2.alloc (.cells (rcC r.st r.buf.next (.slice A2 r.buf.chs.length c2) r.fin r.hi r.code) 28) = w3 at *
  generalize w2.heap.size = k3 at *
  have HCZ : Hid (∀ W, CellR W k3 r (.slice A2 r.buf.chs.length c2) → W.cell? ⟨k3, 0, none⟩ = some (.int .i64 r.st) ∧ W.cell? ⟨k3, 1, none⟩ = some (.int .i64 r.buf.next) ∧ W.cell? ⟨k3, 2, none⟩ = some (.slice A2 r.buf.chs.length c2) ∧ W.cell? ⟨k3, 3, none⟩ = some (.int .i64 r.fin) ∧ W.cell? ⟨k3, 4, none⟩ = some (.int .i64 r.hi) ∧ W.cell? ⟨k3, 5, none⟩ = some (.int .i64 r.code)) := Lib.hid fun W h => h
  have HT := Lib.hid (dbelow 9 (by decide) (by decide) g _ A len cap w3.drew HD3.out.drew.d)
  have HK1 := Lib.hid (HCZ.out _ HD3.out.drew.b.cells)
  obtain ⟨p0, p1, p2, p3, p4, p5⟩ := HD3.out.b.cells
  obtain ⟨q0, q1, q2, q3, q4, q5⟩ := HD3.out.o.cells
  have qf := HD3.out.o.free
  go_region_held3 (fun W => W.cell? ⟨k3, 0, none⟩ = some (.int .i64 r.st) ∧ W.cell? ⟨k3, 1, none⟩ = some (.int .i64 r.buf.next) ∧ W.cell? ⟨k3, 2, none⟩ = some (.slice A2 r.buf.chs.length c2) ∧ W.cell? ⟨k3, 3, none⟩ = some (.int .i64 r.fin) ∧ W.cell? ⟨k3, 4, none⟩ = some (.int .i64 r.hi) ∧ W.cell? ⟨k3, 5, none⟩ = some (.int .i64 r.code)) (first | with_reducible exact HK1.out | with_reducible exact HK2.out | with_reducible exact HK3.out) (first | (go_at_call 42; refine HT.out.mono ?_; rintro e w4 ⟨y, rfl, y0, y1, d4, g4⟩; have HD4 := Lib.hid (HD3.out.drew.drawn g4 d4); have HK2 := Lib.hid (HCZ.out _ HD4.out.b.cells); have HK3 := Lib.hid (HCZ.out _ HD4.out.keep); dsimp only [put6] at HK3; obtain ⟨r0, r1, r2, r3, r4, r5⟩ := HD4.out.o.cells; have rf := HD4.out.o.free; clear d4 g4))
  go_wp2
  refine bodyPost_ret (results_cell_tmp rfl _ _ w.heap.size _ _ _ _ rfl HD4.out.fin.1 Try.underlying28 rfl (by kernel_rfl)) rfl ?_
  exact ⟨r, _, IntKind.i64.wrap (y - 1), rfl, HSM.out, by rw [IntKind.wrap_i64]; omega, HD4.out.fin.2.1, HD4.out.fin.2.2⟩
set_option maxRecDepth 100000 in
set_option maxHeartbeats 2000000 in
/-- spec.DrawReceiveReset -/
theorem draw_rst (A : Option Addr) (len cap : Nat) (w : World) (hlen : len ≤ maxLen) (hcode : Code w w.heap.size A len) :
    Calls Try.prog 15 #[.slice A len cap] w fun e w' => ∃ (r : Rc) (v : Value) (k y : Int), e = .returned (.tuple #[rcV r v, .int .i64 k, .int .i64 y]) ∧ smallRc r ∧ (-1 ≤ k ∧ k ≤ 4) ∧ (-1 ≤ y ∧ y ≤ 17) ∧ OwnX w' w.heap.size v r.buf.chs ∧ Below w.heap.size w w' := by
  have HC := Lib.hid hcode
  have X0 := Lib.hid (BoxR.new w 0 0 (.slice none 0 0) 0 0 0)
  have HS0 := Lib.hid (show (w.alloc (.cells (rcC 0 0 (.slice none 0 0) 0 0 0) 28)).heap.size = w.heap.size + 1 by simp)
  have B0 := Lib.hid ((Below.refl w.heap.size w).alloc (Nat.le_refl _) (.cells (rcC 0 0 (.slice none 0 0) 0 0 0) 28))
  have HCC := Lib.hid (show Code (w.alloc (.cells (rcC 0 0 (.slice none 0 0) 0 0 0) 28)) (w.alloc (.cells (rcC 0 0 (.slice none 0 0) 0 0 0) 28)).heap.size A len from Code.later HC.out B0.out)
  clear hcode
  go_enter Try.func15, Try.ntmps15
  go_upto_region 1 with fail
  generalize w.alloc (.cells (rcC 0 0 (.slice none 0 0) 0 0 0) 28) = w0 at *
  go_wp2_with fail
  have hdn := dnew A len cap w0 hlen HCC.out
  refine hdn.mono ?_
  clear hdn
  rintro e w1 ⟨g, rfl, hg, d1, b1⟩
  rw [HS0.out] at hg d1
  have X1 := Lib.hid (X0.out.below b1 X0.out.lt)
  have D1 := Lib.hid d1
  have B1 := Lib.hid (B0.out.trans (b1.mono B0.out.size))
  clear b1 d1 X0 B0 HCC HS0
  go_wp2_with fail
  refine (d7any g _ A len cap w1 D1.out).mono ?_
  rintro e w2 ⟨r, v, rfl, hsm, ho, d2, g2⟩
  have hgl := D1.out.lt
  have HSM := Lib.hid hsm
  have X2 := Lib.hid (X1.out.only g2 (by omega))
  have B2 := Lib.hid (B1.out.trans (only_below g2 (by omega) B1.out.size))
  have hsz2 := g2.size
  obtain ⟨A2, c2, rfl, _, _⟩ := ho.frs
  have HD3 := Lib.hid (DWR.new X2.out ho d2 B2.out (by omega) hgl hsz2)
  clear ho d2 g2 X1 D1 B1 X2 B2 hsm
  go_upto_region 3 with fail
  generalize w2.alloc (.cells (rcC r.st r.buf.next (.slice A2 r.buf.chs.length c2) r.fin r.hi r.code) 28) = w3 at *
  generalize w2.heap.size = k3 at *
  go_wp2_with fail
  refine (dbelow 5 (by decide) (by decide) g _ A len cap w3 HD3.out.d).mono ?_
  rintro e w5 ⟨k1, rfl, k10, k11, d5, g5⟩
  have HD3 := Lib.hid (HD3.out.drawn g5 d5)
  clear d5 g5
  go_wp2_with fail
  refine (dbelow 2 (by decide) (by decide) g _ A len cap w5 HD3.out.d).mono ?_
  rintro e w3 ⟨k2, rfl, k20, k21, d5, g5⟩
  have HD3 := Lib.hid (HD3.out.drawn g5 d5)
  clear d5 g5
  obtain ⟨kk, hkk⟩ : ∃ q, wrap64 (k1 - k2) = q := ⟨_, rfl⟩
  have HKK : Hid (-1 ≤ kk ∧ kk ≤ 4) := Lib.hid (by rw [← hkk]; unfold wrap64; omega)
  clear k10 k11 k20 k21
  go_upto_region 4 with fail
  have HCZ : Hid (∀ W, CellR W k3 r (.slice A2 r.buf.chs.length c2) → W.cell? ⟨k3, 0, none⟩ = some (.int .i64 r.st) ∧ W.cell? ⟨k3, 1, none⟩ = some (.int .i64 r.buf.next) ∧ W.cell? ⟨k3, 2, none⟩ = some (.slice A2 r.buf.chs.length c2) ∧ W.cell? ⟨k3, 3, none⟩ = some (.int .i64 r.fin) ∧ W.cell? ⟨k3, 4, none⟩ = some (.int .i64 r.hi) ∧ W.cell? ⟨k3, 5, none⟩ = some (.int .i64 r.code)) := Lib.hid fun W h => h
  have HT := Lib.hid (dbelow 18 (by decide) (by decide) g _ A len cap w3.drew HD3.out.drew.d)
  have HK1 := Lib.hid (HCZ.out _ HD3.out.drew.b.cells)
  obtain ⟨p0, p1, p2, p3, p4, p5⟩ := HD3.out.b.cells
  obtain ⟨q0, q1, q2, q3, q4, q5⟩ := HD3.out.o.cells
  have qf := HD3.out.o.free
  go_region_held3 (fun W => W.cell? ⟨k3, 0, none⟩ = some (.int .i64 r.st) ∧ W.cell? ⟨k3, 1, none⟩ = some (.int .i64 r.buf.next) ∧ W.cell? ⟨k3, 2, none⟩ = some (.slice A2 r.buf.chs.length c2) ∧ W.cell? ⟨k3, 3, none⟩ = some (.int .i64 r.fin) ∧ W.cell? ⟨k3, 4, none⟩ = some (.int .i64 r.hi) ∧ W.cell? ⟨k3, 5, none⟩ = some (.int .i64 r.code)) (first | with_reducible exact HK1.out | with_reducible exact HK2.out | with_reducible exact HK3.out) (first | (go_at_call 42; refine HT.out.mono ?_; rintro e w4 ⟨y, rfl, y0, y1, d4, g4⟩; have HD4 := Lib.hid (HD3.out.drew.drawn g4 d4); have HK2 := Lib.hid (HCZ.out _ HD4.out.b.cells); have HK3 := Lib.hid (HCZ.out _ HD4.out.keep); dsimp only [put6] at HK3; obtain ⟨r0, r1, r2, r3, r4, r5⟩ := HD4.out.o.cells; have rf := HD4.out.o.free; clear d4 g4))
  go_wp2
  refine bodyPost_ret (results_cell_tmp2 rfl _ _ w.heap.size _ _ _ _ rfl HD4.out.fin.1 Try.underlying28 rfl (by kernel_rfl)) rfl ?_
  exact ⟨r, _, kk, IntKind.i64.wrap (y - 1), rfl, HSM.out, HKK.out, by rw [IntKind.wrap_i64]; omega, HD4.out.fin.2.1, HD4.out.fin.2.2⟩
end Go.Proofs.Ytmmoedhfeaokgaa

namespace Go.Proofs.Ytmmoedhfeaokgaa
open Go.RowKit Go.Deep Go.Proofs.Ytmmoedhfeaokgaa.Num

theorem big_yes (A : Option Addr) (len cap : Nat) (w : World) (h : 1048576 < len) (hl : len ≤ maxLen) :
    Calls Try.prog 14 #[.slice A len cap] w fun e w' => e = .returned (.bool true) ∧ w = w' := by
  unfold maxLen at hl
  have hd : decide ((1048576 : Int) < (len : Int)) = true := decide_eq_true (by omega)
  go_enter Try.func14, Try.ntmps14
  go_wp2
  go_ret
  exact ⟨rfl, rfl⟩
theorem big_no (A : Option Addr) (len cap : Nat) (w : World) (h : len ≤ 1048576) :
    Calls Try.prog 14 #[.slice A len cap] w fun e w' => e = .returned (.bool false) ∧ w = w' := by
  have hd : decide ((1048576 : Int) < (len : Int)) = false := decide_eq_false (by omega)
  go_enter Try.func14, Try.ntmps14
  go_wp2
  go_ret
  exact ⟨rfl, rfl⟩
end Go.Proofs.Ytmmoedhfeaokgaa

namespace Go.Proofs.Ytmmoedhfeaokgaa
open Go.RowKit Go.Deep Go.Proofs.Ytmmoedhfeaokgaa.Num

theorem code_of_row {w : World} {a : Option Addr} {len cap : Nat} {zs : List Int}
    (h : (a = none ∧ len = 0 ∧ cap = 0 ∧ zs = []) ∨
      ∃ x, a = some x ∧ len ≤ cap ∧ cap ≤ maxLen ∧ zs.length = cap ∧ (∀ i, i < zs.length → w.cell? (x.add i) = some (.int .u8 (zs.getD i 0))) ∧ ∀ n ∈ zs, (Lit.int .u8 n).wf = true) :
    len ≤ maxLen ∧ Code w w.heap.size a len := by
  rcases h with ⟨rfl, rfl, _, _⟩ | ⟨x, rfl, hl, hm, hz, hc, hw⟩
  · exact ⟨by decide, fun j hj => absurd hj (by omega)⟩
  · refine ⟨Nat.le_trans hl hm, fun j hj => ?_⟩
    obtain ⟨b, off, spot⟩ := x
    have hs : spot = none := by simpa [Addr.add] using World.cell?_spot (hc 0 (by omega))
    subst hs
    have h0 := hc j (by omega)
    have e : (⟨b, off, none⟩ : Addr).add j = ⟨b, off + j, none⟩ := by
      unfold Addr.add
      split <;> simp_all
    rw [e] at h0
    have hj' : j < zs.length := by omega
    have hwf := hw (zs.getD j 0) (by rw [show zs.getD j 0 = zs[j] from by simp [List.getD, hj']]; exact List.getElem_mem hj')
    have hb : 0 ≤ zs.getD j 0 ∧ zs.getD j 0 ≤ 255 := by
      simp [Lit.wf, IntKind.min, IntKind.max, IntKind.signed, IntKind.bits] at hwf
      simp
      omega
    exact ⟨b, off, _, rfl, block_lt_of_cell h0, hb.1, hb.2, h0⟩
end Go.Proofs.Ytmmoedhfeaokgaa
