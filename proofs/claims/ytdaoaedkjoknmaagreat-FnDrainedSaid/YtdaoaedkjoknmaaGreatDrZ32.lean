/-
  Contracts and lemmas for the law on draining.
-/
import Derived.Test.YtdaoaedkjoknmaaGreatDrZ0
import Derived.Test.YtdaoaedkjoknmaaGreatDrZ6
import Derived.Test.YtdaoaedkjoknmaaGreatDrZ2
import Derived.Test.YtdaoaedkjoknmaaGreatDrZ27
import Derived.Test.YtdaoaedkjoknmaaGreatDrZ26
import Derived.Test.YtdaoaedkjoknmaaGreatDrZ28
import Derived.Test.YtdaoaedkjoknmaaGreatDrZ31
import Derived.Test.YtdaoaedkjoknmaaGreatDrZ17
set_option maxRecDepth 1000000
set_option maxHeartbeats 8000000
namespace Go.Proofs.YtdaoaedkjoknmaaGreat.Num
open Go.Proofs.YtdaoaedkjoknmaaGreat

theorem okR_short (M : Int) : ∀ (l : List Rg) (p : Int), okR p l → p ≤ M → (∀ n, hasR l n → n < M) → (l.length : Int) ≤ M - p := by
  intro l
  induction l with
  | nil => intro p _ h _; simp; omega
  | cons x l ih =>
    intro p h hp hM
    obtain ⟨a, b, _, d⟩ := h
    have h1 := hM (x.2 - 1) ((hasR_cons _ _ _).2 (.inl ⟨by omega, by omega⟩))
    have h2 := ih x.2 d (by omega) (fun n hn => hM n ((hasR_cons _ _ _).2 (.inr hn)))
    rw [List.length_cons]
    omega
theorem okR_cnt : ∀ (l : List Rg) (p : Int), okR p l → (l.length : Int) ≤ cntR l := by
  intro l
  induction l with
  | nil => intro p _; simp [cntR]
  | cons x l ih =>
    intro p h
    obtain ⟨a, b, _, d⟩ := h
    have h2 := ih x.2 d
    rw [List.length_cons]
    unfold cntR
    omega
theorem recv_sum {r : Rc} (o : Int) (d : ByteArray) (f : Bool) (h : okRc r) : sumC (rcvRc r o d f).1.buf.chs ≤ sumC r.buf.chs + d.size := by
  have h1 := insB_sum r.buf o d h.1.1
  unfold rcvRc
  split
  · show sumC r.buf.chs ≤ _; omega
  · split
    · show sumC r.buf.chs ≤ _; omega
    · split
      · show sumC r.buf.chs ≤ _; omega
      · show sumC (datRc r o d f).buf.chs ≤ _
        rw [show (datRc r o d f).buf = insB r.buf o d from fillRc_buf _]
        exact h1
theorem rc_in {r : Rc} (h : okRc r) : inRc r := by
  obtain ⟨⟨⟨_, b1, b2⟩, a2, _, a4, _, a6, a7⟩, hs⟩ := h
  refine ⟨?_, by omega, by omega, by omega, by omega⟩
  rcases hs with ⟨h0, _⟩ | ⟨h0, _⟩ | ⟨h0, _⟩ | ⟨h0, _⟩ | ⟨h0 | h0, _⟩ <;> omega
theorem okB_few {b : Bf} (h : okB b) : (b.chs.length : Int) ≤ sumC b.chs := by
  have h1 := okR_cnt _ _ h.1
  rw [sumC_cnt, List.length_map] at h1
  exact h1
theorem DrI.fits {W : ByteArray} {s : Sn} {g : Rc} {ps : List Pc} (h : DrI W s g ps) : (s.rn.cs.length ≤ 300000 ∧ s.pe.length ≤ 300000 ∧ s.fl.length ≤ 300000 ∧ s.ac.length ≤ 300000) ∧ inSn s := by
  obtain ⟨hf, hw, he⟩ := h.norm
  have hw16 := h.w16
  have hen := h.en
  have hsz := h.size
  have h1 := okR_short 16 s.pe (-1) hf.2.1 (by omega) (fun n hn => by have := (hw.1 n).1 (.inl hn); omega)
  have h2 := okR_short 16 s.fl (-1) hf.2.2.1 (by omega) (fun n hn => by have := (hw.1 n).1 (.inr (.inl hn)); omega)
  have h3 := okR_short 16 s.ac (-1) hf.2.2.2.1 (by omega) (fun n hn => by have := (hw.1 n).1 (.inr (.inr hn)); omega)
  have hr := hf.1
  have hst := he.2.2.2.2.2.2
  have hfo := folS_in s
  have hfn := h.fin
  refine ⟨⟨by have := hr.2.1; omega, by omega, by omega, by omega⟩, by unfold in64; omega, ⟨by omega, by have := hr.2.2.1; have := hr.2.2.2.1; omega, by omega, by omega⟩, by unfold in64; omega, by unfold in64; have := hf.2.2.2.2.2.2; omega, by unfold in64; have := hf.2.2.2.2.1; omega, by unfold in64; have := hf.2.2.2.2.2.1; omega⟩
end Go.Proofs.YtdaoaedkjoknmaaGreat.Num
namespace Go.Proofs.YtdaoaedkjoknmaaGreat
open Go.RowKit Go.Deep Go.Proofs.YtdaoaedkjoknmaaGreat.Num

theorem row_setD {w : World} {g : Nat} {cs : Array Value} {t : TypeId} (x : w.heap[g]? = some (.cells cs t (0, 0))) (k : Nat) (v : Value) : (w.setCell ⟨g, k, none⟩ v).heap[g]? = some (.cells (cs.setIfInBounds k v) t (0, 0)) := by
  simp [World.setCell, Array.getElem?_modify, x]
abbrev putS (W : World) (g : Nat) (s : Sn) (v1 v2 v3 v4 : Value) : World :=
  (((((((((((W.setCell ⟨g, 0, none⟩ (.int .i64 s.st)).setCell ⟨g, 1, none⟩ (.int .i64 s.rn.size)).setCell ⟨g, 2, none⟩ (.int .i64 s.rn.base)).setCell ⟨g, 3, none⟩ (.int .i64 s.rn.en)).setCell ⟨g, 4, none⟩ v1).setCell ⟨g, 5, none⟩ v2).setCell ⟨g, 6, none⟩ v3).setCell ⟨g, 7, none⟩ v4).setCell ⟨g, 8, none⟩ (.int .i64 s.fin)).setCell ⟨g, 9, none⟩ (.int .i64 s.fi)).setCell ⟨g, 10, none⟩ (.int .i64 s.sent)).setCell ⟨g, 11, none⟩ (.int .i64 s.code)
theorem setD12 (a0 a1 a2 a3 a4 a5 a6 a7 a8 a9 a10 a11 b0 b1 b2 b3 b4 b5 b6 b7 b8 b9 b10 b11 : Value) :
    (((((((((((((#[a0, a1, a2, a3, a4, a5, a6, a7, a8, a9, a10, a11] : Array Value).setIfInBounds 0 b0).setIfInBounds 1 b1).setIfInBounds 2 b2).setIfInBounds 3 b3).setIfInBounds 4 b4).setIfInBounds 5 b5).setIfInBounds 6 b6).setIfInBounds 7 b7).setIfInBounds 8 b8).setIfInBounds 9 b9).setIfInBounds 10 b10).setIfInBounds 11 b11) = #[b0, b1, b2, b3, b4, b5, b6, b7, b8, b9, b10, b11] := by
  simp
theorem putS_row {W : World} {g : Nat} {t : TypeId} {a0 a1 a2 a3 a4 a5 a6 a7 a8 a9 a10 a11 : Value} (x : W.heap[g]? = some (.cells #[a0, a1, a2, a3, a4, a5, a6, a7, a8, a9, a10, a11] t (0, 0))) (s : Sn) (v1 v2 v3 v4 : Value) :
    (putS W g s v1 v2 v3 v4).heap[g]? = some (.cells (snB s v1 v2 v3 v4) t (0, 0)) := by
  have h := row_setD (row_setD (row_setD (row_setD (row_setD (row_setD (row_setD (row_setD (row_setD (row_setD (row_setD (row_setD x 0 (.int .i64 s.st)) 1 (.int .i64 s.rn.size)) 2 (.int .i64 s.rn.base)) 3 (.int .i64 s.rn.en)) 4 v1) 5 v2) 6 v3) 7 v4) 8 (.int .i64 s.fin)) 9 (.int .i64 s.fi)) 10 (.int .i64 s.sent)) 11 (.int .i64 s.code)
  rw [setD12] at h
  exact h
theorem putS_below {a W : World} {B g : Nat} (h : Below B a W) (hg : B ≤ g) (s : Sn) (v1 v2 v3 v4 : Value) : Below B a (putS W g s v1 v2 v3 v4) :=
  (((((((((((h.setCell (p := ⟨g, 0, none⟩) hg _).setCell (p := ⟨g, 1, none⟩) hg _).setCell (p := ⟨g, 2, none⟩) hg _).setCell (p := ⟨g, 3, none⟩) hg _).setCell (p := ⟨g, 4, none⟩) hg _).setCell (p := ⟨g, 5, none⟩) hg _).setCell (p := ⟨g, 6, none⟩) hg _).setCell (p := ⟨g, 7, none⟩) hg _).setCell (p := ⟨g, 8, none⟩) hg _).setCell (p := ⟨g, 9, none⟩) hg _).setCell (p := ⟨g, 10, none⟩) hg _).setCell (p := ⟨g, 11, none⟩) hg _
theorem grown_set {a W : World} {g k : Nat} (h : a.grownBy W (some g)) (u : Value) : a.grownBy (W.setCell ⟨g, k, none⟩ u) (some g) := by
  have hb := (Below.refl g W).setCell (p := ⟨g, k, none⟩) (Nat.le_refl g) u
  exact ⟨hb.os.trans h.os, hb.tape.trans h.tape, hb.output.trans h.output, Nat.le_trans h.size hb.size, fun i hi hne => (Below.heap_setCell W ⟨g, k, none⟩ u i (fun e => hne (by rw [e]))).trans (h.block i hi hne)⟩
theorem grownD_refl (W : World) (ob : Option Nat) : W.grownBy W ob := ⟨rfl, rfl, rfl, Nat.le_refl _, fun _ _ _ => rfl⟩
theorem putS_grown (W : World) (g : Nat) (s : Sn) (v1 v2 v3 v4 : Value) : W.grownBy (putS W g s v1 v2 v3 v4) (some g) :=
  grown_set (grown_set (grown_set (grown_set (grown_set (grown_set (grown_set (grown_set (grown_set (grown_set (grown_set (grown_set (grownD_refl W _) _) _) _) _) _) _) _) _) _) _) _) _
abbrev putG (W : World) (g : Nat) (r : Rc) (u : Value) : World :=
  (((((W.setCell ⟨g, 0, none⟩ (.int .i64 r.st)).setCell ⟨g, 1, none⟩ (.int .i64 r.buf.next)).setCell ⟨g, 2, none⟩ u).setCell ⟨g, 3, none⟩ (.int .i64 r.fin)).setCell ⟨g, 4, none⟩ (.int .i64 r.hi)).setCell ⟨g, 5, none⟩ (.int .i64 r.code)
theorem putG_row {W : World} {g : Nat} {s n : Int} {v : Value} {f h c : Int} (x : BoxR W g s n v f h c) (r : Rc) (u : Value) : BoxR (putG W g r u) g r.st r.buf.next u r.fin r.hi r.code :=
  (((((x.set0 r.st).set1 r.buf.next).set2 u).set3 r.fin).set4 r.hi).set5 r.code
theorem putG_below {a W : World} {B g : Nat} (h : Below B a W) (hg : B ≤ g) (r : Rc) (u : Value) : Below B a (putG W g r u) :=
  (((((h.setCell (p := ⟨g, 0, none⟩) hg _).setCell (p := ⟨g, 1, none⟩) hg _).setCell (p := ⟨g, 2, none⟩) hg _).setCell (p := ⟨g, 3, none⟩) hg _).setCell (p := ⟨g, 4, none⟩) hg _).setCell (p := ⟨g, 5, none⟩) hg _
theorem putG_grown (W : World) (g : Nat) (r : Rc) (u : Value) : W.grownBy (putG W g r u) (some g) :=
  grown_set (grown_set (grown_set (grown_set (grown_set (grown_set (grownD_refl W _) _) _) _) _) _) _
theorem off_of {v : Value} {ob : Option Nat} (h : ∀ k, v.ownBlock = some k → ob ≠ some k) : v.ownBlock = none ∨ v.ownBlock ≠ ob := by
  cases hv : v.ownBlock with
  | none => exact .inl rfl
  | some k => exact .inr (fun e => h k hv e.symm)
theorem OwnSn.kept {w w' : World} {B : Nat} {v1 v2 v3 v4 : Value} {l1 : List Int} {l2 l3 l4 : List Rg} {ob : Option Nat} (h : OwnS w B v1 v2 v3 v4 l1 l2 l3 l4) (hg : w.grownBy w' ob)
    (h1 : ∀ k, v1.ownBlock = some k → ob ≠ some k) (h2 : ∀ k, v2.ownBlock = some k → ob ≠ some k) (h3 : ∀ k, v3.ownBlock = some k → ob ≠ some k) (h4 : ∀ k, v4.ownBlock = some k → ob ≠ some k) : OwnS w' B v1 v2 v3 v4 l1 l2 l3 l4 :=
  ⟨⟨h.1.1.kept hg (off_of h1), h.1.2.1.kept hg (off_of h2), h.1.2.2.1.kept hg (off_of h3), h.1.2.2.2.kept hg (off_of h4)⟩, h.2⟩
structure DrW (w W : World) (gs gg : Nat) (s : Sn) (v1 v2 v3 v4 : Value) (g : Rc) (u : Value) (ps : List Pc) (pv : Value) : Prop where
  b : Below w.heap.size w W
  rs : W.heap[gs]? = some (.cells (snB s v1 v2 v3 v4) 29 (0, 0))
  rg : BoxR W gg g.st g.buf.next u g.fin g.hi g.code
  os : OwnSn W w.heap.size v1 v2 v3 v4 s
  og : OwnX W w.heap.size u g.buf.chs
  op : OwnPc W w.heap.size pv ps
  hs : w.heap.size ≤ gs
  hg : w.heap.size ≤ gg
  ne : gs ≠ gg
  f1 : ∀ v ∈ [v1, v2, v3, v4, u, pv], ∀ k, v.ownBlock = some k → k ≠ gs ∧ k ≠ gg
  f2 : ∀ v ∈ [v1, v2, v3, v4, u], ∀ k, v.ownBlock = some k → pv.ownBlock ≠ some k
def Lows (K : Nat) (w : World) (gs gg : Nat) (pv : Value) : Prop := gs < K ∧ gg < K ∧ w.heap.size ≤ K ∧ ∀ k, pv.ownBlock = some k → k < K
variable {w W : World} {gs gg : Nat} {s : Sn} {v1 v2 v3 v4 : Value} {g : Rc} {u : Value} {ps : List Pc} {pv : Value}
theorem DrW.lts (h : DrW w W gs gg s v1 v2 v3 v4 g u ps pv) : gs < W.heap.size := (Array.getElem?_eq_some_iff.1 h.rs).1
theorem DrW.ltg (h : DrW w W gs gg s v1 v2 v3 v4 g u ps pv) : gg < W.heap.size := h.rg.lt
theorem DrW.lows (h : DrW w W gs gg s v1 v2 v3 v4 g u ps pv) : Lows W.heap.size w gs gg pv := ⟨h.lts, h.ltg, h.b.size, fun k hk => (h.op.lt k hk).2⟩
theorem DrW.cells (h : DrW w W gs gg s v1 v2 v3 v4 g u ps pv) : Cell12 W gs s.st s.rn.size s.rn.base s.rn.en v1 v2 v3 v4 s.fin s.fi s.sent s.code :=
  ⟨cell_of_row W gs 0 _ _ _ h.rs, cell_of_row W gs 1 _ _ _ h.rs, cell_of_row W gs 2 _ _ _ h.rs, cell_of_row W gs 3 _ _ _ h.rs, cell_of_row W gs 4 _ _ _ h.rs, cell_of_row W gs 5 _ _ _ h.rs, cell_of_row W gs 6 _ _ _ h.rs, cell_of_row W gs 7 _ _ _ h.rs, cell_of_row W gs 8 _ _ _ h.rs, cell_of_row W gs 9 _ _ _ h.rs, cell_of_row W gs 10 _ _ _ h.rs, cell_of_row W gs 11 _ _ _ h.rs⟩
theorem DrW.free (h : DrW w W gs gg s v1 v2 v3 v4 g u ps pv) (k : Nat) : W.frozen? ⟨gs, k, none⟩ = false := by
  simp [World.frozen?, h.rs]
theorem DrW.next (h : DrW w W gs gg s v1 v2 v3 v4 g u ps pv) {W' : World} (hb : Below W.heap.size W W') : DrW w W' gs gg s v1 v2 v3 v4 g u ps pv :=
  ⟨h.b.trans (hb.mono h.b.size), (hb.block gs h.lts).trans h.rs, h.rg.below hb h.ltg, h.os.later hb, h.og.later hb, h.op.later hb, h.hs, h.hg, h.ne, h.f1, h.f2⟩
theorem DrW.alloc (h : DrW w W gs gg s v1 v2 v3 v4 g u ps pv) (o : Obj) : DrW w (W.alloc o) gs gg s v1 v2 v3 v4 g u ps pv := h.next ((Below.refl _ _).alloc (Nat.le_refl _) _)
theorem DrW.drew (h : DrW w W gs gg s v1 v2 v3 v4 g u ps pv) : DrW w W.drew gs gg s v1 v2 v3 v4 g u ps pv := h.next (Below.refl _ _).drew
theorem mem6 {P : Value → Prop} {a b c d e f : Value} : (∀ v ∈ [a, b, c, d, e, f], P v) ↔ P a ∧ P b ∧ P c ∧ P d ∧ P e ∧ P f := by simp
theorem mem5 {P : Value → Prop} {a b c d e : Value} : (∀ v ∈ [a, b, c, d, e], P v) ↔ P a ∧ P b ∧ P c ∧ P d ∧ P e := by simp
theorem DrW.putS (h : DrW w W gs gg s v1 v2 v3 v4 g u ps pv) {K : Nat} (hK : Lows K w gs gg pv) {s' : Sn} {x1 x2 x3 x4 : Value} (ho : OwnSn W K x1 x2 x3 x4 s') : DrW w (putS W gs s' x1 x2 x3 x4) gs gg s' x1 x2 x3 x4 g u ps pv := by
  obtain ⟨k1, k2, k3, k4⟩ := hK
  have hg := putS_grown W gs s' x1 x2 x3 x4
  obtain ⟨f1, f2, f3, f4, f5, f6⟩ := mem6.1 h.f1
  obtain ⟨p1, p2, p3, p4, p5⟩ := mem5.1 h.f2
  have c1 := ho.1.1.lt
  have c2 := ho.1.2.1.lt
  have c3 := ho.1.2.2.1.lt
  have c4 := ho.1.2.2.2.lt
  have no : ∀ (k : Nat), K ≤ k → pv.ownBlock ≠ some k := fun k hk e => by have := k4 k e; omega
  have gsn : ∀ k, k < K → ∀ v : Value, (∀ j, v.ownBlock = some j → K ≤ j) → ∀ j, v.ownBlock = some j → some k ≠ some j := fun k hk v hv j hj e => by
    have := hv j hj
    injection e with e
    omega
  refine ⟨putS_below h.b h.hs s' x1 x2 x3 x4, putS_row h.rs s' x1 x2 x3 x4, (hg.block gg h.ltg (fun e => h.ne (Option.some.inj e).symm)).trans h.rg, ?_, h.og.kept hg (off_of fun k hk e => (f5 k hk).1 (Option.some.inj e).symm), h.op.kept hg (off_of fun k hk e => (f6 k hk).1 (Option.some.inj e).symm), h.hs, h.hg, h.ne, mem6.2 ⟨fun k hk => ?_, fun k hk => ?_, fun k hk => ?_, fun k hk => ?_, f5, f6⟩, mem5.2 ⟨fun k hk => no k (c1 k hk).1, fun k hk => no k (c2 k hk).1, fun k hk => no k (c3 k hk).1, fun k hk => no k (c4 k hk).1, p5⟩⟩
  · exact (OwnSn.kept ho hg (gsn gs k1 x1 fun j hj => (c1 j hj).1) (gsn gs k1 x2 fun j hj => (c2 j hj).1) (gsn gs k1 x3 fun j hj => (c3 j hj).1) (gsn gs k1 x4 fun j hj => (c4 j hj).1)).weaken k3
  · have := (c1 k hk).1; omega
  · have := (c2 k hk).1; omega
  · have := (c3 k hk).1; omega
  · have := (c4 k hk).1; omega
theorem DrW.putG (h : DrW w W gs gg s v1 v2 v3 v4 g u ps pv) {K : Nat} (hK : Lows K w gs gg pv) {g' : Rc} {x : Value} (ho : OwnX W K x g'.buf.chs) : DrW w (putG W gg g' x) gs gg s v1 v2 v3 v4 g' x ps pv := by
  obtain ⟨k1, k2, k3, k4⟩ := hK
  have hg := putG_grown W gg g' x
  obtain ⟨f1, f2, f3, f4, f5, f6⟩ := mem6.1 h.f1
  obtain ⟨p1, p2, p3, p4, p5⟩ := mem5.1 h.f2
  have c := ho.lt
  have n1 : ∀ {v : Value}, (∀ k, v.ownBlock = some k → k ≠ gs ∧ k ≠ gg) → ∀ k, v.ownBlock = some k → some gg ≠ some k := fun hf k hk e => (hf k hk).2 (Option.some.inj e).symm
  refine ⟨putG_below h.b h.hg g' x, (hg.block gs h.lts (fun e => h.ne (Option.some.inj e))).trans h.rs, putG_row h.rg g' x, OwnSn.kept h.os hg (n1 f1) (n1 f2) (n1 f3) (n1 f4), ?_, h.op.kept hg (off_of (n1 f6)), h.hs, h.hg, h.ne, mem6.2 ⟨f1, f2, f3, f4, fun k hk => ?_, f6⟩, mem5.2 ⟨p1, p2, p3, p4, fun k hk e => ?_⟩⟩
  · exact (ho.kept hg (off_of fun k hk e => by have := (c k hk).1; injection e with e; omega)).weaken k3
  · have := (c k hk).1; omega
  · have := k4 k e; have := (c k hk).1; omega
theorem DrW.app (h : DrW w W gs gg s v1 v2 v3 v4 g u ps pv) {W' : World} {pv' : Value} {ps' : List Pc} (ho : OwnPc W' w.heap.size pv' ps') (hg : W.grownBy W' pv.ownBlock) (hk : ∀ k, pv'.ownBlock = some k → pv.ownBlock = some k ∨ W.heap.size ≤ k) : DrW w W' gs gg s v1 v2 v3 v4 g u ps' pv' := by
  obtain ⟨f1, f2, f3, f4, f5, f6⟩ := mem6.1 h.f1
  obtain ⟨p1, p2, p3, p4, p5⟩ := mem5.1 h.f2
  have l1 := h.lts
  have l2 := h.ltg
  have n1 : ∀ {v : Value}, (∀ k, v.ownBlock = some k → pv.ownBlock ≠ some k) → (∀ k, v.ownBlock = some k → k < W.heap.size) → ∀ k, v.ownBlock = some k → pv'.ownBlock ≠ some k := fun hp hl k hv e => by
    rcases hk k e with e2 | e2
    · exact hp k hv e2
    · have := hl k hv; omega
  refine ⟨h.b.grown hg h.b.size (fun k hk => (h.op.lt k hk).1), (hg.block gs l1 (fun e => (f6 gs e.symm).1 rfl)).trans h.rs, (hg.block gg l2 (fun e => (f6 gg e.symm).2 rfl)).trans h.rg, OwnSn.kept h.os hg p1 p2 p3 p4, h.og.kept hg (off_of p5), ho, h.hs, h.hg, h.ne, mem6.2 ⟨f1, f2, f3, f4, f5, fun k e => ?_⟩, mem5.2 ⟨n1 p1 fun k hk => (h.os.1.1.lt k hk).2, n1 p2 fun k hk => (h.os.1.2.1.lt k hk).2, n1 p3 fun k hk => (h.os.1.2.2.1.lt k hk).2, n1 p4 fun k hk => (h.os.1.2.2.2.lt k hk).2, n1 p5 fun k hk => (h.og.lt k hk).2⟩⟩
  rcases hk k e with e2 | e2
  · exact f6 k e2
  · omega
theorem DrW.pcs (h : DrW w W gs gg s v1 v2 v3 v4 g u ps pv) {W' : World} {pv' : Value} {ps' : List Pc} (hb : Below W.heap.size W W') (ho : OwnPc W' W.heap.size pv' ps') : DrW w W' gs gg s v1 v2 v3 v4 g u ps' pv' := by
  have h2 := h.next hb
  obtain ⟨f1, f2, f3, f4, f5, f6⟩ := mem6.1 h.f1
  have l1 := h.lts
  have l2 := h.ltg
  have n1 : ∀ {v : Value}, (∀ k, v.ownBlock = some k → k < W.heap.size) → ∀ k, v.ownBlock = some k → pv'.ownBlock ≠ some k := fun hl k hv e => by
    have := (ho.lt k e).1
    have := hl k hv
    omega
  refine ⟨h2.b, h2.rs, h2.rg, h2.os, h2.og, ho.weaken h.b.size, h.hs, h.hg, h.ne, mem6.2 ⟨f1, f2, f3, f4, f5, fun k e => by have := (ho.lt k e).1; omega⟩, mem5.2 ⟨n1 fun k hk => (h.os.1.1.lt k hk).2, n1 fun k hk => (h.os.1.2.1.lt k hk).2, n1 fun k hk => (h.os.1.2.2.1.lt k hk).2, n1 fun k hk => (h.os.1.2.2.2.lt k hk).2, n1 fun k hk => (h.og.lt k hk).2⟩⟩
end Go.Proofs.YtdaoaedkjoknmaaGreat

namespace Go.Proofs.YtdaoaedkjoknmaaGreat
open Go.RowKit Go.Deep Go.Proofs.YtdaoaedkjoknmaaGreat.Num

def tidyS (s : Sn) : Prop := fitS s → ¬ (s.st = 4 ∨ s.st = 5) → cntR (allS s) = s.rn.en ∧ cntR s.pe + cntR s.fl + cntR s.ac = s.rn.en → (0 < s.rn.en → highS (allS s) = s.rn.en) ∧ gapR s.ac 0 = s.rn.base
end Go.Proofs.YtdaoaedkjoknmaaGreat

namespace Go.Proofs.YtdaoaedkjoknmaaGreat
open Go.RowKit Go.Deep Go.Proofs.YtdaoaedkjoknmaaGreat.Num

structure Dr1 (w W : World) (gs : Nat) (s : Sn) (v1 v2 v3 v4 : Value) : Prop where
  b : Below w.heap.size w W
  rs : W.heap[gs]? = some (.cells (snB s v1 v2 v3 v4) 29 (0, 0))
  os : OwnSn W w.heap.size v1 v2 v3 v4 s
  hs : w.heap.size ≤ gs
  f1 : (∀ k, v1.ownBlock = some k → k ≠ gs) ∧ (∀ k, v2.ownBlock = some k → k ≠ gs) ∧ (∀ k, v3.ownBlock = some k → k ≠ gs) ∧ ∀ k, v4.ownBlock = some k → k ≠ gs
theorem Dr1.new {w W : World} {s : Sn} {v1 v2 v3 v4 : Value} (hb : Below w.heap.size w W) {K : Nat} (ho : OwnSn W K v1 v2 v3 v4 s) (hK : w.heap.size ≤ K) : Dr1 w (W.alloc (.cells (snB s v1 v2 v3 v4) 29)) W.heap.size s v1 v2 v3 v4 :=
  ⟨hb.alloc hb.size _, heap_alloc_new W _, (ho.weaken hK).alloc _, hb.size, fun k hk => by have := (ho.1.1.lt k hk).2; omega, fun k hk => by have := (ho.1.2.1.lt k hk).2; omega, fun k hk => by have := (ho.1.2.2.1.lt k hk).2; omega, fun k hk => by have := (ho.1.2.2.2.lt k hk).2; omega⟩
variable {w W : World} {gs : Nat} {s : Sn} {v1 v2 v3 v4 : Value}
theorem Dr1.lts (h : Dr1 w W gs s v1 v2 v3 v4) : gs < W.heap.size := (Array.getElem?_eq_some_iff.1 h.rs).1
theorem Dr1.next (h : Dr1 w W gs s v1 v2 v3 v4) {W' : World} (hb : Below W.heap.size W W') : Dr1 w W' gs s v1 v2 v3 v4 :=
  ⟨h.b.trans (hb.mono h.b.size), (hb.block gs h.lts).trans h.rs, h.os.later hb, h.hs, h.f1⟩
theorem Dr1.alloc (h : Dr1 w W gs s v1 v2 v3 v4) (o : Obj) : Dr1 w (W.alloc o) gs s v1 v2 v3 v4 := h.next ((Below.refl _ _).alloc (Nat.le_refl _) _)
theorem Dr1.drew (h : Dr1 w W gs s v1 v2 v3 v4) : Dr1 w W.drew gs s v1 v2 v3 v4 := h.next (Below.refl _ _).drew
theorem Dr1.cells (h : Dr1 w W gs s v1 v2 v3 v4) : Cell12 W gs s.st s.rn.size s.rn.base s.rn.en v1 v2 v3 v4 s.fin s.fi s.sent s.code :=
  ⟨cell_of_row W gs 0 _ _ _ h.rs, cell_of_row W gs 1 _ _ _ h.rs, cell_of_row W gs 2 _ _ _ h.rs, cell_of_row W gs 3 _ _ _ h.rs, cell_of_row W gs 4 _ _ _ h.rs, cell_of_row W gs 5 _ _ _ h.rs, cell_of_row W gs 6 _ _ _ h.rs, cell_of_row W gs 7 _ _ _ h.rs, cell_of_row W gs 8 _ _ _ h.rs, cell_of_row W gs 9 _ _ _ h.rs, cell_of_row W gs 10 _ _ _ h.rs, cell_of_row W gs 11 _ _ _ h.rs⟩
theorem Dr1.free (h : Dr1 w W gs s v1 v2 v3 v4) (k : Nat) : W.frozen? ⟨gs, k, none⟩ = false := by
  simp [World.frozen?, h.rs]
theorem Dr1.putS (h : Dr1 w W gs s v1 v2 v3 v4) {K : Nat} (hK : gs < K ∧ w.heap.size ≤ K) {s' : Sn} {x1 x2 x3 x4 : Value} (ho : OwnSn W K x1 x2 x3 x4 s') : Dr1 w (putS W gs s' x1 x2 x3 x4) gs s' x1 x2 x3 x4 := by
  obtain ⟨k1, k3⟩ := hK
  have hg := putS_grown W gs s' x1 x2 x3 x4
  have c1 := ho.1.1.lt
  have c2 := ho.1.2.1.lt
  have c3 := ho.1.2.2.1.lt
  have c4 := ho.1.2.2.2.lt
  have gsn : ∀ v : Value, (∀ j, v.ownBlock = some j → K ≤ j) → ∀ j, v.ownBlock = some j → some gs ≠ some j := fun v hv j hj e => by
    have := hv j hj
    injection e with e
    omega
  refine ⟨putS_below h.b h.hs s' x1 x2 x3 x4, putS_row h.rs s' x1 x2 x3 x4, (OwnSn.kept ho hg (gsn x1 fun j hj => (c1 j hj).1) (gsn x2 fun j hj => (c2 j hj).1) (gsn x3 fun j hj => (c3 j hj).1) (gsn x4 fun j hj => (c4 j hj).1)).weaken k3, h.hs, fun k hk => ?_, fun k hk => ?_, fun k hk => ?_, fun k hk => ?_⟩
  · have := (c1 k hk).1; omega
  · have := (c2 k hk).1; omega
  · have := (c3 k hk).1; omega
  · have := (c4 k hk).1; omega
theorem Dr1.start (h : Dr1 w W gs s v1 v2 v3 v4) {W1 : World} (g : Rc) {u : Value} (hb : Below W.heap.size W W1) (ho : OwnX W1 W.heap.size u g.buf.chs) :
    DrW w ((W1.alloc (.cells (rcC g.st g.buf.next u g.fin g.hi g.code) 40)).alloc (.cells #[] 44)) gs W1.heap.size s v1 v2 v3 v4 g u [] (.slice (some ⟨W1.heap.size + 1, 0, none⟩) 0 0) := by
  have h1 := h.next hb
  have l0 := h.lts
  have l1 := hb.size
  have hz : (W1.alloc (.cells (rcC g.st g.buf.next u g.fin g.hi g.code) 40)).heap.size = W1.heap.size + 1 := by simp
  have h2 := (h1.alloc (.cells (rcC g.st g.buf.next u g.fin g.hi g.code) 40)).alloc (.cells #[] 44)
  have hpv : ∀ k, (Value.slice (some (⟨W1.heap.size + 1, 0, none⟩ : Addr)) 0 0).ownBlock = some k → k = W1.heap.size + 1 := fun k hk => (Option.some.inj hk).symm
  refine ⟨h2.b, h2.rs, (BoxR.new W1 g.st g.buf.next u g.fin g.hi g.code).alloc _, h2.os, ((ho.weaken h.b.size).later ((Below.refl _ _).alloc (Nat.le_refl _) _)).later ((Below.refl _ _).alloc (Nat.le_refl _) _), OwnPc.litAt _ _ _ hz.symm (by rw [hz]; have := h1.b.size; omega), h.hs, h1.b.size, by omega, mem6.2 ⟨fun k hk => ⟨h.f1.1 k hk, ?_⟩, fun k hk => ⟨h.f1.2.1 k hk, ?_⟩, fun k hk => ⟨h.f1.2.2.1 k hk, ?_⟩, fun k hk => ⟨h.f1.2.2.2 k hk, ?_⟩, fun k hk => ?_, fun k hk => ?_⟩, mem5.2 ⟨fun k hk e => ?_, fun k hk e => ?_, fun k hk e => ?_, fun k hk e => ?_, fun k hk e => ?_⟩⟩
  · have := (h.os.1.1.lt k hk).2; omega
  · have := (h.os.1.2.1.lt k hk).2; omega
  · have := (h.os.1.2.2.1.lt k hk).2; omega
  · have := (h.os.1.2.2.2.lt k hk).2; omega
  · have := ho.lt k hk; omega
  · have := hpv k hk; omega
  · have := hpv k e; have := (h.os.1.1.lt k hk).2; omega
  · have := hpv k e; have := (h.os.1.2.1.lt k hk).2; omega
  · have := hpv k e; have := (h.os.1.2.2.1.lt k hk).2; omega
  · have := hpv k e; have := (h.os.1.2.2.2.lt k hk).2; omega
  · have := hpv k e; have := ho.lt k hk; omega
end Go.Proofs.YtdaoaedkjoknmaaGreat

namespace Go.Proofs.YtdaoaedkjoknmaaGreat
open Go.RowKit Go.Deep Go.Proofs.YtdaoaedkjoknmaaGreat.Num

theorem swriteC (s : Sn) (d : ByteArray) (A1 A2 A3 A4 : Option Addr) (c1 c2 c3 c4 B : Nat) (w : World) (hB : B ≤ w.heap.size) (hr : ReadS w B A1 A2 A3 A4 s) (hn : LenS 1000000 s) (hx : inSn s) (hok : okSn s) (hf : fitS s) (hst : ¬ (s.st = 4 ∨ s.st = 5)) (hm : cntR (allS s) = s.rn.en ∧ cntR s.pe + cntR s.fl + cntR s.ac = s.rn.en) (hp : ¬ 0 < s.rn.en) (hg : gapR s.ac 0 = s.rn.base) (hd : d.size ≤ 1000000000) :
    Calls Tryz.prog 10 #[snV s (.slice A1 s.rn.cs.length c1) (.slice A2 s.pe.length c2) (.slice A3 s.fl.length c3) (.slice A4 s.ac.length c4), .string d] w fun e w' => ∃ v1 v2 v3 v4, e = .returned (.tuple #[snV (wrS (decide (okSn s)) s d) v1 v2 v3 v4, .int .i64 (wrNS (decide (okSn s)) s d : Nat)]) ∧ OwnSn w' w.heap.size v1 v2 v3 v4 (wrS (decide (okSn s)) s d) ∧ Below w.heap.size w w' := by
  have HH := LH (IrS.start w (fun _ => none) s (.slice A1 s.rn.cs.length c1) (.slice A2 s.pe.length c2) (.slice A3 s.fl.length c3) (.slice A4 s.ac.length c4))
  have HCP : Hid (∀ W, Below w.heap.size w W → Calls Tryz.prog 33 #[snV s (.slice A1 s.rn.cs.length c1) (.slice A2 s.pe.length c2) (.slice A3 s.fl.length c3) (.slice A4 s.ac.length c4)] W fun e w' => ∃ v1 v2 v3 v4, e = .returned (snV s v1 v2 v3 v4) ∧ OwnSn w' W.heap.size v1 v2 v3 v4 s ∧ Below W.heap.size W w') := LH fun W h => scopyS s A1 A2 A3 A4 c1 c2 c3 c4 B W (Nat.le_trans hB h.size) (hr.below hB h) (hn.up (by decide))
  have HIS : Hid (∀ W, Below w.heap.size w W → Calls Tryz.prog 23 #[snV s (.slice A1 s.rn.cs.length c1) (.slice A2 s.pe.length c2) (.slice A3 s.fl.length c3) (.slice A4 s.ac.length c4)] W fun e w' => e = .returned (.bool (decide (okSn s))) ∧ Below W.heap.size W w') := LH fun W h => sissnC s A1 A2 A3 A4 c1 c2 c3 c4 B W (Nat.le_trans hB h.size) (hr.below hB h) (hn.up (by decide)) hx.2.1 hf hst hm hp hg
  have HWR : Hid (∀ W, Below w.heap.size w W → Calls Tryz.prog 34 #[rnV s.rn (.slice A1 s.rn.cs.length c1), .string d] W fun e w' => ∃ v, e = .returned (.tuple #[rnV (wrR s.rn d) v, .int .i64 (cntW s.rn d : Nat)]) ∧ OwnK w' W.heap.size v (wrR s.rn d).cs ∧ Below W.heap.size W w') := LH fun W h => swrite s.rn d A1 c1 B W (Nat.le_trans hB h.size) (hr.1.below hB h) (Nat.le_trans hn.1 (by decide)) hx.2.1 hd
  have HAD : Hid (∀ W (r : Rg), Below w.heap.size w W → Calls Tryz.prog 35 #[.slice A2 s.pe.length c2, rgV r] W fun e w' => ∃ v, e = .returned v ∧ OwnR w' W.heap.size v (addL s.pe r) ∧ Below W.heap.size W w') := LH fun W r h => sadd s.pe r A2 c2 B W (Nat.le_trans hB h.size) (hr.2.1.below hB h) (Nat.le_trans hn.2.1 (by decide))
  clear hr hn hx hf hst hm hp hg hd
  by_cases h1 : s.st ≤ 1
  rotate_left
  · skip
    have hno : ¬ canW (decide (okSn s)) s := fun h => h1 h.2.1
    rw [show wrS (decide (okSn s)) s d = s from if_neg hno, show wrNS (decide (okSn s)) s d = 0 from if_neg hno]
    rw [decide_eq_true hok] at HIS
    have t1 : decide (1 < s.st) = true := decide_eq_true (by omega)
    clear hno HWR HAD hok h1
    go_enter Tryz.func10, Tryz.ntmps10
    obtain ⟨a0, a1, a2, a3, a4, a5, a6, a7, a8, a9, a10, a11⟩ := HH.out.b.cells
    go_wp2_with fail
    refine (HCP.out _ HH.out.bl).mono ?_
    rintro e w3 ⟨u1, u2, u3, u4, rfl, ho, hb⟩
    have HF := LH (FrS.start (HH.out.next hb) (ho.weaken HH.out.sz))
    obtain ⟨B1, B2, B3, B4, d1, d2, d3, d4, rfl, rfl, rfl, rfl, _, _, _, _⟩ := ho.frs
    clear ho hb a0 a1 a2 a3 a4 a5 a6 a7 a8 a9 a10 a11 HCP
    go_upto_region 2 with fail
    generalize w3.alloc (.cells (snB s (.slice B1 s.rn.cs.length d1) (.slice B2 s.pe.length d2) (.slice B3 s.fl.length d3) (.slice B4 s.ac.length d4)) 29) = w4 at *
    generalize w3.heap.size = gx at *
    obtain ⟨a0, a1, a2, a3, a4, a5, a6, a7, a8, a9, a10, a11⟩ := HF.out.i.b.cells
    go_wp2_with fail
    refine (HIS.out _ HF.out.i.bl).mono ?_
    rintro e w5 ⟨rfl, hb5⟩
    have HF := LH (HF.out.next hb5)
    clear hb5 a0 a1 a2 a3 a4 a5 a6 a7 a8 a9 a10 a11 HIS
    obtain ⟨a0, a1, a2, a3, a4, a5, a6, a7, a8, a9, a10, a11⟩ := HF.out.i.b.cells
    obtain ⟨x0, x1, x2, x3, x4, x5, x6, x7, x8, x9, x10, x11⟩ := HF.out.b.cells
    (try simp only at x0 x1 x2 x3 x4 x5 x6 x7 x8 x9 x10 x11)
    obtain ⟨q0, q1, q2, q3, q4, q5, q6, q7, q8, q9, q10, q11⟩ := HF.out.i.o.cells
    have qf := HF.out.i.o.free
    go_wp2
    have X := HF.out.out
    refine bodyPost_ret (results_ct rfl _ _ (w.heap.size + 1) _ _ _ _ rfl X.1 Tryz.underlying29 rfl (by kernel_rfl)) rfl ?_
    exact ⟨_, _, _, _, rfl, X.2.1, X.2.2⟩
  have t1 : decide (1 < s.st) = false := decide_eq_false (by omega)
  by_cases h2 : s.fin = -1
  rotate_left
  · skip
    have hno : ¬ canW (decide (okSn s)) s := fun h => h2 h.2.2
    rw [show wrS (decide (okSn s)) s d = s from if_neg hno, show wrNS (decide (okSn s)) s d = 0 from if_neg hno]
    rw [decide_eq_true hok] at HIS
    have t2 : (s.fin != -1) = true := by simpa using h2
    clear hno HWR HAD hok h1 h2
    go_enter Tryz.func10, Tryz.ntmps10
    obtain ⟨a0, a1, a2, a3, a4, a5, a6, a7, a8, a9, a10, a11⟩ := HH.out.b.cells
    go_wp2_with fail
    refine (HCP.out _ HH.out.bl).mono ?_
    rintro e w3 ⟨u1, u2, u3, u4, rfl, ho, hb⟩
    have HF := LH (FrS.start (HH.out.next hb) (ho.weaken HH.out.sz))
    obtain ⟨B1, B2, B3, B4, d1, d2, d3, d4, rfl, rfl, rfl, rfl, _, _, _, _⟩ := ho.frs
    clear ho hb a0 a1 a2 a3 a4 a5 a6 a7 a8 a9 a10 a11 HCP
    go_upto_region 2 with fail
    generalize w3.alloc (.cells (snB s (.slice B1 s.rn.cs.length d1) (.slice B2 s.pe.length d2) (.slice B3 s.fl.length d3) (.slice B4 s.ac.length d4)) 29) = w4 at *
    generalize w3.heap.size = gx at *
    obtain ⟨a0, a1, a2, a3, a4, a5, a6, a7, a8, a9, a10, a11⟩ := HF.out.i.b.cells
    go_wp2_with fail
    refine (HIS.out _ HF.out.i.bl).mono ?_
    rintro e w5 ⟨rfl, hb5⟩
    have HF := LH (HF.out.next hb5)
    clear hb5 a0 a1 a2 a3 a4 a5 a6 a7 a8 a9 a10 a11 HIS
    obtain ⟨a0, a1, a2, a3, a4, a5, a6, a7, a8, a9, a10, a11⟩ := HF.out.i.b.cells
    obtain ⟨x0, x1, x2, x3, x4, x5, x6, x7, x8, x9, x10, x11⟩ := HF.out.b.cells
    (try simp only at x0 x1 x2 x3 x4 x5 x6 x7 x8 x9 x10 x11)
    obtain ⟨q0, q1, q2, q3, q4, q5, q6, q7, q8, q9, q10, q11⟩ := HF.out.i.o.cells
    have qf := HF.out.i.o.free
    go_wp2
    have X := HF.out.out
    refine bodyPost_ret (results_ct rfl _ _ (w.heap.size + 1) _ _ _ _ rfl X.1 Tryz.underlying29 rfl (by kernel_rfl)) rfl ?_
    exact ⟨_, _, _, _, rfl, X.2.1, X.2.2⟩
  have t2 : (s.fin != -1) = false := by simpa using h2
  have hyes : canW (decide (okSn s)) s := ⟨decide_eq_true hok, h1, h2⟩
  rw [show wrS (decide (okSn s)) s d = { s with rn := wrR s.rn d, pe := if 0 < cntW s.rn d then addL s.pe (s.rn.en, s.rn.en + cntW s.rn d) else s.pe } from if_pos hyes, show wrNS (decide (okSn s)) s d = cntW s.rn d from if_pos hyes]
  rw [decide_eq_true hok] at HIS
  have HEN : Hid ((wrR s.rn d).en = s.rn.en + (cntW s.rn d : Int)) := LH rfl
  clear hyes
  generalize cntW s.rn d = n at *
  generalize wrR s.rn d = R at *
  clear hok h1 h2
  go_enter Tryz.func10, Tryz.ntmps10
  obtain ⟨a0, a1, a2, a3, a4, a5, a6, a7, a8, a9, a10, a11⟩ := HH.out.b.cells
  go_wp2_with fail
  refine (HCP.out _ HH.out.bl).mono ?_
  rintro e w3 ⟨u1, u2, u3, u4, rfl, ho, hb⟩
  have HF := LH (FrS.start (HH.out.next hb) (ho.weaken HH.out.sz))
  obtain ⟨B1, B2, B3, B4, d1, d2, d3, d4, rfl, rfl, rfl, rfl, _, _, _, _⟩ := ho.frs
  clear ho hb a0 a1 a2 a3 a4 a5 a6 a7 a8 a9 a10 a11 HCP
  go_upto_region 2 with fail
  generalize w3.alloc (.cells (snB s (.slice B1 s.rn.cs.length d1) (.slice B2 s.pe.length d2) (.slice B3 s.fl.length d3) (.slice B4 s.ac.length d4)) 29) = w4 at *
  generalize w3.heap.size = gx at *
  obtain ⟨a0, a1, a2, a3, a4, a5, a6, a7, a8, a9, a10, a11⟩ := HF.out.i.b.cells
  go_wp2_with fail
  refine (HIS.out _ HF.out.i.bl).mono ?_
  rintro e w5 ⟨rfl, hb5⟩
  have HF := LH (HF.out.next hb5)
  clear hb5 a0 a1 a2 a3 a4 a5 a6 a7 a8 a9 a10 a11 HIS
  obtain ⟨a0, a1, a2, a3, a4, a5, a6, a7, a8, a9, a10, a11⟩ := HF.out.i.b.cells
  go_wp2_with fail
  refine (HWR.out _ HF.out.i.bl).mono ?_
  rintro e w6 ⟨vr, rfl, hor, hb6⟩
  have HGX : Hid (gx < w5.heap.size) := LH HF.out.b.lt
  have HUN := LH HF.out.own.under
  have HSZ := LH HF.out.i.sz
  have HF := LH (HF.out.next hb6)
  obtain ⟨B9, d9, rfl, _, _⟩ := hor.frs
  have HRL := LH hor.lo
  have HOR := LH (hor.weaken HSZ.out)
  clear hb6 HWR a0 a1 a2 a3 a4 a5 a6 a7 a8 a9 a10 a11
  go_upto_region 5 with fail
  have HN := LH (BoxN.new w6 R.size R.base R.en (.slice B9 R.cs.length d9))
  have HGR : Hid (gx < w6.heap.size) := LH HF.out.b.lt
  have HF := LH (HF.out.alloc (.cells (rnC R.size R.base R.en (.slice B9 R.cs.length d9)) 26))
  have HOR := LH (HOR.out.alloc (.cells (rnC R.size R.base R.en (.slice B9 R.cs.length d9)) 26))
  generalize w6.alloc (.cells (rnC R.size R.base R.en (.slice B9 R.cs.length d9)) 26) = w7 at *
  generalize w6.heap.size = gr at *
  have HVX : Hid ((Value.slice B9 R.cs.length d9).ownBlock ≠ some gx) := LH (fun h => by have := HRL.out _ h; have := HGX.out; omega)
  by_cases h0 : 0 < n
  · skip
    have t0 : decide (0 < (n : Int)) = true := decide_eq_true (by omega)
    have H0 := LH h0
    clear h0
    obtain ⟨a0, a1, a2, a3, a4, a5, a6, a7, a8, a9, a10, a11⟩ := HF.out.i.b.cells
    obtain ⟨y0, y1, y2, y3⟩ := HN.out.cells
    go_wp2_with fail
    refine (HAD.out _ (s.rn.en, R.en) HF.out.i.bl).mono ?_
    rintro e w8 ⟨vp, rfl, hop, hb8⟩
    obtain ⟨C9, e9, rfl, _, _⟩ := hop.p.frs
    have HRU : Hid (∀ k, (Value.slice B9 R.cs.length d9).ownBlock = some k → k < w7.heap.size) := LH (fun k hk => (HOR.out.lt k hk).2)
    have HPL := LH hop.p.lo
    have HF9 := LH (HF.out.putP hb8 hop.p)
    have HF8 := LH (HF.out.next hb8)
    have HN := LH ((HN.out.below hb8 HN.out.lt).other gx 5 (.slice C9 (addL s.pe (s.rn.en, R.en)).length e9) (by have := HGR.out; omega))
    have HOR := LH ((HOR.out.later hb8).put gx 5 (.slice C9 (addL s.pe (s.rn.en, R.en)).length e9) HVX.out)
    clear hop hb8 HAD t0 a0 a1 a2 a3 a4 a5 a6 a7 a8 a9 a10 a11 y0 y1 y2 y3 HF
    have xf := HF8.out.b.free
    obtain ⟨x0, x1, x2, x3, x4, x5, x6, x7, x8, x9, x10, x11⟩ := HF8.out.b.cells
    go_upto_region 7 with fail
    clear xf x0 x1 x2 x3 x4 x5 x6 x7 x8 x9 x10 x11 HF8
    generalize w8.setCell ⟨gx, 5, none⟩ (.slice C9 (addL s.pe (s.rn.en, R.en)).length e9) = w9 at *
    have HF := HF9
    have xf := HF.out.b.free
    obtain ⟨y0, y1, y2, y3⟩ := HN.out.cells
    obtain ⟨x0, x1, x2, x3, x4, x5, x6, x7, x8, x9, x10, x11⟩ := HF.out.b.cells
    (try simp only at x0 x1 x2 x3 x4 x5 x6 x7 x8 x9 x10 x11)
    go_upto_region 8 with fail
    have HF := LH (HF.out.putR (r := R) HOR.out HVX.out (apart_new HRU.out HPL.out) ((apart_new HUN.out.2.2.1 HRL.out).symm) ((apart_new HUN.out.2.2.2 HRL.out).symm))
    clear xf y0 y1 y2 y3 x0 x1 x2 x3 x4 x5 x6 x7 x8 x9 x10 x11
    generalize (((w9.setCell ⟨gx, 1, none⟩ (.int .i64 R.size)).setCell ⟨gx, 2, none⟩ (.int .i64 R.base)).setCell ⟨gx, 3, none⟩ (.int .i64 R.en)).setCell ⟨gx, 4, none⟩ (.slice B9 R.cs.length d9) = w10 at *
    obtain ⟨x0, x1, x2, x3, x4, x5, x6, x7, x8, x9, x10, x11⟩ := HF.out.b.cells
    (try simp only at x0 x1 x2 x3 x4 x5 x6 x7 x8 x9 x10 x11)
    obtain ⟨q0, q1, q2, q3, q4, q5, q6, q7, q8, q9, q10, q11⟩ := HF.out.i.o.cells
    have qf := HF.out.i.o.free
    go_wp2
    have X := HF.out.out
    refine bodyPost_ret (results_ct rfl _ _ (w.heap.size + 1) _ _ _ _ rfl X.1 Tryz.underlying29 rfl (by kernel_rfl)) rfl ?_
    (try rw [if_pos H0.out])
    rw [← HEN.out]
    exact ⟨_, _, _, _, rfl, X.2.1, X.2.2⟩
  · skip
    have t0 : decide (0 < (n : Int)) = false := decide_eq_false (by omega)
    have H0 := LH h0
    clear h0 HAD
    have xf := HF.out.b.free
    obtain ⟨y0, y1, y2, y3⟩ := HN.out.cells
    obtain ⟨x0, x1, x2, x3, x4, x5, x6, x7, x8, x9, x10, x11⟩ := HF.out.b.cells
    (try simp only at x0 x1 x2 x3 x4 x5 x6 x7 x8 x9 x10 x11)
    go_upto_region 8 with fail
    have HF := LH (HF.out.putR (r := R) HOR.out HVX.out ((apart_new HUN.out.2.1 HRL.out).symm) ((apart_new HUN.out.2.2.1 HRL.out).symm) ((apart_new HUN.out.2.2.2 HRL.out).symm))
    clear xf y0 y1 y2 y3 x0 x1 x2 x3 x4 x5 x6 x7 x8 x9 x10 x11
    generalize (((w7.setCell ⟨gx, 1, none⟩ (.int .i64 R.size)).setCell ⟨gx, 2, none⟩ (.int .i64 R.base)).setCell ⟨gx, 3, none⟩ (.int .i64 R.en)).setCell ⟨gx, 4, none⟩ (.slice B9 R.cs.length d9) = w10 at *
    obtain ⟨x0, x1, x2, x3, x4, x5, x6, x7, x8, x9, x10, x11⟩ := HF.out.b.cells
    (try simp only at x0 x1 x2 x3 x4 x5 x6 x7 x8 x9 x10 x11)
    obtain ⟨q0, q1, q2, q3, q4, q5, q6, q7, q8, q9, q10, q11⟩ := HF.out.i.o.cells
    have qf := HF.out.i.o.free
    go_wp2
    have X := HF.out.out
    refine bodyPost_ret (results_ct rfl _ _ (w.heap.size + 1) _ _ _ _ rfl X.1 Tryz.underlying29 rfl (by kernel_rfl)) rfl ?_
    (try rw [if_neg H0.out])
    exact ⟨_, _, _, _, rfl, X.2.1, X.2.2⟩
end Go.Proofs.YtdaoaedkjoknmaaGreat
