/-
  Contracts and lemmas for the law on draining.
-/
import Derived.Test.YtdaoaedkjoknmaaGreatDrZ0
import Derived.Test.YtdaoaedkjoknmaaGreatDrZ3
import Derived.Test.YtdaoaedkjoknmaaGreatDrZ1
import Derived.Deep.QuietTactic
import Derived.BigQuiet
import Derived.Deep.RegionHeld3
import Derived.Deep.RegionLaw
import Derived.OwnWalk
import Derived.Deep.DeepCutAuto
import Derived.Deep.CutBlock
import Derived.RegionTactic
import Derived.Laws.OwnMore
import Derived.Test.YtdaoaedkjoknmaaGreatDrZ4
import Derived.Laws.Cover3
import Derived.Laws.CopyRow
import Derived.Laws.CopyOwn
import Derived.Test.YtdaoaedkjoknmaaGreatDrZ2
import Derived.Test.YtdaoaedkjoknmaaGreatDrZ5
set_option maxRecDepth 1000000
set_option maxHeartbeats 8000000
namespace Go.Proofs.YtdaoaedkjoknmaaGreat
open Go.RowKit Go.Deep Go.Proofs.YtdaoaedkjoknmaaGreat.Num

namespace Num
instance decHasR (l : List Rg) (n : Int) : Decidable (hasR l n) :=
  decidable_of_iff (l.any (fun x => decide (x.1 ≤ n) && decide (n < x.2)) = true) (by simp [hasR, List.any_eq_true])
theorem cntR_step (l : List Rg) (j : Nat) (h : j < l.length) : cntR (l.take (j + 1)) = cntR (l.take j) + (l[j].2 - l[j].1) := by
  rw [List.take_succ_eq_append_getElem h, cntR_append]
  simp [cntR]
theorem gapR_append (a b : List Rg) : ∀ n, gapR (a ++ b) n = gapR b (gapR a n) := by
  induction a with
  | nil => intro n; rfl
  | cons x a ih => intro n; exact ih _
theorem gapR_step (l : List Rg) (j : Nat) (h : j < l.length) (n : Int) : gapR (l.take (j + 1)) n = if l[j].1 ≤ gapR (l.take j) n ∧ gapR (l.take j) n < l[j].2 then l[j].2 else gapR (l.take j) n := by
  rw [List.take_succ_eq_append_getElem h, gapR_append]
  rfl
theorem okR.take {l : List Rg} {p : Int} (h : okR p l) (j : Nat) : okR p (l.take j) := by
  rw [← List.take_append_drop j l] at h
  exact h.prefix
end Num
theorem belowR_drewN {B : Nat} {a w : World} (h : Below B a w) (n : Nat) : Below B a (w.drewN n) := ⟨h.os, h.tape, h.output, h.size, h.block⟩

def RCell (w : World) (b o : Nat) (x : Rg) : Prop := w.cell? ⟨b, o, none⟩ = some (.int .i64 x.1) ∧ w.cell? ⟨b, o + 1, none⟩ = some (.int .i64 x.2)
theorem RCell.below {w w' : World} {K b o : Nat} {x : Rg} (h : RCell w b o x) (hb : Below K w w') (hk : b < K) : RCell w' b o x := ⟨(hb.cell hk).trans h.1, (hb.cell hk).trans h.2⟩
theorem RCell.box (w : World) (x : Rg) (t : TypeId) : RCell (w.alloc (.cells #[.int .i64 x.1, .int .i64 x.2] t)) w.heap.size 0 x := ⟨by rw [World.cell?_alloc_at _ _ _ _ rfl]; rfl, by rw [World.cell?_alloc_at _ _ _ _ rfl]; rfl⟩

theorem own_weaken {w : World} {base base' : Nat} {v : Value} {l : List Rg} (h : OwnR w base v l) (hb : base' ≤ base) : OwnR w base' v l := by
  obtain ⟨h0, h⟩ := h
  refine ⟨h0, ?_⟩
  rcases h with h | ⟨g, cap, cur, h1, h2, h3⟩
  · exact .inl h
  · exact .inr ⟨g, cap, cur, h1, by omega, h3⟩


def MidP (w : World) (base g off : Nat) (l : List Rg) : Prop := base ≤ g ∧ ∃ (cs : Array Value) (t : TypeId), w.heap[g]? = some (.cells cs t (0, 0)) ∧ ∀ j (hj : j < l.length), cs[off + j * 2]? = some (.int .i64 l[j].1) ∧ cs[off + j * 2 + 1]? = some (.int .i64 l[j].2)
theorem MidP.ge {w : World} {base g off : Nat} {l : List Rg} (h : MidP w base g off l) : base ≤ g ∧ g < w.heap.size := by
  obtain ⟨h1, cs, t, h2, _⟩ := h
  exact ⟨h1, (Array.getElem?_eq_some_iff.1 h2).1⟩
theorem MidP.cell {w : World} {base g off : Nat} {l : List Rg} (h : MidP w base g off l) (j : Nat) (hj : j < l.length) : w.cell? ⟨g, off + j * 2, none⟩ = some (.int .i64 l[j].1) ∧ w.cell? ⟨g, off + j * 2 + 1, none⟩ = some (.int .i64 l[j].2) := by
  obtain ⟨_, cs, t, h2, h3⟩ := h
  exact ⟨(cell_of_row w g (off + j * 2) _ _ _ h2).trans (h3 j hj).1, (cell_of_row w g (off + j * 2 + 1) _ _ _ h2).trans (h3 j hj).2⟩
theorem MidP.rgs {w : World} {base g off : Nat} {l : List Rg} (h : MidP w base g off l) : Rgs w w.heap.size (some ⟨g, off, none⟩) l := fun j hj => ⟨g, off, rfl, h.ge.2, (h.cell j hj).1, (h.cell j hj).2⟩
theorem MidP.kept {w w' : World} {base g off : Nat} {l : List Rg} {ob : Option Nat} (h : MidP w base g off l) (hg : w.grownBy w' ob) (hne : some g ≠ ob) : MidP w' base g off l := by
  have h0 := h.ge.2
  obtain ⟨h1, cs, t, h2, h3⟩ := h
  exact ⟨h1, cs, t, (hg.block g h0 hne).trans h2, h3⟩
def OwnP (w : World) (base : Nat) (v : Value) (l : List Rg) : Prop := (v = .slice none 0 0 ∧ l = []) ∨ ∃ g off cap, v = .slice (some ⟨g, off, none⟩) l.length cap ∧ l.length ≤ cap ∧ MidP w base g off l
theorem OwnP.empty {w : World} {base : Nat} : OwnP w base (.slice none 0 0) [] := .inl ⟨rfl, rfl⟩
theorem OwnR.p {w : World} {base : Nat} {v : Value} {l : List Rg} (h : OwnR w base v l) : OwnP w base v l := by
  obtain ⟨_, h⟩ := h
  rcases h with ⟨rfl, hz⟩ | ⟨g, cap, cur, rfl, hb, hg, hle, _, hc, ht⟩
  · exact .inl ⟨rfl, List.eq_nil_of_length_eq_zero hz⟩
  · refine .inr ⟨g, 0, cap, rfl, hle, hb, cur, _, hg, fun j hj => ?_⟩
    have h2 : ∀ i, i < l.length * 2 → cur[i]? = (valsR l)[i]? := fun i hi => by
      rw [← ht, List.getElem?_take_of_lt hi, Array.getElem?_toList]
    have h3 := valsR_at l j hj
    rw [Nat.zero_add]
    exact ⟨(h2 (j * 2) (by omega)).trans h3.1, (h2 (j * 2 + 1) (by omega)).trans h3.2⟩
theorem OwnP.frs {w : World} {base : Nat} {v : Value} {l : List Rg} (h : OwnP w base v l) : ∃ A cap, v = .slice A l.length cap ∧ l.length ≤ cap ∧ Rgs w w.heap.size A l := by
  rcases h with ⟨rfl, rfl⟩ | ⟨g, off, cap, rfl, hle, h⟩
  · exact ⟨none, 0, rfl, Nat.le_refl _, Rgs.nil⟩
  · exact ⟨_, cap, rfl, hle, h.rgs⟩
theorem OwnP.rgs {w : World} {base : Nat} {A : Option Addr} {cap : Nat} {l : List Rg} (h : OwnP w base (.slice A l.length cap) l) : Rgs w w.heap.size A l := by
  obtain ⟨A', cap', e, _, hc⟩ := h.frs
  injection e with e1 _ _
  subst e1
  exact hc
theorem OwnP.lt {w : World} {base : Nat} {v : Value} {l : List Rg} (h : OwnP w base v l) : ∀ k, v.ownBlock = some k → base ≤ k ∧ k < w.heap.size := by
  rcases h with ⟨rfl, rfl⟩ | ⟨g, off, cap, rfl, hle, h⟩
  · intro k hk; cases hk
  · intro k hk
    injection hk with hk
    subst hk
    exact h.ge
theorem OwnP.kept {w w' : World} {base : Nat} {v : Value} {l : List Rg} {ob : Option Nat} (h : OwnP w base v l) (hg : w.grownBy w' ob) (hne : v.ownBlock = none ∨ v.ownBlock ≠ ob) : OwnP w' base v l := by
  rcases h with h | ⟨g, off, cap, rfl, hle, h⟩
  · exact .inl h
  · exact .inr ⟨g, off, cap, rfl, hle, h.kept hg (hne.resolve_left fun e => by cases e)⟩
theorem OwnP.later {w w' : World} {base : Nat} {v : Value} {l : List Rg} (h : OwnP w base v l) (hb : Below w.heap.size w w') : OwnP w' base v l :=
  h.kept (intI_below hb) (by
    cases v.ownBlock with
    | none => exact .inl rfl
    | some k => exact .inr (by simp))
theorem OwnP.weaken {w : World} {base base' : Nat} {v : Value} {l : List Rg} (h : OwnP w base v l) (hb : base' ≤ base) : OwnP w base' v l := by
  rcases h with h | ⟨g, off, cap, rfl, hle, h1, h2⟩
  · exact .inl h
  · exact .inr ⟨g, off, cap, rfl, hle, by omega, h2⟩
theorem OwnP.apart {W : World} {base : Nat} {v : Value} {l : List Rg} (h : OwnP W base v l) (g k : Nat) (y : Value) (hg : g < base) : OwnP (W.setCell ⟨g, k, none⟩ y) base v l := by
  refine h.kept (only_setI W g k y) ?_
  cases hv : v.ownBlock with
  | none => exact .inl rfl
  | some q => exact .inr (fun e => by have := (h.lt q hv).1; injection e; omega)


abbrev snV (s : Sn) (v1 v2 v3 v4 : Value) : Value := .agg #[.int .i64 s.st, .int .i64 s.rn.size, .int .i64 s.rn.base, .int .i64 s.rn.en, v1, v2, v3, v4, .int .i64 s.fin, .int .i64 s.fi, .int .i64 s.sent, .int .i64 s.code]
abbrev snC (st sz b e : Int) (v1 v2 v3 v4 : Value) (fin fi sent code : Int) : Array Value := #[.int .i64 st, .int .i64 sz, .int .i64 b, .int .i64 e, v1, v2, v3, v4, .int .i64 fin, .int .i64 fi, .int .i64 sent, .int .i64 code]
def Cell12 (w : World) (g : Nat) (st sz b e : Int) (v1 v2 v3 v4 : Value) (fin fi sent code : Int) : Prop :=
  w.cell? ⟨g, 0, none⟩ = some (.int .i64 st) ∧ w.cell? ⟨g, 1, none⟩ = some (.int .i64 sz) ∧ w.cell? ⟨g, 2, none⟩ = some (.int .i64 b) ∧ w.cell? ⟨g, 3, none⟩ = some (.int .i64 e) ∧
  w.cell? ⟨g, 4, none⟩ = some v1 ∧ w.cell? ⟨g, 5, none⟩ = some v2 ∧ w.cell? ⟨g, 6, none⟩ = some v3 ∧ w.cell? ⟨g, 7, none⟩ = some v4 ∧
  w.cell? ⟨g, 8, none⟩ = some (.int .i64 fin) ∧ w.cell? ⟨g, 9, none⟩ = some (.int .i64 fi) ∧ w.cell? ⟨g, 10, none⟩ = some (.int .i64 sent) ∧ w.cell? ⟨g, 11, none⟩ = some (.int .i64 code)
theorem Cell12.below {w w' : World} {K g : Nat} {st sz b e : Int} {v1 v2 v3 v4 : Value} {fin fi sent code : Int} (x : Cell12 w g st sz b e v1 v2 v3 v4 fin fi sent code) (hb : Below K w w') (hg : g < K) : Cell12 w' g st sz b e v1 v2 v3 v4 fin fi sent code := by
  obtain ⟨x0, x1, x2, x3, x4, x5, x6, x7, x8, x9, x10, x11⟩ := x
  have q : ∀ k, w'.cell? ⟨g, k, none⟩ = w.cell? ⟨g, k, none⟩ := fun k => hb.cell (p := ⟨g, k, none⟩) hg
  exact ⟨(q 0).trans x0, (q 1).trans x1, (q 2).trans x2, (q 3).trans x3, (q 4).trans x4, (q 5).trans x5, (q 6).trans x6, (q 7).trans x7, (q 8).trans x8, (q 9).trans x9, (q 10).trans x10, (q 11).trans x11⟩
theorem Cell12.of {w w' : World} {g : Nat} {st sz b e : Int} {v1 v2 v3 v4 : Value} {fin fi sent code : Int} (x : Cell12 w g st sz b e v1 v2 v3 v4 fin fi sent code) (h : w'.heap[g]? = w.heap[g]?) : Cell12 w' g st sz b e v1 v2 v3 v4 fin fi sent code := by
  obtain ⟨x0, x1, x2, x3, x4, x5, x6, x7, x8, x9, x10, x11⟩ := x
  have q : ∀ k, w'.cell? ⟨g, k, none⟩ = w.cell? ⟨g, k, none⟩ := fun k => World.cell?_of_block (w := w) h
  exact ⟨(q 0).trans x0, (q 1).trans x1, (q 2).trans x2, (q 3).trans x3, (q 4).trans x4, (q 5).trans x5, (q 6).trans x6, (q 7).trans x7, (q 8).trans x8, (q 9).trans x9, (q 10).trans x10, (q 11).trans x11⟩
theorem Cell12.new (w : World) (st sz b e : Int) (v1 v2 v3 v4 : Value) (fin fi sent code : Int) (t : TypeId) : Cell12 (w.alloc (.cells (snC st sz b e v1 v2 v3 v4 fin fi sent code) t)) w.heap.size st sz b e v1 v2 v3 v4 fin fi sent code := by
  refine ⟨?_, ?_, ?_, ?_, ?_, ?_, ?_, ?_, ?_, ?_, ?_, ?_⟩ <;> (rw [World.cell?_alloc_at _ _ _ _ rfl]; rfl)
abbrev CellS (w : World) (g : Nat) (s : Sn) (v1 v2 v3 v4 : Value) : Prop := Cell12 w g s.st s.rn.size s.rn.base s.rn.en v1 v2 v3 v4 s.fin s.fi s.sent s.code
abbrev snB (s : Sn) (v1 v2 v3 v4 : Value) : Array Value := snC s.st s.rn.size s.rn.base s.rn.en v1 v2 v3 v4 s.fin s.fi s.sent s.code
def Apart (v v' : Value) : Prop := v.ownBlock = none ∨ v.ownBlock ≠ v'.ownBlock
theorem Apart.symm {v v' : Value} (h : Apart v v') : Apart v' v := by
  rcases h with h | h
  · cases hv : v'.ownBlock with
    | none => exact .inl hv
    | some k => exact .inr (by rw [h, hv]; intro e; cases e)
  · exact .inr fun e => h e.symm
def ReadS (w : World) (B : Nat) (A1 A2 A3 A4 : Option Addr) (s : Sn) : Prop := Ints w B A1 s.rn.cs ∧ Rgs w B A2 s.pe ∧ Rgs w B A3 s.fl ∧ Rgs w B A4 s.ac
theorem ReadS.below {w w' : World} {B K : Nat} {A1 A2 A3 A4 : Option Addr} {s : Sn} (h : ReadS w B A1 A2 A3 A4 s) (hK : B ≤ K) (hb : Below K w w') : ReadS w' B A1 A2 A3 A4 s :=
  ⟨h.1.below hK hb, h.2.1.below hK hb, h.2.2.1.below hK hb, h.2.2.2.below hK hb⟩
theorem ReadS.up {w : World} {B B' : Nat} {A1 A2 A3 A4 : Option Addr} {s : Sn} (h : ReadS w B A1 A2 A3 A4 s) (hB : B ≤ B') : ReadS w B' A1 A2 A3 A4 s :=
  ⟨h.1.up hB, h.2.1.up hB, h.2.2.1.up hB, h.2.2.2.up hB⟩
def OwnS (w : World) (B : Nat) (v1 v2 v3 v4 : Value) (l1 : List Int) (l2 l3 l4 : List Rg) : Prop :=
  (OwnK w B v1 l1 ∧ OwnP w B v2 l2 ∧ OwnP w B v3 l3 ∧ OwnP w B v4 l4) ∧ (Apart v1 v2 ∧ Apart v1 v3 ∧ Apart v1 v4) ∧ (Apart v2 v3 ∧ Apart v2 v4) ∧ Apart v3 v4
abbrev OwnSn (w : World) (B : Nat) (v1 v2 v3 v4 : Value) (s : Sn) : Prop := OwnS w B v1 v2 v3 v4 s.rn.cs s.pe s.fl s.ac
theorem OwnS.later {w w' : World} {B : Nat} {v1 v2 v3 v4 : Value} {l1 : List Int} {l2 l3 l4 : List Rg} (h : OwnS w B v1 v2 v3 v4 l1 l2 l3 l4) (hb : Below w.heap.size w w') : OwnS w' B v1 v2 v3 v4 l1 l2 l3 l4 :=
  ⟨⟨h.1.1.later hb, h.1.2.1.later hb, h.1.2.2.1.later hb, h.1.2.2.2.later hb⟩, h.2⟩
theorem OwnS.alloc {w : World} {B : Nat} {v1 v2 v3 v4 : Value} {l1 : List Int} {l2 l3 l4 : List Rg} (h : OwnS w B v1 v2 v3 v4 l1 l2 l3 l4) (o : Obj) : OwnS (w.alloc o) B v1 v2 v3 v4 l1 l2 l3 l4 := h.later ((Below.refl _ _).alloc (Nat.le_refl _) _)
theorem OwnS.weaken {w : World} {B B' : Nat} {v1 v2 v3 v4 : Value} {l1 : List Int} {l2 l3 l4 : List Rg} (h : OwnS w B v1 v2 v3 v4 l1 l2 l3 l4) (hb : B' ≤ B) : OwnS w B' v1 v2 v3 v4 l1 l2 l3 l4 :=
  ⟨⟨h.1.1.weaken hb, h.1.2.1.weaken hb, h.1.2.2.1.weaken hb, h.1.2.2.2.weaken hb⟩, h.2⟩
theorem OwnS.apart {W : World} {B : Nat} {v1 v2 v3 v4 : Value} {l1 : List Int} {l2 l3 l4 : List Rg} (h : OwnS W B v1 v2 v3 v4 l1 l2 l3 l4) (g k : Nat) (y : Value) (hg : g < B) : OwnS (W.setCell ⟨g, k, none⟩ y) B v1 v2 v3 v4 l1 l2 l3 l4 :=
  ⟨⟨h.1.1.apart g k y hg, h.1.2.1.apart g k y hg, h.1.2.2.1.apart g k y hg, h.1.2.2.2.apart g k y hg⟩, h.2⟩
theorem OwnS.frs {w : World} {B : Nat} {v1 v2 v3 v4 : Value} {l1 : List Int} {l2 l3 l4 : List Rg} (h : OwnS w B v1 v2 v3 v4 l1 l2 l3 l4) :
    ∃ (A1 A2 A3 A4 : Option Addr) (c1 c2 c3 c4 : Nat), v1 = .slice A1 l1.length c1 ∧ v2 = .slice A2 l2.length c2 ∧ v3 = .slice A3 l3.length c3 ∧ v4 = .slice A4 l4.length c4 ∧ l1.length ≤ c1 ∧ l2.length ≤ c2 ∧ l3.length ≤ c3 ∧ l4.length ≤ c4 := by
  obtain ⟨A1, c1, e1, k1, _⟩ := h.1.1.frs
  obtain ⟨A2, c2, e2, k2, _⟩ := h.1.2.1.frs
  obtain ⟨A3, c3, e3, k3, _⟩ := h.1.2.2.1.frs
  obtain ⟨A4, c4, e4, k4, _⟩ := h.1.2.2.2.frs
  exact ⟨A1, A2, A3, A4, c1, c2, c3, c4, e1, e2, e3, e4, k1, k2, k3, k4⟩
theorem OwnS.read {w : World} {B : Nat} {A1 A2 A3 A4 : Option Addr} {c1 c2 c3 c4 : Nat} {s : Sn} (h : OwnSn w B (.slice A1 s.rn.cs.length c1) (.slice A2 s.pe.length c2) (.slice A3 s.fl.length c3) (.slice A4 s.ac.length c4) s) : ReadS w w.heap.size A1 A2 A3 A4 s :=
  ⟨h.1.1.chs, h.1.2.1.rgs, h.1.2.2.1.rgs, h.1.2.2.2.rgs⟩
def Under (g : Nat) (v1 v2 v3 v4 : Value) : Prop := (∀ k, v1.ownBlock = some k → k < g) ∧ (∀ k, v2.ownBlock = some k → k < g) ∧ (∀ k, v3.ownBlock = some k → k < g) ∧ ∀ k, v4.ownBlock = some k → k < g
theorem OwnS.under {w : World} {B : Nat} {v1 v2 v3 v4 : Value} {l1 : List Int} {l2 l3 l4 : List Rg} (h : OwnS w B v1 v2 v3 v4 l1 l2 l3 l4) : Under w.heap.size v1 v2 v3 v4 :=
  ⟨fun k hk => (h.1.1.lt k hk).2, fun k hk => (h.1.2.1.lt k hk).2, fun k hk => (h.1.2.2.1.lt k hk).2, fun k hk => (h.1.2.2.2.lt k hk).2⟩
def VarSM (W : World) (B g : Nat) (s : Sn) (v1 v2 v3 v4 : Value) (l1 : List Int) (l2 l3 l4 : List Rg) : Prop :=
  CellS W g s v1 v2 v3 v4 ∧ OwnS W B v1 v2 v3 v4 l1 l2 l3 l4 ∧ Under g v1 v2 v3 v4 ∧ B ≤ g ∧ g < W.heap.size
abbrev VarS (W : World) (B g : Nat) (s : Sn) (v1 v2 v3 v4 : Value) : Prop := VarSM W B g s v1 v2 v3 v4 s.rn.cs s.pe s.fl s.ac
def Within (B g : Nat) (w w' : World) : Prop := w'.os = w.os ∧ w'.tape = w.tape ∧ w'.output = w.output ∧ w.heap.size ≤ w'.heap.size ∧ ∀ k, k < w.heap.size → k < B ∨ g ≤ k → w'.heap[k]? = w.heap[k]?
def InSn (w0 : World) (g : Nat) (s : Sn) (A1 A2 A3 A4 : Option Addr) (c1 c2 c3 c4 : Nat) (W : World) : Prop :=
  CellS W g s (.slice A1 s.rn.cs.length c1) (.slice A2 s.pe.length c2) (.slice A3 s.fl.length c3) (.slice A4 s.ac.length c4) ∧ ReadS W g A1 A2 A3 A4 s ∧ g < W.heap.size ∧ Below g w0 W
theorem InSn.start (w : World) (s : Sn) (A1 A2 A3 A4 : Option Addr) (c1 c2 c3 c4 : Nat) (t : TypeId) (hr : ReadS w w.heap.size A1 A2 A3 A4 s) :
    InSn w w.heap.size s A1 A2 A3 A4 c1 c2 c3 c4 (w.alloc (.cells (snB s (.slice A1 s.rn.cs.length c1) (.slice A2 s.pe.length c2) (.slice A3 s.fl.length c3) (.slice A4 s.ac.length c4)) t)) :=
  ⟨Cell12.new w _ _ _ _ _ _ _ _ _ _ _ _ t, hr.below (Nat.le_refl _) ((Below.refl _ _).alloc (Nat.le_refl _) _), by simp, (Below.refl _ _).alloc (Nat.le_refl _) _⟩
theorem InSn.next {w0 : World} {g : Nat} {s : Sn} {A1 A2 A3 A4 : Option Addr} {c1 c2 c3 c4 : Nat} {W W' : World} (h : InSn w0 g s A1 A2 A3 A4 c1 c2 c3 c4 W) (hb : Below W.heap.size W W') : InSn w0 g s A1 A2 A3 A4 c1 c2 c3 c4 W' :=
  ⟨h.1.below hb h.2.2.1, h.2.1.below (Nat.le_of_lt h.2.2.1) hb, Nat.lt_of_lt_of_le h.2.2.1 hb.size, h.2.2.2.trans (hb.mono (Nat.le_of_lt h.2.2.1))⟩
theorem InSn.drew {w0 : World} {g : Nat} {s : Sn} {A1 A2 A3 A4 : Option Addr} {c1 c2 c3 c4 : Nat} {W : World} (h : InSn w0 g s A1 A2 A3 A4 c1 c2 c3 c4 W) : InSn w0 g s A1 A2 A3 A4 c1 c2 c3 c4 W.drew := h.next (Below.refl _ _).drew

def LenS (n : Nat) (s : Sn) : Prop := s.rn.cs.length ≤ n ∧ s.pe.length ≤ n ∧ s.fl.length ≤ n ∧ s.ac.length ≤ n
theorem LenS.up {n m : Nat} {s : Sn} (h : LenS n s) (hn : n ≤ m) : LenS m s := by unfold LenS at *; omega
abbrev pcV (p : Pc) : Value := .agg #[.int .i64 p.off, .string p.data, .bool p.fin]
theorem row_put {w : World} {g : Nat} {cs : Array Value} {t : TypeId} (x : w.heap[g]? = some (.cells cs t (0, 0))) (k : Nat) (v : Value) : (w.setCell ⟨g, k, none⟩ v).heap[g]? = some (.cells (cs.setIfInBounds k v) t (0, 0)) := by
  simp [World.setCell, Array.getElem?_modify, x]
def RowS (w : World) (g : Nat) (s : Sn) (v1 v2 v3 v4 : Value) : Prop := w.heap[g]? = some (.cells (snB s v1 v2 v3 v4) 29 (0, 0))
def zeroS : Sn := ⟨0, ⟨0, 0, 0, []⟩, [], [], [], 0, 0, 0, 0⟩
theorem RowS.cells {w : World} {g : Nat} {s : Sn} {v1 v2 v3 v4 : Value} (x : RowS w g s v1 v2 v3 v4) : CellS w g s v1 v2 v3 v4 :=
  ⟨cell_of_row w g 0 _ _ _ x, cell_of_row w g 1 _ _ _ x, cell_of_row w g 2 _ _ _ x, cell_of_row w g 3 _ _ _ x, cell_of_row w g 4 _ _ _ x, cell_of_row w g 5 _ _ _ x, cell_of_row w g 6 _ _ _ x, cell_of_row w g 7 _ _ _ x, cell_of_row w g 8 _ _ _ x, cell_of_row w g 9 _ _ _ x, cell_of_row w g 10 _ _ _ x, cell_of_row w g 11 _ _ _ x⟩
theorem RowS.free {w : World} {g : Nat} {s : Sn} {v1 v2 v3 v4 : Value} (x : RowS w g s v1 v2 v3 v4) (k : Nat) : w.frozen? ⟨g, k, none⟩ = false := by
  unfold RowS at x
  simp [World.frozen?, x]
theorem RowS.new (w : World) (s : Sn) (v1 v2 v3 v4 : Value) : RowS (w.alloc (.cells (snB s v1 v2 v3 v4) 29)) w.heap.size s v1 v2 v3 v4 := heap_alloc_new w _
theorem RowS.lt {w : World} {g : Nat} {s : Sn} {v1 v2 v3 v4 : Value} (x : RowS w g s v1 v2 v3 v4) : g < w.heap.size := (Array.getElem?_eq_some_iff.1 x).1
theorem RowS.below {w w' : World} {g K : Nat} {s : Sn} {v1 v2 v3 v4 : Value} (x : RowS w g s v1 v2 v3 v4) (hb : Below K w w') (hg : g < K) : RowS w' g s v1 v2 v3 v4 := (hb.block g hg).trans x
theorem RowS.alloc {w : World} {g : Nat} {s : Sn} {v1 v2 v3 v4 : Value} (x : RowS w g s v1 v2 v3 v4) (o : Obj) : RowS (w.alloc o) g s v1 v2 v3 v4 := (heap_alloc_old w o x.lt).trans x
theorem RowS.other {w : World} {g : Nat} {s : Sn} {v1 v2 v3 v4 : Value} (x : RowS w g s v1 v2 v3 v4) (g' k : Nat) (u : Value) (hg : g ≠ g') : RowS (w.setCell ⟨g', k, none⟩ u) g s v1 v2 v3 v4 := (Below.heap_setCell w ⟨g', k, none⟩ u g hg).trans x
theorem RowS.set0 {w : World} {g : Nat} {s : Sn} {v1 v2 v3 v4 : Value} (x : RowS w g s v1 v2 v3 v4) (y : Int) : RowS (w.setCell ⟨g, 0, none⟩ (.int .i64 y)) g { s with st := y } v1 v2 v3 v4 := row_put x 0 _
theorem RowS.set1 {w : World} {g : Nat} {s : Sn} {v1 v2 v3 v4 : Value} (x : RowS w g s v1 v2 v3 v4) (y : Int) : RowS (w.setCell ⟨g, 1, none⟩ (.int .i64 y)) g { s with rn := { s.rn with size := y } } v1 v2 v3 v4 := row_put x 1 _
theorem RowS.set2 {w : World} {g : Nat} {s : Sn} {v1 v2 v3 v4 : Value} (x : RowS w g s v1 v2 v3 v4) (y : Int) : RowS (w.setCell ⟨g, 2, none⟩ (.int .i64 y)) g { s with rn := { s.rn with base := y } } v1 v2 v3 v4 := row_put x 2 _
theorem RowS.set3 {w : World} {g : Nat} {s : Sn} {v1 v2 v3 v4 : Value} (x : RowS w g s v1 v2 v3 v4) (y : Int) : RowS (w.setCell ⟨g, 3, none⟩ (.int .i64 y)) g { s with rn := { s.rn with en := y } } v1 v2 v3 v4 := row_put x 3 _
theorem RowS.set4 {w : World} {g : Nat} {s : Sn} {v1 v2 v3 v4 : Value} (x : RowS w g s v1 v2 v3 v4) (y : Value) (l : List Int) : RowS (w.setCell ⟨g, 4, none⟩ y) g { s with rn := { s.rn with cs := l } } y v2 v3 v4 := row_put x 4 _
theorem RowS.set5 {w : World} {g : Nat} {s : Sn} {v1 v2 v3 v4 : Value} (x : RowS w g s v1 v2 v3 v4) (y : Value) (l : List Rg) : RowS (w.setCell ⟨g, 5, none⟩ y) g { s with pe := l } v1 y v3 v4 := row_put x 5 _
theorem RowS.set6 {w : World} {g : Nat} {s : Sn} {v1 v2 v3 v4 : Value} (x : RowS w g s v1 v2 v3 v4) (y : Value) (l : List Rg) : RowS (w.setCell ⟨g, 6, none⟩ y) g { s with fl := l } v1 v2 y v4 := row_put x 6 _
theorem RowS.set7 {w : World} {g : Nat} {s : Sn} {v1 v2 v3 v4 : Value} (x : RowS w g s v1 v2 v3 v4) (y : Value) (l : List Rg) : RowS (w.setCell ⟨g, 7, none⟩ y) g { s with ac := l } v1 v2 v3 y := row_put x 7 _
theorem RowS.set8 {w : World} {g : Nat} {s : Sn} {v1 v2 v3 v4 : Value} (x : RowS w g s v1 v2 v3 v4) (y : Int) : RowS (w.setCell ⟨g, 8, none⟩ (.int .i64 y)) g { s with fin := y } v1 v2 v3 v4 := row_put x 8 _
theorem RowS.set9 {w : World} {g : Nat} {s : Sn} {v1 v2 v3 v4 : Value} (x : RowS w g s v1 v2 v3 v4) (y : Int) : RowS (w.setCell ⟨g, 9, none⟩ (.int .i64 y)) g { s with fi := y } v1 v2 v3 v4 := row_put x 9 _
theorem RowS.set10 {w : World} {g : Nat} {s : Sn} {v1 v2 v3 v4 : Value} (x : RowS w g s v1 v2 v3 v4) (y : Int) : RowS (w.setCell ⟨g, 10, none⟩ (.int .i64 y)) g { s with sent := y } v1 v2 v3 v4 := row_put x 10 _
theorem RowS.set11 {w : World} {g : Nat} {s : Sn} {v1 v2 v3 v4 : Value} (x : RowS w g s v1 v2 v3 v4) (y : Int) : RowS (w.setCell ⟨g, 11, none⟩ (.int .i64 y)) g { s with code := y } v1 v2 v3 v4 := row_put x 11 _
abbrev laidS (W : World) (g : Nat) (s : Sn) (v1 v2 v3 v4 : Value) : World :=
  (((((((((((W.setCell ⟨g, 0, none⟩ (.int .i64 s.st)).setCell ⟨g, 1, none⟩ (.int .i64 s.rn.size)).setCell ⟨g, 2, none⟩ (.int .i64 s.rn.base)).setCell ⟨g, 3, none⟩ (.int .i64 s.rn.en)).setCell ⟨g, 4, none⟩ v1).setCell ⟨g, 5, none⟩ v2).setCell ⟨g, 6, none⟩ v3).setCell ⟨g, 7, none⟩ v4).setCell ⟨g, 8, none⟩ (.int .i64 s.fin)).setCell ⟨g, 9, none⟩ (.int .i64 s.fi)).setCell ⟨g, 10, none⟩ (.int .i64 s.sent)).setCell ⟨g, 11, none⟩ (.int .i64 s.code)
theorem laidS_row {W : World} {g : Nat} {z : Sn} {z1 z2 z3 z4 : Value} (x : RowS W g z z1 z2 z3 z4) (s : Sn) (v1 v2 v3 v4 : Value) : RowS (laidS W g s v1 v2 v3 v4) g s v1 v2 v3 v4 :=
  (((((((((((x.set0 s.st).set1 s.rn.size).set2 s.rn.base).set3 s.rn.en).set4 v1 s.rn.cs).set5 v2 s.pe).set6 v3 s.fl).set7 v4 s.ac).set8 s.fin).set9 s.fi).set10 s.sent).set11 s.code
theorem laidS_own {W : World} {B g : Nat} {u1 u2 u3 u4 : Value} {l1 : List Int} {l2 l3 l4 : List Rg} (h : OwnS W B u1 u2 u3 u4 l1 l2 l3 l4) (hg : g < B) (s : Sn) (v1 v2 v3 v4 : Value) : OwnS (laidS W g s v1 v2 v3 v4) B u1 u2 u3 u4 l1 l2 l3 l4 :=
  (((((((((((h.apart g 0 _ hg).apart g 1 _ hg).apart g 2 _ hg).apart g 3 _ hg).apart g 4 _ hg).apart g 5 _ hg).apart g 6 _ hg).apart g 7 _ hg).apart g 8 _ hg).apart g 9 _ hg).apart g 10 _ hg).apart g 11 _ hg
theorem laidS_below {a W : World} {B g : Nat} (h : Below B a W) (hg : B ≤ g) (s : Sn) (v1 v2 v3 v4 : Value) : Below B a (laidS W g s v1 v2 v3 v4) :=
  (((((((((((h.setCell (p := ⟨g, 0, none⟩) hg _).setCell (p := ⟨g, 1, none⟩) hg _).setCell (p := ⟨g, 2, none⟩) hg _).setCell (p := ⟨g, 3, none⟩) hg _).setCell (p := ⟨g, 4, none⟩) hg _).setCell (p := ⟨g, 5, none⟩) hg _).setCell (p := ⟨g, 6, none⟩) hg _).setCell (p := ⟨g, 7, none⟩) hg _).setCell (p := ⟨g, 8, none⟩) hg _).setCell (p := ⟨g, 9, none⟩) hg _).setCell (p := ⟨g, 10, none⟩) hg _).setCell (p := ⟨g, 11, none⟩) hg _
theorem RowS.laid {W : World} {g : Nat} {z : Sn} {z1 z2 z3 z4 : Value} (x : RowS W g z z1 z2 z3 z4) (go : Nat) (s : Sn) (v1 v2 v3 v4 : Value) (hg : g ≠ go) : RowS (laidS W go s v1 v2 v3 v4) g z z1 z2 z3 z4 :=
  (((((((((((x.other go 0 _ hg).other go 1 _ hg).other go 2 _ hg).other go 3 _ hg).other go 4 _ hg).other go 5 _ hg).other go 6 _ hg).other go 7 _ hg).other go 8 _ hg).other go 9 _ hg).other go 10 _ hg).other go 11 _ hg
structure IrS (w : World) (n go : Nat) (R : Nat → Option Obj) (s : Sn) (v1 v2 v3 v4 : Value) (W : World) : Prop where
  b : RowS W w.heap.size s v1 v2 v3 v4
  o : RowS W go zeroS (.slice none 0 0) (.slice none 0 0) (.slice none 0 0) (.slice none 0 0)
  bl : Below w.heap.size w W
  sz : w.heap.size + n ≤ W.heap.size
  lo : w.heap.size < go ∧ go < w.heap.size + n
  kp : ∀ k, w.heap.size < k → k < go → W.heap[k]? = R k
theorem IrS.start (w : World) (R : Nat → Option Obj) (s : Sn) (v1 v2 v3 v4 : Value) : IrS w 2 (w.heap.size + 1) R s v1 v2 v3 v4 ((w.alloc (.cells (snB s v1 v2 v3 v4) 29)).alloc (.cells (snC 0 0 0 0 (.slice none 0 0) (.slice none 0 0) (.slice none 0 0) (.slice none 0 0) 0 0 0 0) 29)) := by
  have h1 : ∀ o1, (w.alloc o1).heap.size = w.heap.size + 1 := fun _ => by simp
  refine ⟨(RowS.new w _ _ _ _ _).alloc _, ?_, ((Below.refl _ _).alloc (Nat.le_refl _) _).alloc (by rw [h1]; exact Nat.le_succ _) _, by simp, by omega, fun k a b => by omega⟩
  have h := RowS.new (w.alloc (.cells (snB s v1 v2 v3 v4) 29)) zeroS (.slice none 0 0) (.slice none 0 0) (.slice none 0 0) (.slice none 0 0)
  rw [h1] at h
  exact h
abbrev pcB (p : Pc) : Nat → Option Obj := fun _ => some (.cells #[.int .i64 p.off, .string p.data, .bool p.fin] 44 (0, 0))
theorem IrS.startP (w : World) (s : Sn) (v1 v2 v3 v4 : Value) (p : Pc) : IrS w 3 (w.heap.size + 2) (pcB p) s v1 v2 v3 v4 (((w.alloc (.cells (snB s v1 v2 v3 v4) 29)).alloc (.cells #[.int .i64 p.off, .string p.data, .bool p.fin] 44)).alloc (.cells (snC 0 0 0 0 (.slice none 0 0) (.slice none 0 0) (.slice none 0 0) (.slice none 0 0) 0 0 0 0) 29)) := by
  have h1 : ∀ o1, (w.alloc o1).heap.size = w.heap.size + 1 := fun _ => by simp
  have h2 : ∀ o1 o2, ((w.alloc o1).alloc o2).heap.size = w.heap.size + 2 := fun _ _ => by simp
  refine ⟨((RowS.new w _ _ _ _ _).alloc _).alloc _, ?_, (((Below.refl _ _).alloc (Nat.le_refl _) _).alloc (by rw [h1]; exact Nat.le_succ _) _).alloc (by rw [h2]; omega) _, by simp, by omega, fun k a b => ?_⟩
  · have h := RowS.new ((w.alloc (.cells (snB s v1 v2 v3 v4) 29)).alloc (.cells #[.int .i64 p.off, .string p.data, .bool p.fin] 44)) zeroS (.slice none 0 0) (.slice none 0 0) (.slice none 0 0) (.slice none 0 0)
    rw [h2] at h
    exact h
  · obtain rfl : k = w.heap.size + 1 := by omega
    rw [heap_alloc_old _ _ (by rw [h2]; omega)]
    have h := heap_alloc_new (w.alloc (.cells (snB s v1 v2 v3 v4) 29)) (.cells #[.int .i64 p.off, .string p.data, .bool p.fin] 44)
    rw [h1] at h
    exact h
theorem IrS.pc {w : World} {p : Pc} {s : Sn} {v1 v2 v3 v4 : Value} {W : World} (h : IrS w 3 (w.heap.size + 2) (pcB p) s v1 v2 v3 v4 W) : W.cell? ⟨w.heap.size + 1, 0, none⟩ = some (.int .i64 p.off) ∧ W.cell? ⟨w.heap.size + 1, 1, none⟩ = some (.string p.data) ∧ W.cell? ⟨w.heap.size + 1, 2, none⟩ = some (.bool p.fin) :=
  have x := h.kp (w.heap.size + 1) (by omega) (by omega)
  ⟨cell_of_row W (w.heap.size + 1) 0 _ _ _ x, cell_of_row W (w.heap.size + 1) 1 _ _ _ x, cell_of_row W (w.heap.size + 1) 2 _ _ _ x⟩
theorem IrS.next {w : World} {n go : Nat} {R : Nat → Option Obj} {s : Sn} {v1 v2 v3 v4 : Value} {W W' : World} (h : IrS w n go R s v1 v2 v3 v4 W) (hb : Below W.heap.size W W') : IrS w n go R s v1 v2 v3 v4 W' :=
  ⟨h.b.below hb h.b.lt, h.o.below hb h.o.lt, h.bl.trans (hb.mono h.bl.size), Nat.le_trans h.sz hb.size, h.lo, fun k a b => (hb.block k (by have := h.o.lt; omega)).trans (h.kp k a b)⟩
theorem IrS.up {w : World} {n go : Nat} {R : Nat → Option Obj} {s : Sn} {v1 v2 v3 v4 : Value} {W W' : World} (h : IrS w n go R s v1 v2 v3 v4 W) (hb : Below (w.heap.size + n) W W') : IrS w n go R s v1 v2 v3 v4 W' :=
  ⟨h.b.below hb (by have := h.lo; omega), h.o.below hb h.lo.2, h.bl.trans (hb.mono (by omega)), Nat.le_trans h.sz hb.size, h.lo, fun k a b => (hb.block k (by have := h.lo; omega)).trans (h.kp k a b)⟩
theorem IrS.alloc {w : World} {n go : Nat} {R : Nat → Option Obj} {s : Sn} {v1 v2 v3 v4 : Value} {W : World} (h : IrS w n go R s v1 v2 v3 v4 W) (o : Obj) : IrS w n go R s v1 v2 v3 v4 (W.alloc o) := h.next ((Below.refl _ _).alloc (Nat.le_refl _) _)
theorem IrS.drew {w : World} {n go : Nat} {R : Nat → Option Obj} {s : Sn} {v1 v2 v3 v4 : Value} {W : World} (h : IrS w n go R s v1 v2 v3 v4 W) : IrS w n go R s v1 v2 v3 v4 W.drew := h.next (Below.refl _ _).drew
theorem IrS.apart {w : World} {n go : Nat} {R : Nat → Option Obj} {s : Sn} {v1 v2 v3 v4 : Value} {W : World} (h : IrS w n go R s v1 v2 v3 v4 W) (g k : Nat) (y : Value) (hg : w.heap.size + n ≤ g) : IrS w n go R s v1 v2 v3 v4 (W.setCell ⟨g, k, none⟩ y) :=
  ⟨h.b.other g k y (by have := h.lo; omega), h.o.other g k y (by have := h.lo; omega), h.bl.setCell (p := ⟨g, k, none⟩) (by show w.heap.size ≤ g; omega) y, by simpa [World.setCell] using h.sz, h.lo, fun j a b => (Below.heap_setCell W ⟨g, k, none⟩ y j (by have := h.lo; show j ≠ g; omega)).trans (h.kp j a b)⟩
theorem IrS.out {w : World} {n go : Nat} {R : Nat → Option Obj} {s : Sn} {v1 v2 v3 v4 : Value} {W : World} (h : IrS w n go R s v1 v2 v3 v4 W) (x : Sn) (u1 u2 u3 u4 : Value) (ho : OwnSn W (w.heap.size + n) u1 u2 u3 u4 x) :
    RowS (laidS W go x u1 u2 u3 u4) go x u1 u2 u3 u4 ∧ OwnSn (laidS W go x u1 u2 u3 u4) w.heap.size u1 u2 u3 u4 x ∧ Below w.heap.size w (laidS W go x u1 u2 u3 u4) :=
  ⟨laidS_row h.o _ _ _ _ _, (laidS_own ho h.lo.2 _ _ _ _ _).weaken (by omega), laidS_below h.bl (Nat.le_of_lt h.lo.1) _ _ _ _ _⟩
theorem apart_new {K : Nat} {v u : Value} (hv : ∀ k, v.ownBlock = some k → k < K) (hu : ∀ k, u.ownBlock = some k → K ≤ k) : Apart v u := by
  cases h : v.ownBlock with
  | none => exact .inl h
  | some k => exact .inr fun e => by rw [h] at e; have := hu k e.symm; have := hv k h; omega
theorem OwnK.lo {w : World} {B : Nat} {v : Value} {l : List Int} (h : OwnK w B v l) : ∀ k, v.ownBlock = some k → B ≤ k := fun k hk => (h.lt k hk).1
theorem OwnP.lo {w : World} {B : Nat} {v : Value} {l : List Rg} (h : OwnP w B v l) : ∀ k, v.ownBlock = some k → B ≤ k := fun k hk => (h.lt k hk).1
theorem OwnS.made {w : World} {B K1 K2 K3 : Nat} {v1 v2 v3 v4 : Value} {l1 : List Int} {l2 l3 l4 : List Rg} (h1 : OwnK w B v1 l1) (h2 : OwnP w B v2 l2) (h3 : OwnP w B v3 l3) (h4 : OwnP w B v4 l4)
    (a1 : ∀ k, v1.ownBlock = some k → k < K1) (b2 : ∀ k, v2.ownBlock = some k → K1 ≤ k) (a2 : ∀ k, v2.ownBlock = some k → k < K2) (b3 : ∀ k, v3.ownBlock = some k → K2 ≤ k) (a3 : ∀ k, v3.ownBlock = some k → k < K3) (b4 : ∀ k, v4.ownBlock = some k → K3 ≤ k) (h12 : K1 ≤ K2) (h23 : K2 ≤ K3) : OwnS w B v1 v2 v3 v4 l1 l2 l3 l4 :=
  ⟨⟨h1, h2, h3, h4⟩, ⟨apart_new a1 b2, apart_new (K := K2) (fun k hk => by have := a1 k hk; omega) b3, apart_new (K := K3) (fun k hk => by have := a1 k hk; omega) b4⟩, ⟨apart_new a2 b3, apart_new (K := K3) (fun k hk => by have := a2 k hk; omega) b4⟩, apart_new a3 b4⟩
structure FrS (w : World) (n go : Nat) (R : Nat → Option Obj) (s : Sn) (v1 v2 v3 v4 : Value) (gx : Nat) (x : Sn) (u1 u2 u3 u4 : Value) (W : World) : Prop where
  i : IrS w n go R s v1 v2 v3 v4 W
  b : RowS W gx x u1 u2 u3 u4
  own : OwnSn W (w.heap.size + n) u1 u2 u3 u4 x
  lt : w.heap.size + n ≤ gx
  ne : u1.ownBlock ≠ some gx ∧ u2.ownBlock ≠ some gx ∧ u3.ownBlock ≠ some gx ∧ u4.ownBlock ≠ some gx
theorem FrS.start {w : World} {n go : Nat} {R : Nat → Option Obj} {s x : Sn} {v1 v2 v3 v4 u1 u2 u3 u4 : Value} {W : World} (h : IrS w n go R s v1 v2 v3 v4 W) (ho : OwnSn W (w.heap.size + n) u1 u2 u3 u4 x) : FrS w n go R s v1 v2 v3 v4 W.heap.size x u1 u2 u3 u4 (W.alloc (.cells (snB x u1 u2 u3 u4) 29)) :=
  ⟨h.alloc _, RowS.new W _ _ _ _ _, ho.alloc _, h.sz, fun e => by have := (ho.1.1.lt _ e).2; omega, fun e => by have := (ho.1.2.1.lt _ e).2; omega, fun e => by have := (ho.1.2.2.1.lt _ e).2; omega, fun e => by have := (ho.1.2.2.2.lt _ e).2; omega⟩
theorem FrS.next {w : World} {n go : Nat} {R : Nat → Option Obj} {s : Sn} {v1 v2 v3 v4 : Value} {gx : Nat} {x : Sn} {u1 u2 u3 u4 : Value} {W W' : World} (h : FrS w n go R s v1 v2 v3 v4 gx x u1 u2 u3 u4 W) (hb : Below W.heap.size W W') : FrS w n go R s v1 v2 v3 v4 gx x u1 u2 u3 u4 W' :=
  ⟨h.i.next hb, h.b.below hb h.b.lt, h.own.later hb, h.lt, h.ne⟩
theorem FrS.alloc {w : World} {n go : Nat} {R : Nat → Option Obj} {s : Sn} {v1 v2 v3 v4 : Value} {gx : Nat} {x : Sn} {u1 u2 u3 u4 : Value} {W : World} (h : FrS w n go R s v1 v2 v3 v4 gx x u1 u2 u3 u4 W) (o : Obj) : FrS w n go R s v1 v2 v3 v4 gx x u1 u2 u3 u4 (W.alloc o) := h.next ((Below.refl _ _).alloc (Nat.le_refl _) _)
theorem OwnK.put {W : World} {B : Nat} {v : Value} {l : List Int} (h : OwnK W B v l) (g k : Nat) (y : Value) (hne : v.ownBlock ≠ some g) : OwnK (W.setCell ⟨g, k, none⟩ y) B v l := h.kept (only_setI W g k y) (.inr hne)
theorem OwnP.put {W : World} {B : Nat} {v : Value} {l : List Rg} (h : OwnP W B v l) (g k : Nat) (y : Value) (hne : v.ownBlock ≠ some g) : OwnP (W.setCell ⟨g, k, none⟩ y) B v l := h.kept (only_setI W g k y) (.inr hne)
theorem FrS.putP {w : World} {n go : Nat} {R : Nat → Option Obj} {s : Sn} {v1 v2 v3 v4 : Value} {gx : Nat} {x : Sn} {u1 u2 u3 u4 : Value} {W W' : World} (h : FrS w n go R s v1 v2 v3 v4 gx x u1 u2 u3 u4 W) (hb : Below W.heap.size W W') {v : Value} {l : List Rg} (ho : OwnP W' W.heap.size v l) : FrS w n go R s v1 v2 v3 v4 gx { x with pe := l } u1 v u3 u4 (W'.setCell ⟨gx, 5, none⟩ v) := by
  have h' := h.next hb
  have hv : v.ownBlock ≠ some gx := fun e => by have := (ho.lt _ e).1; have := h.b.lt; omega
  have hu := h.own.under
  refine ⟨h'.i.apart gx 5 v h.lt, h'.b.set5 v l, ⟨⟨h'.own.1.1.put gx 5 v h.ne.1, (ho.put gx 5 v hv).weaken (Nat.le_trans h.i.sz (Nat.le_refl _)), h'.own.1.2.2.1.put gx 5 v h.ne.2.2.1, h'.own.1.2.2.2.put gx 5 v h.ne.2.2.2⟩, ⟨apart_new hu.1 ho.lo, h.own.2.1.2.1, h.own.2.1.2.2⟩, ⟨(apart_new hu.2.2.1 ho.lo).symm, (apart_new hu.2.2.2 ho.lo).symm⟩, h.own.2.2.2⟩, h.lt, h.ne.1, hv, h.ne.2.2.1, h.ne.2.2.2⟩
abbrev laidN (W : World) (g : Nat) (r : Rn) (v : Value) : World := (((W.setCell ⟨g, 1, none⟩ (.int .i64 r.size)).setCell ⟨g, 2, none⟩ (.int .i64 r.base)).setCell ⟨g, 3, none⟩ (.int .i64 r.en)).setCell ⟨g, 4, none⟩ v
theorem FrS.putR {w : World} {n go : Nat} {R : Nat → Option Obj} {s : Sn} {v1 v2 v3 v4 : Value} {gx : Nat} {x : Sn} {u1 u2 u3 u4 : Value} {W : World} (h : FrS w n go R s v1 v2 v3 v4 gx x u1 u2 u3 u4 W) {v : Value} {r : Rn} (ho : OwnK W (w.heap.size + n) v r.cs) (hv : v.ownBlock ≠ some gx) (a2 : Apart v u2) (a3 : Apart v u3) (a4 : Apart v u4) : FrS w n go R s v1 v2 v3 v4 gx { x with rn := r } v u2 u3 u4 ((((W.setCell ⟨gx, 1, none⟩ (.int .i64 r.size)).setCell ⟨gx, 2, none⟩ (.int .i64 r.base)).setCell ⟨gx, 3, none⟩ (.int .i64 r.en)).setCell ⟨gx, 4, none⟩ v) := by
  refine ⟨(((h.i.apart gx 1 _ h.lt).apart gx 2 _ h.lt).apart gx 3 _ h.lt).apart gx 4 _ h.lt, (((h.b.set1 r.size).set2 r.base).set3 r.en).set4 v r.cs, ⟨⟨(((ho.put gx 1 _ hv).put gx 2 _ hv).put gx 3 _ hv).put gx 4 _ hv, (((h.own.1.2.1.put gx 1 _ h.ne.2.1).put gx 2 _ h.ne.2.1).put gx 3 _ h.ne.2.1).put gx 4 _ h.ne.2.1, (((h.own.1.2.2.1.put gx 1 _ h.ne.2.2.1).put gx 2 _ h.ne.2.2.1).put gx 3 _ h.ne.2.2.1).put gx 4 _ h.ne.2.2.1, (((h.own.1.2.2.2.put gx 1 _ h.ne.2.2.2).put gx 2 _ h.ne.2.2.2).put gx 3 _ h.ne.2.2.2).put gx 4 _ h.ne.2.2.2⟩, ⟨a2, a3, a4⟩, h.own.2.2.1, h.own.2.2.2⟩, h.lt, hv, h.ne.2.1, h.ne.2.2.1, h.ne.2.2.2⟩
theorem FrS.out {w : World} {n go : Nat} {R : Nat → Option Obj} {s : Sn} {v1 v2 v3 v4 : Value} {gx : Nat} {x : Sn} {u1 u2 u3 u4 : Value} {W : World} (h : FrS w n go R s v1 v2 v3 v4 gx x u1 u2 u3 u4 W) :
    RowS (laidS W go x u1 u2 u3 u4) go x u1 u2 u3 u4 ∧ OwnSn (laidS W go x u1 u2 u3 u4) w.heap.size u1 u2 u3 u4 x ∧ Below w.heap.size w (laidS W go x u1 u2 u3 u4) := h.i.out x u1 u2 u3 u4 h.own

theorem ownpc_later {w w' : World} {base e sz n : Nat} {v : Value} {vs : List Value} (h : w.ownsRow base e sz v n vs) (hb : Below w.heap.size w w') : w'.ownsRow base e sz v n vs :=
  World.ownsRow.kept h (show w.grownBy w' none from ⟨hb.os, hb.tape, hb.output, hb.size, fun i hi _ => hb.block i hi⟩) (by
    cases v.ownBlock with
    | none => exact .inl rfl
    | some k => exact .inr (by simp))
def pcL (c : Pc) : List Value := [.int .i64 c.off, .string c.data, .bool c.fin]
theorem pcL_len (c : Pc) : (pcL c).length = 3 := rfl
abbrev pcC (c : Pc) : Array Value := #[.int .i64 c.off, .string c.data, .bool c.fin]
abbrev pc0 : Pc := ⟨0, ⟨#[]⟩, false⟩
def Pcs (w : World) (B : Nat) (A : Option Addr) (l : List Pc) : Prop := ∀ j (hj : j < l.length), ∃ b off, A = some ⟨b, off, none⟩ ∧ b < B ∧ ∀ i, i < 3 → w.cell? ⟨b, off + j * 3 + i, none⟩ = (pcL l[j])[i]?
theorem Pcs.keep {w w' : World} {B : Nat} {A : Option Addr} {l : List Pc} (h : Pcs w B A l) (hb : ∀ k, k < B → w'.heap[k]? = w.heap[k]?) : Pcs w' B A l := by
  intro j hj
  obtain ⟨b, off, hA, hlt, h1⟩ := h j hj
  exact ⟨b, off, hA, hlt, fun i hi => (World.cell?_of_block (w := w) (hb b hlt)).trans (h1 i hi)⟩
theorem Pcs.below {w w' : World} {B K : Nat} {A : Option Addr} {l : List Pc} (h : Pcs w B A l) (hK : B ≤ K) (hb : Below K w w') : Pcs w' B A l := h.keep fun k hk => hb.block k (by omega)
theorem Pcs.up {w : World} {B B' : Nat} {A : Option Addr} {l : List Pc} (h : Pcs w B A l) (hB : B ≤ B') : Pcs w B' A l := by
  intro j hj
  obtain ⟨b, off, hA, hlt, hc⟩ := h j hj
  exact ⟨b, off, hA, by omega, hc⟩
theorem Pcs.nil {w : World} {B : Nat} {A : Option Addr} : Pcs w B A [] := fun j hj => absurd hj (by simp)
theorem Pcs.cells {w : World} {B : Nat} {A : Option Addr} {l : List Pc} (h : Pcs w B A l) (j : Nat) (hj : j < l.length) : ∃ b off, A = some ⟨b, off, none⟩ ∧ b < B ∧
    w.cell? ⟨b, off + j * 3, none⟩ = some (.int .i64 l[j].off) ∧ w.cell? ⟨b, off + j * 3 + 1, none⟩ = some (.string l[j].data) ∧ w.cell? ⟨b, off + j * 3 + 2, none⟩ = some (.bool l[j].fin) := by
  obtain ⟨b, off, hA, hlt, h1⟩ := h j hj
  exact ⟨b, off, hA, hlt, h1 0 (by omega), h1 1 (by omega), h1 2 (by omega)⟩

def valsPc : List Pc → List Value
  | [] => []
  | x :: l => pcL x ++ valsPc l
theorem valsPc_len (l : List Pc) : (valsPc l).length = l.length * 3 := by
  induction l with
  | nil => rfl
  | cons x l ih => simp [valsPc, ih, pcL_len]; omega
theorem valsPc_append (a b : List Pc) : valsPc (a ++ b) = valsPc a ++ valsPc b := by
  induction a with
  | nil => rfl
  | cons x a ih => simp [valsPc, ih]
theorem valsPc_at (l : List Pc) : ∀ j (h : j < l.length) i, i < 3 → (valsPc l)[j * 3 + i]? = (pcL l[j])[i]? := by
  induction l with
  | nil => intro j h; cases h
  | cons x l ih =>
    intro j h i hi
    cases j with
    | zero =>
      rw [Nat.zero_mul, Nat.zero_add]
      show (pcL x ++ valsPc l)[i]? = _
      rw [List.getElem?_append_left (by rw [pcL_len]; exact hi)]
      rfl
    | succ j =>
      show (pcL x ++ valsPc l)[(j + 1) * 3 + i]? = _
      rw [List.getElem?_append_right (by rw [pcL_len]; omega), pcL_len, show (j + 1) * 3 + i - 3 = j * 3 + i by omega, ih j (by simpa using h) i hi]
      rfl
def OwnPc (w : World) (base : Nat) (v : Value) (l : List Pc) : Prop := w.ownsRow base 44 3 v l.length (valsPc l)
theorem OwnPc.later {w w' : World} {base : Nat} {v : Value} {l : List Pc} (h : OwnPc w base v l) (hb : Below w.heap.size w w') : OwnPc w' base v l := ownpc_later h hb
theorem OwnPc.empty {w : World} {base : Nat} : OwnPc w base (.slice none 0 0) [] := World.ownsRow_nil w base _ 3
theorem OwnPc.lit (w : World) (base cap : Nat) (cur : Array Value) (hb : base ≤ w.heap.size) (hc : cap ≤ maxLen) (hs : cur.size = cap * 3) :
    OwnPc (w.alloc (.cells cur 44)) base (.slice (some ⟨w.heap.size, 0, none⟩) 0 cap) [] :=
  World.ownsRow_made w cur cap hb hc (by omega)
theorem OwnPc.litAt (w : World) (base g : Nat) (hg : g = w.heap.size) (hb : base ≤ w.heap.size) : OwnPc (w.alloc (.cells #[] 44)) base (.slice (some ⟨g, 0, none⟩) 0 0) [] := by
  subst hg
  exact OwnPc.lit w base 0 #[] hb (by decide) rfl
theorem OwnPc.frs {w : World} {base : Nat} {v : Value} {l : List Pc} (h : OwnPc w base v l) : ∃ A cap, v = .slice A l.length cap ∧ l.length ≤ cap ∧ Pcs w w.heap.size A l := by
  have h0 := h
  obtain ⟨_, h⟩ := h
  rcases h with ⟨rfl, hn⟩ | ⟨g, cap, cur, rfl, _, hg, hle, _, _, _⟩
  · obtain rfl : l = [] := List.eq_nil_of_length_eq_zero hn
    exact ⟨none, 0, rfl, by simp, Pcs.nil⟩
  · refine ⟨_, cap, rfl, hle, fun j hj => ⟨g, 0, rfl, (Array.getElem?_eq_some_iff.1 hg).1, fun i hi => ?_⟩⟩
    rw [Nat.zero_add, World.ownsRow.cellAt h0 (j * 3 + i) (by omega)]
    exact valsPc_at l j hj i hi
theorem infoPc : (Tryz.prog.info? 44).map (fun i => (i.zero, i.size, i.bytes)) = some (some (pcV pc0), 3, 32) := by kernel_rfl
theorem Pcs.flat {w : World} {B g off : Nat} {l : List Pc} (h : Pcs w B (some ⟨g, off, none⟩) l) : ∀ j u, (valsPc l)[j]? = some u → w.cell? ((⟨g, off, none⟩ : Addr).add j) = some u := by
  intro j u hu
  have hj : j < l.length * 3 := by
    have := (List.getElem?_eq_some_iff.1 hu).1
    rwa [valsPc_len] at this
  have e : (⟨g, off, none⟩ : Addr).add j = ⟨g, off + j, none⟩ := by
    unfold Addr.add
    split <;> simp_all
  rw [e]
  have hi : j / 3 < l.length := by omega
  obtain ⟨b, o, hA, _, h1⟩ := h (j / 3) hi
  have hA' := Option.some.inj hA
  injection hA' with e1 e2 _
  subst e1
  subst e2
  have hv := valsPc_at l (j / 3) hi (j % 3) (by omega)
  have h2x := h1 (j % 3) (by omega)
  rw [show off + j / 3 * 3 + j % 3 = off + j by omega] at h2x
  rw [show j / 3 * 3 + j % 3 = j by omega] at hv
  rw [h2x, ← hv]
  exact hu
theorem valsPc_one (l : List Pc) : ∀ u ∈ valsPc l, u.oneCell' = true := by
  induction l with
  | nil => intro u hu; cases hu
  | cons x l ih =>
    intro u hu
    rcases List.mem_append.1 hu with hu | hu
    · simp [pcL] at hu
      rcases hu with rfl | rfl | rfl <;> rfl
    · exact ih u hu

theorem pcs_one (w : World) (f : Pc) (t : TypeId) : Pcs (w.alloc (.cells (pcC f) t)) (w.heap.size + 1) (some ⟨w.heap.size, 0, none⟩) [f] := by
  intro j hj
  obtain rfl : j = 0 := by simpa using hj
  refine ⟨w.heap.size, 0, rfl, by omega, fun i hi => ?_⟩
  rw [World.cell?_alloc_at _ _ _ _ rfl, Nat.zero_mul, Nat.zero_add]
  rcases (show i = 0 ∨ i = 1 ∨ i = 2 by omega) with rfl | rfl | rfl <;> rfl

theorem OwnPc.weaken {w : World} {b b' : Nat} {v : Value} {l : List Pc} (h : OwnPc w b v l) (hb : b' ≤ b) : OwnPc w b' v l := by
  obtain ⟨h1, h2⟩ := h
  refine ⟨h1, ?_⟩
  rcases h2 with h2 | ⟨g, cap, cur, e, hg, rest⟩
  · exact .inl h2
  · exact .inr ⟨g, cap, cur, e, by omega, rest⟩
theorem OwnPc.lt {w : World} {b : Nat} {v : Value} {l : List Pc} (h : OwnPc w b v l) : ∀ k, v.ownBlock = some k → b ≤ k ∧ k < w.heap.size := fun k hk => World.ownsRow.lt h k hk
theorem OwnPc.kept {w w' : World} {b : Nat} {v : Value} {l : List Pc} {ob : Option Nat} (h : OwnPc w b v l) (hg : w.grownBy w' ob) (hne : v.ownBlock = none ∨ v.ownBlock ≠ ob) : OwnPc w' b v l := World.ownsRow.kept h hg hne
theorem run_append_pc (W : World) (ty : TypeId) (base : Nat) (v : Value) (l : List Pc) (hown : OwnPc W base v l)
    (g off m c B : Nat) (r : List Pc) (hm : r.length = m) (hr : Pcs W B (some ⟨g, off, none⟩) r) (hlen : l.length + m ≤ 1000000000) (hbase : base ≤ W.heap.size) :
    ∃ v' w', (Builtin.append_ #[42, 42] ty #[v, .slice (some ⟨g, off, none⟩) m c]).run Tryz.prog W = .ok v' w' ∧ OwnPc w' base v' (l ++ r) ∧ W.grownBy w' v.ownBlock ∧ ∀ k, v'.ownBlock = some k → v.ownBlock = some k ∨ W.heap.size ≤ k := by
  subst hm
  obtain ⟨i0, hi, hz0, hz1, hz2⟩ := info_parts infoPc
  have own : ∀ (b : Nat), OwnPc W b v l → b ≤ W.heap.size → ∃ v' w', (Builtin.append_ #[42, 42] ty #[v, .slice (some ⟨g, off, none⟩) r.length c]).run Tryz.prog W = .ok v' w' ∧ OwnPc w' b v' (l ++ r) ∧ W.grownBy w' v.ownBlock := by
    intro b ho hb
    obtain ⟨v', w', h1, h2, h3, _⟩ := run_append_own (P := Tryz.prog) W b 42 ty 44 i0 (pcV pc0) 3 32 Tryz.underlying42 hi hz0 hz1 hz2 rfl (by decide) v l.length (valsPc l) ho ⟨g, off, none⟩ r.length c (valsPc r) (by rw [valsPc_len]) hr.flat (valsPc_one r) (by unfold maxLen; omega) (by omega) hb
    refine ⟨v', w', h1, ?_, h3⟩
    unfold OwnPc
    rw [valsPc_append, List.length_append]
    exact h2
  have hown0 := hown
  rcases hown.2 with ⟨rfl, hn⟩ | ⟨k0, cap, cur, rfl, hbg, hg, hnc, hcm, hcs, htake⟩
  · obtain rfl : l = [] := List.eq_nil_of_length_eq_zero hn
    obtain ⟨v', w', h1, h2, h3⟩ := own W.heap.size OwnPc.empty (Nat.le_refl _)
    exact ⟨v', w', h1, h2.weaken hbase, h3, fun k hk => .inr (h2.lt k hk).1⟩
  · obtain ⟨v', w', h1, h2, h3⟩ := own base hown0 hbase
    refine ⟨v', w', h1, h2, h3, ?_⟩
    by_cases hroom : l.length + r.length ≤ cap
    · have hr2 := run_append_room (P := Tryz.prog) W 42 ty 44 i0 Tryz.underlying42 hi k0 l.length cap cur hg ⟨g, off, none⟩ r.length c (valsPc r) (by rw [valsPc_len, hz1]) hr.flat (valsPc_one r) hroom (by rw [valsPc_len, hz1, hcs, ← Nat.add_mul]; exact Nat.mul_le_mul_right _ hroom)
      rw [h1] at hr2
      injection hr2 with e1 e2
      subst e1
      exact fun k hk => .inl hk
    · have hr2 := run_append_grow (P := Tryz.prog) W 42 ty 44 i0 (pcV pc0) Tryz.underlying42 hi hz0 ⟨k0, 0, none⟩ l.length cap (valsPc l) (by rw [valsPc_len, hz1]) (hown0.cells (g := k0) rfl) ⟨g, off, none⟩ r.length c (valsPc r) (by rw [valsPc_len, hz1]) hr.flat (by omega) (by omega) (growslice_fits (by omega) (by rw [hz2]; omega))
      rw [h1] at hr2
      injection hr2 with e1 e2
      subst e1
      exact fun k hk => .inr (by simp [Value.ownBlock] at hk; omega)
theorem wpList_append_pc2 {ops : Array Oper} {rest : List Oper} {o : Oper} {a : Act} {Q : Exit → Act → World → Prop} (W : World) (hgd : o.guard = none) (s x : Operand)
    (ho : o.op = .call { callee := .builtin .append, args := #[s, x], argTypes := #[42, 42] })
    (base : Nat) (v : Value) (l : List Pc) (hs : a.eval s = v) (hown : OwnPc W base v l)
    (g off m c B : Nat) (r : List Pc) (hx : a.eval x = .slice (some ⟨g, off, none⟩) m c) (hm : r.length = m) (hr : Pcs W B (some ⟨g, off, none⟩) r)
    (hlen : l.length + m ≤ 1000000000) (hbase : base ≤ W.heap.size)
    (h : ∀ v' w', OwnPc w' base v' (l ++ r) → W.grownBy w' v.ownBlock → (∀ k, v'.ownBlock = some k → v.ownBlock = some k ∨ W.heap.size ≤ k) → wpList Tryz.prog ops Q rest (a.put o.dst v') w') : wpList Tryz.prog ops Q (o :: rest) a W := by
  refine wpList_plain hgd fun _ hK => ?_
  obtain ⟨v', w', hr1, h2, h3, h4⟩ := run_append_pc W o.type base v l hown g off m c B r hm hr hlen hbase
  unfold Oper.wp execOp
  simp only [ho, resolve, invoke, builtin, Sem.run_bind, Sem.run_pure, Result.andThen_ok, List.map_toArray, List.map_cons, List.map_nil, hs, hx, hr1]
  exact hK _ _ (h v' w' h2 h3 h4)
theorem step_append_pc2 {ops : Array Oper} {o : Oper} {a : Act} {K : Act → World → Prop} {Q : Exit → Act → World → Prop} {E : Prop} (W : World) (hgd : o.guard = none) (s x : Operand)
    (ho : o.op = .call { callee := .builtin .append, args := #[s, x], argTypes := #[42, 42] })
    (base : Nat) (v : Value) (l : List Pc) (hs : a.eval s = v) (hown : OwnPc W base v l)
    (g off m c B : Nat) (r : List Pc) (hx : a.eval x = .slice (some ⟨g, off, none⟩) m c) (hm : r.length = m) (hr : Pcs W B (some ⟨g, off, none⟩) r)
    (hlen : l.length + m ≤ 1000000000) (hbase : base ≤ W.heap.size)
    (h : ∀ v' w', OwnPc w' base v' (l ++ r) → W.grownBy w' v.ownBlock → (∀ k, v'.ownBlock = some k → v.ownBlock = some k ∨ W.heap.size ≤ k) → K (a.put o.dst v') w') :
    if Region.wanted o (yielded ops a.tmps) = true then Oper.wp Tryz.prog o a W K Q else E := by
  have hw : Region.wanted o (yielded ops a.tmps) = true := by simp [Region.wanted, hgd]
  rw [if_pos hw]
  obtain ⟨v', w', hr1, h2, h3, h4⟩ := run_append_pc W o.type base v l hown g off m c B r hm hr hlen hbase
  unfold Oper.wp execOp
  simp only [ho, resolve, invoke, builtin, Sem.run_bind, Sem.run_pure, Result.andThen_ok, List.map_toArray, List.map_cons, List.map_nil, hs, hx, hr1]
  exact h v' w' h2 h3 h4


theorem sgap (l : List Rg) (n : Int) (A : Option Addr) (cap B : Nat) (w : World) (hB : B ≤ w.heap.size) (hr : Rgs w B A l) (hn : l.length ≤ 1000000000) :
    Calls Tryz.prog 63 #[.slice A l.length cap, .int .i64 n] w fun e w' => e = .returned (.int .i64 (if okR (-1) l ∧ 0 ≤ n then gapR l n else -1)) ∧ Below w.heap.size w w' := by
  have HR := LH hr
  have HC := LH (sisr l A cap B w hB hr hn)
  clear hr
  by_cases hk : okR (-1) l
  · have HK := LH hk
    rw [decide_eq_true hk] at HC
    by_cases h0 : 0 ≤ n
    · rw [if_pos ⟨hk, h0⟩]
      have hd0 : decide (n < 0) = false := decide_eq_false (by omega)
      clear hk
      go_enter Tryz.func63, Tryz.ntmps63
      go_wp2_with fail
      refine HC.out.mono ?_
      rintro e w1 ⟨rfl, hb1⟩
      have HB1 := LH hb1
      clear hb1
      go_wp2
      go_loopw [1, 5] (fun c i wr => ∃ j : Nat, j ≤ l.length ∧ i = .int .i64 j ∧ c = .int .i64 (gapR (l.take j) n) ∧ Below w.heap.size w wr) (fun _ i _ => l.length - (intOf i).toNat)
      case atStart => exact ⟨0, Nat.zero_le _, rfl, rfl, HB1.out⟩
      case round =>
        obtain ⟨j, hj, rfl, rfl, hb⟩ := hrel
        have HB := LH hb
        clear hb
        by_cases hlt : j < l.length
        · have HRW := LH (HR.out.below hB HB.out)
          obtain ⟨b, off, rfl, hbB, c1, c2⟩ := HRW.out j hlt
          have hs := gapR_step l j hlt n
          generalize hy : gapR (l.take j) n = y at *
          generalize hx : l[j] = x at *
          by_cases h1 : x.1 ≤ y
          · have hd1 : decide (x.1 ≤ y) = true := decide_eq_true h1
            by_cases h2 : y < x.2
            · have hd2 : decide (y < x.2) = true := decide_eq_true h2
              rw [if_pos ⟨h1, h2⟩] at hs
              have HE := LH hs
              clear hs h1 h2
              go_wp2
              go_roundw
              case rel => exact ⟨j + 1, hlt, by go_num, by rw [HE.out], HB.out⟩
              case measure => simp [intOf]; omega
            · have hd2 : decide (y < x.2) = false := decide_eq_false h2
              rw [if_neg (fun h => h2 h.2)] at hs
              have HE := LH hs
              clear hs h1 h2
              go_wp2
              go_roundw
              case rel => exact ⟨j + 1, hlt, by go_num, by rw [HE.out], HB.out⟩
              case measure => simp [intOf]; omega
          · have hd1 : decide (x.1 ≤ y) = false := decide_eq_false h1
            rw [if_neg (fun h => h1 h.1)] at hs
            have HE := LH hs
            clear hs h1
            go_wp2
            go_roundw
            case rel => exact ⟨j + 1, hlt, by go_num, by rw [HE.out], HB.out⟩
            case measure => simp [intOf]; omega
        · obtain rfl : j = l.length := by omega
          have e : l.take l.length = l := List.take_of_length_le (Nat.le_refl _)
          rw [e]
          go_wp2
          go_ret
          exact ⟨rfl, HB.out⟩
    · rw [if_neg (fun h => h0 h.2)]
      have hd0 : decide (n < 0) = true := decide_eq_true (by omega)
      clear hk h0
      go_enter Tryz.func63, Tryz.ntmps63
      go_wp2_with fail
      refine HC.out.mono ?_
      rintro e w1 ⟨rfl, hb1⟩
      have HB1 := LH hb1
      clear hb1
      go_wp2
      go_ret
      exact ⟨rfl, HB1.out⟩
  · rw [decide_eq_false hk] at HC
    rw [if_neg (fun h => hk h.1)]
    clear hk
    go_enter Tryz.func63, Tryz.ntmps63
    go_wp2_with fail
    refine HC.out.mono ?_
    rintro e w1 ⟨rfl, hb1⟩
    have HB1 := LH hb1
    clear hb1
    go_wp2
    go_ret
    exact ⟨rfl, HB1.out⟩

namespace Num
theorem okR.at {l : List Rg} {q : Int} {j : Nat} (h : j < l.length) : okR q (l.drop j) ↔ (q < l[j].1 ∧ l[j].1 < l[j].2 ∧ l[j].2 ≤ 4611686018427387903 ∧ okR l[j].2 (l.drop (j + 1))) := by
  rw [List.drop_eq_getElem_cons h]
  exact Iff.rfl
theorem gapR_at {l : List Rg} {n : Int} {j : Nat} (h : j < l.length) : gapR (l.drop j) n = gapR (l.drop (j + 1)) (if l[j].1 ≤ n ∧ n < l[j].2 then l[j].2 else n) := by
  rw [List.drop_eq_getElem_cons h]
  rfl
end Num

theorem iisr (l : List Rg) (A : Option Addr) (cap B : Nat) (w : World) (hB : B ≤ w.heap.size) (hr : Rgs w B A l) (hn : l.length ≤ 1000000000) :
    Calls Tryz.prog 86 #[.slice A l.length cap] w fun e w' => e = .returned (.bool (decide (okR (-1) l))) ∧ Below w.heap.size w w' := by
  have HR := LH hr
  clear hr
  go_enter Tryz.func86, Tryz.ntmps86
  go_wp2
  go_loopw [3, 8] (fun p i wr => ∃ (j : Nat) (q : Int), j ≤ l.length ∧ i = .int .i64 j ∧ p = .int .i64 q ∧ (okR (-1) l ↔ okR q (l.drop j)) ∧ Below w.heap.size w wr) (fun _ i _ => l.length - (intOf i).toNat)
  case atStart => exact ⟨0, -1, Nat.zero_le _, rfl, rfl, Iff.rfl, Below.refl _ _⟩
  case round =>
    obtain ⟨j, q, hj, rfl, rfl, hq, hb⟩ := hrel
    have HQ := LH hq
    have HB := LH hb
    clear hq hb
    by_cases hlt : j < l.length
    · have HRW := LH (HR.out.below hB HB.out)
      obtain ⟨b, off, rfl, hbB, c1, c2⟩ := HRW.out j hlt
      have HE := LH (HQ.out.trans (okR.at hlt))
      generalize l[j] = x at *
      by_cases h1 : x.1 ≤ q
      · have hd1 : decide (x.1 ≤ q) = true := decide_eq_true h1
        have HN : Hid (¬ okR (-1) l) := LH (fun h => by have := (HE.out.1 h).1; omega)
        clear h1
        go_wp2
        go_ret
        exact ⟨by rw [decide_eq_false HN.out]; rfl, HB.out.alloc HB.out.size _⟩
      · have hd1 : decide (x.1 ≤ q) = false := decide_eq_false h1
        by_cases h2 : x.2 ≤ x.1
        · have hd2 : decide (x.2 ≤ x.1) = true := decide_eq_true h2
          have HN : Hid (¬ okR (-1) l) := LH (fun h => by have := (HE.out.1 h).2.1; omega)
          clear h1 h2
          go_wp2
          go_ret
          exact ⟨by rw [decide_eq_false HN.out]; rfl, HB.out.alloc HB.out.size _⟩
        · have hd2 : decide (x.2 ≤ x.1) = false := decide_eq_false h2
          by_cases h3 : 4611686018427387903 < x.2
          · have hd3 : decide (4611686018427387903 < x.2) = true := decide_eq_true h3
            have HN : Hid (¬ okR (-1) l) := LH (fun h => by have := (HE.out.1 h).2.2.1; omega)
            clear h1 h2 h3
            go_wp2
            go_ret
            exact ⟨by rw [decide_eq_false HN.out]; rfl, HB.out.alloc HB.out.size _⟩
          · have hd3 : decide (4611686018427387903 < x.2) = false := decide_eq_false h3
            have HN : Hid (okR (-1) l ↔ okR x.2 (l.drop (j + 1))) := LH ⟨fun h => (HE.out.1 h).2.2.2, fun h => HE.out.2 ⟨by omega, by omega, by omega, h⟩⟩
            clear h1 h2 h3
            go_wp2
            go_roundw
            case rel => exact ⟨j + 1, x.2, hlt, by go_num, rfl, HN.out, HB.out.alloc HB.out.size _⟩
            case measure => simp [intOf]; omega
    · obtain rfl : j = l.length := by omega
      have HN : Hid (okR (-1) l) := LH (HQ.out.2 (by rw [List.drop_length]; trivial))
      go_wp2
      go_ret
      exact ⟨by rw [decide_eq_true HN.out]; rfl, HB.out⟩

theorem iinr (x : Rg) (n : Int) (w : World) :
    Calls Tryz.prog 138 #[rgV x, .int .i64 n] w fun e w' => e = .returned (.bool (decide (x.1 ≤ n ∧ n < x.2))) ∧ Below w.heap.size w w' := by
  by_cases h1 : x.1 ≤ n
  · have hd1 : decide (x.1 ≤ n) = true := decide_eq_true h1
    by_cases h2 : n < x.2
    · have hd2 : decide (n < x.2) = true := decide_eq_true h2
      rw [decide_eq_true ⟨h1, h2⟩]
      clear h1 h2
      go_enter Tryz.func138, Tryz.ntmps138
      go_wp2
      go_ret
      exact ⟨rfl, (Below.refl _ _).alloc (Nat.le_refl _) _⟩
    · have hd2 : decide (n < x.2) = false := decide_eq_false h2
      rw [decide_eq_false (fun h => h2 h.2)]
      clear h1 h2
      go_enter Tryz.func138, Tryz.ntmps138
      go_wp2
      go_ret
      exact ⟨rfl, (Below.refl _ _).alloc (Nat.le_refl _) _⟩
  · have hd1 : decide (x.1 ≤ n) = false := decide_eq_false h1
    rw [decide_eq_false (fun h => h1 h.1)]
    clear h1
    go_enter Tryz.func138, Tryz.ntmps138
    go_wp2
    go_ret
    exact ⟨rfl, (Below.refl _ _).alloc (Nat.le_refl _) _⟩

theorem igap (l : List Rg) (n : Int) (A : Option Addr) (cap B : Nat) (w : World) (hB : B ≤ w.heap.size) (hr : Rgs w B A l) (hn : l.length ≤ 1000000000) :
    Calls Tryz.prog 112 #[.slice A l.length cap, .int .i64 n] w fun e w' => e = .returned (.int .i64 (if okR (-1) l ∧ 0 ≤ n then gapR l n else -1)) ∧ Below w.heap.size w w' := by
  have HR := LH hr
  have HC := LH (iisr l A cap B w hB hr hn)
  clear hr
  by_cases h0 : n < 0
  · have hd0 : decide (n < 0) = true := decide_eq_true h0
    rw [if_neg (fun h => absurd h.2 (by omega))]
    clear h0
    go_enter Tryz.func112, Tryz.ntmps112
    go_wp2
    go_ret
    exact ⟨rfl, Below.refl _ _⟩
  · have hd0 : decide (n < 0) = false := decide_eq_false h0
    by_cases hk : okR (-1) l
    · rw [if_pos ⟨hk, by omega⟩]
      rw [decide_eq_true hk] at HC
      have HK := LH hk
      clear hk h0
      go_enter Tryz.func112, Tryz.ntmps112
      go_wp2_with fail
      refine HC.out.mono ?_
      rintro e w1 ⟨rfl, hb1⟩
      have HB1 := LH hb1
      clear hb1
      go_wp2
      go_loopw [16] (fun i wr => ∃ (j : Nat) (q : Int), j ≤ l.length ∧ i = .int .i64 j ∧ okR q (l.drop j) ∧ gapR l n = gapR (l.drop j) n ∧ Below w.heap.size w wr) (fun i _ => l.length - (intOf i).toNat)
      case atStart => exact ⟨0, -1, Nat.zero_le _, rfl, HK.out, rfl, HB1.out⟩
      case round =>
        obtain ⟨j, q, hj, rfl, hq, hg, hb⟩ := hrel
        have HB := LH hb
        clear hb
        by_cases hlt : j < l.length
        · have HRW := LH (HR.out.below hB HB.out)
          obtain ⟨b, off, rfl, hbB, c1, c2⟩ := HRW.out j hlt
          rw [okR.at hlt] at hq
          rw [gapR_at hlt] at hg
          have HQ := LH hq
          have HG := LH hg
          clear hq hg
          generalize l[j] = x at *
          have HI := LH (iinr x n)
          by_cases h : x.1 ≤ n ∧ n < x.2
          · rw [decide_eq_true h] at HI
            have HH : Hid (gapR l n = x.2) := LH (by rw [HG.out, if_pos h]; exact gapR_low _ _ _ HQ.out.2.2.2 (Int.le_refl _))
            clear h
            go_wp2_with fail
            refine (HI.out _).mono ?_
            rintro e w2 ⟨rfl, hb2⟩
            have c3 : w2.cell? ⟨wr.heap.size, 1, none⟩ = some (.int .i64 x.2) := (hb2.cell (by simp)).trans (by rw [World.cell?_alloc_at _ _ _ _ rfl]; rfl)
            have HB2 := LH ((HB.out.alloc HB.out.size (.cells #[.int .i64 x.1, .int .i64 x.2] 59)).trans (hb2.mono (by have := HB.out.size; simp; omega)))
            clear hb2
            go_wp2
            go_ret
            exact ⟨by rw [HH.out]; rfl, HB2.out⟩
          · rw [decide_eq_false h] at HI
            have HH : Hid (gapR l n = gapR (l.drop (j + 1)) n) := LH (by rw [HG.out, if_neg h])
            clear h
            go_wp2_with fail
            refine (HI.out _).mono ?_
            rintro e w2 ⟨rfl, hb2⟩
            have HB2 := LH ((HB.out.alloc HB.out.size (.cells #[.int .i64 x.1, .int .i64 x.2] 59)).trans (hb2.mono (by have := HB.out.size; simp; omega)))
            clear hb2
            go_wp2
            go_roundw
            case rel => exact ⟨j + 1, x.2, hlt, by go_num, HQ.out.2.2.2, HH.out, HB2.out⟩
            case measure => simp [intOf]; omega
        · obtain rfl : j = l.length := by omega
          rw [List.drop_length] at hg
          have HG : Hid (gapR l n = n) := LH hg
          clear hg hq
          go_wp2
          go_ret
          exact ⟨by rw [HG.out]; rfl, HB.out⟩
    · rw [if_neg (fun h => hk h.1)]
      rw [decide_eq_false hk] at HC
      clear hk h0
      go_enter Tryz.func112, Tryz.ntmps112
      go_wp2_with fail
      refine HC.out.mono ?_
      rintro e w1 ⟨rfl, hb1⟩
      have HB1 := LH hb1
      clear hb1
      go_wp2
      go_ret
      exact ⟨rfl, HB1.out⟩

theorem scnt (l : List Rg) (A : Option Addr) (cap B : Nat) (w : World) (hB : B ≤ w.heap.size) (hr : Rgs w B A l) (hn : l.length ≤ 1000000000) :
    Calls Tryz.prog 71 #[.slice A l.length cap] w fun e w' => e = .returned (.int .i64 (if okR (-1) l then cntR l else -1)) ∧ Below w.heap.size w w' := by
  have HR := LH hr
  have HC := LH (sisr l A cap B w hB hr hn)
  clear hr
  by_cases hk : okR (-1) l
  · have HK := LH hk
    rw [decide_eq_true hk] at HC
    rw [if_pos hk]
    clear hk
    go_enter Tryz.func71, Tryz.ntmps71
    go_wp2_with fail
    refine HC.out.mono ?_
    rintro e w1 ⟨rfl, hb1⟩
    have HB1 := LH hb1
    clear hb1
    go_wp2
    go_loopw [3, 4] (fun c i wr => ∃ j : Nat, j ≤ l.length ∧ i = .int .i64 j ∧ c = .int .i64 (cntR (l.take j)) ∧ Below w.heap.size w wr) (fun _ i _ => l.length - (intOf i).toNat)
    case atStart => exact ⟨0, Nat.zero_le _, rfl, rfl, HB1.out⟩
    case round =>
      obtain ⟨j, hj, rfl, rfl, hb⟩ := hrel
      have HB := LH hb
      clear hb
      by_cases hlt : j < l.length
      · have HRW := LH (HR.out.below hB HB.out)
        obtain ⟨b, off, rfl, hbB, c1, c2⟩ := HRW.out j hlt
        have hl := cntR_le _ _ (HK.out.take j) (by omega)
        have hf := HK.out.below l[j] (List.getElem_mem hlt)
        have hs := cntR_step l j hlt
        generalize hy : cntR (l.take j) = y at *
        generalize hx : l[j] = x at *
        have hw1 : IntKind.i64.wrap (y + x.2) = y + x.2 := by rw [IntKind.wrap_i64]; omega
        have hw2 : IntKind.i64.wrap (y + x.2 - x.1) = y + x.2 - x.1 := by rw [IntKind.wrap_i64]; omega
        have HE : Hid (y + x.2 - x.1 = cntR (l.take (j + 1))) := LH (by rw [hs]; omega)
        clear hs hl hf
        go_wp2
        go_quiet (fail)
        go_wp2
        go_roundw
        case rel => exact ⟨j + 1, hlt, by go_num, by rw [← HE.out], belowR_drewN HB.out _⟩
        case measure => simp [intOf]; omega
      · obtain rfl : j = l.length := by omega
        have e : l.take l.length = l := List.take_of_length_le (Nat.le_refl _)
        rw [e]
        go_wp2
        go_ret
        exact ⟨rfl, HB.out⟩
  · rw [decide_eq_false hk] at HC
    rw [if_neg hk]
    clear hk
    go_enter Tryz.func71, Tryz.ntmps71
    go_wp2_with fail
    refine HC.out.mono ?_
    rintro e w1 ⟨rfl, hb1⟩
    have HB1 := LH hb1
    clear hb1
    go_wp2
    go_ret
    exact ⟨rfl, HB1.out⟩

theorem icnt (l : List Rg) (A : Option Addr) (cap B : Nat) (w : World) (hB : B ≤ w.heap.size) (hr : Rgs w B A l) (hn : l.length ≤ 1000000000) :
    Calls Tryz.prog 145 #[.slice A l.length cap] w fun e w' => e = .returned (.int .i64 (if okR (-1) l then cntR l else -1)) ∧ Below w.heap.size w w' := by
  have HR := LH hr
  have HC := LH (iisr l A cap B w hB hr hn)
  clear hr
  by_cases hk : okR (-1) l
  · have HK := LH hk
    rw [decide_eq_true hk] at HC
    rw [if_pos hk]
    clear hk
    go_enter Tryz.func145, Tryz.ntmps145
    go_wp2_with fail
    refine HC.out.mono ?_
    rintro e w1 ⟨rfl, hb1⟩
    have HB1 := LH hb1
    clear hb1
    go_wp2
    go_loopw [3, 11] (fun c i wr => ∃ j : Nat, j ≤ l.length ∧ i = .int .i64 j ∧ c = .int .i64 (cntR (l.take j)) ∧ Below w.heap.size w wr) (fun _ i _ => l.length - (intOf i).toNat)
    case atStart => exact ⟨0, Nat.zero_le _, rfl, rfl, HB1.out⟩
    case round =>
      obtain ⟨j, hj, rfl, rfl, hb⟩ := hrel
      have HB := LH hb
      clear hb
      by_cases hlt : j < l.length
      · have HRW := LH (HR.out.below hB HB.out)
        obtain ⟨b, off, rfl, hbB, c1, c2⟩ := HRW.out j hlt
        have hl := cntR_le _ _ (HK.out.take j) (by omega)
        have hl2 := cntR_le _ _ (HK.out.take (j + 1)) (by omega)
        have hf := HK.out.below l[j] (List.getElem_mem hlt)
        have hs := cntR_step l j hlt
        generalize hy : cntR (l.take j) = y at *
        generalize hx : l[j] = x at *
        have hw1 : IntKind.i64.wrap (x.2 - x.1) = x.2 - x.1 := by rw [IntKind.wrap_i64]; omega
        have hw2 : IntKind.i64.wrap (y + (x.2 - x.1)) = y + (x.2 - x.1) := by rw [IntKind.wrap_i64]; omega
        have HE : Hid (y + (x.2 - x.1) = cntR (l.take (j + 1))) := LH (by rw [hs])
        clear hs hl hl2 hf
        go_wp2
        go_roundw
        case rel => exact ⟨j + 1, hlt, by go_num, by rw [← HE.out], HB.out.alloc HB.out.size _⟩
        case measure => simp [intOf]; omega
      · obtain rfl : j = l.length := by omega
        have e : l.take l.length = l := List.take_of_length_le (Nat.le_refl _)
        rw [e]
        go_wp2
        go_ret
        exact ⟨rfl, HB.out⟩
  · rw [decide_eq_false hk] at HC
    rw [if_neg hk]
    clear hk
    go_enter Tryz.func145, Tryz.ntmps145
    go_wp2_with fail
    refine HC.out.mono ?_
    rintro e w1 ⟨rfl, hb1⟩
    have HB1 := LH hb1
    clear hb1
    go_wp2
    go_ret
    exact ⟨rfl, HB1.out⟩

theorem wpList_append_no {ops : Array Oper} {rest : List Oper} {o : Oper} {a : Act} {Q : Exit → Act → World → Prop} (W : World) (hgd : o.guard = none) (s x : Operand)
    (ho : o.op = .call { callee := .builtin .append, args := #[s, x], argTypes := #[27, 27] })
    (A A' : Option Addr) (n c c' : Nat) (hs : a.eval s = .slice A n c) (hc : n ≤ c) (hx : a.eval x = .slice A' 0 c')
    (h : wpList Tryz.prog ops Q rest (a.put o.dst (.slice A n c)) W) : wpList Tryz.prog ops Q (o :: rest) a W := by
  obtain ⟨i0, hi, _, hz1, _⟩ := info_parts infoR
  have hr : (Builtin.append_ #[27, 27] o.type #[.slice A n c, .slice A' 0 c']).run Tryz.prog W = .ok (.slice A n c) W := by
    cases A <;> cases A' <;> simp [Builtin.append_, run_underlying Tryz.underlying27, sizeOf, typeInfo, hi, Builtin.lenOf, Builtin.firstCells, hc, storeCells, loadCells, loadCellsFrom]
  refine wpList_plain hgd fun K hK => ?_
  unfold Oper.wp execOp
  simp only [ho, resolve, invoke, builtin, Sem.run_bind, Sem.run_pure, Result.andThen_ok, List.map_toArray, List.map_cons, List.map_nil, hs, hx, hr]
  exact hK _ _ h

theorem scopy (l : List Rg) (A : Option Addr) (cap B : Nat) (w : World) (hB : B ≤ w.heap.size) (hr : Rgs w B A l) (hn : l.length ≤ 1000000000) :
    Calls Tryz.prog 94 #[.slice A l.length cap] w fun e w' => ∃ v, e = .returned v ∧ OwnR w' w.heap.size v l ∧ Below w.heap.size w w' := by
  by_cases h0 : l = []
  · subst h0
    clear hr
    go_enter Tryz.func94, Tryz.ntmps94
    have HO := LH (OwnR.lit w w.heap.size 0 #[] (Nat.le_refl _) (by decide) rfl)
    have HB := LH ((Below.refl w.heap.size w).alloc (Nat.le_refl _) (.cells #[] 59))
    go_wp2_with (at_builtin; refine wpList_append_no _ rfl _ _ rfl _ A 0 0 cap rfl (Nat.le_refl _) rfl ?_)
    go_ret
    exact ⟨_, rfl, HO.out, HB.out⟩
  · obtain ⟨b, off, rfl, hb, h1, h2⟩ := hr 0 (by cases l with | nil => exact absurd rfl h0 | cons x l => exact Nat.zero_lt_succ _)
    have HR := LH (hr.keep (w' := w.alloc (.cells #[] 59)) fun k hk => heap_alloc_old w _ (by omega))
    have HO := LH (OwnR.lit w w.heap.size 0 #[] (Nat.le_refl _) (by decide) rfl)
    have HB := LH ((Below.refl w.heap.size w).alloc (Nat.le_refl _) (.cells #[] 59))
    clear h1 h2 hr
    go_enter Tryz.func94, Tryz.ntmps94
    go_wp2_with (at_builtin; refine wpList_append_rgs _ rfl _ _ rfl w.heap.size _ [] rfl HO.out b off l.length cap B l rfl rfl HR.out (by simp; omega) (by simp) ?_; intro v' w' hown' hbel)
    go_ret
    exact ⟨_, rfl, hown', HB.out.trans hbel⟩
def RowR (w : World) (base g n cap : Nat) (l : List Rg) : Prop := l.length = n ∧ w.ownsRow base 59 2 (.slice (some ⟨g, 0, none⟩) n cap) n (valsR l)
theorem RowR.own {w : World} {base g n cap : Nat} {l : List Rg} (h : RowR w base g n cap l) : OwnR w base (.slice (some ⟨g, 0, none⟩) n cap) l := by
  obtain ⟨rfl, h⟩ := h
  exact h
theorem OwnR.row {w : World} {base g cap : Nat} {l : List Rg} (h : OwnR w base (.slice (some ⟨g, 0, none⟩) l.length cap) l) : RowR w base g l.length cap l := ⟨rfl, h⟩
theorem RowR.ge {w : World} {base g n cap : Nat} {l : List Rg} (h : RowR w base g n cap l) : base ≤ g ∧ g < w.heap.size := World.ownsRow.lt h.2 g rfl
theorem RowR.cells {w : World} {base g n cap : Nat} {l : List Rg} (h : RowR w base g n cap l) (j : Nat) (hj : j < l.length) : w.cell? ⟨g, j * 2, none⟩ = some (.int .i64 l[j].1) ∧ w.cell? ⟨g, j * 2 + 1, none⟩ = some (.int .i64 l[j].2) := by
  have hn := h.1
  exact ⟨(World.ownsRow.cellAt h.2 (j * 2) (by omega)).trans (valsR_at l j hj).1, (World.ownsRow.cellAt h.2 (j * 2 + 1) (by omega)).trans (valsR_at l j hj).2⟩
theorem RowR.free {w : World} {base g n cap : Nat} {l : List Rg} (h : RowR w base g n cap l) (k : Nat) : w.frozen? ⟨g, k, none⟩ = false := World.ownsRow.frozenAt h.2 k
theorem RowR.later {w w' : World} {base g n cap : Nat} {l : List Rg} (h : RowR w base g n cap l) (hb : Below w.heap.size w w') : RowR w' base g n cap l := ⟨h.1, owns_later h.2 hb⟩
theorem RowR.alloc {w : World} {base g n cap : Nat} {l : List Rg} (h : RowR w base g n cap l) (o : Obj) : RowR (w.alloc o) base g n cap l := ⟨h.1, World.ownsRow.alloc h.2 o⟩
theorem valsR_set0 (l : List Rg) : ∀ j (h : j < l.length) (a : Int), (valsR l).set (j * 2) (.int .i64 a) = valsR (l.set j (a, l[j].2)) := by
  induction l with
  | nil => intro j h; cases h
  | cons x l ih =>
    intro j h a
    cases j with
    | zero => rfl
    | succ j =>
      have := ih j (by simpa using h) a
      rw [show (j + 1) * 2 = j * 2 + 1 + 1 from by omega]
      show Value.int .i64 x.1 :: Value.int .i64 x.2 :: (valsR l).set (j * 2) (.int .i64 a) = _
      rw [this]
      rfl
theorem RowR.store0 {w : World} {base g n cap : Nat} {l : List Rg} (h : RowR w base g n cap l) (j : Nat) (hj : j < l.length) (a : Int) : RowR (w.setCell ⟨g, j * 2, none⟩ (.int .i64 a)) base g n cap (l.set j (a, l[j].2)) := by
  refine ⟨by simpa using h.1, ?_⟩
  rw [← valsR_set0 l j hj a]
  exact (World.ownsRow.stored h.2 (j * 2) (.int .i64 a)).1
theorem Rgs.tail {w : World} {B b off : Nat} {x : Rg} {l : List Rg} (h : Rgs w B (some ⟨b, off, none⟩) (x :: l)) : Rgs w B (some ⟨b, off + 2, none⟩) l := by
  intro j hj
  obtain ⟨b', off', hA, hlt, h1, h2⟩ := h (j + 1) (by simpa using hj)
  injection hA with hA
  injection hA with e1 e2 _
  subst e1
  subst e2
  refine ⟨b, off + 2, rfl, hlt, ?_, ?_⟩
  · rw [show off + 2 + j * 2 = off + (j + 1) * 2 from by omega]
    simpa using h1
  · rw [show off + 2 + j * 2 + 1 = off + (j + 1) * 2 + 1 from by omega]
    simpa using h2
theorem Rgs.head {w : World} {B : Nat} {A : Option Addr} {x : Rg} {l : List Rg} (h : Rgs w B A (x :: l)) : ∃ b off, A = some ⟨b, off, none⟩ ∧ b < B ∧ w.cell? ⟨b, off, none⟩ = some (.int .i64 x.1) ∧ w.cell? ⟨b, off + 1, none⟩ = some (.int .i64 x.2) := by
  obtain ⟨b, off, hA, hlt, h1, h2⟩ := h 0 (by simp)
  exact ⟨b, off, hA, hlt, by simpa using h1, by simpa using h2⟩

theorem sfol (s : Sn) (v1 v2 v3 v4 : Value) (w : World) :
    Calls Tryz.prog 64 #[snV s v1 v2 v3 v4] w fun e w' => e = .returned (.int .i64 (folS s)) ∧ Below w.heap.size w w' := by
  have X := LH (Cell12.new w s.st s.rn.size s.rn.base s.rn.en v1 v2 v3 v4 s.fin s.fi s.sent s.code 29)
  have HB := LH ((Below.refl w.heap.size w).alloc (Nat.le_refl _) (.cells (snB s v1 v2 v3 v4) 29))
  by_cases h1 : s.fi = 3
  · skip
    by_cases h2 : s.rn.base = s.rn.en
    · skip
      have HV : Hid (folS s = 3) := LH (by unfold folS; (repeat' split) <;> omega)
      have t1 : (s.fi == 3) = true := by simpa using h1
      have t2 : (s.rn.base == s.rn.en) = true := by simpa using h2
      clear h1 h2
      go_enter Tryz.func64, Tryz.ntmps64
      obtain ⟨a0, a1, a2, a3, a4, a5, a6, a7, a8, a9, a10, a11⟩ := X.out
      go_wp2
      go_ret
      exact ⟨by rw [HV.out]; rfl, HB.out⟩
    · skip
      have h3 : 1 < s.fi := by omega
      have HV : Hid (folS s = 2) := LH (by unfold folS; (repeat' split) <;> omega)
      have t1 : (s.fi == 3) = true := by simpa using h1
      have t2 : (s.rn.base == s.rn.en) = false := by simpa using h2
      have t3 : decide (1 < s.fi) = true := decide_eq_true h3
      clear h1 h2 h3
      go_enter Tryz.func64, Tryz.ntmps64
      obtain ⟨a0, a1, a2, a3, a4, a5, a6, a7, a8, a9, a10, a11⟩ := X.out
      go_wp2
      go_ret
      exact ⟨by rw [HV.out]; rfl, HB.out⟩
  · skip
    by_cases h3 : 1 < s.fi
    · skip
      have HV : Hid (folS s = 2) := LH (by unfold folS; (repeat' split) <;> omega)
      have t1 : (s.fi == 3) = false := by simpa using h1
      have t3 : decide (1 < s.fi) = true := decide_eq_true h3
      clear h1 h3
      go_enter Tryz.func64, Tryz.ntmps64
      obtain ⟨a0, a1, a2, a3, a4, a5, a6, a7, a8, a9, a10, a11⟩ := X.out
      go_wp2
      go_ret
      exact ⟨by rw [HV.out]; rfl, HB.out⟩
    · skip
      by_cases h4 : s.fi = 1
      · skip
        by_cases h5 : s.st = 2
        · skip
          have HV : Hid (folS s = 2) := LH (by unfold folS; (repeat' split) <;> omega)
          have t1 : (s.fi == 3) = false := by simpa using h1
          have t3 : decide (1 < s.fi) = false := decide_eq_false h3
          have t4 : (s.fi == 1) = true := by simpa using h4
          have t5 : (s.st == 2) = true := by simpa using h5
          clear h1 h3 h4 h5
          go_enter Tryz.func64, Tryz.ntmps64
          obtain ⟨a0, a1, a2, a3, a4, a5, a6, a7, a8, a9, a10, a11⟩ := X.out
          go_wp2
          go_ret
          exact ⟨by rw [HV.out]; rfl, HB.out⟩
        · skip
          by_cases h6 : 0 < s.sent
          · skip
            have HV : Hid (folS s = 1) := LH (by unfold folS; (repeat' split) <;> omega)
            have t1 : (s.fi == 3) = false := by simpa using h1
            have t3 : decide (1 < s.fi) = false := decide_eq_false h3
            have t4 : (s.fi == 1) = true := by simpa using h4
            have t5 : (s.st == 2) = false := by simpa using h5
            have t6 : decide (0 < s.sent) = true := decide_eq_true h6
            clear h1 h3 h4 h5 h6
            go_enter Tryz.func64, Tryz.ntmps64
            obtain ⟨a0, a1, a2, a3, a4, a5, a6, a7, a8, a9, a10, a11⟩ := X.out
            go_wp2
            go_ret
            exact ⟨by rw [HV.out]; rfl, HB.out⟩
          · skip
            by_cases h7 : s.st = 1
            · skip
              have HV : Hid (folS s = 1) := LH (by unfold folS; (repeat' split) <;> omega)
              have t1 : (s.fi == 3) = false := by simpa using h1
              have t3 : decide (1 < s.fi) = false := decide_eq_false h3
              have t4 : (s.fi == 1) = true := by simpa using h4
              have t5 : (s.st == 2) = false := by simpa using h5
              have t6 : decide (0 < s.sent) = false := decide_eq_false h6
              have t7 : (s.st == 1) = true := by simpa using h7
              clear h1 h3 h4 h5 h6 h7
              go_enter Tryz.func64, Tryz.ntmps64
              obtain ⟨a0, a1, a2, a3, a4, a5, a6, a7, a8, a9, a10, a11⟩ := X.out
              go_wp2
              go_ret
              exact ⟨by rw [HV.out]; rfl, HB.out⟩
            · skip
              have HV : Hid (folS s = 0) := LH (by unfold folS; (repeat' split) <;> omega)
              have t1 : (s.fi == 3) = false := by simpa using h1
              have t3 : decide (1 < s.fi) = false := decide_eq_false h3
              have t4 : (s.fi == 1) = true := by simpa using h4
              have t5 : (s.st == 2) = false := by simpa using h5
              have t6 : decide (0 < s.sent) = false := decide_eq_false h6
              have t7 : (s.st == 1) = false := by simpa using h7
              clear h1 h3 h4 h5 h6 h7
              go_enter Tryz.func64, Tryz.ntmps64
              obtain ⟨a0, a1, a2, a3, a4, a5, a6, a7, a8, a9, a10, a11⟩ := X.out
              go_wp2
              go_ret
              exact ⟨by rw [HV.out]; rfl, HB.out⟩
      · skip
        by_cases h6 : 0 < s.sent
        · skip
          have HV : Hid (folS s = 1) := LH (by unfold folS; (repeat' split) <;> omega)
          have t1 : (s.fi == 3) = false := by simpa using h1
          have t3 : decide (1 < s.fi) = false := decide_eq_false h3
          have t4 : (s.fi == 1) = false := by simpa using h4
          have t6 : decide (0 < s.sent) = true := decide_eq_true h6
          clear h1 h3 h4 h6
          go_enter Tryz.func64, Tryz.ntmps64
          obtain ⟨a0, a1, a2, a3, a4, a5, a6, a7, a8, a9, a10, a11⟩ := X.out
          go_wp2
          go_ret
          exact ⟨by rw [HV.out]; rfl, HB.out⟩
        · skip
          have HV : Hid (folS s = 0) := LH (by unfold folS; (repeat' split) <;> omega)
          have t1 : (s.fi == 3) = false := by simpa using h1
          have t3 : decide (1 < s.fi) = false := decide_eq_false h3
          have t4 : (s.fi == 1) = false := by simpa using h4
          have t6 : decide (0 < s.sent) = false := decide_eq_false h6
          clear h1 h3 h4 h6
          go_enter Tryz.func64, Tryz.ntmps64
          obtain ⟨a0, a1, a2, a3, a4, a5, a6, a7, a8, a9, a10, a11⟩ := X.out
          go_wp2
          go_ret
          exact ⟨by rw [HV.out]; rfl, HB.out⟩


theorem wpList_append_ints {ops : Array Oper} {rest : List Oper} {o : Oper} {a : Act} {Q : Exit → Act → World → Prop} (W : World) (hgd : o.guard = none) (s x : Operand)
    (ho : o.op = .call { callee := .builtin .append, args := #[s, x], argTypes := #[24, 24] })
    (base : Nat) (v : Value) (l : List Int) (hs : a.eval s = v) (hown : OwnI W base v l)
    (b off m c B : Nat) (r : List Int) (hx : a.eval x = .slice (some ⟨b, off, none⟩) m c) (hm : r.length = m) (hr : Ints W B (some ⟨b, off, none⟩) r)
    (hlen : l.length + m ≤ 1000000000000) (hbase : base ≤ W.heap.size)
    (h : ∀ v' w', OwnI w' base v' (l ++ r) → Below base W w' → wpList Tryz.prog ops Q rest (a.put o.dst v') w') : wpList Tryz.prog ops Q (o :: rest) a W := by
  obtain ⟨i0, hi, hz0, hz1, hz2⟩ := info_parts infoI
  subst hm
  refine wpList_append_own W hgd s x 24 ho base 3 i0 (.int .i64 0) 1 8 Tryz.underlying24 hi hz0 hz1 hz2 rfl (by decide) v l.length (valsI l) hs hown ⟨b, off, none⟩ r.length c (valsI r) hx (by rw [valsI_len]; omega) ?_ ?_ (by unfold maxLen; omega) (by omega) hbase ?_
  · intro j u hu
    have hj : j < r.length := by
      have := (List.getElem?_eq_some_iff.1 hu).1
      simpa [valsI] using this
    obtain ⟨b2, off2, e, _, hc⟩ := hr j hj
    injection e with e
    injection e with e1 e2
    subst e1 e2
    have e3 : (⟨b, off, none⟩ : Addr).add j = ⟨b, off + j, none⟩ := by simp [Addr.add]
    rw [e3, hc]
    rw [← hu]
    simp only [valsI, List.getElem?_map, List.getElem?_eq_getElem hj, Option.map_some]
  · intro u hu
    simp only [valsI, List.mem_map] at hu
    obtain ⟨q, _, rfl⟩ := hu
    rfl
  · intro v' w' h1 h2 _
    refine h v' w' ?_ ((Below.refl _ _).grown h2 hbase (fun k hk => (World.ownsRow.lt hown k hk).1))
    have e : valsI (l ++ r) = valsI l ++ valsI r := by simp [valsI]
    unfold OwnI
    rw [e, List.length_append]
    exact h1

theorem eqi_nil (A : Option Addr) (n c : Nat) (w : World) : (binOp .eql 24 (.slice A n c) (.slice none 0 0)).run Tryz.prog w = .ok (.bool A.isNone) w := by
  simp [binOp, run_equal_slice_nil w 24 3 A n c Tryz.underlying24]

theorem iclonei (l : List Int) (A : Option Addr) (cap B : Nat) (w : World) (hB : B ≤ w.heap.size) (hr : Ints w B A l) (hn : l.length ≤ 1000000000) :
    Calls Tryz.prog 126 #[.slice A l.length cap] w fun e w' => ∃ v, e = .returned v ∧ OwnI w' w.heap.size v l ∧ Below w.heap.size w w' := by
  cases A with
  | none =>
    obtain rfl : l = [] := by
      cases l with
      | nil => rfl
      | cons x l => obtain ⟨b, off, hA, _⟩ := hr 0 (by simp); cases hA
    clear hr
    have hq := fun W => eqi_nil none 0 cap W
    simp only [Option.isNone] at hq
    go_enter Tryz.func126, Tryz.ntmps126
    go_wp2
    go_ret
    exact ⟨_, rfl, OwnI.empty, Below.refl _ _⟩
  | some x =>
    by_cases h0 : l = []
    · subst h0
      clear hr
      have hq := fun W => eqi_nil (some x) 0 cap W
      simp only [Option.isNone] at hq
      have HO := LH (OwnI.lit w w.heap.size 0 #[] (Nat.le_refl _) (by decide) rfl)
      have HB := LH ((Below.refl w.heap.size w).alloc (Nat.le_refl _) (.cells #[] 3))
      go_enter Tryz.func126, Tryz.ntmps126
      go_wp2_with (at_builtin; refine wpList_append_no _ rfl _ _ rfl _ (some x) 0 0 cap rfl (Nat.le_refl _) rfl ?_)
      go_ret
      exact ⟨_, rfl, HO.out, HB.out⟩
    · obtain ⟨b, off, hA, hb, h1⟩ := hr 0 (by cases l with | nil => exact absurd rfl h0 | cons x l => exact Nat.zero_lt_succ _)
      injection hA with hA
      subst hA
      have HR := LH (hr.keep (w' := w.alloc (.cells #[] 3)) fun k hk => heap_alloc_old w _ (by omega))
      have HO := LH (OwnI.lit w w.heap.size 0 #[] (Nat.le_refl _) (by decide) rfl)
      have HB := LH ((Below.refl w.heap.size w).alloc (Nat.le_refl _) (.cells #[] 3))
      have hq := fun W => eqi_nil (some ⟨b, off, none⟩) l.length cap W
      simp only [Option.isNone] at hq
      clear h1 hr
      go_enter Tryz.func126, Tryz.ntmps126
      go_wp2_with (at_builtin; refine wpList_append_ints _ rfl _ _ rfl w.heap.size _ [] rfl HO.out b off l.length cap B l rfl rfl HR.out (by simp; omega) (by simp) ?_; intro v' w' hown' hbel)
      go_ret
      exact ⟨_, rfl, hown', HB.out.trans hbel⟩

theorem iclonern (r : Rn) (A : Option Addr) (cap B : Nat) (w : World) (hB : B ≤ w.heap.size) (hr : Ints w B A r.cs) (hn : r.cs.length ≤ 1000000000) :
    Calls Tryz.prog 80 #[rnV r (.slice A r.cs.length cap)] w fun e w' => ∃ v, e = .returned (rnV r v) ∧ OwnK w' w.heap.size v r.cs ∧ Below w.heap.size w w' := by
  have HH := LH (IrN.start w r (.slice A r.cs.length cap))
  have HCL : Hid (∀ W, Below w.heap.size w W → Calls Tryz.prog 126 #[.slice A r.cs.length cap] W fun e w' => ∃ v, e = .returned v ∧ OwnI w' W.heap.size v r.cs ∧ Below W.heap.size W w') := LH fun W h => iclonei r.cs A cap B W (Nat.le_trans hB h.size) (hr.below hB h) hn
  clear hr hn
  go_enter Tryz.func80, Tryz.ntmps80
  go_upto_region 1 with fail
  generalize (w.alloc (.cells (rnC r.size r.base r.en (.slice A r.cs.length cap)) 26)).alloc (.cells (rnC 0 0 0 (.slice none 0 0)) 26) = w2 at *
  obtain ⟨a0, a1, a2, a3⟩ := HH.out.b.cells
  have af := HH.out.b.free
  go_wp2_with fail
  refine (HCL.out _ HH.out.bl).mono ?_
  rintro e w3 ⟨v, rfl, ho, hb⟩
  have HH3 := LH (HH.out.next hb)
  obtain ⟨A3, c3, rfl, _, _⟩ := ho.ints
  have HO3 : Hid (OwnK w3 (w.heap.size + 2) (.slice A3 r.cs.length c3) r.cs) := LH (ho.k.weaken HH.out.o.lt)
  clear ho hb a0 a1 a2 a3 af HH HCL
  obtain ⟨a0, a1, a2, a3⟩ := HH3.out.b.cells
  have af := HH3.out.b.free
  go_upto_region 2 with fail
  have HH4 := LH (HH3.out.put3 r.cs (.slice A3 r.cs.length c3))
  have HO4 := LH (HO3.out.apart w.heap.size 3 (.slice A3 r.cs.length c3) (by omega))
  clear a0 a1 a2 a3 af HH3 HO3
  generalize w3.setCell ⟨w.heap.size, 3, none⟩ (.slice A3 r.cs.length c3) = w4 at *
  obtain ⟨a0, a1, a2, a3⟩ := HH4.out.b.cells
  obtain ⟨q0, q1, q2, q3⟩ := HH4.out.o.cells
  have qf := HH4.out.o.free
  go_wp2
  have X := HH4.out.out r.size r.base r.en _ r.cs HO4.out
  refine bodyPost_ret (results_cell_row rfl _ _ (w.heap.size + 1) _ _ _ _ rfl X.1 Tryz.underlying26 rfl (by kernel_rfl)) rfl ?_
  exact ⟨_, rfl, X.2.1, X.2.2⟩

def stC (u sz : Int) (l : List Int) : Array Value := ((Value.int .i32 u) :: (Value.int .u32 0) :: (Value.int .i64 sz) :: valsI l).toArray
theorem stC_size (u sz : Int) (l : List Int) : (stC u sz l).size = l.length + 3 := by simp [stC, valsI_len]
def StM (w : World) (g : Nat) (u sz : Int) (l : List Int) : Prop := w.heap[g]? = some (.cells (stC u sz l) 164 (0, 0)) ∧ l.length = 64
theorem StM.lt {w : World} {g : Nat} {u sz : Int} {l : List Int} (x : StM w g u sz l) : g < w.heap.size := (Array.getElem?_eq_some_iff.1 x.1).1
theorem StM.free {w : World} {g : Nat} {u sz : Int} {l : List Int} (x : StM w g u sz l) (k : Nat) : w.frozen? ⟨g, k, none⟩ = false := by
  simp [World.frozen?, x.1]
theorem StM.c0 {w : World} {g : Nat} {u sz : Int} {l : List Int} (x : StM w g u sz l) : w.cell? ⟨g, 0, none⟩ = some (.int .i32 u) := cell_of_row w g 0 _ _ _ x.1
theorem StM.c2 {w : World} {g : Nat} {u sz : Int} {l : List Int} (x : StM w g u sz l) : w.cell? ⟨g, 2, none⟩ = some (.int .i64 sz) := cell_of_row w g 2 _ _ _ x.1
theorem StM.at {w : World} {g : Nat} {u sz : Int} {l : List Int} (x : StM w g u sz l) (k : Nat) (hk : k < l.length) : w.cell? ⟨g, 3 + k, none⟩ = some (.int .i64 l[k]) :=
  (cell_of_row w g (3 + k) _ _ _ x.1).trans (by simp [stC, valsI, Nat.add_comm 3 k, hk])
theorem StM.below {w w' : World} {K g : Nat} {u sz : Int} {l : List Int} (x : StM w g u sz l) (hb : Below K w w') (hg : g < K) : StM w' g u sz l := ⟨(hb.block g hg).trans x.1, x.2⟩
theorem StM.lock {w : World} {g : Nat} {u sz : Int} {l : List Int} (x : StM w g u sz l) (v : Int) : StM (w.setCell ⟨g, 0, none⟩ (.int .i32 v)) g v sz l := by
  refine ⟨?_, x.2⟩
  have := x.1
  simp [World.setCell, Array.getElem?_modify, this, stC]
theorem StM.set {w : World} {g : Nat} {u sz : Int} {l : List Int} (x : StM w g u sz l) (k : Nat) (v : Int) : StM (w.setCell ⟨g, 3 + k, none⟩ (.int .i64 v)) g u sz (l.set k v) := by
  refine ⟨?_, by rw [List.length_set]; exact x.2⟩
  have := x.1
  simp [World.setCell, Array.getElem?_modify, this, stC, Nat.add_comm 3 k, valsI, List.map_set]
theorem StM.copied {u sz : Int} (r : List Int) : ((stC u sz (List.replicate 64 0)).toList.take 3 ++ valsI r ++ (stC u sz (List.replicate 64 0)).toList.drop (3 + (valsI r).length)).toArray = stC u sz (padR r) := by
  have e : 3 + (valsI r).length = ((valsI r).length + 1 + 1 + 1) := by omega
  have e2 : ∀ n, (valsI (List.replicate 64 0)).drop n = valsI (List.replicate (64 - n) 0) := fun n => by
    unfold valsI
    rw [← List.map_drop, List.drop_replicate]
  unfold stC padR
  rw [e, List.take_succ_cons, List.take_succ_cons, List.take_succ_cons, List.take_zero, List.drop_succ_cons, List.drop_succ_cons, List.drop_succ_cons, e2, valsI_len]
  simp only [valsI, List.map_append, List.cons_append, List.nil_append]

theorem step_copyI {ops : Array Oper} {o : Oper} {a : Act} {w : World} {K : Act → World → Prop} {Q : Exit → Act → World → Prop} {E : Prop}
    (hgd : o.guard = none) (d x : Operand) (ho : o.op = .call { callee := .builtin .copy, args := #[d, x], argTypes := #[24, 24] })
    (g : Nat) (u sz : Int) (hd : a.eval d = .slice (some ⟨g, 3, none⟩) 64 64) (r : List Int) (B : Nat) (A : Option Addr) (c : Nat) (h0 : 0 < r.length) (h1 : r.length ≤ 64)
    (hx : a.eval x = .slice A r.length c) (hr : Ints w B A r) (hg : StM w g u sz (List.replicate 64 0))
    (h : ∀ w', StM w' g u sz (padR r) → Below g w w' → K (a.put o.dst (goInt r.length)) w') :
    if Region.wanted o (yielded ops a.tmps) = true then Oper.wp Tryz.prog o a w K Q else E := by
  have hw : Region.wanted o (yielded ops a.tmps) = true := by simp [Region.wanted, hgd]
  rw [if_pos hw]
  obtain ⟨b, off, rfl, _, _⟩ := hr 0 h0
  have hrun := run_copy_row (P := Tryz.prog) w 24 24 o.type 3 g 3 64 64 ⟨b, off, none⟩ r.length c (stC u sz (List.replicate 64 0)) _ (valsI r) Tryz.underlying24 (by
      obtain ⟨i0, hi, _, hz1, _⟩ := info_parts infoI
      rw [hi]; exact congrArg some hz1) hg.1 (by rw [valsI_len]; exact (Nat.min_eq_left h1).symm) (by
    intro j v hv
    have hj : j < r.length := by
      have := (List.getElem?_eq_some_iff.1 hv).1
      simpa [valsI] using this
    obtain ⟨b2, off2, e, _, hc⟩ := hr j hj
    injection e with e
    injection e with e1 e2
    subst e1 e2
    have e3 : (⟨b, off, none⟩ : Addr).add j = ⟨b, off + j, none⟩ := by simp [Addr.add]
    rw [e3, hc, ← hv]
    simp only [valsI, List.getElem?_map, List.getElem?_eq_getElem hj, Option.map_some]) (by rw [stC_size, valsI_len, List.length_replicate]; omega) (by
    intro v hv
    simp only [valsI, List.mem_map] at hv
    obtain ⟨q, _, rfl⟩ := hv
    rfl)
  rw [StM.copied r, valsI_len] at hrun
  unfold Oper.wp
  simp [execOp, ho, resolve, invoke, builtin, hd, hx, hrun, Result.andThen]
  exact h _ ⟨setRow_heap w g _ _ _ _ hg.1, padR_len h1⟩ (below_setRow (Below.refl g w) (Nat.le_refl _) _)

theorem eql_nil (A : Option Addr) (n c : Nat) (w : World) : (binOp .eql 27 (.slice A n c) (.slice none 0 0)).run Tryz.prog w = .ok (.bool A.isNone) w := by
  simp [binOp, run_equal_slice_nil w 27 59 A n c Tryz.underlying27]

theorem iclone (l : List Rg) (A : Option Addr) (cap B : Nat) (w : World) (hB : B ≤ w.heap.size) (hr : Rgs w B A l) (hn : l.length ≤ 1000000000) :
    Calls Tryz.prog 81 #[.slice A l.length cap] w fun e w' => ∃ v, e = .returned v ∧ OwnR w' w.heap.size v l ∧ Below w.heap.size w w' := by
  cases A with
  | none =>
    obtain rfl : l = [] := by
      cases l with
      | nil => rfl
      | cons x l => obtain ⟨b, off, hA, _⟩ := hr 0 (by simp); cases hA
    clear hr
    have hq := fun W => eql_nil none 0 cap W
    simp only [Option.isNone] at hq
    go_enter Tryz.func81, Tryz.ntmps81
    go_wp2
    go_ret
    exact ⟨_, rfl, OwnR.empty, Below.refl _ _⟩
  | some x =>
    by_cases h0 : l = []
    · subst h0
      clear hr
      have hq := fun W => eql_nil (some x) 0 cap W
      simp only [Option.isNone] at hq
      have HO := LH (OwnR.lit w w.heap.size 0 #[] (Nat.le_refl _) (by decide) rfl)
      have HB := LH ((Below.refl w.heap.size w).alloc (Nat.le_refl _) (.cells #[] 59))
      go_enter Tryz.func81, Tryz.ntmps81
      go_wp2_with (at_builtin; refine wpList_append_no _ rfl _ _ rfl _ (some x) 0 0 cap rfl (Nat.le_refl _) rfl ?_)
      go_ret
      exact ⟨_, rfl, HO.out, HB.out⟩
    · obtain ⟨b, off, hA, hb, h1, h2⟩ := hr 0 (by cases l with | nil => exact absurd rfl h0 | cons x l => exact Nat.zero_lt_succ _)
      injection hA with hA
      subst hA
      have HR := LH (hr.keep (w' := w.alloc (.cells #[] 59)) fun k hk => heap_alloc_old w _ (by omega))
      have HO := LH (OwnR.lit w w.heap.size 0 #[] (Nat.le_refl _) (by decide) rfl)
      have HB := LH ((Below.refl w.heap.size w).alloc (Nat.le_refl _) (.cells #[] 59))
      have hq := fun W => eql_nil (some ⟨b, off, none⟩) l.length cap W
      simp only [Option.isNone] at hq
      clear h1 h2 hr
      go_enter Tryz.func81, Tryz.ntmps81
      go_wp2_with (at_builtin; refine wpList_append_rgs _ rfl _ _ rfl w.heap.size _ [] rfl HO.out b off l.length cap B l rfl rfl HR.out (by simp; omega) (by simp) ?_; intro v' w' hown' hbel)
      go_ret
      exact ⟨_, rfl, hown', HB.out.trans hbel⟩

theorem IrS.putc {w : World} {n go : Nat} {R : Nat → Option Obj} {s : Sn} {v1 v2 v3 v4 : Value} {W : World} (h : IrS w n go R s v1 v2 v3 v4 W) (k : Nat) (y : Value) {s' : Sn} {u1 u2 u3 u4 : Value} (hb : RowS (W.setCell ⟨w.heap.size, k, none⟩ y) w.heap.size s' u1 u2 u3 u4) : IrS w n go R s' u1 u2 u3 u4 (W.setCell ⟨w.heap.size, k, none⟩ y) :=
  ⟨hb, h.o.other w.heap.size k y (by have := h.lo; omega), h.bl.setCell (p := ⟨w.heap.size, k, none⟩) (Nat.le_refl _) y, by simpa [World.setCell] using h.sz, h.lo, fun j a b => (Below.heap_setCell W ⟨w.heap.size, k, none⟩ y j (by show j ≠ w.heap.size; omega)).trans (h.kp j a b)⟩
theorem IrS.putN {w : World} {n go : Nat} {R : Nat → Option Obj} {s : Sn} {v1 v2 v3 v4 : Value} {W : World} (h : IrS w n go R s v1 v2 v3 v4 W) (r : Rn) (v : Value) : IrS w n go R { s with rn := r } v v2 v3 v4 ((((W.setCell ⟨w.heap.size, 1, none⟩ (.int .i64 r.size)).setCell ⟨w.heap.size, 2, none⟩ (.int .i64 r.base)).setCell ⟨w.heap.size, 3, none⟩ (.int .i64 r.en)).setCell ⟨w.heap.size, 4, none⟩ v) := by
  have h1 := h.putc 1 (.int .i64 r.size) (h.b.set1 r.size)
  have h2 := h1.putc 2 (.int .i64 r.base) (h1.b.set2 r.base)
  have h3 := h2.putc 3 (.int .i64 r.en) (h2.b.set3 r.en)
  exact h3.putc 4 v (h3.b.set4 v r.cs)
theorem laidN_size (W : World) (g : Nat) (r : Rn) (v : Value) : ((((W.setCell ⟨g, 1, none⟩ (.int .i64 r.size)).setCell ⟨g, 2, none⟩ (.int .i64 r.base)).setCell ⟨g, 3, none⟩ (.int .i64 r.en)).setCell ⟨g, 4, none⟩ v).heap.size = W.heap.size := by simp [World.setCell]
theorem setCell_size (W : World) (p : Addr) (v : Value) : (W.setCell p v).heap.size = W.heap.size := by simp [World.setCell]
theorem OwnK.laidN {w : World} {B : Nat} {u : Value} {l : List Int} (h : OwnK w B u l) (g : Nat) (hg : g < B) (r : Rn) (v : Value) : OwnK ((((w.setCell ⟨g, 1, none⟩ (.int .i64 r.size)).setCell ⟨g, 2, none⟩ (.int .i64 r.base)).setCell ⟨g, 3, none⟩ (.int .i64 r.en)).setCell ⟨g, 4, none⟩ v) B u l := (((h.apart g 1 _ hg).apart g 2 _ hg).apart g 3 _ hg).apart g 4 _ hg
theorem OwnP.laidN {w : World} {B : Nat} {u : Value} {l : List Rg} (h : OwnP w B u l) (g : Nat) (hg : g < B) (r : Rn) (v : Value) : OwnP ((((w.setCell ⟨g, 1, none⟩ (.int .i64 r.size)).setCell ⟨g, 2, none⟩ (.int .i64 r.base)).setCell ⟨g, 3, none⟩ (.int .i64 r.en)).setCell ⟨g, 4, none⟩ v) B u l := (((h.apart g 1 _ hg).apart g 2 _ hg).apart g 3 _ hg).apart g 4 _ hg
def OrS (w : World) (n go : Nat) (R : Nat → Option Obj) (x : Sn) (u1 u2 u3 u4 : Value) (W : World) : Prop := IrS w n go R x u1 u2 u3 u4 W ∧ OwnSn W (w.heap.size + n) u1 u2 u3 u4 x
theorem OrS.next {w : World} {n go : Nat} {R : Nat → Option Obj} {x : Sn} {u1 u2 u3 u4 : Value} {W W' : World} (h : OrS w n go R x u1 u2 u3 u4 W) (hb : Below W.heap.size W W') : OrS w n go R x u1 u2 u3 u4 W' := ⟨h.1.next hb, h.2.later hb⟩
theorem OrS.alloc {w : World} {n go : Nat} {R : Nat → Option Obj} {x : Sn} {u1 u2 u3 u4 : Value} {W : World} (h : OrS w n go R x u1 u2 u3 u4 W) (o : Obj) : OrS w n go R x u1 u2 u3 u4 (W.alloc o) := h.next ((Below.refl _ _).alloc (Nat.le_refl _) _)
theorem OrS.laid {w : World} {n go : Nat} {R : Nat → Option Obj} {s : Sn} {v1 v2 v3 v4 : Value} {W : World} (h : IrS w n go R s v1 v2 v3 v4 W) {x : Sn} {u1 u2 u3 u4 : Value} (ho : OwnSn W (w.heap.size + n) u1 u2 u3 u4 x) : OrS w n go R x u1 u2 u3 u4 ((((((((((((W.setCell ⟨w.heap.size, 0, none⟩ (.int .i64 x.st)).setCell ⟨w.heap.size, 1, none⟩ (.int .i64 x.rn.size)).setCell ⟨w.heap.size, 2, none⟩ (.int .i64 x.rn.base)).setCell ⟨w.heap.size, 3, none⟩ (.int .i64 x.rn.en)).setCell ⟨w.heap.size, 4, none⟩ u1).setCell ⟨w.heap.size, 5, none⟩ u2).setCell ⟨w.heap.size, 6, none⟩ u3).setCell ⟨w.heap.size, 7, none⟩ u4).setCell ⟨w.heap.size, 8, none⟩ (.int .i64 x.fin)).setCell ⟨w.heap.size, 9, none⟩ (.int .i64 x.fi)).setCell ⟨w.heap.size, 10, none⟩ (.int .i64 x.sent)).setCell ⟨w.heap.size, 11, none⟩ (.int .i64 x.code)) := by
  show OrS w n go R x u1 u2 u3 u4 (laidS W w.heap.size x u1 u2 u3 u4)
  have hz : ∀ (j : Nat), j ≠ w.heap.size → (laidS W w.heap.size x u1 u2 u3 u4).heap[j]? = W.heap[j]? := fun j hj => by
    have q : ∀ (W : World) (k : Nat) (y : Value), (W.setCell ⟨w.heap.size, k, none⟩ y).heap[j]? = W.heap[j]? := fun W k y => Below.heap_setCell W ⟨w.heap.size, k, none⟩ y j hj
    simp only [laidS, q]
  refine ⟨⟨laidS_row h.b _ _ _ _ _, (hz go (by have := h.lo; omega)).trans h.o, laidS_below h.bl (Nat.le_refl _) _ _ _ _ _, ?_, h.lo, fun j a b => (hz j (by omega)).trans (h.kp j a b)⟩, laidS_own ho (by have := h.lo; omega) _ _ _ _ _⟩
  have e : (laidS W w.heap.size x u1 u2 u3 u4).heap.size = W.heap.size := by simp [laidS]
  rw [e]
  exact h.sz
theorem OrS.putn {w : World} {n go : Nat} {R : Nat → Option Obj} {x x' : Sn} {u1 u2 u3 u4 : Value} {W : World} (h : OrS w n go R x u1 u2 u3 u4 W) (k : Nat) (y : Value) (hb : RowS (W.setCell ⟨w.heap.size, k, none⟩ y) w.heap.size x' u1 u2 u3 u4) (e1 : x'.rn.cs = x.rn.cs) (e2 : x'.pe = x.pe) (e3 : x'.fl = x.fl) (e4 : x'.ac = x.ac) : OrS w n go R x' u1 u2 u3 u4 (W.setCell ⟨w.heap.size, k, none⟩ y) := by
  refine ⟨h.1.putc k y hb, ?_⟩
  show OwnS _ _ _ _ _ _ x'.rn.cs x'.pe x'.fl x'.ac
  rw [e1, e2, e3, e4]
  exact h.2.apart w.heap.size k y (by have := h.1.lo; omega)
theorem OrS.put8 {w : World} {n go : Nat} {R : Nat → Option Obj} {x : Sn} {u1 u2 u3 u4 : Value} {W : World} (h : OrS w n go R x u1 u2 u3 u4 W) (y : Int) : OrS w n go R { x with fin := y } u1 u2 u3 u4 (W.setCell ⟨w.heap.size, 8, none⟩ (.int .i64 y)) := h.putn 8 _ (h.1.b.set8 y) rfl rfl rfl rfl
theorem OrS.put9 {w : World} {n go : Nat} {R : Nat → Option Obj} {x : Sn} {u1 u2 u3 u4 : Value} {W : World} (h : OrS w n go R x u1 u2 u3 u4 W) (y : Int) : OrS w n go R { x with fi := y } u1 u2 u3 u4 (W.setCell ⟨w.heap.size, 9, none⟩ (.int .i64 y)) := h.putn 9 _ (h.1.b.set9 y) rfl rfl rfl rfl
theorem OrS.putR {w : World} {n go : Nat} {R : Nat → Option Obj} {x : Sn} {u1 u2 u3 u4 : Value} {W W' : World} (h : OrS w n go R x u1 u2 u3 u4 W) (hb : Below W.heap.size W W') {v : Value} {r : Rn} (ho : OwnK W' W.heap.size v r.cs) : OrS w n go R { x with rn := r } v u2 u3 u4 ((((W'.setCell ⟨w.heap.size, 1, none⟩ (.int .i64 r.size)).setCell ⟨w.heap.size, 2, none⟩ (.int .i64 r.base)).setCell ⟨w.heap.size, 3, none⟩ (.int .i64 r.en)).setCell ⟨w.heap.size, 4, none⟩ v) := by
  have h' := h.next hb
  have hg : w.heap.size < w.heap.size + n := by have := h.1.lo; omega
  have hu := h.2.under
  exact ⟨h'.1.putN r v, ⟨(ho.weaken h.1.sz).laidN _ hg _ _, (h'.2.1.2.1).laidN _ hg _ _, (h'.2.1.2.2.1).laidN _ hg _ _, (h'.2.1.2.2.2).laidN _ hg _ _⟩, ⟨(apart_new hu.2.1 ho.lo).symm, (apart_new hu.2.2.1 ho.lo).symm, (apart_new hu.2.2.2 ho.lo).symm⟩, h.2.2.2.1, h.2.2.2.2⟩
theorem OrS.putP {w : World} {n go : Nat} {R : Nat → Option Obj} {x : Sn} {u1 u2 u3 u4 : Value} {W W' : World} (h : OrS w n go R x u1 u2 u3 u4 W) (hb : Below W.heap.size W W') {v : Value} {l : List Rg} (ho : OwnP W' W.heap.size v l) : OrS w n go R { x with pe := l } u1 v u3 u4 (W'.setCell ⟨w.heap.size, 5, none⟩ v) := by
  have h' := h.next hb
  have hg : w.heap.size < w.heap.size + n := by have := h.1.lo; omega
  have hu := h.2.under
  exact ⟨h'.1.putc 5 v (h'.1.b.set5 v l), ⟨h'.2.1.1.apart _ 5 v hg, (ho.weaken h.1.sz).apart _ 5 v hg, h'.2.1.2.2.1.apart _ 5 v hg, h'.2.1.2.2.2.apart _ 5 v hg⟩, ⟨apart_new hu.1 ho.lo, h.2.2.1.2.1, h.2.2.1.2.2⟩, ⟨(apart_new hu.2.2.1 ho.lo).symm, (apart_new hu.2.2.2 ho.lo).symm⟩, h.2.2.2.2⟩
theorem icloneS (s : Sn) (A1 A2 A3 A4 : Option Addr) (c1 c2 c3 c4 B : Nat) (w : World) (hB : B ≤ w.heap.size) (hr : ReadS w B A1 A2 A3 A4 s) (hn : LenS 1000000000 s) :
    Calls Tryz.prog 28 #[snV s (.slice A1 s.rn.cs.length c1) (.slice A2 s.pe.length c2) (.slice A3 s.fl.length c3) (.slice A4 s.ac.length c4)] w fun e w' => ∃ v1 v2 v3 v4, e = .returned (snV s v1 v2 v3 v4) ∧ OwnSn w' w.heap.size v1 v2 v3 v4 s ∧ Below w.heap.size w w' := by
  have HH := LH (IrS.start w (fun _ => none) s (.slice A1 s.rn.cs.length c1) (.slice A2 s.pe.length c2) (.slice A3 s.fl.length c3) (.slice A4 s.ac.length c4))
  have HC1 : Hid (∀ W, Below w.heap.size w W → Calls Tryz.prog 80 #[rnV s.rn (.slice A1 s.rn.cs.length c1)] W fun e w' => ∃ v, e = .returned (rnV s.rn v) ∧ OwnK w' W.heap.size v s.rn.cs ∧ Below W.heap.size W w') := LH fun W h => iclonern s.rn A1 c1 B W (Nat.le_trans hB h.size) (hr.1.below hB h) hn.1
  have HC2 : Hid (∀ W, Below w.heap.size w W → Calls Tryz.prog 81 #[.slice A2 s.pe.length c2] W fun e w' => ∃ v, e = .returned v ∧ OwnR w' W.heap.size v s.pe ∧ Below W.heap.size W w') := LH fun W h => iclone s.pe A2 c2 B W (Nat.le_trans hB h.size) (hr.2.1.below hB h) hn.2.1
  have HC3 : Hid (∀ W, Below w.heap.size w W → Calls Tryz.prog 81 #[.slice A3 s.fl.length c3] W fun e w' => ∃ v, e = .returned v ∧ OwnR w' W.heap.size v s.fl ∧ Below W.heap.size W w') := LH fun W h => iclone s.fl A3 c3 B W (Nat.le_trans hB h.size) (hr.2.2.1.below hB h) hn.2.2.1
  have HC4 : Hid (∀ W, Below w.heap.size w W → Calls Tryz.prog 81 #[.slice A4 s.ac.length c4] W fun e w' => ∃ v, e = .returned v ∧ OwnR w' W.heap.size v s.ac ∧ Below W.heap.size W w') := LH fun W h => iclone s.ac A4 c4 B W (Nat.le_trans hB h.size) (hr.2.2.2.below hB h) hn.2.2.2
  clear hr hn
  go_enter Tryz.func28, Tryz.ntmps28
  go_upto_region 1 with fail
  generalize (w.alloc (.cells (snB s (.slice A1 s.rn.cs.length c1) (.slice A2 s.pe.length c2) (.slice A3 s.fl.length c3) (.slice A4 s.ac.length c4)) 29)).alloc (.cells (snC 0 0 0 0 (.slice none 0 0) (.slice none 0 0) (.slice none 0 0) (.slice none 0 0) 0 0 0 0) 29) = w2 at *
  obtain ⟨a0, a1, a2, a3, a4, a5, a6, a7, a8, a9, a10, a11⟩ := HH.out.b.cells
  have af := HH.out.b.free
  go_wp2_with fail
  refine (HC1.out _ HH.out.bl).mono ?_
  rintro e w3 ⟨u1, rfl, ho, hb⟩
  obtain ⟨B1, d1, rfl, _, _⟩ := ho.frs
  have HO1 := LH (ho.weaken HH.out.sz)
  have HL1 := LH (fun k hk => (ho.lt k hk).2)
  have HH := LH (HH.out.next hb)
  clear ho hb a0 a1 a2 a3 a4 a5 a6 a7 a8 a9 a10 a11 af
  obtain ⟨a0, a1, a2, a3, a4, a5, a6, a7, a8, a9, a10, a11⟩ := HH.out.b.cells
  have af := HH.out.b.free
  go_upto_region 2 with fail
  have HH := LH (HH.out.putN s.rn (.slice B1 s.rn.cs.length d1))
  have HO1 := LH (HO1.out.laidN w.heap.size (by omega) s.rn (.slice B1 s.rn.cs.length d1))
  have HZ := LH (laidN_size w3 w.heap.size s.rn (.slice B1 s.rn.cs.length d1))
  clear a0 a1 a2 a3 a4 a5 a6 a7 a8 a9 a10 a11 af
  generalize ((((w3.setCell ⟨w.heap.size, 1, none⟩ (.int .i64 s.rn.size)).setCell ⟨w.heap.size, 2, none⟩ (.int .i64 s.rn.base)).setCell ⟨w.heap.size, 3, none⟩ (.int .i64 s.rn.en)).setCell ⟨w.heap.size, 4, none⟩ (.slice B1 s.rn.cs.length d1)) = w4 at *
  rw [← HZ.out] at HL1
  clear HZ
  obtain ⟨a0, a1, a2, a3, a4, a5, a6, a7, a8, a9, a10, a11⟩ := HH.out.b.cells
  have af := HH.out.b.free
  go_wp2_with fail
  refine (HC2.out _ HH.out.bl).mono ?_
  rintro e w5 ⟨u2, rfl, ho, hb⟩
  obtain ⟨B2, d2, rfl, _, _⟩ := ho.p.frs
  have HO2 := LH (ho.p.weaken HH.out.sz)
  have HG2 := LH ho.p.lo
  have HL2 := LH (fun k hk => (ho.p.lt k hk).2)
  have HZ2 := LH hb.size
  have HH := LH (HH.out.next hb)
  have HO1 := LH (HO1.out.later hb)
  clear ho hb a0 a1 a2 a3 a4 a5 a6 a7 a8 a9 a10 a11 af
  obtain ⟨a0, a1, a2, a3, a4, a5, a6, a7, a8, a9, a10, a11⟩ := HH.out.b.cells
  have af := HH.out.b.free
  go_upto_region 3 with fail
  have HH := LH (HH.out.putc 5 (.slice B2 s.pe.length d2) (HH.out.b.set5 (.slice B2 s.pe.length d2) s.pe))
  have HO1 := LH (HO1.out.apart w.heap.size 5 (.slice B2 s.pe.length d2) (by omega))
  have HO2 := LH (HO2.out.apart w.heap.size 5 (.slice B2 s.pe.length d2) (by omega))
  have HZ := LH (setCell_size w5 ⟨w.heap.size, 5, none⟩ (.slice B2 s.pe.length d2))
  clear a0 a1 a2 a3 a4 a5 a6 a7 a8 a9 a10 a11 af
  generalize w5.setCell ⟨w.heap.size, 5, none⟩ (.slice B2 s.pe.length d2) = w6 at *
  rw [← HZ.out] at HL2 HZ2
  clear HZ
  obtain ⟨a0, a1, a2, a3, a4, a5, a6, a7, a8, a9, a10, a11⟩ := HH.out.b.cells
  have af := HH.out.b.free
  go_wp2_with fail
  refine (HC3.out _ HH.out.bl).mono ?_
  rintro e w7 ⟨u3, rfl, ho, hb⟩
  obtain ⟨B3, d3, rfl, _, _⟩ := ho.p.frs
  have HO3 := LH (ho.p.weaken HH.out.sz)
  have HG3 := LH ho.p.lo
  have HL3 := LH (fun k hk => (ho.p.lt k hk).2)
  have HZ3 := LH hb.size
  have HH := LH (HH.out.next hb)
  have HO1 := LH (HO1.out.later hb)
  have HO2 := LH (HO2.out.later hb)
  clear ho hb a0 a1 a2 a3 a4 a5 a6 a7 a8 a9 a10 a11 af
  obtain ⟨a0, a1, a2, a3, a4, a5, a6, a7, a8, a9, a10, a11⟩ := HH.out.b.cells
  have af := HH.out.b.free
  go_upto_region 4 with fail
  have HH := LH (HH.out.putc 6 (.slice B3 s.fl.length d3) (HH.out.b.set6 (.slice B3 s.fl.length d3) s.fl))
  have HO1 := LH (HO1.out.apart w.heap.size 6 (.slice B3 s.fl.length d3) (by omega))
  have HO2 := LH (HO2.out.apart w.heap.size 6 (.slice B3 s.fl.length d3) (by omega))
  have HO3 := LH (HO3.out.apart w.heap.size 6 (.slice B3 s.fl.length d3) (by omega))
  have HZ := LH (setCell_size w7 ⟨w.heap.size, 6, none⟩ (.slice B3 s.fl.length d3))
  clear a0 a1 a2 a3 a4 a5 a6 a7 a8 a9 a10 a11 af
  generalize w7.setCell ⟨w.heap.size, 6, none⟩ (.slice B3 s.fl.length d3) = w8 at *
  rw [← HZ.out] at HL3 HZ3
  clear HZ
  obtain ⟨a0, a1, a2, a3, a4, a5, a6, a7, a8, a9, a10, a11⟩ := HH.out.b.cells
  have af := HH.out.b.free
  go_wp2_with fail
  refine (HC4.out _ HH.out.bl).mono ?_
  rintro e w9 ⟨u4, rfl, ho, hb⟩
  obtain ⟨B4, d4, rfl, _, _⟩ := ho.p.frs
  have HO4 := LH (ho.p.weaken HH.out.sz)
  have HG4 := LH ho.p.lo
  have HL4 := LH (fun k hk => (ho.p.lt k hk).2)
  have HZ4 := LH hb.size
  have HH := LH (HH.out.next hb)
  have HO1 := LH (HO1.out.later hb)
  have HO2 := LH (HO2.out.later hb)
  have HO3 := LH (HO3.out.later hb)
  clear ho hb a0 a1 a2 a3 a4 a5 a6 a7 a8 a9 a10 a11 af
  obtain ⟨a0, a1, a2, a3, a4, a5, a6, a7, a8, a9, a10, a11⟩ := HH.out.b.cells
  have af := HH.out.b.free
  go_upto_region 5 with fail
  have HH := LH (HH.out.putc 7 (.slice B4 s.ac.length d4) (HH.out.b.set7 (.slice B4 s.ac.length d4) s.ac))
  have HO1 := LH (HO1.out.apart w.heap.size 7 (.slice B4 s.ac.length d4) (by omega))
  have HO2 := LH (HO2.out.apart w.heap.size 7 (.slice B4 s.ac.length d4) (by omega))
  have HO3 := LH (HO3.out.apart w.heap.size 7 (.slice B4 s.ac.length d4) (by omega))
  have HO4 := LH (HO4.out.apart w.heap.size 7 (.slice B4 s.ac.length d4) (by omega))
  have HZ := LH (setCell_size w9 ⟨w.heap.size, 7, none⟩ (.slice B4 s.ac.length d4))
  clear a0 a1 a2 a3 a4 a5 a6 a7 a8 a9 a10 a11 af
  generalize w9.setCell ⟨w.heap.size, 7, none⟩ (.slice B4 s.ac.length d4) = w10 at *
  rw [← HZ.out] at HL4 HZ4
  clear HZ
  have HS := LH (OwnS.made HO1.out HO2.out HO3.out HO4.out HL1.out HG2.out HL2.out HG3.out HL3.out HG4.out HZ2.out HZ3.out)
  obtain ⟨a0, a1, a2, a3, a4, a5, a6, a7, a8, a9, a10, a11⟩ := HH.out.b.cells
  obtain ⟨q0, q1, q2, q3, q4, q5, q6, q7, q8, q9, q10, q11⟩ := HH.out.o.cells
  have qf := HH.out.o.free
  go_wp2
  have X := HH.out.out s _ _ _ _ HS.out
  refine bodyPost_ret (results_cell_row rfl _ _ (w.heap.size + 1) _ _ _ _ rfl X.1 Tryz.underlying29 rfl (by kernel_rfl)) rfl ?_
  exact ⟨_, _, _, _, rfl, X.2.1, X.2.2⟩

def marksR (k : Int) : Nat → List Rg
  | 0 => []
  | n + 1 => (k, k + 1) :: marksR (k + 2) n
theorem grown_refl (w : World) (g : Option Nat) : w.grownBy w g := ⟨rfl, rfl, rfl, Nat.le_refl _, fun _ _ _ => rfl⟩

theorem setCell_ne {w : World} {a b : Addr} (h : a ≠ b) (v : Value) : (w.setCell a v).cell? b = w.cell? b := by
  apply World.cell?_setCell_other
  exact h
theorem frozen_cells {w : World} {g : Nat} {cs : Array Value} {t : TypeId} (h : w.heap[g]? = some (.cells cs t (0, 0))) (k : Nat) : w.frozen? ⟨g, k, none⟩ = false := by
  simp [World.frozen?, h]
def ListAt (w : World) : Option Addr → List (Nat × Rg) → Prop
  | p, [] => p = none
  | p, (b, x) :: L => p = some ⟨b, 0, none⟩ ∧ w.cell? ⟨b, 0, none⟩ = some (.int .i64 x.1) ∧ w.cell? ⟨b, 1, none⟩ = some (.int .i64 x.2) ∧ ∃ q, w.cell? ⟨b, 2, none⟩ = some (.pointer q) ∧ ListAt w q L
def Seg (w : World) : Addr → List (Nat × Rg) → Addr → Prop
  | a, [], e => a = e
  | a, (b, x) :: L, e => w.cell? a = some (.pointer (some ⟨b, 0, none⟩)) ∧ w.cell? ⟨b, 0, none⟩ = some (.int .i64 x.1) ∧ w.cell? ⟨b, 1, none⟩ = some (.int .i64 x.2) ∧ Seg w ⟨b, 2, none⟩ L e
theorem ListAt.same {w w' : World} {L : List (Nat × Rg)} : ∀ {p}, ListAt w p L → (∀ b ∈ L.map (·.1), ∀ k, w'.cell? ⟨b, k, none⟩ = w.cell? ⟨b, k, none⟩) → ListAt w' p L := by
  induction L with
  | nil => intro p h _; exact h
  | cons y L ih =>
    obtain ⟨b, x⟩ := y
    intro p h hb
    obtain ⟨h1, h2, h3, q, h4, h5⟩ := h
    have hc := hb b (by simp)
    exact ⟨h1, (hc 0).trans h2, (hc 1).trans h3, q, (hc 2).trans h4, ih h5 fun c hc => hb c (by simp only [List.map_cons, List.mem_cons]; exact .inr hc)⟩
theorem Seg.mem {w : World} {L : List (Nat × Rg)} : ∀ {a e}, Seg w a L e → (L = [] ∧ a = e) ∨ (∃ b, b ∈ L.map (·.1) ∧ e = ⟨b, 2, none⟩) := by
  induction L with
  | nil => intro a e h; exact .inl ⟨rfl, h⟩
  | cons y L ih =>
    obtain ⟨b, x⟩ := y
    intro a e h
    obtain ⟨h1, h2, h3, h4⟩ := h
    rcases ih h4 with ⟨_, rfl⟩ | ⟨c, hc, rfl⟩
    · exact .inr ⟨b, by simp, rfl⟩
    · exact .inr ⟨c, by simp only [List.map_cons, List.mem_cons]; exact .inr hc, rfl⟩
theorem Seg.same {w w' : World} {L : List (Nat × Rg)} : ∀ {a e}, Seg w a L e → (a.block :: L.map (·.1)).Nodup → (∀ p : Addr, p ≠ e → p.block ∈ a.block :: L.map (·.1) → w'.cell? p = w.cell? p) → Seg w' a L e := by
  induction L with
  | nil => intro a e h _ _; exact h
  | cons y L ih =>
    obtain ⟨b, x⟩ := y
    intro a e h hnd hb
    obtain ⟨h1, h2, h3, h4⟩ := h
    have hnd' : a.block ∉ b :: L.map (·.1) ∧ (b :: L.map (·.1)).Nodup := List.nodup_cons.1 (by simpa using hnd)
    have hm := h4.mem
    have he : ∃ c, c ∈ b :: L.map (·.1) ∧ e = ⟨c, 2, none⟩ := by
      rcases hm with ⟨_, rfl⟩ | ⟨c, hc, rfl⟩
      · exact ⟨b, List.mem_cons_self, rfl⟩
      · exact ⟨c, List.mem_cons_of_mem _ hc, rfl⟩
    obtain ⟨c, hc, rfl⟩ := he
    refine ⟨(hb a (by intro h; apply hnd'.1; rw [h]; exact hc) List.mem_cons_self).trans h1, (hb _ (by simp) (by simp)).trans h2, (hb _ (by simp) (by simp)).trans h3, ?_⟩
    exact ih h4 (by simpa using hnd'.2) fun p hp hpm => hb p hp (List.mem_cons_of_mem _ (by simpa using hpm))
theorem Seg.snoc {w : World} {L : List (Nat × Rg)} {b : Nat} {x : Rg} : ∀ {a e}, Seg w a L e → w.cell? e = some (.pointer (some ⟨b, 0, none⟩)) → w.cell? ⟨b, 0, none⟩ = some (.int .i64 x.1) → w.cell? ⟨b, 1, none⟩ = some (.int .i64 x.2) → Seg w a (L ++ [(b, x)]) ⟨b, 2, none⟩ := by
  induction L with
  | nil => intro a e h h1 h2 h3; cases h; exact ⟨h1, h2, h3, rfl⟩
  | cons y L ih =>
    obtain ⟨c, z⟩ := y
    intro a e h h1 h2 h3
    obtain ⟨g1, g2, g3, g4⟩ := h
    exact ⟨g1, g2, g3, ih g4 h1 h2 h3⟩
theorem Seg.all {w : World} {L L2 : List (Nat × Rg)} : ∀ {a e p}, Seg w a L e → w.cell? e = some (.pointer p) → ListAt w p L2 → ∃ q, w.cell? a = some (.pointer q) ∧ ListAt w q (L ++ L2) := by
  induction L with
  | nil => intro a e p h h1 h2; cases h; exact ⟨p, h1, h2⟩
  | cons y L ih =>
    obtain ⟨c, z⟩ := y
    intro a e p h h1 h2
    obtain ⟨g1, g2, g3, g4⟩ := h
    obtain ⟨q, h3, h4⟩ := ih g4 h1 h2
    exact ⟨_, g1, rfl, g2, g3, q, h3, h4⟩

def blk (h : Nat) (L : List (Nat × Rg)) : List Nat := h :: L.map (·.1)
structure St (w : World) (base h : Nat) (L1 L2 : List (Nat × Rg)) (eb eo : Nat) : Prop where
  seg : Seg w ⟨h, 0, none⟩ L1 ⟨eb, eo, none⟩
  rest : ∃ p, w.cell? ⟨eb, eo, none⟩ = some (.pointer p) ∧ ListAt w p L2
  nd : (blk h (L1 ++ L2)).Nodup
  old : ∀ b ∈ blk h (L1 ++ L2), base ≤ b ∧ b < w.heap.size
  free : ∀ b ∈ blk h (L1 ++ L2), ∀ k, w.frozen? ⟨b, k, none⟩ = false
theorem blk_append (h : Nat) (L1 L2 : List (Nat × Rg)) : blk h (L1 ++ L2) = blk h L1 ++ L2.map (·.1) := by simp [blk]
theorem St.link {w : World} {base h eb eo : Nat} {L1 L2 : List (Nat × Rg)} (s : St w base h L1 L2 eb eo) : eb ∈ blk h L1 ∧ (eo = 0 ∨ eo = 2) := by
  rcases s.seg.mem with ⟨_, e⟩ | ⟨b, hb, e⟩
  · injection e with e1 e2
    subst e1
    exact ⟨List.mem_cons_self, .inl e2.symm⟩
  · injection e with e1 e2
    subst e1
    exact ⟨List.mem_cons_of_mem _ hb, .inr e2⟩
theorem St.apart {w : World} {base h eb eo : Nat} {L1 L2 : List (Nat × Rg)} (s : St w base h L1 L2 eb eo) : eb ∉ L2.map (·.1) := by
  have hd := s.nd
  rw [blk_append] at hd
  exact fun h2 => (List.nodup_append.1 hd).2.2 eb s.link.1 eb h2 rfl
theorem St.keep {w w' : World} {base h eb eo : Nat} {L1 L2 : List (Nat × Rg)} (s : St w base h L1 L2 eb eo) (hs : w.heap.size ≤ w'.heap.size) (hb : ∀ b ∈ blk h (L1 ++ L2), w'.heap[b]? = w.heap[b]?) : St w' base h L1 L2 eb eo := by
  have hc : ∀ b ∈ blk h (L1 ++ L2), ∀ k, w'.cell? ⟨b, k, none⟩ = w.cell? ⟨b, k, none⟩ := fun b h k => World.cell?_of_block (hb b h)
  have hm1 : ∀ b ∈ blk h L1, b ∈ blk h (L1 ++ L2) := fun b h => by rw [blk_append]; exact List.mem_append_left _ h
  have hm2 : ∀ b ∈ L2.map (·.1), b ∈ blk h (L1 ++ L2) := fun b h => by rw [blk_append]; exact List.mem_append_right _ h
  obtain ⟨p, h1, h2⟩ := s.rest
  have hnd : (blk h L1).Nodup := by have := s.nd; rw [blk_append] at this; exact (List.nodup_append.1 this).1
  refine ⟨s.seg.same hnd fun q _ hq => World.cell?_of_block (hb q.block (hm1 _ hq)), ⟨p, (hc eb (hm1 _ s.link.1) eo).trans h1, h2.same fun b hb k => hc b (hm2 b hb) k⟩, s.nd, fun b hb => ⟨(s.old b hb).1, Nat.lt_of_lt_of_le (s.old b hb).2 hs⟩, fun b h k => (World.frozen?_of_block (hb b h)).trans (s.free b h k)⟩
theorem St.below {w w' : World} {base h eb eo : Nat} {L1 L2 : List (Nat × Rg)} (s : St w base h L1 L2 eb eo) (hb : Below w.heap.size w w') : St w' base h L1 L2 eb eo :=
  s.keep hb.size fun b h => hb.block b (s.old b h).2
theorem St.other {w : World} {base h eb eo : Nat} {L1 L2 : List (Nat × Rg)} (s : St w base h L1 L2 eb eo) (g k : Nat) (v : Value) (hg : g ∉ blk h (L1 ++ L2)) : St (w.setCell ⟨g, k, none⟩ v) base h L1 L2 eb eo :=
  s.keep (by simp [World.setCell]) fun b hb => Below.heap_setCell w ⟨g, k, none⟩ v b (by rintro rfl; exact hg hb)
theorem St.cut {w : World} {base h eb eo b : Nat} {x : Rg} {L1 L2 : List (Nat × Rg)} (s : St w base h L1 ((b, x) :: L2) eb eo) :
    w.cell? ⟨eb, eo, none⟩ = some (.pointer (some ⟨b, 0, none⟩)) ∧ w.cell? ⟨b, 0, none⟩ = some (.int .i64 x.1) ∧ w.cell? ⟨b, 1, none⟩ = some (.int .i64 x.2) ∧ ∃ q, w.cell? ⟨b, 2, none⟩ = some (.pointer q) ∧ St (w.setCell ⟨eb, eo, none⟩ (.pointer q)) base h L1 L2 eb eo := by
  obtain ⟨p, h1, h2, h3, h4, q, h5, h6⟩ := s.rest
  subst h2
  refine ⟨h1, h3, h4, q, h5, ?_⟩
  have hap := s.apart
  have hd := s.nd
  rw [blk_append] at hd
  have hsub : ∀ c, c ∈ blk h (L1 ++ L2) → c ∈ blk h (L1 ++ (b, x) :: L2) := by
    intro c hc
    rw [blk_append] at hc ⊢
    rcases List.mem_append.1 hc with hc | hc
    · exact List.mem_append_left _ hc
    · exact List.mem_append_right _ (List.mem_cons_of_mem _ hc)
  have hnd : (blk h L1).Nodup := (List.nodup_append.1 hd).1
  refine ⟨s.seg.same hnd fun p hp _ => setCell_ne (fun e => hp e.symm) _, ⟨q, World.cell?_setCell_same' _ _ _ (by rw [h1]; rfl), h6.same fun c hc k => setCell_ne (fun e => by injection e with e1 _; subst e1; exact hap (List.mem_cons_of_mem _ hc)) _⟩, ?_, fun c hc => ?_, fun c hc k => ?_⟩
  · rw [blk_append]
    have h7 := List.nodup_append.1 hd
    exact List.nodup_append.2 ⟨h7.1, (List.nodup_cons.1 h7.2.1).2, fun a ha c hc => h7.2.2 a ha c (List.mem_cons_of_mem _ hc)⟩
  · have := s.old c (hsub c hc)
    simpa [World.setCell] using this
  · rw [World.frozen?_setCell]
    exact s.free c (hsub c hc) k
theorem St.next {w : World} {base h eb eo b : Nat} {x : Rg} {L1 L2 : List (Nat × Rg)} (s : St w base h L1 ((b, x) :: L2) eb eo) : St w base h (L1 ++ [(b, x)]) L2 b 2 := by
  obtain ⟨p, h1, h2, h3, h4, q, h5, h6⟩ := s.rest
  subst h2
  have e : L1 ++ [(b, x)] ++ L2 = L1 ++ (b, x) :: L2 := by simp
  exact ⟨s.seg.snoc h1 h3 h4, ⟨q, h5, h6⟩, by rw [e]; exact s.nd, by rw [e]; exact s.old, by rw [e]; exact s.free⟩
theorem St.put {w : World} {base h eb eo : Nat} {L1 L2 : List (Nat × Rg)} (s : St w base h L1 L2 eb eo) (r : Rg) (t : TypeId) (hbase : base ≤ w.heap.size) :
    ∃ p, w.cell? ⟨eb, eo, none⟩ = some (.pointer p) ∧ St ((w.alloc (.cells #[.int .i64 r.1, .int .i64 r.2, .pointer p] t)).setCell ⟨eb, eo, none⟩ (.pointer (some ⟨w.heap.size, 0, none⟩))) base h (L1 ++ [(w.heap.size, r)]) L2 w.heap.size 2 := by
  obtain ⟨p, h1, h2⟩ := s.rest
  refine ⟨p, h1, ?_⟩
  have hle : eb < w.heap.size := (s.old eb (by rw [blk_append]; exact List.mem_append_left _ s.link.1)).2
  have hnew : ∀ c ∈ blk h (L1 ++ L2), c ≠ w.heap.size := fun c hc e => by have := (s.old c hc).2; omega
  have hm1 : ∀ b ∈ blk h L1, b ∈ blk h (L1 ++ L2) := fun b h => by rw [blk_append]; exact List.mem_append_left _ h
  have hm2 : ∀ b ∈ L2.map (·.1), b ∈ blk h (L1 ++ L2) := fun b h => by rw [blk_append]; exact List.mem_append_right _ h
  have hd := s.nd
  rw [blk_append] at hd
  have hnd : (blk h L1).Nodup := (List.nodup_append.1 hd).1
  have hap := s.apart
  have hold : ∀ c, c < w.heap.size → ∀ k, (w.alloc (.cells #[.int .i64 r.1, .int .i64 r.2, .pointer p] t)).cell? ⟨c, k, none⟩ = w.cell? ⟨c, k, none⟩ := fun c hc k => World.cell?_of_block (Below.heap_alloc w _ c hc)
  have hnw : ∀ k, ((w.alloc (.cells #[.int .i64 r.1, .int .i64 r.2, .pointer p] t)).setCell ⟨eb, eo, none⟩ (.pointer (some ⟨w.heap.size, 0, none⟩))).cell? ⟨w.heap.size, k, none⟩ = (#[.int .i64 r.1, .int .i64 r.2, .pointer p] : Array Value)[k]? := fun k => by
    rw [setCell_ne (fun e => by injection e with e1 _; omega) _, World.cell?_alloc_at _ _ _ _ rfl]
  have hlnk : ((w.alloc (.cells #[.int .i64 r.1, .int .i64 r.2, .pointer p] t)).setCell ⟨eb, eo, none⟩ (.pointer (some ⟨w.heap.size, 0, none⟩))).cell? ⟨eb, eo, none⟩ = some (.pointer (some ⟨w.heap.size, 0, none⟩)) :=
    World.cell?_setCell_same' _ _ _ (by rw [hold eb hle, h1]; rfl)
  have e : L1 ++ [(w.heap.size, r)] ++ L2 = L1 ++ (w.heap.size, r) :: L2 := by simp
  have hmem : ∀ c, c ∈ blk h (L1 ++ (w.heap.size, r) :: L2) → c = w.heap.size ∨ c ∈ blk h (L1 ++ L2) := by
    intro c hc
    rw [blk_append] at hc ⊢
    rcases List.mem_append.1 hc with hc | hc
    · exact .inr (List.mem_append_left _ hc)
    · rcases List.mem_cons.1 hc with hc | hc
      · exact .inl hc
      · exact .inr (List.mem_append_right _ hc)
  refine ⟨Seg.snoc (e := ⟨eb, eo, none⟩) ?_ hlnk (hnw 0) (hnw 1), ⟨p, hnw 2, h2.same fun c hc k => ?_⟩, ?_, fun c hc => ?_, fun c hc k => ?_⟩
  · refine s.seg.same hnd fun q hq hm => ?_
    rw [setCell_ne (fun e => hq e.symm) _]
    exact World.cell?_of_block (Below.heap_alloc w _ q.block (s.old q.block (hm1 _ hm)).2)
  · rw [setCell_ne (fun e => by injection e with e1 _; subst e1; exact hap hc) _]
    exact hold c (s.old c (hm2 c hc)).2 k
  · rw [e, blk_append]
    have h7 := List.nodup_append.1 hd
    refine List.nodup_append.2 ⟨h7.1, List.nodup_cons.2 ⟨fun hc => hnew _ (hm2 _ hc) rfl, h7.2.1⟩, fun a ha c hc => ?_⟩
    rcases List.mem_cons.1 hc with rfl | hc
    · exact hnew a (hm1 a ha)
    · exact h7.2.2 a ha c hc
  · rw [e] at hc
    rcases hmem c hc with rfl | hc
    · exact ⟨hbase, by simp [World.setCell]⟩
    · have := s.old c hc
      refine ⟨this.1, ?_⟩
      simp [World.setCell]
      omega
  · rw [e] at hc
    rw [World.frozen?_setCell]
    rcases hmem c hc with rfl | hc
    · exact frozen_cells (heap_alloc_new w _) k
    · exact (World.frozen?_of_block (Below.heap_alloc w _ c (s.old c hc).2)).trans (s.free c hc k)

theorem wpList_append_chno {ops : Array Oper} {rest : List Oper} {o : Oper} {a : Act} {Q : Exit → Act → World → Prop} (W : World) (hgd : o.guard = none) (s x : Operand)
    (ho : o.op = .call { callee := .builtin .append, args := #[s, x], argTypes := #[36, 36] })
    (A A' : Option Addr) (n c c' : Nat) (hs : a.eval s = .slice A n c) (hc : n ≤ c) (hx : a.eval x = .slice A' 0 c')
    (h : wpList Tryz.prog ops Q rest (a.put o.dst (.slice A n c)) W) : wpList Tryz.prog ops Q (o :: rest) a W := by
  obtain ⟨i0, hi, _, hz1, _⟩ := info_parts infoC
  have hr : (Builtin.append_ #[36, 36] o.type #[.slice A n c, .slice A' 0 c']).run Tryz.prog W = .ok (.slice A n c) W := by
    cases A <;> cases A' <;> simp [Builtin.append_, run_underlying Tryz.underlying36, sizeOf, typeInfo, hi, Builtin.lenOf, Builtin.firstCells, hc, storeCells, loadCells, loadCellsFrom]
  refine wpList_plain hgd fun K hK => ?_
  unfold Oper.wp execOp
  simp only [ho, resolve, invoke, builtin, Sem.run_bind, Sem.run_pure, Result.andThen_ok, List.map_toArray, List.map_cons, List.map_nil, hs, hx, hr]
  exact hK _ _ h
theorem eql_nilC (A : Option Addr) (n c : Nat) (w : World) : (binOp .eql 36 (.slice A n c) (.slice none 0 0)).run Tryz.prog w = .ok (.bool A.isNone) w := by
  simp [binOp, run_equal_slice_nil w 36 140 A n c Tryz.underlying36]

theorem iclonec (l : List Ch) (A : Option Addr) (cap B : Nat) (w : World) (hB : B ≤ w.heap.size) (hr : Chs w B A l) (hn : l.length ≤ 1000000000) :
    Calls Tryz.prog 134 #[.slice A l.length cap] w fun e w' => ∃ v, e = .returned v ∧ OwnC w' w.heap.size v l ∧ Below w.heap.size w w' := by
  cases A with
  | none =>
    obtain rfl : l = [] := by
      cases l with
      | nil => rfl
      | cons x l => obtain ⟨b, off, hA, _⟩ := hr 0 (by simp); cases hA
    clear hr
    have hq := fun W => eql_nilC none 0 cap W
    simp only [Option.isNone] at hq
    go_enter Tryz.func134, Tryz.ntmps134
    go_wp2
    go_ret
    exact ⟨_, rfl, OwnC.empty, Below.refl _ _⟩
  | some x =>
    by_cases h0 : l = []
    · subst h0
      clear hr
      have hq := fun W => eql_nilC (some x) 0 cap W
      simp only [Option.isNone] at hq
      have HO := LH (OwnC.lit w w.heap.size 0 #[] (Nat.le_refl _) (by decide) rfl)
      have HB := LH ((Below.refl w.heap.size w).alloc (Nat.le_refl _) (.cells #[] 140))
      go_enter Tryz.func134, Tryz.ntmps134
      go_wp2_with (at_builtin; refine wpList_append_chno _ rfl _ _ rfl _ (some x) 0 0 cap rfl (Nat.le_refl _) rfl ?_)
      go_ret
      exact ⟨_, rfl, HO.out, HB.out⟩
    · obtain ⟨b, off, hA, hb, h1⟩ := hr 0 (by cases l with | nil => exact absurd rfl h0 | cons x l => exact Nat.zero_lt_succ _)
      injection hA with hA
      subst hA
      have HR := LH (hr.keep (w' := w.alloc (.cells #[] 140)) fun k hk => heap_alloc_old w _ (by omega))
      have HO := LH (OwnC.lit w w.heap.size 0 #[] (Nat.le_refl _) (by decide) rfl)
      have HB := LH ((Below.refl w.heap.size w).alloc (Nat.le_refl _) (.cells #[] 140))
      have hq := fun W => eql_nilC (some ⟨b, off, none⟩) l.length cap W
      simp only [Option.isNone] at hq
      clear h1 hr
      go_enter Tryz.func134, Tryz.ntmps134
      go_wp2_with (at_builtin; refine wpList_append_ch _ rfl _ _ rfl w.heap.size _ [] rfl HO.out b off l.length cap B l rfl rfl HR.out (by simp; omega) (by simp) ?_; intro v' w' hown' hbel)
      go_ret
      exact ⟨_, rfl, hown', HB.out.trans hbel⟩
theorem icloneb (n : Int) (l : List Ch) (A : Option Addr) (cap B : Nat) (w : World) (hB : B ≤ w.heap.size) (hr : Chs w B A l) (hn : l.length ≤ 1000000000) :
    Calls Tryz.prog 106 #[bfV n (.slice A l.length cap)] w fun e w' => ∃ v, e = .returned (bfV n v) ∧ OwnC w' w.heap.size v l ∧ Below w.heap.size w w' := by
  have s1 : ∀ o1, (w.alloc o1).heap.size = w.heap.size + 1 := fun _ => by simp
  have s2 : ∀ o1 o2, ((w.alloc o1).alloc o2).heap.size = w.heap.size + 1 + 1 := fun _ _ => by simp
  have HB2 := LH (((Below.refl w.heap.size w).alloc (Nat.le_refl _) (.cells #[.int .i64 n, .slice A l.length cap] 38)).alloc (by simp) (.cells #[.int .i64 0, .slice none 0 0] 38))
  have X1 := (BoxB.new w n (.slice A l.length cap)).alloc (.cells #[.int .i64 0, .slice none 0 0] 38)
  have X2 := BoxB.new (w.alloc (.cells #[.int .i64 n, .slice A l.length cap] 38)) 0 (.slice none 0 0)
  rw [s1] at X2
  have HS2 := LH (s2 (.cells #[.int .i64 n, .slice A l.length cap] 38) (.cells #[.int .i64 0, .slice none 0 0] 38))
  have HR2 := LH (hr.below hB HB2.out)
  have HX1 := LH X1
  have HX2 := LH X2
  clear X1 X2 s1 s2 hr
  go_enter Tryz.func106, Tryz.ntmps106
  go_upto_region 1 with fail
  generalize (w.alloc (.cells #[.int .i64 n, .slice A l.length cap] 38)).alloc (.cells #[.int .i64 0, .slice none 0 0] 38) = w2 at *
  obtain ⟨a0, a1⟩ := HX1.out.cells
  have hs2 : w2.heap.size = w.heap.size + 1 + 1 := HS2.out
  have HC := LH (iclonec l A cap B w2.drew (by show B ≤ w2.heap.size; omega) (by exact HR2.out) hn)
  have HK0 : Hid (w2.drew.cell? ⟨w.heap.size, 0, none⟩ = some (.int .i64 n) ∧ w2.drew.cell? ⟨w.heap.size, 1, none⟩ = some (.slice A l.length cap)) := LH HX1.out.cells
  have HXd1 := LH (show BoxB w2.drew w.heap.size n (.slice A l.length cap) from HX1.out)
  have HXd2 := LH (show BoxB w2.drew (w.heap.size + 1) 0 (.slice none 0 0) from HX2.out)
  go_region_held3 (fun W => W.cell? ⟨w.heap.size, 0, none⟩ = some (.int .i64 n) ∧ W.cell? ⟨w.heap.size, 1, none⟩ = some (.slice A l.length cap)) (first | with_reducible exact HK0.out | with_reducible exact HK1.out | with_reducible exact HK2.out) (first | (go_at_call 134; refine HC.out.mono ?_; rintro e w3 ⟨v, rfl, ho, hb⟩; obtain ⟨A1, cap1, rfl, _, _⟩ := ho.frs; have HOW := LH ho; have HBL := LH hb; have HY1 := LH (HXd1.out.below hb (by show _ < w2.heap.size; omega)); have HY2 := LH (HXd2.out.below hb (by show _ < w2.heap.size; omega)); obtain ⟨q2, q3⟩ := HY2.out.cells; have f3 := HY2.out.free; have HK1 := LH HY1.out.cells; have HK2 := LH ((HY1.out.other (w.heap.size + 1) 0 (.int .i64 n) (by omega)).other (w.heap.size + 1) 1 (.slice A1 l.length cap1) (by omega)).cells; clear ho hb))
  all_goals (
    go_wp2
    refine bodyPost_ret (results_cell_row rfl _ _ (w.heap.size + 1) _ _ _ _ rfl ((HY2.out.set0 n).set1 _) Tryz.underlying38 rfl (by kernel_rfl)) rfl ?_
    exact ⟨_, rfl, ownc_weaken ((OwnC.put (base := w2.heap.size) HOW.out (w.heap.size + 1) 0 _ (by omega)).put (w.heap.size + 1) 1 _ (by omega)) (by omega), ((HB2.out.drew.trans (HBL.out.mono (by show _ ≤ w2.heap.size; omega))).setCell (p := ⟨_, _, _⟩) (by show w.heap.size ≤ w.heap.size + 1; omega) _).setCell (p := ⟨_, _, _⟩) (by show w.heap.size ≤ w.heap.size + 1; omega) _⟩)


theorem inewrc (w : World) :
    Calls Tryz.prog 12 #[] w fun e w' => ∃ v, e = .returned (rcV nuRc v) ∧ OwnX w' w.heap.size v nuRc.buf.chs ∧ Below w.heap.size w w' := by
  have HB := LH ((Below.refl w.heap.size w).alloc (Nat.le_refl _) (.cells (rcC 0 0 (.slice none 0 0) (-1) 0 0) 40))
  go_enter Tryz.func12, Tryz.ntmps12
  go_wp2
  refine bodyPost_ret (results_cell_row rfl _ _ w.heap.size _ _ _ _ rfl (BoxR.new w 0 0 (.slice none 0 0) (-1) 0 0) Tryz.underlying40 rfl (by kernel_rfl)) rfl ?_
  exact ⟨_, rfl, OwnC.empty.x, HB.out⟩
end Go.Proofs.YtdaoaedkjoknmaaGreat
