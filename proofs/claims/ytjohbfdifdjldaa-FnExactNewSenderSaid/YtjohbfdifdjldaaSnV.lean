/-
  Senders as values, and senders in blocks of their own.
-/
import Derived.Test.YtjohbfdifdjldaaKOwnP
import Derived.Test.YtjohbfdifdjldaaRnV
import Derived.Test.YtjohbfdifdjldaaSnN
namespace Go.Proofs.Ytjohbfdifdjldaa
open Go.RowKit Go.Deep Go.Proofs.Ytjohbfdifdjldaa.Num

/-- A sender, as a value: its numbers and its four slices. -/
abbrev snV (s : Sn) (v1 v2 v3 v4 : Value) : Value := .agg #[.int .i64 s.st, .int .i64 s.rn.size, .int .i64 s.rn.base, .int .i64 s.rn.en, v1, v2, v3, v4, .int .i64 s.fin, .int .i64 s.fi, .int .i64 s.sent, .int .i64 s.code]
/-- Its cells. -/
abbrev snC (st sz b e : Int) (v1 v2 v3 v4 : Value) (fin fi sent code : Int) : Array Value := #[.int .i64 st, .int .i64 sz, .int .i64 b, .int .i64 e, v1, v2, v3, v4, .int .i64 fin, .int .i64 fi, .int .i64 sent, .int .i64 code]
/-- Twelve cells of a block. -/
def Cell12 (w : World) (g : Nat) (st sz b e : Int) (v1 v2 v3 v4 : Value) (fin fi sent code : Int) : Prop :=
  w.cell? ⟨g, 0, none⟩ = some (.int .i64 st) ∧ w.cell? ⟨g, 1, none⟩ = some (.int .i64 sz) ∧ w.cell? ⟨g, 2, none⟩ = some (.int .i64 b) ∧ w.cell? ⟨g, 3, none⟩ = some (.int .i64 e) ∧
  w.cell? ⟨g, 4, none⟩ = some v1 ∧ w.cell? ⟨g, 5, none⟩ = some v2 ∧ w.cell? ⟨g, 6, none⟩ = some v3 ∧ w.cell? ⟨g, 7, none⟩ = some v4 ∧
  w.cell? ⟨g, 8, none⟩ = some (.int .i64 fin) ∧ w.cell? ⟨g, 9, none⟩ = some (.int .i64 fi) ∧ w.cell? ⟨g, 10, none⟩ = some (.int .i64 sent) ∧ w.cell? ⟨g, 11, none⟩ = some (.int .i64 code)
theorem Cell12.below {w w' : World} {K g : Nat} {st sz b e : Int} {v1 v2 v3 v4 : Value} {fin fi sent code : Int} (x : Cell12 w g st sz b e v1 v2 v3 v4 fin fi sent code) (hb : Below K w w') (hg : g < K) : Cell12 w' g st sz b e v1 v2 v3 v4 fin fi sent code := by
  obtain ⟨x0, x1, x2, x3, x4, x5, x6, x7, x8, x9, x10, x11⟩ := x
  have q : ∀ k, w'.cell? ⟨g, k, none⟩ = w.cell? ⟨g, k, none⟩ := fun k => hb.cell (p := ⟨g, k, none⟩) hg
  exact ⟨(q 0).trans x0, (q 1).trans x1, (q 2).trans x2, (q 3).trans x3, (q 4).trans x4, (q 5).trans x5, (q 6).trans x6, (q 7).trans x7, (q 8).trans x8, (q 9).trans x9, (q 10).trans x10, (q 11).trans x11⟩
theorem Cell12.of {w w' : World} {g : Nat} {st sz b e : Int} {v1 v2 v3 v4 : Value} {fin fi sent code : Int} (x : Cell12 w g st sz b e v1 v2 v3 v4 fin fi sent code) (h : w'.heap[g]? = w.heap[g]?) : Cell12 w' g st sz b e v1 v2 v3 v4 fin fi sent code := by
  obtain ⟨x0, x1, x2, x3, x4, x5, x6, x7, x8, x9, x10, x11⟩ := x
  have q : ∀ k, w'.cell? ⟨g, k, none⟩ = w.cell? ⟨g, k, none⟩ := fun k => World.cell?_of_block (w := w) h
  exact ⟨(q 0).trans x0, (q 1).trans x1, (q 2).trans x2, (q 3).trans x3, (q 4).trans x4, (q 5).trans x5, (q 6).trans x6, (q 7).trans x7, (q 8).trans x8, (q 9).trans x9, (q 10).trans x10, (q 11).trans x11⟩
theorem Cell12.new (w : World) (st sz b e : Int) (v1 v2 v3 v4 : Value) (fin fi sent code : Int) (t : TypeId) : Cell12 (w.alloc (.cells (snC st sz b e v1 v2 v3 v4 fin fi sent code) t)) w.heap.size st sz b e v1 v2 v3 v4 fin fi sent code := by
  refine ⟨?_, ?_, ?_, ?_, ?_, ?_, ?_, ?_, ?_, ?_, ?_, ?_⟩ <;> (rw [World.cell?_alloc_at _ _ _ _ rfl]; rfl)
/-- The sender's cells. -/
abbrev CellS (w : World) (g : Nat) (s : Sn) (v1 v2 v3 v4 : Value) : Prop := Cell12 w g s.st s.rn.size s.rn.base s.rn.en v1 v2 v3 v4 s.fin s.fi s.sent s.code
abbrev snB (s : Sn) (v1 v2 v3 v4 : Value) : Array Value := snC s.st s.rn.size s.rn.base s.rn.en v1 v2 v3 v4 s.fin s.fi s.sent s.code
/-- Two slices lie in blocks of their own. -/
def Apart (v v' : Value) : Prop := v.ownBlock = none ∨ v.ownBlock ≠ v'.ownBlock
theorem Apart.symm {v v' : Value} (h : Apart v v') : Apart v' v := by
  rcases h with h | h
  · cases hv : v'.ownBlock with
    | none => exact .inl hv
    | some k => exact .inr (by rw [h, hv]; intro e; cases e)
  · exact .inr fun e => h e.symm
/-- The four slices can be read. -/
def ReadS (w : World) (B : Nat) (A1 A2 A3 A4 : Option Addr) (s : Sn) : Prop := Ints w B A1 s.rn.cs ∧ Rgs w B A2 s.pe ∧ Rgs w B A3 s.fl ∧ Rgs w B A4 s.ac
theorem ReadS.below {w w' : World} {B K : Nat} {A1 A2 A3 A4 : Option Addr} {s : Sn} (h : ReadS w B A1 A2 A3 A4 s) (hK : B ≤ K) (hb : Below K w w') : ReadS w' B A1 A2 A3 A4 s :=
  ⟨h.1.below hK hb, h.2.1.below hK hb, h.2.2.1.below hK hb, h.2.2.2.below hK hb⟩
theorem ReadS.up {w : World} {B B' : Nat} {A1 A2 A3 A4 : Option Addr} {s : Sn} (h : ReadS w B A1 A2 A3 A4 s) (hB : B ≤ B') : ReadS w B' A1 A2 A3 A4 s :=
  ⟨h.1.up hB, h.2.1.up hB, h.2.2.1.up hB, h.2.2.2.up hB⟩
/-- The four slices are the call's own, each in a block of its own. -/
def OwnS (w : World) (B : Nat) (v1 v2 v3 v4 : Value) (l1 : List Int) (l2 l3 l4 : List Rg) : Prop :=
  (OwnK w B v1 l1 ∧ OwnP w B v2 l2 ∧ OwnP w B v3 l3 ∧ OwnP w B v4 l4) ∧ (Apart v1 v2 ∧ Apart v1 v3 ∧ Apart v1 v4) ∧ (Apart v2 v3 ∧ Apart v2 v4) ∧ Apart v3 v4
abbrev OwnSn (w : World) (B : Nat) (v1 v2 v3 v4 : Value) (s : Sn) : Prop := OwnS w B v1 v2 v3 v4 s.rn.cs s.pe s.fl s.ac
theorem OwnS.later {w w' : World} {B : Nat} {v1 v2 v3 v4 : Value} {l1 : List Int} {l2 l3 l4 : List Rg} (h : OwnS w B v1 v2 v3 v4 l1 l2 l3 l4) (hb : Below w.heap.size w w') : OwnS w' B v1 v2 v3 v4 l1 l2 l3 l4 :=
  ⟨⟨h.1.1.later hb, h.1.2.1.later hb, h.1.2.2.1.later hb, h.1.2.2.2.later hb⟩, h.2⟩
theorem OwnS.alloc {w : World} {B : Nat} {v1 v2 v3 v4 : Value} {l1 : List Int} {l2 l3 l4 : List Rg} (h : OwnS w B v1 v2 v3 v4 l1 l2 l3 l4) (o : Obj) : OwnS (w.alloc o) B v1 v2 v3 v4 l1 l2 l3 l4 := h.later ((Below.refl _ _).alloc (Nat.le_refl _) _)
theorem OwnS.weaken {w : World} {B B' : Nat} {v1 v2 v3 v4 : Value} {l1 : List Int} {l2 l3 l4 : List Rg} (h : OwnS w B v1 v2 v3 v4 l1 l2 l3 l4) (hb : B' ≤ B) : OwnS w B' v1 v2 v3 v4 l1 l2 l3 l4 :=
  ⟨⟨h.1.1.weaken hb, h.1.2.1.weaken hb, h.1.2.2.1.weaken hb, h.1.2.2.2.weaken hb⟩, h.2⟩
theorem OwnS.apart {W : World} {B : Nat} {v1 v2 v3 v4 : Value} {l1 : List Int} {l2 l3 l4 : List Rg} (h : OwnS W B v1 v2 v3 v4 l1 l2 l3 l4) (g k : Nat) (y : Value) (hg : g < B) : OwnS (W.setCell ⟨g, k, none⟩ y) B v1 v2 v3 v4 l1 l2 l3 l4 :=
  ⟨⟨h.1.1.apart g k y hg, h.1.2.1.apart g k y hg, h.1.2.2.1.apart g k y hg, h.1.2.2.2.apart g k y hg⟩, h.2⟩
theorem OwnS.frs {w : World} {B : Nat} {v1 v2 v3 v4 : Value} {l1 : List Int} {l2 l3 l4 : List Rg} (h : OwnS w B v1 v2 v3 v4 l1 l2 l3 l4) :
    ∃ (A1 A2 A3 A4 : Option Addr) (c1 c2 c3 c4 : Nat), v1 = .slice A1 l1.length c1 ∧ v2 = .slice A2 l2.length c2 ∧ v3 = .slice A3 l3.length c3 ∧ v4 = .slice A4 l4.length c4 ∧ l1.length ≤ c1 ∧ l2.length ≤ c2 ∧ l3.length ≤ c3 ∧ l4.length ≤ c4 := by
  obtain ⟨A1, c1, e1, k1, _⟩ := h.1.1.frs
  obtain ⟨A2, c2, e2, k2, _⟩ := h.1.2.1.frs
  obtain ⟨A3, c3, e3, k3, _⟩ := h.1.2.2.1.frs
  obtain ⟨A4, c4, e4, k4, _⟩ := h.1.2.2.2.frs
  exact ⟨A1, A2, A3, A4, c1, c2, c3, c4, e1, e2, e3, e4, k1, k2, k3, k4⟩
theorem OwnS.read {w : World} {B : Nat} {A1 A2 A3 A4 : Option Addr} {c1 c2 c3 c4 : Nat} {s : Sn} (h : OwnSn w B (.slice A1 s.rn.cs.length c1) (.slice A2 s.pe.length c2) (.slice A3 s.fl.length c3) (.slice A4 s.ac.length c4) s) : ReadS w w.heap.size A1 A2 A3 A4 s :=
  ⟨h.1.1.chs, h.1.2.1.rgs, h.1.2.2.1.rgs, h.1.2.2.2.rgs⟩
/-- All of their blocks are older than g. -/
def Under (g : Nat) (v1 v2 v3 v4 : Value) : Prop := (∀ k, v1.ownBlock = some k → k < g) ∧ (∀ k, v2.ownBlock = some k → k < g) ∧ (∀ k, v3.ownBlock = some k → k < g) ∧ ∀ k, v4.ownBlock = some k → k < g
theorem OwnS.under {w : World} {B : Nat} {v1 v2 v3 v4 : Value} {l1 : List Int} {l2 l3 l4 : List Rg} (h : OwnS w B v1 v2 v3 v4 l1 l2 l3 l4) : Under w.heap.size v1 v2 v3 v4 :=
  ⟨fun k hk => (h.1.1.lt k hk).2, fun k hk => (h.1.2.1.lt k hk).2, fun k hk => (h.1.2.2.1.lt k hk).2, fun k hk => (h.1.2.2.2.lt k hk).2⟩
/-- A variable in block g holds a sender whose slices are the call's own, from block B on, below g, and hold l1 .. l4. -/
def VarSM (W : World) (B g : Nat) (s : Sn) (v1 v2 v3 v4 : Value) (l1 : List Int) (l2 l3 l4 : List Rg) : Prop :=
  CellS W g s v1 v2 v3 v4 ∧ OwnS W B v1 v2 v3 v4 l1 l2 l3 l4 ∧ Under g v1 v2 v3 v4 ∧ B ≤ g ∧ g < W.heap.size
abbrev VarS (W : World) (B g : Nat) (s : Sn) (v1 v2 v3 v4 : Value) : Prop := VarSM W B g s v1 v2 v3 v4 s.rn.cs s.pe s.fl s.ac
theorem VarS.new {W : World} {B : Nat} {v1 v2 v3 v4 : Value} (s : Sn) (t : TypeId) (ho : OwnSn W B v1 v2 v3 v4 s) (hB : B ≤ W.heap.size) : VarS (W.alloc (.cells (snB s v1 v2 v3 v4) t)) B W.heap.size s v1 v2 v3 v4 :=
  ⟨Cell12.new W _ _ _ _ _ _ _ _ _ _ _ _ t, ho.alloc _, ho.under, hB, by simp⟩
theorem VarSM.next {W W' : World} {B g : Nat} {s : Sn} {v1 v2 v3 v4 : Value} {l1 : List Int} {l2 l3 l4 : List Rg} (h : VarSM W B g s v1 v2 v3 v4 l1 l2 l3 l4) (hb : Below W.heap.size W W') : VarSM W' B g s v1 v2 v3 v4 l1 l2 l3 l4 :=
  ⟨h.1.below hb h.2.2.2.2, h.2.1.later hb, h.2.2.1, h.2.2.2.1, Nat.lt_of_lt_of_le h.2.2.2.2 hb.size⟩
theorem VarSM.alloc {W : World} {B g : Nat} {s : Sn} {v1 v2 v3 v4 : Value} {l1 : List Int} {l2 l3 l4 : List Rg} (h : VarSM W B g s v1 v2 v3 v4 l1 l2 l3 l4) (o : Obj) : VarSM (W.alloc o) B g s v1 v2 v3 v4 l1 l2 l3 l4 := h.next ((Below.refl _ _).alloc (Nat.le_refl _) _)
theorem VarSM.drew {W : World} {B g : Nat} {s : Sn} {v1 v2 v3 v4 : Value} {l1 : List Int} {l2 l3 l4 : List Rg} (h : VarSM W B g s v1 v2 v3 v4 l1 l2 l3 l4) : VarSM W.drew B g s v1 v2 v3 v4 l1 l2 l3 l4 := h.next (Below.refl _ _).drew
/-- The blocks from B to g are written; all else is as it was. -/
def Within (B g : Nat) (w w' : World) : Prop := w'.os = w.os ∧ w'.tape = w.tape ∧ w'.output = w.output ∧ w.heap.size ≤ w'.heap.size ∧ ∀ k, k < w.heap.size → k < B ∨ g ≤ k → w'.heap[k]? = w.heap[k]?
/-- The sender that came in, boxed in block g: all that was made since lies behind it. -/
def InSn (w0 : World) (g : Nat) (s : Sn) (A1 A2 A3 A4 : Option Addr) (c1 c2 c3 c4 : Nat) (W : World) : Prop :=
  CellS W g s (.slice A1 s.rn.cs.length c1) (.slice A2 s.pe.length c2) (.slice A3 s.fl.length c3) (.slice A4 s.ac.length c4) ∧ ReadS W g A1 A2 A3 A4 s ∧ g < W.heap.size ∧ Below g w0 W
theorem InSn.start (w : World) (s : Sn) (A1 A2 A3 A4 : Option Addr) (c1 c2 c3 c4 : Nat) (t : TypeId) (hr : ReadS w w.heap.size A1 A2 A3 A4 s) :
    InSn w w.heap.size s A1 A2 A3 A4 c1 c2 c3 c4 (w.alloc (.cells (snB s (.slice A1 s.rn.cs.length c1) (.slice A2 s.pe.length c2) (.slice A3 s.fl.length c3) (.slice A4 s.ac.length c4)) t)) :=
  ⟨Cell12.new w _ _ _ _ _ _ _ _ _ _ _ _ t, hr.below (Nat.le_refl _) ((Below.refl _ _).alloc (Nat.le_refl _) _), by simp, (Below.refl _ _).alloc (Nat.le_refl _) _⟩
theorem InSn.next {w0 : World} {g : Nat} {s : Sn} {A1 A2 A3 A4 : Option Addr} {c1 c2 c3 c4 : Nat} {W W' : World} (h : InSn w0 g s A1 A2 A3 A4 c1 c2 c3 c4 W) (hb : Below W.heap.size W W') : InSn w0 g s A1 A2 A3 A4 c1 c2 c3 c4 W' :=
  ⟨h.1.below hb h.2.2.1, h.2.1.below (Nat.le_of_lt h.2.2.1) hb, Nat.lt_of_lt_of_le h.2.2.1 hb.size, h.2.2.2.trans (hb.mono (Nat.le_of_lt h.2.2.1))⟩
theorem InSn.alloc {w0 : World} {g : Nat} {s : Sn} {A1 A2 A3 A4 : Option Addr} {c1 c2 c3 c4 : Nat} {W : World} (h : InSn w0 g s A1 A2 A3 A4 c1 c2 c3 c4 W) (o : Obj) : InSn w0 g s A1 A2 A3 A4 c1 c2 c3 c4 (W.alloc o) := h.next ((Below.refl _ _).alloc (Nat.le_refl _) _)
theorem InSn.drew {w0 : World} {g : Nat} {s : Sn} {A1 A2 A3 A4 : Option Addr} {c1 c2 c3 c4 : Nat} {W : World} (h : InSn w0 g s A1 A2 A3 A4 c1 c2 c3 c4 W) : InSn w0 g s A1 A2 A3 A4 c1 c2 c3 c4 W.drew := h.next (Below.refl _ _).drew
end Go.Proofs.Ytjohbfdifdjldaa
