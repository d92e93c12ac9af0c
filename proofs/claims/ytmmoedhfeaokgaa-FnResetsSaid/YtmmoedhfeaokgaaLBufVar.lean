/-
  Variables of a law that hold a buffer: what is known of them, and what leaves them as they are.
-/
import Derived.Test.YtmmoedhfeaokgaaLBuf
import Derived.Test.YtmmoedhfeaokgaaBufN
import Derived.Test.YtmmoedhfeaokgaaSBCopy
namespace Go.Proofs.Ytmmoedhfeaokgaa
open Go.RowKit Go.Deep Go.Proofs.Ytmmoedhfeaokgaa.Num

theorem szCs_sum (l : List Ch) : ∀ n, 0 ≤ n → 0 ≤ szCs n l → sumC l ≤ n := by
  induction l with
  | nil => intro n h _; simp [sumC]; omega
  | cons f l ih =>
    intro n h h2
    unfold szCs at h2
    split at h2
    · omega
    · have := ih (n - f.data.size) (by omega) h2
      simp only [sumC]
      omega
theorem szB_sum {N : Int} {b : Bf} (h : 0 ≤ szB N b) : sumC b.chs ≤ N := by
  unfold szB at h
  split at h
  · omega
  · have := szCs_sum b.chs (N - b.chs.length) (by omega) h
    omega
/-- A variable in block g holds a buffer whose chunks are the call's own, from block B on, below g. -/
def VarB (W : World) (B g : Nat) (n : Int) (v : Value) (l : List Ch) : Prop :=
  CellB W g n v ∧ OwnX W B v l ∧ (∀ k, v.ownBlock = some k → k < g) ∧ B ≤ g ∧ g < W.heap.size
theorem VarB.new {W : World} {B : Nat} {v : Value} {l : List Ch} (n : Int) (t : TypeId) (ho : OwnX W B v l) (hB : B ≤ W.heap.size) : VarB (W.alloc (.cells #[.int .i64 n, v] t)) B W.heap.size n v l :=
  ⟨CellB.new W n v t, ho.alloc _, fun k hk => (ho.lt k hk).2, hB, by simp⟩
theorem VarB.next {W W' : World} {B g : Nat} {n : Int} {v : Value} {l : List Ch} (h : VarB W B g n v l) (hb : Below W.heap.size W W') : VarB W' B g n v l :=
  ⟨h.1.below hb h.2.2.2.2, h.2.1.later hb, h.2.2.1, h.2.2.2.1, Nat.lt_of_lt_of_le h.2.2.2.2 hb.size⟩
theorem VarB.alloc {W : World} {B g : Nat} {n : Int} {v : Value} {l : List Ch} (h : VarB W B g n v l) (o : Obj) : VarB (W.alloc o) B g n v l := h.next ((Below.refl _ _).alloc (Nat.le_refl _) _)
/-- Only one block has changed, and it is another one. -/
theorem VarB.kept {W W' : World} {B g : Nat} {n : Int} {v : Value} {l : List Ch} {ob : Option Nat} (h : VarB W B g n v l) (hg : W.grownBy W' ob) (hne : ∀ k, ob = some k → k < B ∨ g < k) : VarB W' B g n v l := by
  have e : W'.heap[g]? = W.heap[g]? := hg.block g h.2.2.2.2 (fun e => by have := hne g e.symm; have := h.2.2.2.1; omega)
  refine ⟨⟨(World.cell?_of_block (w := W) e).trans h.1.1, (World.cell?_of_block (w := W) e).trans h.1.2⟩, h.2.1.kept hg ?_, h.2.2.1, h.2.2.2.1, Nat.lt_of_lt_of_le h.2.2.2.2 hg.size⟩
  cases hv : v.ownBlock with
  | none => exact .inl rfl
  | some k =>
    refine .inr (fun e => ?_)
    have h1 := (h.2.1.lt k hv).1
    have h2 := h.2.2.1 k hv
    have := hne k e.symm
    omega
/-- The own chunks have been written: all else is as it was. -/
theorem VarB.wrote {W W' : World} {B g : Nat} {n : Int} {v : Value} {l l' : List Ch} (h : VarB W B g n v l) (hg : W.grownBy W' v.ownBlock) (ho : OwnX W' B v l') : VarB W' B g n v l' := by
  have e : W'.heap[g]? = W.heap[g]? := hg.block g h.2.2.2.2 (fun e => by have := h.2.2.1 g e.symm; omega)
  exact ⟨⟨(World.cell?_of_block (w := W) e).trans h.1.1, (World.cell?_of_block (w := W) e).trans h.1.2⟩, ho, h.2.2.1, h.2.2.2.1, Nat.lt_of_lt_of_le h.2.2.2.2 hg.size⟩
theorem VarB.in {W : World} {B g : Nat} {n : Int} {v : Value} {l : List Ch} (h : VarB W B g n v l) : ∀ k, v.ownBlock = some k → B ≤ k ∧ k < g := fun k hk => ⟨(h.2.1.lt k hk).1, h.2.2.1 k hk⟩
theorem OwnC.chs {w : World} {base : Nat} {A : Option Addr} {cap : Nat} {l : List Ch} (h : OwnC w base (.slice A l.length cap) l) : Chs w w.heap.size A l := by
  obtain ⟨A', cap', e, _, hc⟩ := h.frs
  injection e with e1 _ _
  subst e1
  exact hc
theorem InB.mark {w0 : World} {g : Nat} {n : Int} {A : Option Addr} {cap : Nat} {l : List Ch} {W W' : World} {K : Nat} (h : InB w0 g n A cap l W) (hb : Below K W W') (hK : g < K) : InB w0 g n A cap l W' :=
  ⟨h.1.below hb hK, h.2.1.below (Nat.le_of_lt hK) hb, Nat.lt_of_lt_of_le h.2.2.1 hb.size, h.2.2.2.trans (hb.mono (Nat.le_of_lt hK))⟩
/-- laws.eqBuffer of two that hold the same. -/
theorem eqvars (n : Int) (l : List Ch) (A A' : Option Addr) (cap cap' B B' : Nat) (W : World) (h : OwnX W B (.slice A l.length cap) l) (h' : OwnX W B' (.slice A' l.length cap') l) (hn : l.length ≤ 1000000000) :
    Calls Try.prog 58 #[bfV n (.slice A l.length cap), bfV n (.slice A' l.length cap')] W fun e w' => e = .returned (.bool true) ∧ Below W.heap.size W w' :=
  eqbuf n l A A' cap cap' W.heap.size W (Nat.le_refl _) h.chs h'.chs hn
end Go.Proofs.Ytmmoedhfeaokgaa
