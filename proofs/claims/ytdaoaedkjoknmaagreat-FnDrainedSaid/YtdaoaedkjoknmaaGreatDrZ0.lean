/-
  Short names of what stands in many rows.
-/
import Derived.Test.YtdaoaedkjoknmaaGreatProg
import Derived.OrdersHeld
import Derived.KernelRfl
import Derived.Lib.Hide
namespace Go.Proofs.YtdaoaedkjoknmaaGreat
open Go
theorem zA {α : Type} : type_of% (@List.getElem_toArray α) := @List.getElem_toArray α
theorem zB {α : Type} : type_of% (@List.getElem_cons_succ α) := @List.getElem_cons_succ α
theorem zC {α : Type} : type_of% (@List.getElem_cons_zero α) := @List.getElem_cons_zero α
theorem zD {α : Type} : type_of% (@List.setIfInBounds_toArray α) := @List.setIfInBounds_toArray α
theorem zE {α : Type} : type_of% (@List.set_cons_succ α) := @List.set_cons_succ α
theorem zF {α : Type} : type_of% (@List.set_cons_zero α) := @List.set_cons_zero α
theorem tK {P : Program} {md : Region.Mode} {ops : Array Oper} {Q : Exit → Act → World → Prop} {S : World → Prop} (i : Nat) {oi : Oper} {v : Value} {fuel : Nat} {listed : Array Bool} {a : Act} {w : World} (hi : ops[i]? = some oi)
    (hS : S w) (hy : ∀ w, S w → (execOp a.eval oi).run P w = .ok (.value v) w)
    (h : wpAnyH P md ops Q S fuel (listed.setIfInBounds i true) (a.put oi.dst v) w)
    (hs : Region.noSelect ops = true := by kernel_rfl) (hf : Region.free md ops listed i = true := by kernel_rfl) (hr : (Region.ready md ops listed).contains i = true := by kernel_rfl)
    (hw : Region.wanted oi (yielded ops a.tmps) = true := by rfl) (hQ : ∀ c a w, Q (.panic c) (a.put oi.dst v) w → Q (.panic c) a w := by exact fun _ _ _ h => h) : wpAnyH P md ops Q S (fuel + 1) listed a w :=
  wpAnyH_take hi hs hf hr hQ (Or.inl ⟨hw, hy⟩) hS h
theorem tN {P : Program} {md : Region.Mode} {ops : Array Oper} {Q : Exit → Act → World → Prop} {S : World → Prop} (i : Nat) {oi : Oper} {fuel : Nat} {listed : Array Bool} {a : Act} {w : World} (hi : ops[i]? = some oi)
    (hS : S w) (h : wpAnyH P md ops Q S fuel (listed.setIfInBounds i true) (a.put oi.dst undef) w)
    (hs : Region.noSelect ops = true := by kernel_rfl) (hf : Region.free md ops listed i = true := by kernel_rfl) (hr : (Region.ready md ops listed).contains i = true := by kernel_rfl)
    (hw : Region.wanted oi (yielded ops a.tmps) = false := by rfl) (hQ : ∀ c a w, Q (.panic c) (a.put oi.dst undef) w → Q (.panic c) a w := by exact fun _ _ _ h => h) : wpAnyH P md ops Q S (fuel + 1) listed a w :=
  wpAnyH_take hi hs hf hr hQ (Or.inr ⟨hw, rfl⟩) hS h
theorem LH {P : Prop} (h : P) : Go.RowKit.Hid P := Go.Lib.hid h
end Go.Proofs.YtdaoaedkjoknmaaGreat
