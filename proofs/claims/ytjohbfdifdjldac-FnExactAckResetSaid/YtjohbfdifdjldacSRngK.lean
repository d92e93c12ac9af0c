/-
  Small facts on ranges that the walks of chapter 3 share.
-/
import Derived.Test.YtjohbfdifdjldacSRng
namespace Go.Proofs.Ytjohbfdifdjldac
open Go.RowKit Go.Deep Go.Proofs.Ytjohbfdifdjldac.Num

namespace Num
instance decHasR (l : List Rg) (n : Int) : Decidable (hasR l n) :=
  decidable_of_iff (l.any (fun x => decide (x.1 ≤ n) && decide (n < x.2)) = true) (by simp [hasR, List.any_eq_true])
theorem hasR_step (l : List Rg) (j : Nat) (h : j < l.length) (n : Int) : hasR (l.take (j + 1)) n ↔ hasR (l.take j) n ∨ (l[j].1 ≤ n ∧ n < l[j].2) := by
  rw [List.take_succ_eq_append_getElem h, hasR_append, hasR_cons]
  simp [hasR_nil]
theorem cntR_step (l : List Rg) (j : Nat) (h : j < l.length) : cntR (l.take (j + 1)) = cntR (l.take j) + (l[j].2 - l[j].1) := by
  rw [List.take_succ_eq_append_getElem h, cntR_append]
  simp [cntR]
theorem gapR_append (a b : List Rg) : ∀ n, gapR (a ++ b) n = gapR b (gapR a n) := by
  induction a with
  | nil => intro n; rfl
  | cons x a ih => intro n; exact ih _
theorem gapR_step (l : List Rg) (j : Nat) (h : j < l.length) (n : Int) : gapR (l.take (j + 1)) n = if l[j].1 ≤ gapR (l.take j) n ∧ gapR (l.take j) n < l[j].2 then l[j].2 else gapR (l.take j) n := by
  rw [List.take_succ_eq_append_getElem h, gapR_append]
  rfl
theorem okR.take {l : List Rg} {p : Int} (h : okR p l) (j : Nat) : okR p (l.take j) := by
  rw [← List.take_append_drop j l] at h
  exact h.prefix
end Num
theorem belowR_drewN {B : Nat} {a w : World} (h : Below B a w) (n : Nat) : Below B a (w.drewN n) := ⟨h.os, h.tape, h.output, h.size, h.block⟩

/-- The range x lies there. -/
def RCell (w : World) (b o : Nat) (x : Rg) : Prop := w.cell? ⟨b, o, none⟩ = some (.int .i64 x.1) ∧ w.cell? ⟨b, o + 1, none⟩ = some (.int .i64 x.2)
theorem RCell.below {w w' : World} {K b o : Nat} {x : Rg} (h : RCell w b o x) (hb : Below K w w') (hk : b < K) : RCell w' b o x := ⟨(hb.cell hk).trans h.1, (hb.cell hk).trans h.2⟩
theorem RCell.box (w : World) (x : Rg) (t : TypeId) : RCell (w.alloc (.cells #[.int .i64 x.1, .int .i64 x.2] t)) w.heap.size 0 x := ⟨by rw [World.cell?_alloc_at _ _ _ _ rfl]; rfl, by rw [World.cell?_alloc_at _ _ _ _ rfl]; rfl⟩

theorem own_weaken {w : World} {base base' : Nat} {v : Value} {l : List Rg} (h : OwnR w base v l) (hb : base' ≤ base) : OwnR w base' v l := by
  obtain ⟨h0, h⟩ := h
  refine ⟨h0, ?_⟩
  rcases h with h | ⟨g, cap, cur, h1, h2, h3⟩
  · exact .inl h
  · exact .inr ⟨g, cap, cur, h1, by omega, h3⟩

end Go.Proofs.Ytjohbfdifdjldac
