/-
  What spec.l3Copy returns.
-/
import Derived.Test.YtjohbfdifdjldacSRngK
import Derived.Laws.OwnMore
namespace Go.Proofs.Ytjohbfdifdjldac
open Go.RowKit Go.Deep Go.Proofs.Ytjohbfdifdjldac.Num

/-- An append of nothing. -/
theorem wpList_append_no {ops : Array Oper} {rest : List Oper} {o : Oper} {a : Act} {Q : Exit → Act → World → Prop} (W : World) (hgd : o.guard = none) (s x : Operand)
    (ho : o.op = .call { callee := .builtin .append, args := #[s, x], argTypes := #[33, 33] })
    (A A' : Option Addr) (n c c' : Nat) (hs : a.eval s = .slice A n c) (hc : n ≤ c) (hx : a.eval x = .slice A' 0 c')
    (h : wpList Try.prog ops Q rest (a.put o.dst (.slice A n c)) W) : wpList Try.prog ops Q (o :: rest) a W := by
  obtain ⟨i0, hi, _, hz1, _⟩ := info_parts infoR
  have hr : (Builtin.append_ #[33, 33] o.type #[.slice A n c, .slice A' 0 c']).run Try.prog W = .ok (.slice A n c) W := by
    cases A <;> cases A' <;> simp [Builtin.append_, run_underlying Try.underlying33, sizeOf, typeInfo, hi, Builtin.lenOf, Builtin.firstCells, hc, storeCells, loadCells, loadCellsFrom]
  refine wpList_plain hgd fun K hK => ?_
  unfold Oper.wp execOp
  simp only [ho, resolve, invoke, builtin, Sem.run_bind, Sem.run_pure, Result.andThen_ok, List.map_toArray, List.map_cons, List.map_nil, hs, hx, hr]
  exact hK _ _ h

set_option maxRecDepth 100000 in
/-- spec.l3Copy -/
theorem scopy (l : List Rg) (A : Option Addr) (cap B : Nat) (w : World) (hB : B ≤ w.heap.size) (hr : Rgs w B A l) (hn : l.length ≤ 1000000000) :
    Calls Try.prog 54 #[.slice A l.length cap] w fun e w' => ∃ v, e = .returned v ∧ OwnR w' w.heap.size v l ∧ Below w.heap.size w w' := by
  by_cases h0 : l = []
  · subst h0
    clear hr
    go_enter Try.func54, Try.ntmps54
    have HO := Lib.hid (OwnR.lit w w.heap.size 0 #[] (Nat.le_refl _) (by decide) rfl)
    have HB := Lib.hid ((Below.refl w.heap.size w).alloc (Nat.le_refl _) (.cells #[] 56))
    go_wp2_with (at_builtin; refine wpList_append_no _ rfl _ _ rfl _ A 0 0 cap rfl (Nat.le_refl _) rfl ?_)
    go_ret
    exact ⟨_, rfl, HO.out, HB.out⟩
  · obtain ⟨b, off, rfl, hb, h1, h2⟩ := hr 0 (by cases l with | nil => exact absurd rfl h0 | cons x l => exact Nat.zero_lt_succ _)
    have HR := Lib.hid (hr.keep (w' := w.alloc (.cells #[] 56)) fun k hk => heap_alloc_old w _ (by omega))
    have HO := Lib.hid (OwnR.lit w w.heap.size 0 #[] (Nat.le_refl _) (by decide) rfl)
    have HB := Lib.hid ((Below.refl w.heap.size w).alloc (Nat.le_refl _) (.cells #[] 56))
    clear h1 h2 hr
    go_enter Try.func54, Try.ntmps54
    go_wp2_with (at_builtin; refine wpList_append_rgs _ rfl _ _ rfl w.heap.size _ [] rfl HO.out b off l.length cap B l rfl rfl HR.out (by simp; omega) (by simp) ?_; intro v' w' hown' hbel)
    go_ret
    exact ⟨_, rfl, hown', HB.out.trans hbel⟩
end Go.Proofs.Ytjohbfdifdjldac
