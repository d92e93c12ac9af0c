/-
  What slices.Clone of ranges returns.
-/
import Derived.Test.YtjgabiklmloogaaDoorSRng4
import Derived.Laws.Cover3
namespace Go.Proofs.YtjgabiklmloogaaDoor
open Go.RowKit Go.Deep Go.Proofs.YtjgabiklmloogaaDoor.Num

theorem eql_nil (A : Option Addr) (n c : Nat) (w : World) : (binOp .eql 24 (.slice A n c) (.slice none 0 0)).run Tryd.prog w = .ok (.bool A.isNone) w := by
  simp [binOp, run_equal_slice_nil w 24 26 A n c Tryd.underlying24]

set_option maxRecDepth 100000 in
/-- slices.Clone -/
theorem iclone (l : List Rg) (A : Option Addr) (cap B : Nat) (w : World) (hB : B ≤ w.heap.size) (hr : Rgs w B A l) (hn : l.length ≤ 1000000000) :
    Calls Tryd.prog 31 #[.slice A l.length cap] w fun e w' => ∃ v, e = .returned v ∧ OwnR w' w.heap.size v l ∧ Below w.heap.size w w' := by
  cases A with
  | none =>
    obtain rfl : l = [] := by
      cases l with
      | nil => rfl
      | cons x l => obtain ⟨b, off, hA, _⟩ := hr 0 (by simp); cases hA
    clear hr
    have hq := fun W => eql_nil none 0 cap W
    simp only [Option.isNone] at hq
    go_enter Tryd.func31, Tryd.ntmps31
    go_wp2
    go_ret
    exact ⟨_, rfl, OwnR.empty, Below.refl _ _⟩
  | some x =>
    by_cases h0 : l = []
    · subst h0
      clear hr
      have hq := fun W => eql_nil (some x) 0 cap W
      simp only [Option.isNone] at hq
      have HO := Lib.hid (OwnR.lit w w.heap.size 0 #[] (Nat.le_refl _) (by decide) rfl)
      have HB := Lib.hid ((Below.refl w.heap.size w).alloc (Nat.le_refl _) (.cells #[] 26))
      go_enter Tryd.func31, Tryd.ntmps31
      go_wp2_with (at_builtin; refine wpList_append_no _ rfl _ _ rfl _ (some x) 0 0 cap rfl (Nat.le_refl _) rfl ?_)
      go_ret
      exact ⟨_, rfl, HO.out, HB.out⟩
    · obtain ⟨b, off, hA, hb, h1, h2⟩ := hr 0 (by cases l with | nil => exact absurd rfl h0 | cons x l => exact Nat.zero_lt_succ _)
      injection hA with hA
      subst hA
      have HR := Lib.hid (hr.keep (w' := w.alloc (.cells #[] 26)) fun k hk => heap_alloc_old w _ (by omega))
      have HO := Lib.hid (OwnR.lit w w.heap.size 0 #[] (Nat.le_refl _) (by decide) rfl)
      have HB := Lib.hid ((Below.refl w.heap.size w).alloc (Nat.le_refl _) (.cells #[] 26))
      have hq := fun W => eql_nil (some ⟨b, off, none⟩) l.length cap W
      simp only [Option.isNone] at hq
      clear h1 h2 hr
      go_enter Tryd.func31, Tryd.ntmps31
      go_wp2_with (at_builtin; refine wpList_append_rgs _ rfl _ _ rfl w.heap.size _ [] rfl HO.out b off l.length cap B l rfl rfl HR.out (by simp; omega) (by simp) ?_; intro v' w' hown' hbel)
      go_ret
      exact ⟨_, rfl, hown', HB.out.trans hbel⟩
end Go.Proofs.YtjgabiklmloogaaDoor
