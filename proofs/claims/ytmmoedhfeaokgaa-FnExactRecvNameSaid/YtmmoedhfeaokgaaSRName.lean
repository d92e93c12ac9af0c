/-
  What spec.RecvName returns; the law on RecvName, walked.
-/
import Derived.Test.YtmmoedhfeaokgaaIn
import Derived.Test.YtmmoedhfeaokgaaRcV
namespace Go.Proofs.Ytmmoedhfeaokgaa
open Go.RowKit Go.Deep Go.Proofs.Ytmmoedhfeaokgaa.Num

/-- The names of the states. -/
def rcname (k : Int) : ByteArray :=
  if k = 0 then ⟨#[111, 112, 101, 110]⟩ else if k = 1 then ⟨#[115, 105, 122, 101, 100]⟩ else if k = 2 then ⟨#[97, 108, 108]⟩ else if k = 3 then ⟨#[114, 101, 97, 100]⟩ else if k = 4 then ⟨#[114, 101, 115, 101, 116]⟩ else if k = 5 then ⟨#[114, 101, 115, 101, 116, 114, 101, 97, 100]⟩ else ⟨#[]⟩
set_option maxRecDepth 100000 in
/-- spec.RecvName -/
theorem srname (k : Int) (w : World) :
    Calls Try.prog 37 #[.int .i64 k] w fun e w' => e = .returned (.string (rcname k)) ∧ Below w.heap.size w w' := by
  by_cases h : 0 ≤ k ∧ k ≤ 5
  · have h' : k = 0 ∨ k = 1 ∨ k = 2 ∨ k = 3 ∨ k = 4 ∨ k = 5 := by omega
    clear h
    rcases h' with rfl | rfl | rfl | rfl | rfl | rfl
    all_goals (
      go_enter Try.func37, Try.ntmps37
      go_wp2_with fail
      refine (in_yes _ 0 5 _ (by decide) (by decide)).mono ?_
      rintro e w1 ⟨rfl, rfl⟩
      go_wp2
      go_ret
      exact ⟨rfl, (Below.refl _ _).alloc (Nat.le_refl _) _⟩)
  · have hv : rcname k = ⟨#[]⟩ := by
      unfold rcname
      rw [if_neg (by omega), if_neg (by omega), if_neg (by omega), if_neg (by omega), if_neg (by omega), if_neg (by omega)]
    rw [hv]
    have HI := Lib.hid fun W => in_no k 0 5 W (by omega)
    clear h hv
    go_enter Try.func37, Try.ntmps37
    go_wp2_with fail
    refine (HI.out _).mono ?_
    rintro e w1 ⟨rfl, rfl⟩
    go_wp2
    go_ret
    exact ⟨rfl, Below.refl _ _⟩
set_option maxRecDepth 100000 in
/-- The law, of an impl that answers so. -/
theorem law_RecvName (HIM : ∀ (k : Int) (w : World), Calls Try.prog 38 #[.int .i64 k] w fun e w' => e = .returned (.string (rcname k)) ∧ Below w.heap.size w w') (k : Int) (w : World) :
    Calls Try.prog 12 #[.int .i64 k] w fun e w' => e = .returned (.bool true) ∧ Below w.heap.size w w' := by
  have HS := Lib.hid (srname k)
  have HI := Lib.hid (HIM k)
  clear HIM
  generalize rcname k = x at *
  go_enter Try.func12, Try.ntmps12
  go_wp2_with fail
  refine (HS.out _).mono ?_
  rintro e w1 ⟨rfl, hb1⟩
  go_wp2_with fail
  refine (HI.out _).mono ?_
  rintro e w2 ⟨rfl, hb2⟩
  have HB := Lib.hid (hb1.trans (hb2.mono hb1.size))
  clear hb1 hb2
  go_wp2
  go_ret
  exact ⟨rfl, HB.out⟩
end Go.Proofs.Ytmmoedhfeaokgaa
