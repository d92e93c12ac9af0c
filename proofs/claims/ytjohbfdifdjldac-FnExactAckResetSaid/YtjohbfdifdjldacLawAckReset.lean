/-
  The law 'FnExactAckReset' returns true for every input and leaves its arguments as they were. Conditions: none but the statement's own.
-/
import Derived.Test.YtjohbfdifdjldacRows
import Derived.Test.YtjohbfdifdjldacMg1
import Derived.Test.YtjohbfdifdjldacMg2
import Derived.LaidMore
import Derived.Below
import Derived.WalkKit
import Derived.ProofKit
import Derived.OpenShut
import Derived.ShutString
import Derived.ChangeOld
namespace Go.Proofs.Ytjohbfdifdjldac.fnExactAckReset
open Go.ChangeShapes Go.WideShapes Go.ChangeAt Go.RowKit
open Go.ChangeMaps (open_string shut_string)
open Go
set_option linter.unusedVariables false

theorem own : ownKnob Try.prog.godebug = none := by kernel_rfl
theorem laidOut : laidOutB Try.prog = true := by kernel_rfl

theorem walk (x0 : Num.Sn) (a0p a0q a0r a0s : Option Addr) (cap0p cap0q cap0r cap0s : Nat) (w : World) (hr0 : ReadS w w.heap.size a0p a0q a0r a0s x0) (hm0 : x0.rn.cs.length ≤ maxLen ∧ x0.pe.length ≤ maxLen ∧ x0.fl.length ≤ maxLen ∧ x0.ac.length ≤ maxLen) (hi0 : inI x0.rn.cs ∧ InR x0.pe ∧ InR x0.fl ∧ InR x0.ac) (hx0 : Num.inSn x0) :
    Calls Try.prog 4 #[snV x0 (.slice a0p x0.rn.cs.length cap0p) (.slice a0q x0.pe.length cap0q) (.slice a0r x0.fl.length cap0r) (.slice a0s x0.ac.length cap0s)] w fun e w' => e = .returned (.bool true) ∧ Below w.heap.size w w' := by
  exact law_AckReset hsAR hiAR x0 a0p a0q a0r a0s cap0p cap0q cap0r cap0s w hr0 hm0 hi0 hx0

set_option maxRecDepth 100000 in
theorem lifted (os : Os) (started : os.Started) (H : Type) (enc : TypeId × Value → H) :
    ReturnsInHanded {} Try.checked os 4 .any (Rows.fnExactAckResetSpec.pre6 enc Try.prog Try.f4 Rows.fnExactAckResetRow.domain false) (Rows.fnExactAckResetSpec.post enc Try.prog Try.f4 false true false false) := by
  refine returnsInHanded_of_change (C := Try.checked) own started (by kernel_rfl) Try.func4
    (ChangeSpec.witness6 (enc := enc) (C := Try.checked) false ⟨#[], #[.agg #[.int .i64 0, .int .i64 0, .int .i64 0, .int .i64 0, .slice none 0 0, .slice none 0 0, .slice none 0 0, .slice none 0 0, .int .i64 0, .int .i64 0, .int .i64 0, .int .i64 0]], []⟩ 8 (by kernel_rfl) (by kernel_rfl) (by kernel_rfl) (by kernel_rfl)) ?_
  intro W base args ds gs before hval0 hW hcnd _
  have hval : ∀ (j : Nat) t v, Try.f4.params[j]? = some t → args[j]? = some v → Value.okWide Try.prog W .any base t v := hval0
  have hW' := hW
  obtain ⟨p, q, hA0, hV, rfl, hfz, hnd⟩ := hW
  have hA : DataW.TrodAll enc Try.prog W 0 (fun _ => true) true Try.f4.params.toList args.toList ds p := hA0
  rw [Try.params4] at hA hval
  obtain ⟨v0, vs0, d0, ds0, p0, q0, hargs, rfl, rfl, h0, r0⟩ := trodAll_cons hA
  obtain ⟨rfl, rfl, rfl⟩ := trodAll_nil r0
  obtain rfl : args = #[v0] := by cases args; simp_all
  obtain ⟨rfl, rfl⟩ := trodVars_none hV
  have k0 := h0
  have lt0 : ∀ x ∈ p0, x.block < W.heap.size := by obtain ⟨m, hm⟩ := h0; exact DataW.trod_lt m _ _ _ hm
  obtain ⟨x0, a0p, a0q, a0r, a0s, cap0p, cap0q, cap0r, cap0s, rfl, hr0, hm0, hi0, hx0⟩ := sn_of_trod (hval 0 27 v0 rfl rfl) h0
  clear hA0 hval0
  refine (walk x0 a0p a0q a0r a0s cap0p cap0q cap0r cap0s W hr0 hm0 hi0 hx0).mono fun e W' ⟨he, bel⟩ => ?_
  subst he
  exact ⟨_, rfl, _, _, _, [], _, [], hW', (trodAll_cons_mk (shut_bool Try.underlying4 _) trodAll_mk0), (trodAll_cons_mk (Below.trod laidOut (by kernel_rfl) (of_decide_eq_true (by kernel_rfl)) k0 bel lt0) trodAll_mk0), rfl, bel.frame _, fun h => by cases h⟩

theorem j_inPlace : (Rows.fnExactAckResetRow.inPlace == Try.checked.prog.inPlace 4) = true := by kernel_rfl
theorem j_unfollowed : (Rows.fnExactAckResetRow.unfollowed == Try.checked.prog.unfollowed 4) = true := by kernel_rfl
theorem j_recurses : (Rows.fnExactAckResetRow.recurses == Try.checked.prog.recurses 4) = true := by kernel_rfl
theorem j_named : (Rows.fnExactAckResetRow.named == Try.checked.prog.varsNamed 4) = true := by kernel_rfl
theorem closed : joinedFacts Try.checked.prog 4 Try.f4 Rows.fnExactAckResetSpec Rows.fnExactAckResetRow = true := by
  unfold joinedFacts
  rw [j_inPlace, j_unfollowed, j_recurses, j_named]
  kernel_rfl
theorem over : Rows.fnExactAckResetRow.holds Try.pinned (OpenSpec.ofChange Rows.fnExactAckResetSpec) :=
  OpenClaim.holds_of_wide 4 Try.f4 rfl rfl rfl rfl rfl rfl rfl ⟨rfl, rfl, rfl, rfl, rfl⟩ rfl rfl rfl rfl rfl (by kernel_rfl) Try.func4 closed
    (of_decide_eq_true (by kernel_rfl)) (by unfold Func.isWrapper; first | (rw [if_pos (by decide +kernel)]; kernel_rfl) | (rw [if_neg (by decide +kernel)]; exact ⟨rfl, rfl⟩))
    (fun os started H enc _ => lifted os started H enc)

theorem proved : Rows.FnExactAckResetSaid := over
#print axioms proved
end Go.Proofs.Ytjohbfdifdjldac.fnExactAckReset
