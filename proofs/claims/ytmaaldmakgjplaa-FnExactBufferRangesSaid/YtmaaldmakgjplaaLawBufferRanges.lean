/-
  The law 'FnExactBufferRanges' returns true for every input and leaves its arguments as they were. Conditions: none but the statement's own.
-/
import Derived.Test.YtmaaldmakgjplaaRows
import Derived.Test.YtmaaldmakgjplaaIBuf2
import Derived.Test.YtmaaldmakgjplaaLBuf7
import Derived.Test.YtmaaldmakgjplaaBufRow
import Derived.LaidMore
import Derived.Below
import Derived.WalkKit
import Derived.ProofKit
import Derived.OpenShut
import Derived.ShutString
import Derived.ChangeOld
namespace Go.Proofs.Ytmaaldmakgjplaa.fnExactBufferRanges
open Go.ChangeShapes Go.WideShapes Go.ChangeAt Go.RowKit
open Go.ChangeMaps (open_string shut_string)
open Go
set_option linter.unusedVariables false

theorem own : ownKnob Try.prog.godebug = none := by kernel_rfl
theorem laidOut : laidOutB Try.prog = true := by kernel_rfl

theorem walk (b0 : Num.Bf) (a0 : Option Addr) (cap0 : Nat) (w : World) (hm0 : b0.chs.length ≤ maxLen) (hr0 : Chs w w.heap.size a0 b0.chs) (hi0 : inB b0.chs) (hx0 : -9223372036854775808 ≤ b0.next ∧ b0.next ≤ 9223372036854775807) :
    Calls Try.prog 9 #[bfV b0.next (.slice a0 b0.chs.length cap0)] w fun e w' => e = .returned (.bool true) ∧ Below w.heap.size w w' := by
  exact law_BufferRanges (fun b A cap B w h1 h2 h3 h4 h5 => ibrng b A cap B w h1 h2 h3 h4 h5) b0 a0 cap0 w hr0 hm0 hi0 hx0

set_option maxRecDepth 100000 in
theorem lifted (os : Os) (started : os.Started) (H : Type) (enc : TypeId × Value → H) :
    ReturnsInHanded {} Try.checked os 9 .any (Rows.fnExactBufferRangesSpec.pre6 enc Try.prog Try.f9 Rows.fnExactBufferRangesRow.domain false) (Rows.fnExactBufferRangesSpec.post enc Try.prog Try.f9 false true false false) := by
  refine returnsInHanded_of_change (C := Try.checked) own started (by kernel_rfl) Try.func9
    (ChangeSpec.witness6 (enc := enc) (C := Try.checked) false ⟨#[], #[.agg #[.int .i64 0, .slice none 0 0]], []⟩ 8 (by kernel_rfl) (by kernel_rfl) (by kernel_rfl) (by kernel_rfl)) ?_
  intro W base args ds gs before hval0 hW hcnd _
  have hval : ∀ (j : Nat) t v, Try.f9.params[j]? = some t → args[j]? = some v → Value.okWide Try.prog W .any base t v := hval0
  have hW' := hW
  obtain ⟨p, q, hA0, hV, rfl, hfz, hnd⟩ := hW
  have hA : DataW.TrodAll enc Try.prog W 0 (fun _ => true) true Try.f9.params.toList args.toList ds p := hA0
  rw [Try.params9] at hA hval
  obtain ⟨v0, vs0, d0, ds0, p0, q0, hargs, rfl, rfl, h0, r0⟩ := trodAll_cons hA
  obtain ⟨rfl, rfl, rfl⟩ := trodAll_nil r0
  obtain rfl : args = #[v0] := by cases args; simp_all
  obtain ⟨rfl, rfl⟩ := trodVars_none hV
  have k0 := h0
  have lt0 : ∀ x ∈ p0, x.block < W.heap.size := by obtain ⟨m, hm⟩ := h0; exact DataW.trod_lt m _ _ _ hm
  obtain ⟨b0, a0, cap0, rfl, hm0, hr0, hi0, hx0⟩ := buf_of_trod (hval 0 47 v0 rfl rfl) h0
  clear hA0 hval0
  refine (walk b0 a0 cap0 W hm0 hr0 hi0 hx0).mono fun e W' ⟨he, bel⟩ => ?_
  subst he
  exact ⟨_, rfl, _, _, _, [], _, [], hW', (trodAll_cons_mk (shut_bool Try.underlying4 _) trodAll_mk0), (trodAll_cons_mk (Below.trod laidOut (by kernel_rfl) (of_decide_eq_true (by kernel_rfl)) k0 bel lt0) trodAll_mk0), rfl, bel.frame _, fun h => by cases h⟩

theorem over : Rows.fnExactBufferRangesRow.holds Try.pinned (OpenSpec.ofChange Rows.fnExactBufferRangesSpec) :=
  OpenClaim.holds_of_wide 9 Try.f9 rfl rfl rfl rfl rfl rfl rfl ⟨rfl, rfl, rfl, rfl, rfl⟩ rfl rfl rfl rfl rfl (by kernel_rfl) Try.func9 (by kernel_rfl)
    (of_decide_eq_true (by kernel_rfl)) (by unfold Func.isWrapper; first | (rw [if_pos (by decide +kernel)]; kernel_rfl) | (rw [if_neg (by decide +kernel)]; exact ⟨rfl, rfl⟩))
    (fun os started H enc _ => lifted os started H enc)

theorem proved : Rows.FnExactBufferRangesSaid := over
#print axioms proved
end Go.Proofs.Ytmaaldmakgjplaa.fnExactBufferRanges
