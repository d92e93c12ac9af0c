/-
  The law 'FnExactEqualSenders' returns true for every input and leaves its arguments as they were. Conditions: none but the statement's own.
-/
import Derived.Test.YtjohbfdifdjldacRows
import Derived.Test.YtjohbfdifdjldacLSn8
import Derived.Test.YtjohbfdifdjldacIS11
import Derived.Test.YtjohbfdifdjldacSnRow
import Derived.Test.YtjohbfdifdjldacCodeRow
import Derived.LaidMore
import Derived.Below
import Derived.WalkKit
import Derived.ProofKit
import Derived.OpenShut
import Derived.ShutString
import Derived.ChangeOld
namespace Go.Proofs.Ytjohbfdifdjldac.fnExactEqualSenders
open Go.ChangeShapes Go.WideShapes Go.ChangeAt Go.RowKit
open Go.ChangeMaps (open_string shut_string)
open Go
set_option linter.unusedVariables false

theorem own : ownKnob Try.prog.godebug = none := by kernel_rfl
theorem laidOut : laidOutB Try.prog = true := by kernel_rfl

theorem walk (x0 : Num.Sn) (a0p a0q a0r a0s : Option Addr) (cap0p cap0q cap0r cap0s : Nat) (x1 : Num.Sn) (a1p a1q a1r a1s : Option Addr) (cap1p cap1q cap1r cap1s : Nat) (w : World) (hr0 : ReadS w w.heap.size a0p a0q a0r a0s x0) (hm0 : x0.rn.cs.length ≤ maxLen ∧ x0.pe.length ≤ maxLen ∧ x0.fl.length ≤ maxLen ∧ x0.ac.length ≤ maxLen) (hi0 : inI x0.rn.cs ∧ InR x0.pe ∧ InR x0.fl ∧ InR x0.ac) (hx0 : Num.inSn x0) (hr1 : ReadS w w.heap.size a1p a1q a1r a1s x1) (hm1 : x1.rn.cs.length ≤ maxLen ∧ x1.pe.length ≤ maxLen ∧ x1.fl.length ≤ maxLen ∧ x1.ac.length ≤ maxLen) (hi1 : inI x1.rn.cs ∧ InR x1.pe ∧ InR x1.fl ∧ InR x1.ac) (hx1 : Num.inSn x1) :
    Calls Try.prog 6 #[snV x0 (.slice a0p x0.rn.cs.length cap0p) (.slice a0q x0.pe.length cap0q) (.slice a0r x0.fl.length cap0r) (.slice a0s x0.ac.length cap0s), snV x1 (.slice a1p x1.rn.cs.length cap1p) (.slice a1q x1.pe.length cap1q) (.slice a1r x1.fl.length cap1r) (.slice a1s x1.ac.length cap1s)] w fun e w' => e = .returned (.bool true) ∧ Below w.heap.size w w' := by
  exact law_EqualSenders (fun s t A1 A2 A3 A4 B1 B2 B3 B4 c1 c2 c3 c4 d1 d2 d3 d4 B w h1 h2 h3 h4 h5 => seqS s t A1 A2 A3 A4 B1 B2 B3 B4 c1 c2 c3 c4 d1 d2 d3 d4 B w h1 h2 h3 (h4.up (by decide)) (h5.up (by decide))) (fun s t A1 A2 A3 A4 B1 B2 B3 B4 c1 c2 c3 c4 d1 d2 d3 d4 B w h1 h2 h3 h4 h5 => ieqS s t A1 A2 A3 A4 B1 B2 B3 B4 c1 c2 c3 c4 d1 d2 d3 d4 B w h1 h2 h3 (h4.up (by decide)) (h5.up (by decide))) x0 a0p a0q a0r a0s cap0p cap0q cap0r cap0s x1 a1p a1q a1r a1s cap1p cap1q cap1r cap1s w hr0 hm0 hr1 hm1

set_option maxRecDepth 100000 in
theorem lifted (os : Os) (started : os.Started) (H : Type) (enc : TypeId × Value → H) :
    ReturnsInHanded {} Try.checked os 6 .any (Rows.fnExactEqualSendersSpec.pre6 enc Try.prog Try.f6 Rows.fnExactEqualSendersRow.domain false) (Rows.fnExactEqualSendersSpec.post enc Try.prog Try.f6 false true false false) := by
  refine returnsInHanded_of_change (C := Try.checked) own started (by kernel_rfl) Try.func6
    (ChangeSpec.witness6 (enc := enc) (C := Try.checked) false ⟨#[], #[.agg #[.int .i64 0, .int .i64 0, .int .i64 0, .int .i64 0, .slice none 0 0, .slice none 0 0, .slice none 0 0, .slice none 0 0, .int .i64 0, .int .i64 0, .int .i64 0, .int .i64 0], .agg #[.int .i64 0, .int .i64 0, .int .i64 0, .int .i64 0, .slice none 0 0, .slice none 0 0, .slice none 0 0, .slice none 0 0, .int .i64 0, .int .i64 0, .int .i64 0, .int .i64 0]], []⟩ 8 (by kernel_rfl) (by kernel_rfl) (by kernel_rfl) (by kernel_rfl)) ?_
  intro W base args ds gs before hval0 hW hcnd _
  have hval : ∀ (j : Nat) t v, Try.f6.params[j]? = some t → args[j]? = some v → Value.okWide Try.prog W .any base t v := hval0
  have hW' := hW
  obtain ⟨p, q, hA0, hV, rfl, hfz, hnd⟩ := hW
  have hA : DataW.TrodAll enc Try.prog W 0 (fun _ => true) true Try.f6.params.toList args.toList ds p := hA0
  rw [Try.params6] at hA hval
  obtain ⟨v0, vs0, d0, ds0, p0, q0, hargs, rfl, rfl, h0, r0⟩ := trodAll_cons hA
  obtain ⟨v1, vs1, d1, ds1, p1, q1, rfl, rfl, rfl, h1, r1⟩ := trodAll_cons r0
  obtain ⟨rfl, rfl, rfl⟩ := trodAll_nil r1
  obtain rfl : args = #[v0, v1] := by cases args; simp_all
  obtain ⟨rfl, rfl⟩ := trodVars_none hV
  have k0 := h0
  have k1 := h1
  have lt0 : ∀ x ∈ p0, x.block < W.heap.size := by obtain ⟨m, hm⟩ := h0; exact DataW.trod_lt m _ _ _ hm
  have lt1 : ∀ x ∈ p1, x.block < W.heap.size := by obtain ⟨m, hm⟩ := h1; exact DataW.trod_lt m _ _ _ hm
  obtain ⟨x0, a0p, a0q, a0r, a0s, cap0p, cap0q, cap0r, cap0s, rfl, hr0, hm0, hi0, hx0⟩ := sn_of_trod (hval 0 27 v0 rfl rfl) h0
  obtain ⟨x1, a1p, a1q, a1r, a1s, cap1p, cap1q, cap1r, cap1s, rfl, hr1, hm1, hi1, hx1⟩ := sn_of_trod (hval 1 27 v1 rfl rfl) h1
  clear hA0 hval0
  refine (walk x0 a0p a0q a0r a0s cap0p cap0q cap0r cap0s x1 a1p a1q a1r a1s cap1p cap1q cap1r cap1s W hr0 hm0 hi0 hx0 hr1 hm1 hi1 hx1).mono fun e W' ⟨he, bel⟩ => ?_
  subst he
  exact ⟨_, rfl, _, _, _, [], _, [], hW', (trodAll_cons_mk (shut_bool Try.underlying4 _) trodAll_mk0), (trodAll_cons_mk (Below.trod laidOut (by kernel_rfl) (of_decide_eq_true (by kernel_rfl)) k0 bel lt0) (trodAll_cons_mk (Below.trod laidOut (by kernel_rfl) (of_decide_eq_true (by kernel_rfl)) k1 bel lt1) trodAll_mk0)), rfl, bel.frame _, fun h => by cases h⟩

theorem j_inPlace : (Rows.fnExactEqualSendersRow.inPlace == Try.checked.prog.inPlace 6) = true := by kernel_rfl
theorem j_unfollowed : (Rows.fnExactEqualSendersRow.unfollowed == Try.checked.prog.unfollowed 6) = true := by kernel_rfl
theorem j_recurses : (Rows.fnExactEqualSendersRow.recurses == Try.checked.prog.recurses 6) = true := by kernel_rfl
theorem j_named : (Rows.fnExactEqualSendersRow.named == Try.checked.prog.varsNamed 6) = true := by kernel_rfl
theorem closed : joinedFacts Try.checked.prog 6 Try.f6 Rows.fnExactEqualSendersSpec Rows.fnExactEqualSendersRow = true := by
  unfold joinedFacts
  rw [j_inPlace, j_unfollowed, j_recurses, j_named]
  kernel_rfl
theorem over : Rows.fnExactEqualSendersRow.holds Try.pinned (OpenSpec.ofChange Rows.fnExactEqualSendersSpec) :=
  OpenClaim.holds_of_wide 6 Try.f6 rfl rfl rfl rfl rfl rfl rfl ⟨rfl, rfl, rfl, rfl, rfl⟩ rfl rfl rfl rfl rfl (by kernel_rfl) Try.func6 closed
    (of_decide_eq_true (by kernel_rfl)) (by unfold Func.isWrapper; first | (rw [if_pos (by decide +kernel)]; kernel_rfl) | (rw [if_neg (by decide +kernel)]; exact ⟨rfl, rfl⟩))
    (fun os started H enc _ => lifted os started H enc)

theorem proved : Rows.FnExactEqualSendersSaid := over
#print axioms proved
end Go.Proofs.Ytjohbfdifdjldac.fnExactEqualSenders
