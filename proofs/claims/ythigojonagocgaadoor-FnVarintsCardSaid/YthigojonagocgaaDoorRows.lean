/-
  NARROWER THAN 'FOR EVERY INPUT', by the rows' own cells (each row's printed sentence says how): FnVarints: laid · FnExactSizeQuic: laid · FnExactEncodeQuic: laid · FnExactDecodeQuic: laid · FnExactIsShortest: laid · FnExactEncodeQuics: laid · FnExactDecodeQuics: laid.
  DERIVED. THE GIVEN ROWS OF THIS SEAT. 7 by the template 'for every input the law returns true; each argument reads behind the call as it read before'; 0 by the template 'total and deterministic' (their statements: YthigojonagocgaaDoorTotals.lean).
  GIVEN WITH THE SEED: the statements are not yours to turn. If you find one false, say at which input.
  Laid BY PROGRAM, IN A SANDBOX (cutbox-rows.mjs): the forced cells as the released guide's own fill.sh prints them over the translation 9e8422299e865a7c… (all of the seat's roots in one cut). By AI agents, Wed Nov 11 2026. No macro, syntax, notation, axiom, sorry.
-/
import Derived.Test.YthigojonagocgaaDoorChecked
import GoSem.Claim
import GoSem.ClaimJoined
import GoSem.ClaimMapViews
import Derived.JoinedTies
import Derived.KernelRfl
namespace Go.Proofs.YthigojonagocgaaDoor
/- THE CELL 'sum', in the pinned program and in every row, IS THE sha256 OF THE DUMP (.gsa) THAT YthigojonagocgaaDoorProg.lean LOADS. Nothing in Lean hashes anything: it is a label: what it is worth is what the hold of that sum in a sandbox is worth. -/
noncomputable def Tryd.pinned : Pinned := { name := "ythigojonagocgaadoor", sum := "9e8422299e865a7cde85804c672e2eb80bce271832a3ffa73580e8b2c2cc6ed6", checked := Tryd.checked }
namespace Rows
def none {H : Type} : Left H := { results := [], args := [] }

/- WHAT THE LISTED PACKAGE-LEVEL VARIABLES READ AS WHEN THE CALL BEGINS. Each datum BY PROGRAM (the guide's laid-datum.mjs) off the statement by which the dump's own 'gosem.cut.vars' lays the variable. In a bare row this is a premise. The card (YthigojonagocgaaDoorCards.lean) ties it to the program's text. -/
def laid_loop_example_g01633_impl_quicForms {H : Type} : DataW H := .agg [.agg [.lit (.int .u8 0), .lit (.int .i64 1), .lit (.int .i64 63)], .agg [.lit (.int .u8 64), .lit (.int .i64 2), .lit (.int .i64 16383)], .agg [.lit (.int .u8 128), .lit (.int .i64 4), .lit (.int .i64 1073741823)], .agg [.lit (.int .u8 192), .lit (.int .i64 8), .lit (.int .i64 4611686018427387903)]]

/-- 'laws.FnVarints': WHATEVER THE INPUT: true; the input reads as it did. -/
def fnVarintsSpec : ChangeSpec := { name := "fnVarints", vars := ["loop.example/g01633/impl.quicForms"], fn := fun _ => fun
  | [d, g1] => { results := [.lit (.bool true)], args := [d], vars := [g1] }
  | _ => none }
def fnVarintsRow : OpenClaim := { program := "ythigojonagocgaadoor", sum := "9e8422299e865a7cde85804c672e2eb80bce271832a3ffa73580e8b2c2cc6ed6", func := "loop.example/g01633/laws.FnVarints", spec := "fnVarints", inPlace := ["internal/abi.NoEscape"], named := ["loop.example/g01633/impl.quicForms"], apart := false, laid := [("loop.example/g01633/impl.quicForms", laid_loop_example_g01633_impl_quicForms)] }
def FnVarintsSaid : Prop := fnVarintsRow.holds Tryd.pinned (OpenSpec.ofChange fnVarintsSpec)

/-- ITS FALSE NEIGHBOUR: 'it returns false'. Refute it at one input. -/
def fnVarintsWrong : ChangeSpec := { name := "fnVarints", vars := ["loop.example/g01633/impl.quicForms"], fn := fun _ => fun
  | [d, g1] => { results := [.lit (.bool false)], args := [d], vars := [g1] }
  | _ => none }
def FnVarintsWrongFalsely : Prop := fnVarintsRow.holds Tryd.pinned (OpenSpec.ofChange fnVarintsWrong)

/-- 'laws.FnExactSizeQuic': WHATEVER THE INPUT: true; the input reads as it did. -/
def fnExactSizeQuicSpec : ChangeSpec := { name := "fnExactSizeQuic", vars := ["loop.example/g01633/impl.quicForms"], fn := fun _ => fun
  | [d, g1] => { results := [.lit (.bool true)], args := [d], vars := [g1] }
  | _ => none }
def fnExactSizeQuicRow : OpenClaim := { program := "ythigojonagocgaadoor", sum := "9e8422299e865a7cde85804c672e2eb80bce271832a3ffa73580e8b2c2cc6ed6", func := "loop.example/g01633/laws.FnExactSizeQuic", spec := "fnExactSizeQuic", named := ["loop.example/g01633/impl.quicForms"], apart := false, laid := [("loop.example/g01633/impl.quicForms", laid_loop_example_g01633_impl_quicForms)] }
def FnExactSizeQuicSaid : Prop := fnExactSizeQuicRow.holds Tryd.pinned (OpenSpec.ofChange fnExactSizeQuicSpec)

/-- ITS FALSE NEIGHBOUR: 'it returns false'. Refute it at one input. -/
def fnExactSizeQuicWrong : ChangeSpec := { name := "fnExactSizeQuic", vars := ["loop.example/g01633/impl.quicForms"], fn := fun _ => fun
  | [d, g1] => { results := [.lit (.bool false)], args := [d], vars := [g1] }
  | _ => none }
def FnExactSizeQuicWrongFalsely : Prop := fnExactSizeQuicRow.holds Tryd.pinned (OpenSpec.ofChange fnExactSizeQuicWrong)

/-- 'laws.FnExactEncodeQuic': WHATEVER THE INPUT: true; the input reads as it did. -/
def fnExactEncodeQuicSpec : ChangeSpec := { name := "fnExactEncodeQuic", vars := ["loop.example/g01633/impl.quicForms"], fn := fun _ => fun
  | [d, g1] => { results := [.lit (.bool true)], args := [d], vars := [g1] }
  | _ => none }
def fnExactEncodeQuicRow : OpenClaim := { program := "ythigojonagocgaadoor", sum := "9e8422299e865a7cde85804c672e2eb80bce271832a3ffa73580e8b2c2cc6ed6", func := "loop.example/g01633/laws.FnExactEncodeQuic", spec := "fnExactEncodeQuic", named := ["loop.example/g01633/impl.quicForms"], apart := false, laid := [("loop.example/g01633/impl.quicForms", laid_loop_example_g01633_impl_quicForms)] }
def FnExactEncodeQuicSaid : Prop := fnExactEncodeQuicRow.holds Tryd.pinned (OpenSpec.ofChange fnExactEncodeQuicSpec)

/-- ITS FALSE NEIGHBOUR: 'it returns false'. Refute it at one input. -/
def fnExactEncodeQuicWrong : ChangeSpec := { name := "fnExactEncodeQuic", vars := ["loop.example/g01633/impl.quicForms"], fn := fun _ => fun
  | [d, g1] => { results := [.lit (.bool false)], args := [d], vars := [g1] }
  | _ => none }
def FnExactEncodeQuicWrongFalsely : Prop := fnExactEncodeQuicRow.holds Tryd.pinned (OpenSpec.ofChange fnExactEncodeQuicWrong)

/-- 'laws.FnExactDecodeQuic': WHATEVER THE INPUT: true; the input reads as it did. -/
def fnExactDecodeQuicSpec : ChangeSpec := { name := "fnExactDecodeQuic", vars := ["loop.example/g01633/impl.quicForms"], fn := fun _ => fun
  | [d1, d2, g1] => { results := [.lit (.bool true)], args := [d1, d2], vars := [g1] }
  | _ => none }
def fnExactDecodeQuicRow : OpenClaim := { program := "ythigojonagocgaadoor", sum := "9e8422299e865a7cde85804c672e2eb80bce271832a3ffa73580e8b2c2cc6ed6", func := "loop.example/g01633/laws.FnExactDecodeQuic", spec := "fnExactDecodeQuic", named := ["loop.example/g01633/impl.quicForms"], apart := false, laid := [("loop.example/g01633/impl.quicForms", laid_loop_example_g01633_impl_quicForms)] }
def FnExactDecodeQuicSaid : Prop := fnExactDecodeQuicRow.holds Tryd.pinned (OpenSpec.ofChange fnExactDecodeQuicSpec)

/-- ITS FALSE NEIGHBOUR: 'it returns false'. Refute it at one input. -/
def fnExactDecodeQuicWrong : ChangeSpec := { name := "fnExactDecodeQuic", vars := ["loop.example/g01633/impl.quicForms"], fn := fun _ => fun
  | [d1, d2, g1] => { results := [.lit (.bool false)], args := [d1, d2], vars := [g1] }
  | _ => none }
def FnExactDecodeQuicWrongFalsely : Prop := fnExactDecodeQuicRow.holds Tryd.pinned (OpenSpec.ofChange fnExactDecodeQuicWrong)

/-- 'laws.FnExactIsShortest': WHATEVER THE INPUT: true; the input reads as it did. -/
def fnExactIsShortestSpec : ChangeSpec := { name := "fnExactIsShortest", vars := ["loop.example/g01633/impl.quicForms"], fn := fun _ => fun
  | [d1, d2, g1] => { results := [.lit (.bool true)], args := [d1, d2], vars := [g1] }
  | _ => none }
def fnExactIsShortestRow : OpenClaim := { program := "ythigojonagocgaadoor", sum := "9e8422299e865a7cde85804c672e2eb80bce271832a3ffa73580e8b2c2cc6ed6", func := "loop.example/g01633/laws.FnExactIsShortest", spec := "fnExactIsShortest", named := ["loop.example/g01633/impl.quicForms"], apart := false, laid := [("loop.example/g01633/impl.quicForms", laid_loop_example_g01633_impl_quicForms)] }
def FnExactIsShortestSaid : Prop := fnExactIsShortestRow.holds Tryd.pinned (OpenSpec.ofChange fnExactIsShortestSpec)

/-- ITS FALSE NEIGHBOUR: 'it returns false'. Refute it at one input. -/
def fnExactIsShortestWrong : ChangeSpec := { name := "fnExactIsShortest", vars := ["loop.example/g01633/impl.quicForms"], fn := fun _ => fun
  | [d1, d2, g1] => { results := [.lit (.bool false)], args := [d1, d2], vars := [g1] }
  | _ => none }
def FnExactIsShortestWrongFalsely : Prop := fnExactIsShortestRow.holds Tryd.pinned (OpenSpec.ofChange fnExactIsShortestWrong)

/-- 'laws.FnExactEncodeQuics': WHATEVER THE INPUT: true; the input reads as it did. -/
def fnExactEncodeQuicsSpec : ChangeSpec := { name := "fnExactEncodeQuics", vars := ["loop.example/g01633/impl.quicForms"], fn := fun _ => fun
  | [d, g1] => { results := [.lit (.bool true)], args := [d], vars := [g1] }
  | _ => none }
def fnExactEncodeQuicsRow : OpenClaim := { program := "ythigojonagocgaadoor", sum := "9e8422299e865a7cde85804c672e2eb80bce271832a3ffa73580e8b2c2cc6ed6", func := "loop.example/g01633/laws.FnExactEncodeQuics", spec := "fnExactEncodeQuics", inPlace := ["internal/abi.NoEscape"], named := ["loop.example/g01633/impl.quicForms"], apart := false, laid := [("loop.example/g01633/impl.quicForms", laid_loop_example_g01633_impl_quicForms)] }
def FnExactEncodeQuicsSaid : Prop := fnExactEncodeQuicsRow.holds Tryd.pinned (OpenSpec.ofChange fnExactEncodeQuicsSpec)

/-- ITS FALSE NEIGHBOUR: 'it returns false'. Refute it at one input. -/
def fnExactEncodeQuicsWrong : ChangeSpec := { name := "fnExactEncodeQuics", vars := ["loop.example/g01633/impl.quicForms"], fn := fun _ => fun
  | [d, g1] => { results := [.lit (.bool false)], args := [d], vars := [g1] }
  | _ => none }
def FnExactEncodeQuicsWrongFalsely : Prop := fnExactEncodeQuicsRow.holds Tryd.pinned (OpenSpec.ofChange fnExactEncodeQuicsWrong)

/-- 'laws.FnExactDecodeQuics': WHATEVER THE INPUT: true; the input reads as it did. -/
def fnExactDecodeQuicsSpec : ChangeSpec := { name := "fnExactDecodeQuics", vars := ["loop.example/g01633/impl.quicForms"], fn := fun _ => fun
  | [d, g1] => { results := [.lit (.bool true)], args := [d], vars := [g1] }
  | _ => none }
def fnExactDecodeQuicsRow : OpenClaim := { program := "ythigojonagocgaadoor", sum := "9e8422299e865a7cde85804c672e2eb80bce271832a3ffa73580e8b2c2cc6ed6", func := "loop.example/g01633/laws.FnExactDecodeQuics", spec := "fnExactDecodeQuics", named := ["loop.example/g01633/impl.quicForms"], apart := false, laid := [("loop.example/g01633/impl.quicForms", laid_loop_example_g01633_impl_quicForms)] }
def FnExactDecodeQuicsSaid : Prop := fnExactDecodeQuicsRow.holds Tryd.pinned (OpenSpec.ofChange fnExactDecodeQuicsSpec)

/-- ITS FALSE NEIGHBOUR: 'it returns false'. Refute it at one input. -/
def fnExactDecodeQuicsWrong : ChangeSpec := { name := "fnExactDecodeQuics", vars := ["loop.example/g01633/impl.quicForms"], fn := fun _ => fun
  | [d, g1] => { results := [.lit (.bool false)], args := [d], vars := [g1] }
  | _ => none }
def FnExactDecodeQuicsWrongFalsely : Prop := fnExactDecodeQuicsRow.holds Tryd.pinned (OpenSpec.ofChange fnExactDecodeQuicsWrong)

/- THE SECOND FORM. 'bulk': how many values and letters a reading holds, each counted each time it is reached (what is shared counts as often as it is met; a slice's spare places count too). A statement '..UptoSaid' is the law's where the arguments, and the package variables that the reading takes, are together of bulk at most 1048576: NARROWER than '..Said'. Prove '..Said' where nothing that the law and all that it calls make is longer than what came in: it says more and counts as full. Else prove '..UptoSaid'. A law counts once. -/
mutual
def uptoBulk {H : Type} : DataW H → Nat
  | .lit (.string bytes) => bytes.length + 1
  | .lit _ => 1
  | .nil => 1
  | .ptr d => uptoBulk d + 1
  | .slice elems spare => uptoBulkAll elems + uptoBulkAll spare + 1
  | .agg parts => uptoBulkAll parts + 1
  | .iface _ d => uptoBulk d + 1
  | .map entries => uptoBulkEntries entries + 1
  | .held _ => 1
def uptoBulkAll {H : Type} : List (DataW H) → Nat
  | [] => 0
  | d :: r => uptoBulk d + uptoBulkAll r
def uptoBulkEntries {H : Type} : List (Lit × DataW H) → Nat
  | [] => 0
  | x :: r => uptoBulkEntry x + uptoBulkEntries r
def uptoBulkEntry {H : Type} : Lit × DataW H → Nat
  | (.string bytes, d) => bytes.length + uptoBulk d + 1
  | (_, d) => uptoBulk d + 1
 end
def uptoSmall : (H : Type) → List (DataW H) → Bool := fun _ ds => decide (uptoBulkAll ds ≤ 1048576)
def OpenSpec.upto (s : _root_.Go.ChangeSpec) : _root_.Go.OpenSpec := { _root_.Go.OpenSpec.ofChange s with cond := some uptoSmall }

/-- 'laws.FnVarints', WHERE WHAT IT READS IS OF BULK AT MOST 1048576: true; the input reads as it did. -/
def fnVarintsUptoRow : OpenClaim := { program := "ythigojonagocgaadoor", sum := "9e8422299e865a7cde85804c672e2eb80bce271832a3ffa73580e8b2c2cc6ed6", func := "loop.example/g01633/laws.FnVarints", spec := "fnVarints", inPlace := ["internal/abi.NoEscape"], named := ["loop.example/g01633/impl.quicForms"], apart := false, laid := [("loop.example/g01633/impl.quicForms", laid_loop_example_g01633_impl_quicForms)], narrowed := true }
def FnVarintsUptoSaid : Prop := fnVarintsUptoRow.holds Tryd.pinned (OpenSpec.upto fnVarintsSpec)

/-- 'laws.FnExactSizeQuic', WHERE WHAT IT READS IS OF BULK AT MOST 1048576: true; the input reads as it did. -/
def fnExactSizeQuicUptoRow : OpenClaim := { program := "ythigojonagocgaadoor", sum := "9e8422299e865a7cde85804c672e2eb80bce271832a3ffa73580e8b2c2cc6ed6", func := "loop.example/g01633/laws.FnExactSizeQuic", spec := "fnExactSizeQuic", named := ["loop.example/g01633/impl.quicForms"], apart := false, laid := [("loop.example/g01633/impl.quicForms", laid_loop_example_g01633_impl_quicForms)], narrowed := true }
def FnExactSizeQuicUptoSaid : Prop := fnExactSizeQuicUptoRow.holds Tryd.pinned (OpenSpec.upto fnExactSizeQuicSpec)

/-- 'laws.FnExactEncodeQuic', WHERE WHAT IT READS IS OF BULK AT MOST 1048576: true; the input reads as it did. -/
def fnExactEncodeQuicUptoRow : OpenClaim := { program := "ythigojonagocgaadoor", sum := "9e8422299e865a7cde85804c672e2eb80bce271832a3ffa73580e8b2c2cc6ed6", func := "loop.example/g01633/laws.FnExactEncodeQuic", spec := "fnExactEncodeQuic", named := ["loop.example/g01633/impl.quicForms"], apart := false, laid := [("loop.example/g01633/impl.quicForms", laid_loop_example_g01633_impl_quicForms)], narrowed := true }
def FnExactEncodeQuicUptoSaid : Prop := fnExactEncodeQuicUptoRow.holds Tryd.pinned (OpenSpec.upto fnExactEncodeQuicSpec)

/-- 'laws.FnExactDecodeQuic', WHERE WHAT IT READS IS OF BULK AT MOST 1048576: true; the input reads as it did. -/
def fnExactDecodeQuicUptoRow : OpenClaim := { program := "ythigojonagocgaadoor", sum := "9e8422299e865a7cde85804c672e2eb80bce271832a3ffa73580e8b2c2cc6ed6", func := "loop.example/g01633/laws.FnExactDecodeQuic", spec := "fnExactDecodeQuic", named := ["loop.example/g01633/impl.quicForms"], apart := false, laid := [("loop.example/g01633/impl.quicForms", laid_loop_example_g01633_impl_quicForms)], narrowed := true }
def FnExactDecodeQuicUptoSaid : Prop := fnExactDecodeQuicUptoRow.holds Tryd.pinned (OpenSpec.upto fnExactDecodeQuicSpec)

/-- 'laws.FnExactIsShortest', WHERE WHAT IT READS IS OF BULK AT MOST 1048576: true; the input reads as it did. -/
def fnExactIsShortestUptoRow : OpenClaim := { program := "ythigojonagocgaadoor", sum := "9e8422299e865a7cde85804c672e2eb80bce271832a3ffa73580e8b2c2cc6ed6", func := "loop.example/g01633/laws.FnExactIsShortest", spec := "fnExactIsShortest", named := ["loop.example/g01633/impl.quicForms"], apart := false, laid := [("loop.example/g01633/impl.quicForms", laid_loop_example_g01633_impl_quicForms)], narrowed := true }
def FnExactIsShortestUptoSaid : Prop := fnExactIsShortestUptoRow.holds Tryd.pinned (OpenSpec.upto fnExactIsShortestSpec)

/-- 'laws.FnExactEncodeQuics', WHERE WHAT IT READS IS OF BULK AT MOST 1048576: true; the input reads as it did. -/
def fnExactEncodeQuicsUptoRow : OpenClaim := { program := "ythigojonagocgaadoor", sum := "9e8422299e865a7cde85804c672e2eb80bce271832a3ffa73580e8b2c2cc6ed6", func := "loop.example/g01633/laws.FnExactEncodeQuics", spec := "fnExactEncodeQuics", inPlace := ["internal/abi.NoEscape"], named := ["loop.example/g01633/impl.quicForms"], apart := false, laid := [("loop.example/g01633/impl.quicForms", laid_loop_example_g01633_impl_quicForms)], narrowed := true }
def FnExactEncodeQuicsUptoSaid : Prop := fnExactEncodeQuicsUptoRow.holds Tryd.pinned (OpenSpec.upto fnExactEncodeQuicsSpec)

/-- 'laws.FnExactDecodeQuics', WHERE WHAT IT READS IS OF BULK AT MOST 1048576: true; the input reads as it did. -/
def fnExactDecodeQuicsUptoRow : OpenClaim := { program := "ythigojonagocgaadoor", sum := "9e8422299e865a7cde85804c672e2eb80bce271832a3ffa73580e8b2c2cc6ed6", func := "loop.example/g01633/laws.FnExactDecodeQuics", spec := "fnExactDecodeQuics", named := ["loop.example/g01633/impl.quicForms"], apart := false, laid := [("loop.example/g01633/impl.quicForms", laid_loop_example_g01633_impl_quicForms)], narrowed := true }
def FnExactDecodeQuicsUptoSaid : Prop := fnExactDecodeQuicsUptoRow.holds Tryd.pinned (OpenSpec.upto fnExactDecodeQuicsSpec)

end Rows
end Go.Proofs.YthigojonagocgaaDoor
