/-
  NARROWER THAN 'FOR EVERY INPUT', by the rows' own cells (each row's printed sentence says how): FnFrames: laid · FnPayloads: laid · FnExactEncodeFrame: laid · FnExactFrameSize: laid · FnExactDecodeFrame: laid · FnExactEncodePayload: laid · FnExactDecodePayload: laid.
  DERIVED. THE GIVEN ROWS OF THIS SEAT. 7 by the template 'for every input the law returns true; each argument reads behind the call as it read before'; 0 by the template 'total and deterministic' (their statements: YtjbppociogoopaaDoorTotals.lean).
  GIVEN WITH THE SEED: the statements are not yours to turn. If you find one false, say at which input.
  Laid BY PROGRAM, IN A SANDBOX (cutbox-rows.mjs): the forced cells as the released guide's own fill.sh prints them over the translation a14bfda4df21fe33… (all of the seat's roots in one cut). By AI agents, Wed Nov 11 2026. No macro, syntax, notation, axiom, sorry.
-/
import Derived.Test.YtjbppociogoopaaDoorChecked
import GoSem.Claim
import GoSem.ClaimJoined
import GoSem.ClaimMapViews
import Derived.JoinedTies
import Derived.KernelRfl
namespace Go.Proofs.YtjbppociogoopaaDoor
/- THE CELL 'sum', in the pinned program and in every row, IS THE sha256 OF THE DUMP (.gsa) THAT YtjbppociogoopaaDoorProg.lean LOADS. Nothing in Lean hashes anything: it is a label: what it is worth is what the hold of that sum in a sandbox is worth. -/
noncomputable def Tryd.pinned : Pinned := { name := "ytjbppociogoopaadoor", sum := "a14bfda4df21fe33f267840ae26a304a8d0a21b65e8618bcab81c25677010016", checked := Tryd.checked }
namespace Rows
def none {H : Type} : Left H := { results := [], args := [] }

/- WHAT THE LISTED PACKAGE-LEVEL VARIABLES READ AS WHEN THE CALL BEGINS. Each datum BY PROGRAM (the guide's laid-datum.mjs) off the statement by which the dump's own 'gosem.cut.vars' lays the variable. In a bare row this is a premise. The card (YtjbppociogoopaaDoorCards.lean) ties it to the program's text. -/
def laid_loop_example_g01633_impl_quicForms {H : Type} : DataW H := .agg [.agg [.lit (.int .u8 0), .lit (.int .i64 1), .lit (.int .i64 63)], .agg [.lit (.int .u8 64), .lit (.int .i64 2), .lit (.int .i64 16383)], .agg [.lit (.int .u8 128), .lit (.int .i64 4), .lit (.int .i64 1073741823)], .agg [.lit (.int .u8 192), .lit (.int .i64 8), .lit (.int .i64 4611686018427387903)]]

/-- 'laws.FnFrames': WHATEVER THE INPUT: true; the input reads as it did. -/
def fnFramesSpec : ChangeSpec := { name := "fnFrames", vars := ["loop.example/g01633/impl.quicForms"], fn := fun _ => fun
  | [d, g1] => { results := [.lit (.bool true)], args := [d], vars := [g1] }
  | _ => none }
def fnFramesRow : OpenClaim := { program := "ytjbppociogoopaadoor", sum := "a14bfda4df21fe33f267840ae26a304a8d0a21b65e8618bcab81c25677010016", func := "loop.example/g01633/laws.FnFrames", spec := "fnFrames", inPlace := ["internal/abi.NoEscape"], named := ["loop.example/g01633/impl.quicForms"], apart := false, laid := [("loop.example/g01633/impl.quicForms", laid_loop_example_g01633_impl_quicForms)] }
def FnFramesSaid : Prop := fnFramesRow.holds Tryd.pinned (OpenSpec.ofChange fnFramesSpec)

/-- ITS FALSE NEIGHBOUR: 'it returns false'. Refute it at one input. -/
def fnFramesWrong : ChangeSpec := { name := "fnFrames", vars := ["loop.example/g01633/impl.quicForms"], fn := fun _ => fun
  | [d, g1] => { results := [.lit (.bool false)], args := [d], vars := [g1] }
  | _ => none }
def FnFramesWrongFalsely : Prop := fnFramesRow.holds Tryd.pinned (OpenSpec.ofChange fnFramesWrong)

/-- 'laws.FnPayloads': WHATEVER THE INPUT: true; the input reads as it did. -/
def fnPayloadsSpec : ChangeSpec := { name := "fnPayloads", vars := ["loop.example/g01633/impl.quicForms"], fn := fun _ => fun
  | [d, g1] => { results := [.lit (.bool true)], args := [d], vars := [g1] }
  | _ => none }
def fnPayloadsRow : OpenClaim := { program := "ytjbppociogoopaadoor", sum := "a14bfda4df21fe33f267840ae26a304a8d0a21b65e8618bcab81c25677010016", func := "loop.example/g01633/laws.FnPayloads", spec := "fnPayloads", inPlace := ["internal/abi.NoEscape"], named := ["loop.example/g01633/impl.quicForms"], apart := false, laid := [("loop.example/g01633/impl.quicForms", laid_loop_example_g01633_impl_quicForms)] }
def FnPayloadsSaid : Prop := fnPayloadsRow.holds Tryd.pinned (OpenSpec.ofChange fnPayloadsSpec)

/-- ITS FALSE NEIGHBOUR: 'it returns false'. Refute it at one input. -/
def fnPayloadsWrong : ChangeSpec := { name := "fnPayloads", vars := ["loop.example/g01633/impl.quicForms"], fn := fun _ => fun
  | [d, g1] => { results := [.lit (.bool false)], args := [d], vars := [g1] }
  | _ => none }
def FnPayloadsWrongFalsely : Prop := fnPayloadsRow.holds Tryd.pinned (OpenSpec.ofChange fnPayloadsWrong)

/-- 'laws.FnExactEncodeFrame': WHATEVER THE INPUT: true; the input reads as it did. -/
def fnExactEncodeFrameSpec : ChangeSpec := { name := "fnExactEncodeFrame", vars := ["loop.example/g01633/impl.quicForms"], fn := fun _ => fun
  | [d, g1] => { results := [.lit (.bool true)], args := [d], vars := [g1] }
  | _ => none }
def fnExactEncodeFrameRow : OpenClaim := { program := "ytjbppociogoopaadoor", sum := "a14bfda4df21fe33f267840ae26a304a8d0a21b65e8618bcab81c25677010016", func := "loop.example/g01633/laws.FnExactEncodeFrame", spec := "fnExactEncodeFrame", inPlace := ["internal/abi.NoEscape"], named := ["loop.example/g01633/impl.quicForms"], apart := false, laid := [("loop.example/g01633/impl.quicForms", laid_loop_example_g01633_impl_quicForms)] }
def FnExactEncodeFrameSaid : Prop := fnExactEncodeFrameRow.holds Tryd.pinned (OpenSpec.ofChange fnExactEncodeFrameSpec)

/-- ITS FALSE NEIGHBOUR: 'it returns false'. Refute it at one input. -/
def fnExactEncodeFrameWrong : ChangeSpec := { name := "fnExactEncodeFrame", vars := ["loop.example/g01633/impl.quicForms"], fn := fun _ => fun
  | [d, g1] => { results := [.lit (.bool false)], args := [d], vars := [g1] }
  | _ => none }
def FnExactEncodeFrameWrongFalsely : Prop := fnExactEncodeFrameRow.holds Tryd.pinned (OpenSpec.ofChange fnExactEncodeFrameWrong)

/-- 'laws.FnExactFrameSize': WHATEVER THE INPUT: true; the input reads as it did. -/
def fnExactFrameSizeSpec : ChangeSpec := { name := "fnExactFrameSize", vars := ["loop.example/g01633/impl.quicForms"], fn := fun _ => fun
  | [d, g1] => { results := [.lit (.bool true)], args := [d], vars := [g1] }
  | _ => none }
def fnExactFrameSizeRow : OpenClaim := { program := "ytjbppociogoopaadoor", sum := "a14bfda4df21fe33f267840ae26a304a8d0a21b65e8618bcab81c25677010016", func := "loop.example/g01633/laws.FnExactFrameSize", spec := "fnExactFrameSize", inPlace := ["internal/abi.NoEscape"], named := ["loop.example/g01633/impl.quicForms"], apart := false, laid := [("loop.example/g01633/impl.quicForms", laid_loop_example_g01633_impl_quicForms)] }
def FnExactFrameSizeSaid : Prop := fnExactFrameSizeRow.holds Tryd.pinned (OpenSpec.ofChange fnExactFrameSizeSpec)

/-- ITS FALSE NEIGHBOUR: 'it returns false'. Refute it at one input. -/
def fnExactFrameSizeWrong : ChangeSpec := { name := "fnExactFrameSize", vars := ["loop.example/g01633/impl.quicForms"], fn := fun _ => fun
  | [d, g1] => { results := [.lit (.bool false)], args := [d], vars := [g1] }
  | _ => none }
def FnExactFrameSizeWrongFalsely : Prop := fnExactFrameSizeRow.holds Tryd.pinned (OpenSpec.ofChange fnExactFrameSizeWrong)

/-- 'laws.FnExactDecodeFrame': WHATEVER THE INPUT: true; the input reads as it did. -/
def fnExactDecodeFrameSpec : ChangeSpec := { name := "fnExactDecodeFrame", vars := ["loop.example/g01633/impl.quicForms"], fn := fun _ => fun
  | [d1, d2, g1] => { results := [.lit (.bool true)], args := [d1, d2], vars := [g1] }
  | _ => none }
def fnExactDecodeFrameRow : OpenClaim := { program := "ytjbppociogoopaadoor", sum := "a14bfda4df21fe33f267840ae26a304a8d0a21b65e8618bcab81c25677010016", func := "loop.example/g01633/laws.FnExactDecodeFrame", spec := "fnExactDecodeFrame", named := ["loop.example/g01633/impl.quicForms"], apart := false, laid := [("loop.example/g01633/impl.quicForms", laid_loop_example_g01633_impl_quicForms)] }
def FnExactDecodeFrameSaid : Prop := fnExactDecodeFrameRow.holds Tryd.pinned (OpenSpec.ofChange fnExactDecodeFrameSpec)

/-- ITS FALSE NEIGHBOUR: 'it returns false'. Refute it at one input. -/
def fnExactDecodeFrameWrong : ChangeSpec := { name := "fnExactDecodeFrame", vars := ["loop.example/g01633/impl.quicForms"], fn := fun _ => fun
  | [d1, d2, g1] => { results := [.lit (.bool false)], args := [d1, d2], vars := [g1] }
  | _ => none }
def FnExactDecodeFrameWrongFalsely : Prop := fnExactDecodeFrameRow.holds Tryd.pinned (OpenSpec.ofChange fnExactDecodeFrameWrong)

/-- 'laws.FnExactEncodePayload': WHATEVER THE INPUT: true; the input reads as it did. -/
def fnExactEncodePayloadSpec : ChangeSpec := { name := "fnExactEncodePayload", vars := ["loop.example/g01633/impl.quicForms"], fn := fun _ => fun
  | [d, g1] => { results := [.lit (.bool true)], args := [d], vars := [g1] }
  | _ => none }
def fnExactEncodePayloadRow : OpenClaim := { program := "ytjbppociogoopaadoor", sum := "a14bfda4df21fe33f267840ae26a304a8d0a21b65e8618bcab81c25677010016", func := "loop.example/g01633/laws.FnExactEncodePayload", spec := "fnExactEncodePayload", inPlace := ["internal/abi.NoEscape"], named := ["loop.example/g01633/impl.quicForms"], apart := false, laid := [("loop.example/g01633/impl.quicForms", laid_loop_example_g01633_impl_quicForms)] }
def FnExactEncodePayloadSaid : Prop := fnExactEncodePayloadRow.holds Tryd.pinned (OpenSpec.ofChange fnExactEncodePayloadSpec)

/-- ITS FALSE NEIGHBOUR: 'it returns false'. Refute it at one input. -/
def fnExactEncodePayloadWrong : ChangeSpec := { name := "fnExactEncodePayload", vars := ["loop.example/g01633/impl.quicForms"], fn := fun _ => fun
  | [d, g1] => { results := [.lit (.bool false)], args := [d], vars := [g1] }
  | _ => none }
def FnExactEncodePayloadWrongFalsely : Prop := fnExactEncodePayloadRow.holds Tryd.pinned (OpenSpec.ofChange fnExactEncodePayloadWrong)

/-- 'laws.FnExactDecodePayload': WHATEVER THE INPUT: true; the input reads as it did. -/
def fnExactDecodePayloadSpec : ChangeSpec := { name := "fnExactDecodePayload", vars := ["loop.example/g01633/impl.quicForms"], fn := fun _ => fun
  | [d, g1] => { results := [.lit (.bool true)], args := [d], vars := [g1] }
  | _ => none }
def fnExactDecodePayloadRow : OpenClaim := { program := "ytjbppociogoopaadoor", sum := "a14bfda4df21fe33f267840ae26a304a8d0a21b65e8618bcab81c25677010016", func := "loop.example/g01633/laws.FnExactDecodePayload", spec := "fnExactDecodePayload", named := ["loop.example/g01633/impl.quicForms"], apart := false, laid := [("loop.example/g01633/impl.quicForms", laid_loop_example_g01633_impl_quicForms)] }
def FnExactDecodePayloadSaid : Prop := fnExactDecodePayloadRow.holds Tryd.pinned (OpenSpec.ofChange fnExactDecodePayloadSpec)

/-- ITS FALSE NEIGHBOUR: 'it returns false'. Refute it at one input. -/
def fnExactDecodePayloadWrong : ChangeSpec := { name := "fnExactDecodePayload", vars := ["loop.example/g01633/impl.quicForms"], fn := fun _ => fun
  | [d, g1] => { results := [.lit (.bool false)], args := [d], vars := [g1] }
  | _ => none }
def FnExactDecodePayloadWrongFalsely : Prop := fnExactDecodePayloadRow.holds Tryd.pinned (OpenSpec.ofChange fnExactDecodePayloadWrong)

/- THE SECOND FORM. 'bulk': how many values and letters a reading holds, each counted each time it is reached (what is shared counts as often as it is met; a slice's spare places count too). A statement '..UptoSaid' is the law's where the arguments, and the package variables that the reading takes, are together of bulk at most 1048576: NARROWER than '..Said'. Prove '..Said' where nothing that the law and all that it calls make is longer than what came in: it says more and counts as full. Else prove '..UptoSaid'. A law counts once. -/
mutual
def uptoBulk {H : Type} : DataW H → Nat
  | .lit (.string bytes) => bytes.length + 1
  | .lit _ => 1
  | .nil => 1
  | .ptr d => uptoBulk d + 1
  | .slice elems spare => uptoBulkAll elems + uptoBulkAll spare + 1
  | .agg parts => uptoBulkAll parts + 1
  | .iface _ d => uptoBulk d + 1
  | .map entries => uptoBulkEntries entries + 1
  | .held _ => 1
def uptoBulkAll {H : Type} : List (DataW H) → Nat
  | [] => 0
  | d :: r => uptoBulk d + uptoBulkAll r
def uptoBulkEntries {H : Type} : List (Lit × DataW H) → Nat
  | [] => 0
  | x :: r => uptoBulkEntry x + uptoBulkEntries r
def uptoBulkEntry {H : Type} : Lit × DataW H → Nat
  | (.string bytes, d) => bytes.length + uptoBulk d + 1
  | (_, d) => uptoBulk d + 1
 end
def uptoSmall : (H : Type) → List (DataW H) → Bool := fun _ ds => decide (uptoBulkAll ds ≤ 1048576)
def OpenSpec.upto (s : _root_.Go.ChangeSpec) : _root_.Go.OpenSpec := { _root_.Go.OpenSpec.ofChange s with cond := some uptoSmall }

/-- 'laws.FnFrames', WHERE WHAT IT READS IS OF BULK AT MOST 1048576: true; the input reads as it did. -/
def fnFramesUptoRow : OpenClaim := { program := "ytjbppociogoopaadoor", sum := "a14bfda4df21fe33f267840ae26a304a8d0a21b65e8618bcab81c25677010016", func := "loop.example/g01633/laws.FnFrames", spec := "fnFrames", inPlace := ["internal/abi.NoEscape"], named := ["loop.example/g01633/impl.quicForms"], apart := false, laid := [("loop.example/g01633/impl.quicForms", laid_loop_example_g01633_impl_quicForms)], narrowed := true }
def FnFramesUptoSaid : Prop := fnFramesUptoRow.holds Tryd.pinned (OpenSpec.upto fnFramesSpec)

/-- 'laws.FnPayloads', WHERE WHAT IT READS IS OF BULK AT MOST 1048576: true; the input reads as it did. -/
def fnPayloadsUptoRow : OpenClaim := { program := "ytjbppociogoopaadoor", sum := "a14bfda4df21fe33f267840ae26a304a8d0a21b65e8618bcab81c25677010016", func := "loop.example/g01633/laws.FnPayloads", spec := "fnPayloads", inPlace := ["internal/abi.NoEscape"], named := ["loop.example/g01633/impl.quicForms"], apart := false, laid := [("loop.example/g01633/impl.quicForms", laid_loop_example_g01633_impl_quicForms)], narrowed := true }
def FnPayloadsUptoSaid : Prop := fnPayloadsUptoRow.holds Tryd.pinned (OpenSpec.upto fnPayloadsSpec)

/-- 'laws.FnExactEncodeFrame', WHERE WHAT IT READS IS OF BULK AT MOST 1048576: true; the input reads as it did. -/
def fnExactEncodeFrameUptoRow : OpenClaim := { program := "ytjbppociogoopaadoor", sum := "a14bfda4df21fe33f267840ae26a304a8d0a21b65e8618bcab81c25677010016", func := "loop.example/g01633/laws.FnExactEncodeFrame", spec := "fnExactEncodeFrame", inPlace := ["internal/abi.NoEscape"], named := ["loop.example/g01633/impl.quicForms"], apart := false, laid := [("loop.example/g01633/impl.quicForms", laid_loop_example_g01633_impl_quicForms)], narrowed := true }
def FnExactEncodeFrameUptoSaid : Prop := fnExactEncodeFrameUptoRow.holds Tryd.pinned (OpenSpec.upto fnExactEncodeFrameSpec)

/-- 'laws.FnExactFrameSize', WHERE WHAT IT READS IS OF BULK AT MOST 1048576: true; the input reads as it did. -/
def fnExactFrameSizeUptoRow : OpenClaim := { program := "ytjbppociogoopaadoor", sum := "a14bfda4df21fe33f267840ae26a304a8d0a21b65e8618bcab81c25677010016", func := "loop.example/g01633/laws.FnExactFrameSize", spec := "fnExactFrameSize", inPlace := ["internal/abi.NoEscape"], named := ["loop.example/g01633/impl.quicForms"], apart := false, laid := [("loop.example/g01633/impl.quicForms", laid_loop_example_g01633_impl_quicForms)], narrowed := true }
def FnExactFrameSizeUptoSaid : Prop := fnExactFrameSizeUptoRow.holds Tryd.pinned (OpenSpec.upto fnExactFrameSizeSpec)

/-- 'laws.FnExactDecodeFrame', WHERE WHAT IT READS IS OF BULK AT MOST 1048576: true; the input reads as it did. -/
def fnExactDecodeFrameUptoRow : OpenClaim := { program := "ytjbppociogoopaadoor", sum := "a14bfda4df21fe33f267840ae26a304a8d0a21b65e8618bcab81c25677010016", func := "loop.example/g01633/laws.FnExactDecodeFrame", spec := "fnExactDecodeFrame", named := ["loop.example/g01633/impl.quicForms"], apart := false, laid := [("loop.example/g01633/impl.quicForms", laid_loop_example_g01633_impl_quicForms)], narrowed := true }
def FnExactDecodeFrameUptoSaid : Prop := fnExactDecodeFrameUptoRow.holds Tryd.pinned (OpenSpec.upto fnExactDecodeFrameSpec)

/-- 'laws.FnExactEncodePayload', WHERE WHAT IT READS IS OF BULK AT MOST 1048576: true; the input reads as it did. -/
def fnExactEncodePayloadUptoRow : OpenClaim := { program := "ytjbppociogoopaadoor", sum := "a14bfda4df21fe33f267840ae26a304a8d0a21b65e8618bcab81c25677010016", func := "loop.example/g01633/laws.FnExactEncodePayload", spec := "fnExactEncodePayload", inPlace := ["internal/abi.NoEscape"], named := ["loop.example/g01633/impl.quicForms"], apart := false, laid := [("loop.example/g01633/impl.quicForms", laid_loop_example_g01633_impl_quicForms)], narrowed := true }
def FnExactEncodePayloadUptoSaid : Prop := fnExactEncodePayloadUptoRow.holds Tryd.pinned (OpenSpec.upto fnExactEncodePayloadSpec)

/-- 'laws.FnExactDecodePayload', WHERE WHAT IT READS IS OF BULK AT MOST 1048576: true; the input reads as it did. -/
def fnExactDecodePayloadUptoRow : OpenClaim := { program := "ytjbppociogoopaadoor", sum := "a14bfda4df21fe33f267840ae26a304a8d0a21b65e8618bcab81c25677010016", func := "loop.example/g01633/laws.FnExactDecodePayload", spec := "fnExactDecodePayload", named := ["loop.example/g01633/impl.quicForms"], apart := false, laid := [("loop.example/g01633/impl.quicForms", laid_loop_example_g01633_impl_quicForms)], narrowed := true }
def FnExactDecodePayloadUptoSaid : Prop := fnExactDecodePayloadUptoRow.holds Tryd.pinned (OpenSpec.upto fnExactDecodePayloadSpec)

end Rows
end Go.Proofs.YtjbppociogoopaaDoor
