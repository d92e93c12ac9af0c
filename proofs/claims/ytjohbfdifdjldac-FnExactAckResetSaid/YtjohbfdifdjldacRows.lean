/-
  No cell of these rows narrows 'for every input' (looked for: loops, veiled, ifaces, maps, wideKeys, modest, calm, conditions, laid).
  DERIVED. THE GIVEN ROWS OF THIS SEAT. 4 by the template 'for every input the law returns true; each argument reads behind the call as it read before'; 0 by the template 'total and deterministic' (their statements: YtjohbfdifdjldacTotals.lean).
  GIVEN WITH THE SEED: the statements are not yours to turn. If you find one false, say at which input.
  Laid BY PROGRAM, IN A SANDBOX (cutbox-rows.mjs): the forced cells as the released guide's own fill.sh prints them over the translation b49a27cb66b6313f… (all of the seat's roots in one cut). By AI agents, Wed Nov 11 2026. No macro, syntax, notation, axiom, sorry.
-/
import Derived.Test.YtjohbfdifdjldacChecked
import GoSem.Claim
import GoSem.ClaimJoined
import GoSem.ClaimMapViews
import Derived.JoinedTies
import Derived.KernelRfl
namespace Go.Proofs.Ytjohbfdifdjldac
/- THE CELL 'sum', in the pinned program and in every row, IS THE sha256 OF THE DUMP (.gsa) THAT YtjohbfdifdjldacProg.lean LOADS. Nothing in Lean hashes anything: it is a label: what it is worth is what the hold of that sum in a sandbox is worth. -/
noncomputable def Try.pinned : Pinned := { name := "ytjohbfdifdjldac", sum := "b49a27cb66b6313f119bdd9783695ce2ee93b9fef6ebb697fc12ba9bbef872d4", checked := Try.checked }
namespace Rows
def none {H : Type} : Left H := { results := [], args := [] }

/-- 'laws.FnExactLosePiece': WHATEVER THE INPUT: true; the input reads as it did. -/
def fnExactLosePieceSpec : ChangeSpec := { name := "fnExactLosePiece", fn := fun _ => fun
  | [d1, d2] => { results := [.lit (.bool true)], args := [d1, d2] }
  | _ => none }
def fnExactLosePieceRow : OpenClaim := { program := "ytjohbfdifdjldac", sum := "b49a27cb66b6313f119bdd9783695ce2ee93b9fef6ebb697fc12ba9bbef872d4", func := "loop.example/g01633/laws.FnExactLosePiece", spec := "fnExactLosePiece", unfollowed := true, recurses := true, apart := false }
def FnExactLosePieceSaid : Prop := fnExactLosePieceRow.holds Try.pinned (OpenSpec.ofChange fnExactLosePieceSpec)

/-- ITS FALSE NEIGHBOUR: 'it returns false'. Refute it at one input. -/
def fnExactLosePieceWrong : ChangeSpec := { name := "fnExactLosePiece", fn := fun _ => fun
  | [d1, d2] => { results := [.lit (.bool false)], args := [d1, d2] }
  | _ => none }
def FnExactLosePieceWrongFalsely : Prop := fnExactLosePieceRow.holds Try.pinned (OpenSpec.ofChange fnExactLosePieceWrong)

/-- 'laws.FnExactAckReset': WHATEVER THE INPUT: true; the input reads as it did. -/
def fnExactAckResetSpec : ChangeSpec := { name := "fnExactAckReset", fn := fun _ => fun
  | [d] => { results := [.lit (.bool true)], args := [d] }
  | _ => none }
def fnExactAckResetRow : OpenClaim := { program := "ytjohbfdifdjldac", sum := "b49a27cb66b6313f119bdd9783695ce2ee93b9fef6ebb697fc12ba9bbef872d4", func := "loop.example/g01633/laws.FnExactAckReset", spec := "fnExactAckReset", unfollowed := true, recurses := true, apart := false }
def FnExactAckResetSaid : Prop := fnExactAckResetRow.holds Try.pinned (OpenSpec.ofChange fnExactAckResetSpec)

/-- ITS FALSE NEIGHBOUR: 'it returns false'. Refute it at one input. -/
def fnExactAckResetWrong : ChangeSpec := { name := "fnExactAckReset", fn := fun _ => fun
  | [d] => { results := [.lit (.bool false)], args := [d] }
  | _ => none }
def FnExactAckResetWrongFalsely : Prop := fnExactAckResetRow.holds Try.pinned (OpenSpec.ofChange fnExactAckResetWrong)

/-- 'laws.FnExactSendName': WHATEVER THE INPUT: true; the input reads as it did. -/
def fnExactSendNameSpec : ChangeSpec := { name := "fnExactSendName", fn := fun _ => fun
  | [d] => { results := [.lit (.bool true)], args := [d] }
  | _ => none }
def fnExactSendNameRow : OpenClaim := { program := "ytjohbfdifdjldac", sum := "b49a27cb66b6313f119bdd9783695ce2ee93b9fef6ebb697fc12ba9bbef872d4", func := "loop.example/g01633/laws.FnExactSendName", spec := "fnExactSendName", apart := false }
def FnExactSendNameSaid : Prop := fnExactSendNameRow.holds Try.pinned (OpenSpec.ofChange fnExactSendNameSpec)

/-- ITS FALSE NEIGHBOUR: 'it returns false'. Refute it at one input. -/
def fnExactSendNameWrong : ChangeSpec := { name := "fnExactSendName", fn := fun _ => fun
  | [d] => { results := [.lit (.bool false)], args := [d] }
  | _ => none }
def FnExactSendNameWrongFalsely : Prop := fnExactSendNameRow.holds Try.pinned (OpenSpec.ofChange fnExactSendNameWrong)

/-- 'laws.FnExactEqualSenders': WHATEVER THE INPUT: true; the input reads as it did. -/
def fnExactEqualSendersSpec : ChangeSpec := { name := "fnExactEqualSenders", fn := fun _ => fun
  | [d1, d2] => { results := [.lit (.bool true)], args := [d1, d2] }
  | _ => none }
def fnExactEqualSendersRow : OpenClaim := { program := "ytjohbfdifdjldac", sum := "b49a27cb66b6313f119bdd9783695ce2ee93b9fef6ebb697fc12ba9bbef872d4", func := "loop.example/g01633/laws.FnExactEqualSenders", spec := "fnExactEqualSenders", apart := false }
def FnExactEqualSendersSaid : Prop := fnExactEqualSendersRow.holds Try.pinned (OpenSpec.ofChange fnExactEqualSendersSpec)

/-- ITS FALSE NEIGHBOUR: 'it returns false'. Refute it at one input. -/
def fnExactEqualSendersWrong : ChangeSpec := { name := "fnExactEqualSenders", fn := fun _ => fun
  | [d1, d2] => { results := [.lit (.bool false)], args := [d1, d2] }
  | _ => none }
def FnExactEqualSendersWrongFalsely : Prop := fnExactEqualSendersRow.holds Try.pinned (OpenSpec.ofChange fnExactEqualSendersWrong)

/- THE SECOND FORM. 'bulk': how many values and letters a reading holds, each counted each time it is reached (what is shared counts as often as it is met; a slice's spare places count too). A statement '..UptoSaid' is the law's where the arguments, and the package variables that the reading takes, are together of bulk at most 1048576: NARROWER than '..Said'. Prove '..Said' where nothing that the law and all that it calls make is longer than what came in: it says more and counts as full. Else prove '..UptoSaid'. A law counts once. -/
mutual
def uptoBulk {H : Type} : DataW H → Nat
  | .lit (.string bytes) => bytes.length + 1
  | .lit _ => 1
  | .nil => 1
  | .ptr d => uptoBulk d + 1
  | .slice elems spare => uptoBulkAll elems + uptoBulkAll spare + 1
  | .agg parts => uptoBulkAll parts + 1
  | .iface _ d => uptoBulk d + 1
  | .map entries => uptoBulkEntries entries + 1
  | .held _ => 1
def uptoBulkAll {H : Type} : List (DataW H) → Nat
  | [] => 0
  | d :: r => uptoBulk d + uptoBulkAll r
def uptoBulkEntries {H : Type} : List (Lit × DataW H) → Nat
  | [] => 0
  | x :: r => uptoBulkEntry x + uptoBulkEntries r
def uptoBulkEntry {H : Type} : Lit × DataW H → Nat
  | (.string bytes, d) => bytes.length + uptoBulk d + 1
  | (_, d) => uptoBulk d + 1
 end
def uptoSmall : (H : Type) → List (DataW H) → Bool := fun _ ds => decide (uptoBulkAll ds ≤ 1048576)
def OpenSpec.upto (s : _root_.Go.ChangeSpec) : _root_.Go.OpenSpec := { _root_.Go.OpenSpec.ofChange s with cond := some uptoSmall }

/-- 'laws.FnExactLosePiece', WHERE WHAT IT READS IS OF BULK AT MOST 1048576: true; the input reads as it did. -/
def fnExactLosePieceUptoRow : OpenClaim := { program := "ytjohbfdifdjldac", sum := "b49a27cb66b6313f119bdd9783695ce2ee93b9fef6ebb697fc12ba9bbef872d4", func := "loop.example/g01633/laws.FnExactLosePiece", spec := "fnExactLosePiece", unfollowed := true, recurses := true, apart := false, narrowed := true }
def FnExactLosePieceUptoSaid : Prop := fnExactLosePieceUptoRow.holds Try.pinned (OpenSpec.upto fnExactLosePieceSpec)

/-- 'laws.FnExactAckReset', WHERE WHAT IT READS IS OF BULK AT MOST 1048576: true; the input reads as it did. -/
def fnExactAckResetUptoRow : OpenClaim := { program := "ytjohbfdifdjldac", sum := "b49a27cb66b6313f119bdd9783695ce2ee93b9fef6ebb697fc12ba9bbef872d4", func := "loop.example/g01633/laws.FnExactAckReset", spec := "fnExactAckReset", unfollowed := true, recurses := true, apart := false, narrowed := true }
def FnExactAckResetUptoSaid : Prop := fnExactAckResetUptoRow.holds Try.pinned (OpenSpec.upto fnExactAckResetSpec)

/-- 'laws.FnExactSendName', WHERE WHAT IT READS IS OF BULK AT MOST 1048576: true; the input reads as it did. -/
def fnExactSendNameUptoRow : OpenClaim := { program := "ytjohbfdifdjldac", sum := "b49a27cb66b6313f119bdd9783695ce2ee93b9fef6ebb697fc12ba9bbef872d4", func := "loop.example/g01633/laws.FnExactSendName", spec := "fnExactSendName", apart := false, narrowed := true }
def FnExactSendNameUptoSaid : Prop := fnExactSendNameUptoRow.holds Try.pinned (OpenSpec.upto fnExactSendNameSpec)

/-- 'laws.FnExactEqualSenders', WHERE WHAT IT READS IS OF BULK AT MOST 1048576: true; the input reads as it did. -/
def fnExactEqualSendersUptoRow : OpenClaim := { program := "ytjohbfdifdjldac", sum := "b49a27cb66b6313f119bdd9783695ce2ee93b9fef6ebb697fc12ba9bbef872d4", func := "loop.example/g01633/laws.FnExactEqualSenders", spec := "fnExactEqualSenders", apart := false, narrowed := true }
def FnExactEqualSendersUptoSaid : Prop := fnExactEqualSendersUptoRow.holds Try.pinned (OpenSpec.upto fnExactEqualSendersSpec)

end Rows
end Go.Proofs.Ytjohbfdifdjldac
