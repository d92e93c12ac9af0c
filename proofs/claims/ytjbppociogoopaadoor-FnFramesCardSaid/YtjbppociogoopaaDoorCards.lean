/-
  DERIVED. GIVEN WITH THE SEED: THE CARDS: each row of YtjbppociogoopaaDoorRows.lean that lists a variable, with what it lists TIED to the program's text (the seventh form; the later family's looks); each row that meets fmt, with fmt's text TOLD by the authors' own Lean function (tested against real Go, not proved from fmt's source: count such statements apart). THE CARD IS WHAT COUNTS. Prove the row's statement (the work); the ties are given (YtjbppociogoopaaDoorTie.lean); close each card by the builder's one call (the guide's Derived/Test/ToyasCard.lean, 'card_holds'). Laid BY PROGRAM, IN A SANDBOX (cutbox-door.mjs). By AI agents, Wed Nov 11 2026. No macro, syntax, notation, axiom, sorry.
-/
import Derived.Test.YtjbppociogoopaaDoorRows
import GoSem.ClaimSeven
namespace Go.Proofs.YtjbppociogoopaaDoor
namespace Rows

/-- THE TIED CARD OF 'laws.FnFrames'. -/
def fnFramesCard : Claim7 := { stood := { row := fnFramesRow, standIns := [], harness := (true, "b55b26162b1c4c937ba65d6b9b209003aa500902ef9e517c85e4f8d45225b01b"), looks := false }, kinds := [], alts := [], laidByText := true, laidKinds := [.data], laidTests := true, laidLooks := .later }
def FnFramesCardSaid : Prop := Claim7.holds Tryd.pinned (.plain (OpenSpec.ofChange fnFramesSpec)) fnFramesCard

/-- THE TIED CARD OF 'laws.FnPayloads'. -/
def fnPayloadsCard : Claim7 := { stood := { row := fnPayloadsRow, standIns := [], harness := (true, "b55b26162b1c4c937ba65d6b9b209003aa500902ef9e517c85e4f8d45225b01b"), looks := false }, kinds := [], alts := [], laidByText := true, laidKinds := [.data], laidTests := true, laidLooks := .later }
def FnPayloadsCardSaid : Prop := Claim7.holds Tryd.pinned (.plain (OpenSpec.ofChange fnPayloadsSpec)) fnPayloadsCard

/-- THE TIED CARD OF 'laws.FnExactEncodeFrame'. -/
def fnExactEncodeFrameCard : Claim7 := { stood := { row := fnExactEncodeFrameRow, standIns := [], harness := (true, "b55b26162b1c4c937ba65d6b9b209003aa500902ef9e517c85e4f8d45225b01b"), looks := false }, kinds := [], alts := [], laidByText := true, laidKinds := [.data], laidTests := true, laidLooks := .later }
def FnExactEncodeFrameCardSaid : Prop := Claim7.holds Tryd.pinned (.plain (OpenSpec.ofChange fnExactEncodeFrameSpec)) fnExactEncodeFrameCard

/-- THE TIED CARD OF 'laws.FnExactFrameSize'. -/
def fnExactFrameSizeCard : Claim7 := { stood := { row := fnExactFrameSizeRow, standIns := [], harness := (true, "b55b26162b1c4c937ba65d6b9b209003aa500902ef9e517c85e4f8d45225b01b"), looks := false }, kinds := [], alts := [], laidByText := true, laidKinds := [.data], laidTests := true, laidLooks := .later }
def FnExactFrameSizeCardSaid : Prop := Claim7.holds Tryd.pinned (.plain (OpenSpec.ofChange fnExactFrameSizeSpec)) fnExactFrameSizeCard

/-- THE TIED CARD OF 'laws.FnExactDecodeFrame'. -/
def fnExactDecodeFrameCard : Claim7 := { stood := { row := fnExactDecodeFrameRow, standIns := [], harness := (true, "b55b26162b1c4c937ba65d6b9b209003aa500902ef9e517c85e4f8d45225b01b"), looks := false }, kinds := [], alts := [], laidByText := true, laidKinds := [.data], laidTests := true, laidLooks := .later }
def FnExactDecodeFrameCardSaid : Prop := Claim7.holds Tryd.pinned (.plain (OpenSpec.ofChange fnExactDecodeFrameSpec)) fnExactDecodeFrameCard

/-- THE TIED CARD OF 'laws.FnExactEncodePayload'. -/
def fnExactEncodePayloadCard : Claim7 := { stood := { row := fnExactEncodePayloadRow, standIns := [], harness := (true, "b55b26162b1c4c937ba65d6b9b209003aa500902ef9e517c85e4f8d45225b01b"), looks := false }, kinds := [], alts := [], laidByText := true, laidKinds := [.data], laidTests := true, laidLooks := .later }
def FnExactEncodePayloadCardSaid : Prop := Claim7.holds Tryd.pinned (.plain (OpenSpec.ofChange fnExactEncodePayloadSpec)) fnExactEncodePayloadCard

/-- THE TIED CARD OF 'laws.FnExactDecodePayload'. -/
def fnExactDecodePayloadCard : Claim7 := { stood := { row := fnExactDecodePayloadRow, standIns := [], harness := (true, "b55b26162b1c4c937ba65d6b9b209003aa500902ef9e517c85e4f8d45225b01b"), looks := false }, kinds := [], alts := [], laidByText := true, laidKinds := [.data], laidTests := true, laidLooks := .later }
def FnExactDecodePayloadCardSaid : Prop := Claim7.holds Tryd.pinned (.plain (OpenSpec.ofChange fnExactDecodePayloadSpec)) fnExactDecodePayloadCard

/-- THE SECOND FORM's CARD OF 'laws.FnFrames'. -/
def fnFramesUptoCard : Claim7 := { stood := { row := fnFramesUptoRow, standIns := [], harness := (true, "b55b26162b1c4c937ba65d6b9b209003aa500902ef9e517c85e4f8d45225b01b"), looks := false }, kinds := [], alts := [], laidByText := true, laidKinds := [.data], laidTests := true, laidLooks := .later }
def FnFramesUptoCardSaid : Prop := Claim7.holds Tryd.pinned (.plain (OpenSpec.upto fnFramesSpec)) fnFramesUptoCard

/-- THE SECOND FORM's CARD OF 'laws.FnPayloads'. -/
def fnPayloadsUptoCard : Claim7 := { stood := { row := fnPayloadsUptoRow, standIns := [], harness := (true, "b55b26162b1c4c937ba65d6b9b209003aa500902ef9e517c85e4f8d45225b01b"), looks := false }, kinds := [], alts := [], laidByText := true, laidKinds := [.data], laidTests := true, laidLooks := .later }
def FnPayloadsUptoCardSaid : Prop := Claim7.holds Tryd.pinned (.plain (OpenSpec.upto fnPayloadsSpec)) fnPayloadsUptoCard

/-- THE SECOND FORM's CARD OF 'laws.FnExactEncodeFrame'. -/
def fnExactEncodeFrameUptoCard : Claim7 := { stood := { row := fnExactEncodeFrameUptoRow, standIns := [], harness := (true, "b55b26162b1c4c937ba65d6b9b209003aa500902ef9e517c85e4f8d45225b01b"), looks := false }, kinds := [], alts := [], laidByText := true, laidKinds := [.data], laidTests := true, laidLooks := .later }
def FnExactEncodeFrameUptoCardSaid : Prop := Claim7.holds Tryd.pinned (.plain (OpenSpec.upto fnExactEncodeFrameSpec)) fnExactEncodeFrameUptoCard

/-- THE SECOND FORM's CARD OF 'laws.FnExactFrameSize'. -/
def fnExactFrameSizeUptoCard : Claim7 := { stood := { row := fnExactFrameSizeUptoRow, standIns := [], harness := (true, "b55b26162b1c4c937ba65d6b9b209003aa500902ef9e517c85e4f8d45225b01b"), looks := false }, kinds := [], alts := [], laidByText := true, laidKinds := [.data], laidTests := true, laidLooks := .later }
def FnExactFrameSizeUptoCardSaid : Prop := Claim7.holds Tryd.pinned (.plain (OpenSpec.upto fnExactFrameSizeSpec)) fnExactFrameSizeUptoCard

/-- THE SECOND FORM's CARD OF 'laws.FnExactDecodeFrame'. -/
def fnExactDecodeFrameUptoCard : Claim7 := { stood := { row := fnExactDecodeFrameUptoRow, standIns := [], harness := (true, "b55b26162b1c4c937ba65d6b9b209003aa500902ef9e517c85e4f8d45225b01b"), looks := false }, kinds := [], alts := [], laidByText := true, laidKinds := [.data], laidTests := true, laidLooks := .later }
def FnExactDecodeFrameUptoCardSaid : Prop := Claim7.holds Tryd.pinned (.plain (OpenSpec.upto fnExactDecodeFrameSpec)) fnExactDecodeFrameUptoCard

/-- THE SECOND FORM's CARD OF 'laws.FnExactEncodePayload'. -/
def fnExactEncodePayloadUptoCard : Claim7 := { stood := { row := fnExactEncodePayloadUptoRow, standIns := [], harness := (true, "b55b26162b1c4c937ba65d6b9b209003aa500902ef9e517c85e4f8d45225b01b"), looks := false }, kinds := [], alts := [], laidByText := true, laidKinds := [.data], laidTests := true, laidLooks := .later }
def FnExactEncodePayloadUptoCardSaid : Prop := Claim7.holds Tryd.pinned (.plain (OpenSpec.upto fnExactEncodePayloadSpec)) fnExactEncodePayloadUptoCard

/-- THE SECOND FORM's CARD OF 'laws.FnExactDecodePayload'. -/
def fnExactDecodePayloadUptoCard : Claim7 := { stood := { row := fnExactDecodePayloadUptoRow, standIns := [], harness := (true, "b55b26162b1c4c937ba65d6b9b209003aa500902ef9e517c85e4f8d45225b01b"), looks := false }, kinds := [], alts := [], laidByText := true, laidKinds := [.data], laidTests := true, laidLooks := .later }
def FnExactDecodePayloadUptoCardSaid : Prop := Claim7.holds Tryd.pinned (.plain (OpenSpec.upto fnExactDecodePayloadSpec)) fnExactDecodePayloadUptoCard
end Rows
end Go.Proofs.YtjbppociogoopaaDoor
