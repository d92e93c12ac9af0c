/-
  DERIVED. GIVEN WITH THE SEED: THE CARDS: each row of YthigojonagocgaaDoorRows.lean that lists a variable, with what it lists TIED to the program's text (the seventh form; the later family's looks); each row that meets fmt, with fmt's text TOLD by the authors' own Lean function (tested against real Go, not proved from fmt's source: count such statements apart). THE CARD IS WHAT COUNTS. Prove the row's statement (the work); the ties are given (YthigojonagocgaaDoorTie.lean); close each card by the builder's one call (the guide's Derived/Test/ToyasCard.lean, 'card_holds'). Laid BY PROGRAM, IN A SANDBOX (cutbox-door.mjs). By AI agents, Wed Nov 11 2026. No macro, syntax, notation, axiom, sorry.
-/
import Derived.Test.YthigojonagocgaaDoorRows
import GoSem.ClaimSeven
namespace Go.Proofs.YthigojonagocgaaDoor
namespace Rows

/-- THE TIED CARD OF 'laws.FnVarints'. -/
def fnVarintsCard : Claim7 := { stood := { row := fnVarintsRow, standIns := [], harness := (true, "602dd9e04b6a94dd07e6c1196b2709e648050fe979ee960e1c46d57ed055448d"), looks := false }, kinds := [], alts := [], laidByText := true, laidKinds := [.data], laidTests := true, laidLooks := .later }
def FnVarintsCardSaid : Prop := Claim7.holds Tryd.pinned (.plain (OpenSpec.ofChange fnVarintsSpec)) fnVarintsCard

/-- THE TIED CARD OF 'laws.FnExactSizeQuic'. -/
def fnExactSizeQuicCard : Claim7 := { stood := { row := fnExactSizeQuicRow, standIns := [], harness := (true, "602dd9e04b6a94dd07e6c1196b2709e648050fe979ee960e1c46d57ed055448d"), looks := false }, kinds := [], alts := [], laidByText := true, laidKinds := [.data], laidTests := true, laidLooks := .later }
def FnExactSizeQuicCardSaid : Prop := Claim7.holds Tryd.pinned (.plain (OpenSpec.ofChange fnExactSizeQuicSpec)) fnExactSizeQuicCard

/-- THE TIED CARD OF 'laws.FnExactEncodeQuic'. -/
def fnExactEncodeQuicCard : Claim7 := { stood := { row := fnExactEncodeQuicRow, standIns := [], harness := (true, "602dd9e04b6a94dd07e6c1196b2709e648050fe979ee960e1c46d57ed055448d"), looks := false }, kinds := [], alts := [], laidByText := true, laidKinds := [.data], laidTests := true, laidLooks := .later }
def FnExactEncodeQuicCardSaid : Prop := Claim7.holds Tryd.pinned (.plain (OpenSpec.ofChange fnExactEncodeQuicSpec)) fnExactEncodeQuicCard

/-- THE TIED CARD OF 'laws.FnExactDecodeQuic'. -/
def fnExactDecodeQuicCard : Claim7 := { stood := { row := fnExactDecodeQuicRow, standIns := [], harness := (true, "602dd9e04b6a94dd07e6c1196b2709e648050fe979ee960e1c46d57ed055448d"), looks := false }, kinds := [], alts := [], laidByText := true, laidKinds := [.data], laidTests := true, laidLooks := .later }
def FnExactDecodeQuicCardSaid : Prop := Claim7.holds Tryd.pinned (.plain (OpenSpec.ofChange fnExactDecodeQuicSpec)) fnExactDecodeQuicCard

/-- THE TIED CARD OF 'laws.FnExactIsShortest'. -/
def fnExactIsShortestCard : Claim7 := { stood := { row := fnExactIsShortestRow, standIns := [], harness := (true, "602dd9e04b6a94dd07e6c1196b2709e648050fe979ee960e1c46d57ed055448d"), looks := false }, kinds := [], alts := [], laidByText := true, laidKinds := [.data], laidTests := true, laidLooks := .later }
def FnExactIsShortestCardSaid : Prop := Claim7.holds Tryd.pinned (.plain (OpenSpec.ofChange fnExactIsShortestSpec)) fnExactIsShortestCard

/-- THE TIED CARD OF 'laws.FnExactEncodeQuics'. -/
def fnExactEncodeQuicsCard : Claim7 := { stood := { row := fnExactEncodeQuicsRow, standIns := [], harness := (true, "602dd9e04b6a94dd07e6c1196b2709e648050fe979ee960e1c46d57ed055448d"), looks := false }, kinds := [], alts := [], laidByText := true, laidKinds := [.data], laidTests := true, laidLooks := .later }
def FnExactEncodeQuicsCardSaid : Prop := Claim7.holds Tryd.pinned (.plain (OpenSpec.ofChange fnExactEncodeQuicsSpec)) fnExactEncodeQuicsCard

/-- THE TIED CARD OF 'laws.FnExactDecodeQuics'. -/
def fnExactDecodeQuicsCard : Claim7 := { stood := { row := fnExactDecodeQuicsRow, standIns := [], harness := (true, "602dd9e04b6a94dd07e6c1196b2709e648050fe979ee960e1c46d57ed055448d"), looks := false }, kinds := [], alts := [], laidByText := true, laidKinds := [.data], laidTests := true, laidLooks := .later }
def FnExactDecodeQuicsCardSaid : Prop := Claim7.holds Tryd.pinned (.plain (OpenSpec.ofChange fnExactDecodeQuicsSpec)) fnExactDecodeQuicsCard

/-- THE SECOND FORM's CARD OF 'laws.FnVarints'. -/
def fnVarintsUptoCard : Claim7 := { stood := { row := fnVarintsUptoRow, standIns := [], harness := (true, "602dd9e04b6a94dd07e6c1196b2709e648050fe979ee960e1c46d57ed055448d"), looks := false }, kinds := [], alts := [], laidByText := true, laidKinds := [.data], laidTests := true, laidLooks := .later }
def FnVarintsUptoCardSaid : Prop := Claim7.holds Tryd.pinned (.plain (OpenSpec.upto fnVarintsSpec)) fnVarintsUptoCard

/-- THE SECOND FORM's CARD OF 'laws.FnExactSizeQuic'. -/
def fnExactSizeQuicUptoCard : Claim7 := { stood := { row := fnExactSizeQuicUptoRow, standIns := [], harness := (true, "602dd9e04b6a94dd07e6c1196b2709e648050fe979ee960e1c46d57ed055448d"), looks := false }, kinds := [], alts := [], laidByText := true, laidKinds := [.data], laidTests := true, laidLooks := .later }
def FnExactSizeQuicUptoCardSaid : Prop := Claim7.holds Tryd.pinned (.plain (OpenSpec.upto fnExactSizeQuicSpec)) fnExactSizeQuicUptoCard

/-- THE SECOND FORM's CARD OF 'laws.FnExactEncodeQuic'. -/
def fnExactEncodeQuicUptoCard : Claim7 := { stood := { row := fnExactEncodeQuicUptoRow, standIns := [], harness := (true, "602dd9e04b6a94dd07e6c1196b2709e648050fe979ee960e1c46d57ed055448d"), looks := false }, kinds := [], alts := [], laidByText := true, laidKinds := [.data], laidTests := true, laidLooks := .later }
def FnExactEncodeQuicUptoCardSaid : Prop := Claim7.holds Tryd.pinned (.plain (OpenSpec.upto fnExactEncodeQuicSpec)) fnExactEncodeQuicUptoCard

/-- THE SECOND FORM's CARD OF 'laws.FnExactDecodeQuic'. -/
def fnExactDecodeQuicUptoCard : Claim7 := { stood := { row := fnExactDecodeQuicUptoRow, standIns := [], harness := (true, "602dd9e04b6a94dd07e6c1196b2709e648050fe979ee960e1c46d57ed055448d"), looks := false }, kinds := [], alts := [], laidByText := true, laidKinds := [.data], laidTests := true, laidLooks := .later }
def FnExactDecodeQuicUptoCardSaid : Prop := Claim7.holds Tryd.pinned (.plain (OpenSpec.upto fnExactDecodeQuicSpec)) fnExactDecodeQuicUptoCard

/-- THE SECOND FORM's CARD OF 'laws.FnExactIsShortest'. -/
def fnExactIsShortestUptoCard : Claim7 := { stood := { row := fnExactIsShortestUptoRow, standIns := [], harness := (true, "602dd9e04b6a94dd07e6c1196b2709e648050fe979ee960e1c46d57ed055448d"), looks := false }, kinds := [], alts := [], laidByText := true, laidKinds := [.data], laidTests := true, laidLooks := .later }
def FnExactIsShortestUptoCardSaid : Prop := Claim7.holds Tryd.pinned (.plain (OpenSpec.upto fnExactIsShortestSpec)) fnExactIsShortestUptoCard

/-- THE SECOND FORM's CARD OF 'laws.FnExactEncodeQuics'. -/
def fnExactEncodeQuicsUptoCard : Claim7 := { stood := { row := fnExactEncodeQuicsUptoRow, standIns := [], harness := (true, "602dd9e04b6a94dd07e6c1196b2709e648050fe979ee960e1c46d57ed055448d"), looks := false }, kinds := [], alts := [], laidByText := true, laidKinds := [.data], laidTests := true, laidLooks := .later }
def FnExactEncodeQuicsUptoCardSaid : Prop := Claim7.holds Tryd.pinned (.plain (OpenSpec.upto fnExactEncodeQuicsSpec)) fnExactEncodeQuicsUptoCard

/-- THE SECOND FORM's CARD OF 'laws.FnExactDecodeQuics'. -/
def fnExactDecodeQuicsUptoCard : Claim7 := { stood := { row := fnExactDecodeQuicsUptoRow, standIns := [], harness := (true, "602dd9e04b6a94dd07e6c1196b2709e648050fe979ee960e1c46d57ed055448d"), looks := false }, kinds := [], alts := [], laidByText := true, laidKinds := [.data], laidTests := true, laidLooks := .later }
def FnExactDecodeQuicsUptoCardSaid : Prop := Claim7.holds Tryd.pinned (.plain (OpenSpec.upto fnExactDecodeQuicsSpec)) fnExactDecodeQuicsUptoCard
end Rows
end Go.Proofs.YthigojonagocgaaDoor
