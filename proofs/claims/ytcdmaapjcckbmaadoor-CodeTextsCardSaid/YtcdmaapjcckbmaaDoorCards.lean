/-
  DERIVED. GIVEN WITH THE SEED: THE CARDS: each row of YtcdmaapjcckbmaaDoorRows.lean that lists a variable, with what it lists TIED to the program's text (the seventh form; the later family's looks); each row that meets fmt, with fmt's text TOLD by the authors' own Lean function (tested against real Go, not proved from fmt's source: count such statements apart). THE CARD IS WHAT COUNTS. Prove the row's statement (the work); the ties are given (YtcdmaapjcckbmaaDoorTie.lean); close each card by the builder's one call (the guide's Derived/Test/ToyasCard.lean, 'card_holds'). Laid BY PROGRAM, IN A SANDBOX (cutbox-door.mjs). By AI agents, Wed Nov 11 2026. No macro, syntax, notation, axiom, sorry.
-/
import Derived.Test.YtcdmaapjcckbmaaDoorRows
import GoSem.ClaimSeven
namespace Go.Proofs.YtcdmaapjcckbmaaDoor
namespace Rows

/-- THE TIED CARD OF 'exciselaw10.CodeInfos'. -/
def codeInfosCard : Claim7 := { stood := { row := codeInfosRow, standIns := [], harness := (true, "90189a36985a8da59d4c034582f70e68c39c27b3b79fa8420994cd6208a121bb"), looks := true }, kinds := [], alts := [], laidByText := true, laidKinds := [.data, .data, .data, .data, .pinned], laidTests := true, laidLooks := .later }
def CodeInfosCardSaid : Prop := Claim7.holds Tryd.pinned (.plain (OpenSpec.ofChange codeInfosSpec)) codeInfosCard

/-- THE TIED CARD OF 'exciselaw10.CodeOps'. -/
def codeOpsCard : Claim7 := { stood := { row := codeOpsRow, standIns := [], harness := (true, "90189a36985a8da59d4c034582f70e68c39c27b3b79fa8420994cd6208a121bb"), looks := true }, kinds := [], alts := [], laidByText := true, laidKinds := [.data, .data, .data, .data, .pinned], laidTests := true, laidLooks := .later }
def CodeOpsCardSaid : Prop := Claim7.holds Tryd.pinned (.plain (OpenSpec.ofChange codeOpsSpec)) codeOpsCard

/-- THE TIED CARD OF 'exciselaw10.CodeMarks'. -/
def codeMarksCard : Claim7 := { stood := { row := codeMarksRow, standIns := [], harness := (true, "90189a36985a8da59d4c034582f70e68c39c27b3b79fa8420994cd6208a121bb"), looks := true }, kinds := [], alts := [], laidByText := true, laidKinds := [.data, .data, .data, .data, .pinned], laidTests := true, laidLooks := .later }
def CodeMarksCardSaid : Prop := Claim7.holds Tryd.pinned (.plain (OpenSpec.ofChange codeMarksSpec)) codeMarksCard

/-- THE TIED CARD OF 'exciselaw10.CodeTexts'. -/
def codeTextsCard : Claim7 := { stood := { row := codeTextsRow, standIns := [], harness := (true, "90189a36985a8da59d4c034582f70e68c39c27b3b79fa8420994cd6208a121bb"), looks := true }, kinds := [], alts := [], laidByText := true, laidKinds := [.data, .data, .data, .data, .pinned], laidTests := true, laidLooks := .later }
def CodeTextsCardSaid : Prop := Claim7.holds Tryd.pinned (.plain (OpenSpec.ofChange codeTextsSpec)) codeTextsCard

/-- THE TIED CARD OF 'exciselaw10.CodeReads'. -/
def codeReadsCard : Claim7 := { stood := { row := codeReadsRow, standIns := [], harness := (true, "90189a36985a8da59d4c034582f70e68c39c27b3b79fa8420994cd6208a121bb"), looks := true }, kinds := [], alts := [], laidByText := true, laidKinds := [.data, .data, .data, .data, .pinned], laidTests := true, laidLooks := .later }
def CodeReadsCardSaid : Prop := Claim7.holds Tryd.pinned (.plain (OpenSpec.ofChange codeReadsSpec)) codeReadsCard

/-- THE TIED CARD OF 'exciselaw10.CodeHolds'. -/
def codeHoldsCard : Claim7 := { stood := { row := codeHoldsRow, standIns := [], harness := (true, "90189a36985a8da59d4c034582f70e68c39c27b3b79fa8420994cd6208a121bb"), looks := true }, kinds := [], alts := [], laidByText := true, laidKinds := [.data, .data, .data, .data, .pinned], laidTests := true, laidLooks := .later }
def CodeHoldsCardSaid : Prop := Claim7.holds Tryd.pinned (.plain (OpenSpec.ofChange codeHoldsSpec)) codeHoldsCard

/-- THE SECOND FORM's CARD OF 'exciselaw10.CodeInfos'. -/
def codeInfosUptoCard : Claim7 := { stood := { row := codeInfosUptoRow, standIns := [], harness := (true, "90189a36985a8da59d4c034582f70e68c39c27b3b79fa8420994cd6208a121bb"), looks := true }, kinds := [], alts := [], laidByText := true, laidKinds := [.data, .data, .data, .data, .pinned], laidTests := true, laidLooks := .later }
def CodeInfosUptoCardSaid : Prop := Claim7.holds Tryd.pinned (.plain (OpenSpec.upto codeInfosSpec)) codeInfosUptoCard

/-- THE SECOND FORM's CARD OF 'exciselaw10.CodeOps'. -/
def codeOpsUptoCard : Claim7 := { stood := { row := codeOpsUptoRow, standIns := [], harness := (true, "90189a36985a8da59d4c034582f70e68c39c27b3b79fa8420994cd6208a121bb"), looks := true }, kinds := [], alts := [], laidByText := true, laidKinds := [.data, .data, .data, .data, .pinned], laidTests := true, laidLooks := .later }
def CodeOpsUptoCardSaid : Prop := Claim7.holds Tryd.pinned (.plain (OpenSpec.upto codeOpsSpec)) codeOpsUptoCard

/-- THE SECOND FORM's CARD OF 'exciselaw10.CodeMarks'. -/
def codeMarksUptoCard : Claim7 := { stood := { row := codeMarksUptoRow, standIns := [], harness := (true, "90189a36985a8da59d4c034582f70e68c39c27b3b79fa8420994cd6208a121bb"), looks := true }, kinds := [], alts := [], laidByText := true, laidKinds := [.data, .data, .data, .data, .pinned], laidTests := true, laidLooks := .later }
def CodeMarksUptoCardSaid : Prop := Claim7.holds Tryd.pinned (.plain (OpenSpec.upto codeMarksSpec)) codeMarksUptoCard

/-- THE SECOND FORM's CARD OF 'exciselaw10.CodeTexts'. -/
def codeTextsUptoCard : Claim7 := { stood := { row := codeTextsUptoRow, standIns := [], harness := (true, "90189a36985a8da59d4c034582f70e68c39c27b3b79fa8420994cd6208a121bb"), looks := true }, kinds := [], alts := [], laidByText := true, laidKinds := [.data, .data, .data, .data, .pinned], laidTests := true, laidLooks := .later }
def CodeTextsUptoCardSaid : Prop := Claim7.holds Tryd.pinned (.plain (OpenSpec.upto codeTextsSpec)) codeTextsUptoCard

/-- THE SECOND FORM's CARD OF 'exciselaw10.CodeReads'. -/
def codeReadsUptoCard : Claim7 := { stood := { row := codeReadsUptoRow, standIns := [], harness := (true, "90189a36985a8da59d4c034582f70e68c39c27b3b79fa8420994cd6208a121bb"), looks := true }, kinds := [], alts := [], laidByText := true, laidKinds := [.data, .data, .data, .data, .pinned], laidTests := true, laidLooks := .later }
def CodeReadsUptoCardSaid : Prop := Claim7.holds Tryd.pinned (.plain (OpenSpec.upto codeReadsSpec)) codeReadsUptoCard

/-- THE SECOND FORM's CARD OF 'exciselaw10.CodeHolds'. -/
def codeHoldsUptoCard : Claim7 := { stood := { row := codeHoldsUptoRow, standIns := [], harness := (true, "90189a36985a8da59d4c034582f70e68c39c27b3b79fa8420994cd6208a121bb"), looks := true }, kinds := [], alts := [], laidByText := true, laidKinds := [.data, .data, .data, .data, .pinned], laidTests := true, laidLooks := .later }
def CodeHoldsUptoCardSaid : Prop := Claim7.holds Tryd.pinned (.plain (OpenSpec.upto codeHoldsSpec)) codeHoldsUptoCard
end Rows
end Go.Proofs.YtcdmaapjcckbmaaDoor
