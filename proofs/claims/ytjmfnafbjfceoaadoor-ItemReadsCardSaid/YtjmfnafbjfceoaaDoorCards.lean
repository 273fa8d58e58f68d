/-
  DERIVED. GIVEN WITH THE SEED: THE CARDS: each row of YtjmfnafbjfceoaaDoorRows.lean that lists a variable, with what it lists TIED to the program's text (the seventh form; the later family's looks); each row that meets fmt, with fmt's text TOLD by the authors' own Lean function (tested against real Go, not proved from fmt's source: count such statements apart). THE CARD IS WHAT COUNTS. Prove the row's statement (the work); the ties are given (YtjmfnafbjfceoaaDoorTie.lean); close each card by the builder's one call (the guide's Derived/Test/ToyasCard.lean, 'card_holds'). Laid BY PROGRAM, IN A SANDBOX (cutbox-door.mjs). By AI agents, Wed Nov 11 2026. No macro, syntax, notation, axiom, sorry.
-/
import Derived.Test.YtjmfnafbjfceoaaDoorRows
import GoSem.ClaimSeven
namespace Go.Proofs.YtjmfnafbjfceoaaDoor
namespace Rows

/-- THE TIED CARD OF 'exciselaw06.ItemLays'. -/
def itemLaysCard : Claim7 := { stood := { row := itemLaysRow, standIns := [], harness := (true, "33e0a2bc2a2a2998d06ca48311e4f9c58309ce2499472d0cc22c0c66088881ab"), looks := true }, kinds := [], alts := [], laidByText := true, laidKinds := [.data, .data, .pinned], laidTests := true, laidLooks := .later }
def ItemLaysCardSaid : Prop := Claim7.holds Tryd.pinned (.plain (OpenSpec.ofChange itemLaysSpec)) itemLaysCard

/-- THE TIED CARD OF 'exciselaw06.ItemReads'. -/
def itemReadsCard : Claim7 := { stood := { row := itemReadsRow, standIns := [], harness := (true, "33e0a2bc2a2a2998d06ca48311e4f9c58309ce2499472d0cc22c0c66088881ab"), looks := true }, kinds := [], alts := [], laidByText := true, laidKinds := [.data, .data, .pinned], laidTests := true, laidLooks := .later }
def ItemReadsCardSaid : Prop := Claim7.holds Tryd.pinned (.plain (OpenSpec.ofChange itemReadsSpec)) itemReadsCard

/-- THE TIED CARD OF 'exciselaw06.ItemNumbers'. -/
def itemNumbersCard : Claim7 := { stood := { row := itemNumbersRow, standIns := [], harness := (true, "33e0a2bc2a2a2998d06ca48311e4f9c58309ce2499472d0cc22c0c66088881ab"), looks := true }, kinds := [], alts := [], laidByText := true, laidKinds := [.data, .data, .pinned], laidTests := true, laidLooks := .later }
def ItemNumbersCardSaid : Prop := Claim7.holds Tryd.pinned (.plain (OpenSpec.ofChange itemNumbersSpec)) itemNumbersCard

/-- THE TIED CARD OF 'exciselaw06.ItemLong'. -/
def itemLongCard : Claim7 := { stood := { row := itemLongRow, standIns := [], harness := (true, "33e0a2bc2a2a2998d06ca48311e4f9c58309ce2499472d0cc22c0c66088881ab"), looks := true }, kinds := [], alts := [], laidByText := true, laidKinds := [.data, .data, .pinned], laidTests := true, laidLooks := .later }
def ItemLongCardSaid : Prop := Claim7.holds Tryd.pinned (.plain (OpenSpec.ofChange itemLongSpec)) itemLongCard

/-- THE TIED CARD OF 'exciselaw06.ItemHolds'. -/
def itemHoldsCard : Claim7 := { stood := { row := itemHoldsRow, standIns := [], harness := (true, "33e0a2bc2a2a2998d06ca48311e4f9c58309ce2499472d0cc22c0c66088881ab"), looks := true }, kinds := [], alts := [], laidByText := true, laidKinds := [.data, .data, .pinned], laidTests := true, laidLooks := .later }
def ItemHoldsCardSaid : Prop := Claim7.holds Tryd.pinned (.plain (OpenSpec.ofChange itemHoldsSpec)) itemHoldsCard

/-- THE SECOND FORM's CARD OF 'exciselaw06.ItemLays'. -/
def itemLaysUptoCard : Claim7 := { stood := { row := itemLaysUptoRow, standIns := [], harness := (true, "33e0a2bc2a2a2998d06ca48311e4f9c58309ce2499472d0cc22c0c66088881ab"), looks := true }, kinds := [], alts := [], laidByText := true, laidKinds := [.data, .data, .pinned], laidTests := true, laidLooks := .later }
def ItemLaysUptoCardSaid : Prop := Claim7.holds Tryd.pinned (.plain (OpenSpec.upto itemLaysSpec)) itemLaysUptoCard

/-- THE SECOND FORM's CARD OF 'exciselaw06.ItemReads'. -/
def itemReadsUptoCard : Claim7 := { stood := { row := itemReadsUptoRow, standIns := [], harness := (true, "33e0a2bc2a2a2998d06ca48311e4f9c58309ce2499472d0cc22c0c66088881ab"), looks := true }, kinds := [], alts := [], laidByText := true, laidKinds := [.data, .data, .pinned], laidTests := true, laidLooks := .later }
def ItemReadsUptoCardSaid : Prop := Claim7.holds Tryd.pinned (.plain (OpenSpec.upto itemReadsSpec)) itemReadsUptoCard

/-- THE SECOND FORM's CARD OF 'exciselaw06.ItemNumbers'. -/
def itemNumbersUptoCard : Claim7 := { stood := { row := itemNumbersUptoRow, standIns := [], harness := (true, "33e0a2bc2a2a2998d06ca48311e4f9c58309ce2499472d0cc22c0c66088881ab"), looks := true }, kinds := [], alts := [], laidByText := true, laidKinds := [.data, .data, .pinned], laidTests := true, laidLooks := .later }
def ItemNumbersUptoCardSaid : Prop := Claim7.holds Tryd.pinned (.plain (OpenSpec.upto itemNumbersSpec)) itemNumbersUptoCard

/-- THE SECOND FORM's CARD OF 'exciselaw06.ItemLong'. -/
def itemLongUptoCard : Claim7 := { stood := { row := itemLongUptoRow, standIns := [], harness := (true, "33e0a2bc2a2a2998d06ca48311e4f9c58309ce2499472d0cc22c0c66088881ab"), looks := true }, kinds := [], alts := [], laidByText := true, laidKinds := [.data, .data, .pinned], laidTests := true, laidLooks := .later }
def ItemLongUptoCardSaid : Prop := Claim7.holds Tryd.pinned (.plain (OpenSpec.upto itemLongSpec)) itemLongUptoCard

/-- THE SECOND FORM's CARD OF 'exciselaw06.ItemHolds'. -/
def itemHoldsUptoCard : Claim7 := { stood := { row := itemHoldsUptoRow, standIns := [], harness := (true, "33e0a2bc2a2a2998d06ca48311e4f9c58309ce2499472d0cc22c0c66088881ab"), looks := true }, kinds := [], alts := [], laidByText := true, laidKinds := [.data, .data, .pinned], laidTests := true, laidLooks := .later }
def ItemHoldsUptoCardSaid : Prop := Claim7.holds Tryd.pinned (.plain (OpenSpec.upto itemHoldsSpec)) itemHoldsUptoCard
end Rows
end Go.Proofs.YtjmfnafbjfceoaaDoor
