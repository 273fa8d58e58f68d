/-
  DERIVED. GIVEN WITH THE SEED: THE CARDS: each row of YthjbiojbmjgkbaaDoorRows.lean that lists a variable, with what it lists TIED to the program's text (the seventh form; the later family's looks); each row that meets fmt, with fmt's text TOLD by the authors' own Lean function (tested against real Go, not proved from fmt's source: count such statements apart). THE CARD IS WHAT COUNTS. Prove the row's statement (the work); the ties are given (YthjbiojbmjgkbaaDoorTie.lean); close each card by the builder's one call (the guide's Derived/Test/ToyasCard.lean, 'card_holds'). Laid BY PROGRAM, IN A SANDBOX (cutbox-door.mjs). By AI agents, Wed Nov 11 2026. No macro, syntax, notation, axiom, sorry.
-/
import Derived.Test.YthjbiojbmjgkbaaDoorRows
import GoSem.ClaimSeven
namespace Go.Proofs.YthjbiojbmjgkbaaDoor
namespace Rows

/-- THE TIED CARD OF 'exciselaw03.BitsFolds'. -/
def bitsFoldsCard : Claim7 := { stood := { row := bitsFoldsRow, standIns := [], harness := (true, "5dd3b129f8095a7d3430d45965fbbac0874922dfef5e236999e20872367be060"), looks := false }, kinds := [], alts := [], laidByText := true, laidKinds := [.data], laidTests := true, laidLooks := .later }
def BitsFoldsCardSaid : Prop := Claim7.holds Tryd.pinned (.plain (OpenSpec.ofChange bitsFoldsSpec)) bitsFoldsCard

/-- THE TIED CARD OF 'exciselaw03.BitsShifts'. -/
def bitsShiftsCard : Claim7 := { stood := { row := bitsShiftsRow, standIns := [], harness := (true, "5dd3b129f8095a7d3430d45965fbbac0874922dfef5e236999e20872367be060"), looks := false }, kinds := [], alts := [], laidByText := true, laidKinds := [.data], laidTests := true, laidLooks := .later }
def BitsShiftsCardSaid : Prop := Claim7.holds Tryd.pinned (.plain (OpenSpec.ofChange bitsShiftsSpec)) bitsShiftsCard

/-- THE TIED CARD OF 'exciselaw03.BitsBytes'. -/
def bitsBytesCard : Claim7 := { stood := { row := bitsBytesRow, standIns := [], harness := (true, "5dd3b129f8095a7d3430d45965fbbac0874922dfef5e236999e20872367be060"), looks := false }, kinds := [], alts := [], laidByText := true, laidKinds := [.data], laidTests := true, laidLooks := .later }
def BitsBytesCardSaid : Prop := Claim7.holds Tryd.pinned (.plain (OpenSpec.ofChange bitsBytesSpec)) bitsBytesCard

/-- THE TIED CARD OF 'exciselaw03.BitsEach'. -/
def bitsEachCard : Claim7 := { stood := { row := bitsEachRow, standIns := [], harness := (true, "5dd3b129f8095a7d3430d45965fbbac0874922dfef5e236999e20872367be060"), looks := false }, kinds := [], alts := [], laidByText := true, laidKinds := [.data], laidTests := true, laidLooks := .later }
def BitsEachCardSaid : Prop := Claim7.holds Tryd.pinned (.plain (OpenSpec.ofChange bitsEachSpec)) bitsEachCard

/-- THE TIED CARD OF 'exciselaw03.BitsHolds'. -/
def bitsHoldsCard : Claim7 := { stood := { row := bitsHoldsRow, standIns := [], harness := (true, "5dd3b129f8095a7d3430d45965fbbac0874922dfef5e236999e20872367be060"), looks := false }, kinds := [], alts := [], laidByText := true, laidKinds := [.data], laidTests := true, laidLooks := .later }
def BitsHoldsCardSaid : Prop := Claim7.holds Tryd.pinned (.plain (OpenSpec.ofChange bitsHoldsSpec)) bitsHoldsCard

/-- THE TIED CARD OF 'exciselaw04.PowerExps'. -/
def powerExpsCard : Claim7 := { stood := { row := powerExpsRow, standIns := [], harness := (true, "5dd3b129f8095a7d3430d45965fbbac0874922dfef5e236999e20872367be060"), looks := false }, kinds := [], alts := [], laidByText := true, laidKinds := [.data], laidTests := true, laidLooks := .later }
def PowerExpsCardSaid : Prop := Claim7.holds Tryd.pinned (.plain (OpenSpec.ofChange powerExpsSpec)) powerExpsCard

/-- THE TIED CARD OF 'exciselaw04.PowerGoes'. -/
def powerGoesCard : Claim7 := { stood := { row := powerGoesRow, standIns := [], harness := (true, "5dd3b129f8095a7d3430d45965fbbac0874922dfef5e236999e20872367be060"), looks := false }, kinds := [], alts := [], laidByText := true, laidKinds := [.data], laidTests := true, laidLooks := .later }
def PowerGoesCardSaid : Prop := Claim7.holds Tryd.pinned (.plain (OpenSpec.ofChange powerGoesSpec)) powerGoesCard

/-- THE TIED CARD OF 'exciselaw04.PowerHolds'. -/
def powerHoldsCard : Claim7 := { stood := { row := powerHoldsRow, standIns := [], harness := (true, "5dd3b129f8095a7d3430d45965fbbac0874922dfef5e236999e20872367be060"), looks := false }, kinds := [], alts := [], laidByText := true, laidKinds := [.data], laidTests := true, laidLooks := .later }
def PowerHoldsCardSaid : Prop := Claim7.holds Tryd.pinned (.plain (OpenSpec.ofChange powerHoldsSpec)) powerHoldsCard

/-- THE SECOND FORM's CARD OF 'exciselaw03.BitsFolds'. -/
def bitsFoldsUptoCard : Claim7 := { stood := { row := bitsFoldsUptoRow, standIns := [], harness := (true, "5dd3b129f8095a7d3430d45965fbbac0874922dfef5e236999e20872367be060"), looks := false }, kinds := [], alts := [], laidByText := true, laidKinds := [.data], laidTests := true, laidLooks := .later }
def BitsFoldsUptoCardSaid : Prop := Claim7.holds Tryd.pinned (.plain (OpenSpec.upto bitsFoldsSpec)) bitsFoldsUptoCard

/-- THE SECOND FORM's CARD OF 'exciselaw03.BitsShifts'. -/
def bitsShiftsUptoCard : Claim7 := { stood := { row := bitsShiftsUptoRow, standIns := [], harness := (true, "5dd3b129f8095a7d3430d45965fbbac0874922dfef5e236999e20872367be060"), looks := false }, kinds := [], alts := [], laidByText := true, laidKinds := [.data], laidTests := true, laidLooks := .later }
def BitsShiftsUptoCardSaid : Prop := Claim7.holds Tryd.pinned (.plain (OpenSpec.upto bitsShiftsSpec)) bitsShiftsUptoCard

/-- THE SECOND FORM's CARD OF 'exciselaw03.BitsBytes'. -/
def bitsBytesUptoCard : Claim7 := { stood := { row := bitsBytesUptoRow, standIns := [], harness := (true, "5dd3b129f8095a7d3430d45965fbbac0874922dfef5e236999e20872367be060"), looks := false }, kinds := [], alts := [], laidByText := true, laidKinds := [.data], laidTests := true, laidLooks := .later }
def BitsBytesUptoCardSaid : Prop := Claim7.holds Tryd.pinned (.plain (OpenSpec.upto bitsBytesSpec)) bitsBytesUptoCard

/-- THE SECOND FORM's CARD OF 'exciselaw03.BitsEach'. -/
def bitsEachUptoCard : Claim7 := { stood := { row := bitsEachUptoRow, standIns := [], harness := (true, "5dd3b129f8095a7d3430d45965fbbac0874922dfef5e236999e20872367be060"), looks := false }, kinds := [], alts := [], laidByText := true, laidKinds := [.data], laidTests := true, laidLooks := .later }
def BitsEachUptoCardSaid : Prop := Claim7.holds Tryd.pinned (.plain (OpenSpec.upto bitsEachSpec)) bitsEachUptoCard

/-- THE SECOND FORM's CARD OF 'exciselaw03.BitsHolds'. -/
def bitsHoldsUptoCard : Claim7 := { stood := { row := bitsHoldsUptoRow, standIns := [], harness := (true, "5dd3b129f8095a7d3430d45965fbbac0874922dfef5e236999e20872367be060"), looks := false }, kinds := [], alts := [], laidByText := true, laidKinds := [.data], laidTests := true, laidLooks := .later }
def BitsHoldsUptoCardSaid : Prop := Claim7.holds Tryd.pinned (.plain (OpenSpec.upto bitsHoldsSpec)) bitsHoldsUptoCard

/-- THE SECOND FORM's CARD OF 'exciselaw04.PowerExps'. -/
def powerExpsUptoCard : Claim7 := { stood := { row := powerExpsUptoRow, standIns := [], harness := (true, "5dd3b129f8095a7d3430d45965fbbac0874922dfef5e236999e20872367be060"), looks := false }, kinds := [], alts := [], laidByText := true, laidKinds := [.data], laidTests := true, laidLooks := .later }
def PowerExpsUptoCardSaid : Prop := Claim7.holds Tryd.pinned (.plain (OpenSpec.upto powerExpsSpec)) powerExpsUptoCard

/-- THE SECOND FORM's CARD OF 'exciselaw04.PowerGoes'. -/
def powerGoesUptoCard : Claim7 := { stood := { row := powerGoesUptoRow, standIns := [], harness := (true, "5dd3b129f8095a7d3430d45965fbbac0874922dfef5e236999e20872367be060"), looks := false }, kinds := [], alts := [], laidByText := true, laidKinds := [.data], laidTests := true, laidLooks := .later }
def PowerGoesUptoCardSaid : Prop := Claim7.holds Tryd.pinned (.plain (OpenSpec.upto powerGoesSpec)) powerGoesUptoCard

/-- THE SECOND FORM's CARD OF 'exciselaw04.PowerHolds'. -/
def powerHoldsUptoCard : Claim7 := { stood := { row := powerHoldsUptoRow, standIns := [], harness := (true, "5dd3b129f8095a7d3430d45965fbbac0874922dfef5e236999e20872367be060"), looks := false }, kinds := [], alts := [], laidByText := true, laidKinds := [.data], laidTests := true, laidLooks := .later }
def PowerHoldsUptoCardSaid : Prop := Claim7.holds Tryd.pinned (.plain (OpenSpec.upto powerHoldsSpec)) powerHoldsUptoCard
end Rows
end Go.Proofs.YthjbiojbmjgkbaaDoor
