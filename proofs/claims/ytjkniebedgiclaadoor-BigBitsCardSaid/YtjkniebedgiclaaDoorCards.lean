/-
  DERIVED. GIVEN WITH THE SEED: THE CARDS: each row of YtjkniebedgiclaaDoorRows.lean that lists a variable, with what it lists TIED to the program's text (the seventh form; the later family's looks); each row that meets fmt, with fmt's text TOLD by the authors' own Lean function (tested against real Go, not proved from fmt's source: count such statements apart). THE CARD IS WHAT COUNTS. Prove the row's statement (the work); the ties are given (YtjkniebedgiclaaDoorTie.lean); close each card by the builder's one call (the guide's Derived/Test/ToyasCard.lean, 'card_holds'). Laid BY PROGRAM, IN A SANDBOX (cutbox-door.mjs). By AI agents, Wed Nov 11 2026. No macro, syntax, notation, axiom, sorry.
-/
import Derived.Test.YtjkniebedgiclaaDoorRows
import GoSem.ClaimSeven
namespace Go.Proofs.YtjkniebedgiclaaDoor
namespace Rows

/-- THE TIED CARD OF 'exciselaw07.BigPowers'. -/
def bigPowersCard : Claim7 := { stood := { row := bigPowersRow, standIns := [], harness := (true, "aab745ac8868d2c4b9dcad431a50c590a914711436feee5f3d51c56c2c1c90ba"), looks := false }, kinds := [], alts := [], laidByText := true, laidKinds := [.data, .pinned], laidTests := true, laidLooks := .later }
def BigPowersCardSaid : Prop := Claim7.holds Tryd.pinned (.plain (OpenSpec.ofChange bigPowersSpec)) bigPowersCard

/-- THE TIED CARD OF 'exciselaw07.BigBits'. -/
def bigBitsCard : Claim7 := { stood := { row := bigBitsRow, standIns := [], harness := (true, "aab745ac8868d2c4b9dcad431a50c590a914711436feee5f3d51c56c2c1c90ba"), looks := false }, kinds := [], alts := [], laidByText := true, laidKinds := [.data, .pinned], laidTests := true, laidLooks := .later }
def BigBitsCardSaid : Prop := Claim7.holds Tryd.pinned (.plain (OpenSpec.ofChange bigBitsSpec)) bigBitsCard

/-- THE TIED CARD OF 'exciselaw07.BigLong'. -/
def bigLongCard : Claim7 := { stood := { row := bigLongRow, standIns := [], harness := (true, "aab745ac8868d2c4b9dcad431a50c590a914711436feee5f3d51c56c2c1c90ba"), looks := false }, kinds := [], alts := [], laidByText := true, laidKinds := [.data, .pinned], laidTests := true, laidLooks := .later }
def BigLongCardSaid : Prop := Claim7.holds Tryd.pinned (.plain (OpenSpec.ofChange bigLongSpec)) bigLongCard

/-- THE TIED CARD OF 'exciselaw07.BigHolds'. -/
def bigHoldsCard : Claim7 := { stood := { row := bigHoldsRow, standIns := [], harness := (true, "aab745ac8868d2c4b9dcad431a50c590a914711436feee5f3d51c56c2c1c90ba"), looks := false }, kinds := [], alts := [], laidByText := true, laidKinds := [.data, .pinned], laidTests := true, laidLooks := .later }
def BigHoldsCardSaid : Prop := Claim7.holds Tryd.pinned (.plain (OpenSpec.ofChange bigHoldsSpec)) bigHoldsCard

/-- THE SECOND FORM's CARD OF 'exciselaw07.BigPowers'. -/
def bigPowersUptoCard : Claim7 := { stood := { row := bigPowersUptoRow, standIns := [], harness := (true, "aab745ac8868d2c4b9dcad431a50c590a914711436feee5f3d51c56c2c1c90ba"), looks := false }, kinds := [], alts := [], laidByText := true, laidKinds := [.data, .pinned], laidTests := true, laidLooks := .later }
def BigPowersUptoCardSaid : Prop := Claim7.holds Tryd.pinned (.plain (OpenSpec.upto bigPowersSpec)) bigPowersUptoCard

/-- THE SECOND FORM's CARD OF 'exciselaw07.BigBits'. -/
def bigBitsUptoCard : Claim7 := { stood := { row := bigBitsUptoRow, standIns := [], harness := (true, "aab745ac8868d2c4b9dcad431a50c590a914711436feee5f3d51c56c2c1c90ba"), looks := false }, kinds := [], alts := [], laidByText := true, laidKinds := [.data, .pinned], laidTests := true, laidLooks := .later }
def BigBitsUptoCardSaid : Prop := Claim7.holds Tryd.pinned (.plain (OpenSpec.upto bigBitsSpec)) bigBitsUptoCard

/-- THE SECOND FORM's CARD OF 'exciselaw07.BigLong'. -/
def bigLongUptoCard : Claim7 := { stood := { row := bigLongUptoRow, standIns := [], harness := (true, "aab745ac8868d2c4b9dcad431a50c590a914711436feee5f3d51c56c2c1c90ba"), looks := false }, kinds := [], alts := [], laidByText := true, laidKinds := [.data, .pinned], laidTests := true, laidLooks := .later }
def BigLongUptoCardSaid : Prop := Claim7.holds Tryd.pinned (.plain (OpenSpec.upto bigLongSpec)) bigLongUptoCard

/-- THE SECOND FORM's CARD OF 'exciselaw07.BigHolds'. -/
def bigHoldsUptoCard : Claim7 := { stood := { row := bigHoldsUptoRow, standIns := [], harness := (true, "aab745ac8868d2c4b9dcad431a50c590a914711436feee5f3d51c56c2c1c90ba"), looks := false }, kinds := [], alts := [], laidByText := true, laidKinds := [.data, .pinned], laidTests := true, laidLooks := .later }
def BigHoldsUptoCardSaid : Prop := Claim7.holds Tryd.pinned (.plain (OpenSpec.upto bigHoldsSpec)) bigHoldsUptoCard
end Rows
end Go.Proofs.YtjkniebedgiclaaDoor
