/-
  DERIVED. GIVEN WITH THE SEED: THE CARDS: each row of YtidpekcegocjfaaDoorRows.lean that lists a variable, with what it lists TIED to the program's text (the seventh form; the later family's looks); each row that meets fmt, with fmt's text TOLD by the authors' own Lean function (tested against real Go, not proved from fmt's source: count such statements apart). THE CARD IS WHAT COUNTS. Prove the row's statement (the work); the ties are given (YtidpekcegocjfaaDoorTie.lean); close each card by the builder's one call (the guide's Derived/Test/ToyasCard.lean, 'card_holds'). Laid BY PROGRAM, IN A SANDBOX (cutbox-door.mjs). By AI agents, Wed Nov 11 2026. No macro, syntax, notation, axiom, sorry.
-/
import Derived.Test.YtidpekcegocjfaaDoorRows
import GoSem.ClaimSeven
namespace Go.Proofs.YtidpekcegocjfaaDoor
namespace Rows

/-- THE TIED CARD OF 'exciselaw04.PowerExps'. -/
def powerExpsCard : Claim7 := { stood := { row := powerExpsRow, standIns := [], harness := (true, "accfb402b71b254a77719ecc51e9724c29e7a71ff29fb80835c47d6338f2d0f3"), looks := false }, kinds := [], alts := [], laidByText := true, laidKinds := [.data], laidTests := true, laidLooks := .later }
def PowerExpsCardSaid : Prop := Claim7.holds Tryd.pinned (.plain (OpenSpec.ofChange powerExpsSpec)) powerExpsCard

/-- THE TIED CARD OF 'exciselaw04.PowerGoes'. -/
def powerGoesCard : Claim7 := { stood := { row := powerGoesRow, standIns := [], harness := (true, "accfb402b71b254a77719ecc51e9724c29e7a71ff29fb80835c47d6338f2d0f3"), looks := false }, kinds := [], alts := [], laidByText := true, laidKinds := [.data], laidTests := true, laidLooks := .later }
def PowerGoesCardSaid : Prop := Claim7.holds Tryd.pinned (.plain (OpenSpec.ofChange powerGoesSpec)) powerGoesCard

/-- THE TIED CARD OF 'exciselaw04.PowerHolds'. -/
def powerHoldsCard : Claim7 := { stood := { row := powerHoldsRow, standIns := [], harness := (true, "accfb402b71b254a77719ecc51e9724c29e7a71ff29fb80835c47d6338f2d0f3"), looks := false }, kinds := [], alts := [], laidByText := true, laidKinds := [.data], laidTests := true, laidLooks := .later }
def PowerHoldsCardSaid : Prop := Claim7.holds Tryd.pinned (.plain (OpenSpec.ofChange powerHoldsSpec)) powerHoldsCard

/-- THE SECOND FORM's CARD OF 'exciselaw04.PowerExps'. -/
def powerExpsUptoCard : Claim7 := { stood := { row := powerExpsUptoRow, standIns := [], harness := (true, "accfb402b71b254a77719ecc51e9724c29e7a71ff29fb80835c47d6338f2d0f3"), looks := false }, kinds := [], alts := [], laidByText := true, laidKinds := [.data], laidTests := true, laidLooks := .later }
def PowerExpsUptoCardSaid : Prop := Claim7.holds Tryd.pinned (.plain (OpenSpec.upto powerExpsSpec)) powerExpsUptoCard

/-- THE SECOND FORM's CARD OF 'exciselaw04.PowerGoes'. -/
def powerGoesUptoCard : Claim7 := { stood := { row := powerGoesUptoRow, standIns := [], harness := (true, "accfb402b71b254a77719ecc51e9724c29e7a71ff29fb80835c47d6338f2d0f3"), looks := false }, kinds := [], alts := [], laidByText := true, laidKinds := [.data], laidTests := true, laidLooks := .later }
def PowerGoesUptoCardSaid : Prop := Claim7.holds Tryd.pinned (.plain (OpenSpec.upto powerGoesSpec)) powerGoesUptoCard

/-- THE SECOND FORM's CARD OF 'exciselaw04.PowerHolds'. -/
def powerHoldsUptoCard : Claim7 := { stood := { row := powerHoldsUptoRow, standIns := [], harness := (true, "accfb402b71b254a77719ecc51e9724c29e7a71ff29fb80835c47d6338f2d0f3"), looks := false }, kinds := [], alts := [], laidByText := true, laidKinds := [.data], laidTests := true, laidLooks := .later }
def PowerHoldsUptoCardSaid : Prop := Claim7.holds Tryd.pinned (.plain (OpenSpec.upto powerHoldsSpec)) powerHoldsUptoCard
end Rows
end Go.Proofs.YtidpekcegocjfaaDoor
