/-
  DERIVED. GIVEN WITH THE SEED: THE CARDS: each row of YtanpglfpopbfkabGreatDoorRows.lean that lists a variable, with what it lists TIED to the program's text (the seventh form; the later family's looks); each row that meets fmt, with fmt's text TOLD by the authors' own Lean function (tested against real Go, not proved from fmt's source: count such statements apart). THE CARD IS WHAT COUNTS. Prove the row's statement (the work); the ties are given (YtanpglfpopbfkabGreatDoorTie.lean); close each card by the builder's one call (the guide's Derived/Test/ToyasCard.lean, 'card_holds'). Laid BY PROGRAM, IN A SANDBOX (cutbox-door.mjs). By AI agents, Wed Nov 11 2026. No macro, syntax, notation, axiom, sorry.
-/
import Derived.Test.YtanpglfpopbfkabGreatDoorRows
import GoSem.ClaimSeven
namespace Go.Proofs.YtanpglfpopbfkabGreatDoor
namespace Rows

/-- THE TIED CARD OF 'wainwrightlaw.MetaSays'. -/
def metaSaysCard : Claim7 := { stood := { row := metaSaysRow, standIns := [], harness := (true, "45dfdb4131f664f89bcd20788ed5d7efba6295e017e0da1b0710d788dc4c5576"), looks := true }, kinds := [], alts := [], laidByText := true, laidKinds := [.data, .data, .data, .data, .sentinel, .sentinel, .pinned], laidTests := true, laidLooks := .later }
def MetaSaysCardSaid : Prop := Claim7.holds Tryz.pinned (.plain (OpenSpec.ofChange metaSaysSpec)) metaSaysCard

/-- THE TIED CARD OF 'wainwrightlaw.UnitHolds'. -/
def unitHoldsCard : Claim7 := { stood := { row := unitHoldsRow, standIns := [], harness := (true, "45dfdb4131f664f89bcd20788ed5d7efba6295e017e0da1b0710d788dc4c5576"), looks := true }, kinds := [], alts := [], laidByText := true, laidKinds := [.data, .data, .data], laidTests := true, laidLooks := .later }
def UnitHoldsCardSaid : Prop := Claim7.holds Tryz.pinned (.plain (OpenSpec.ofChange unitHoldsSpec)) unitHoldsCard

/-- THE TIED CARD OF 'wainwrightlaw.UnitReady'. -/
def unitReadyCard : Claim7 := { stood := { row := unitReadyRow, standIns := [], harness := (true, "45dfdb4131f664f89bcd20788ed5d7efba6295e017e0da1b0710d788dc4c5576"), looks := true }, kinds := [], alts := [], laidByText := true, laidKinds := [.data, .data, .data], laidTests := true, laidLooks := .later }
def UnitReadyCardSaid : Prop := Claim7.holds Tryz.pinned (.plain (OpenSpec.ofChange unitReadySpec)) unitReadyCard

/-- THE TIED CARD OF 'wainwrightlaw.UnitTwice'. -/
def unitTwiceCard : Claim7 := { stood := { row := unitTwiceRow, standIns := [], harness := (true, "45dfdb4131f664f89bcd20788ed5d7efba6295e017e0da1b0710d788dc4c5576"), looks := true }, kinds := [], alts := [], laidByText := true, laidKinds := [.data, .data, .data], laidTests := true, laidLooks := .later }
def UnitTwiceCardSaid : Prop := Claim7.holds Tryz.pinned (.plain (OpenSpec.ofChange unitTwiceSpec)) unitTwiceCard

/-- THE TIED CARD OF 'wainwrightlaw.UnitDown'. -/
def unitDownCard : Claim7 := { stood := { row := unitDownRow, standIns := [], harness := (true, "45dfdb4131f664f89bcd20788ed5d7efba6295e017e0da1b0710d788dc4c5576"), looks := true }, kinds := [], alts := [], laidByText := true, laidKinds := [.data, .data, .data], laidTests := true, laidLooks := .later }
def UnitDownCardSaid : Prop := Claim7.holds Tryz.pinned (.plain (OpenSpec.ofChange unitDownSpec)) unitDownCard

/-- THE TIED CARD OF 'wainwrightlaw.UnitPieces'. -/
def unitPiecesCard : Claim7 := { stood := { row := unitPiecesRow, standIns := [], harness := (true, "45dfdb4131f664f89bcd20788ed5d7efba6295e017e0da1b0710d788dc4c5576"), looks := true }, kinds := [], alts := [], laidByText := true, laidKinds := [.data, .data, .data], laidTests := true, laidLooks := .later }
def UnitPiecesCardSaid : Prop := Claim7.holds Tryz.pinned (.plain (OpenSpec.ofChange unitPiecesSpec)) unitPiecesCard

/-- THE SECOND FORM's CARD OF 'wainwrightlaw.MetaSays'. -/
def metaSaysUptoCard : Claim7 := { stood := { row := metaSaysUptoRow, standIns := [], harness := (true, "45dfdb4131f664f89bcd20788ed5d7efba6295e017e0da1b0710d788dc4c5576"), looks := true }, kinds := [], alts := [], laidByText := true, laidKinds := [.data, .data, .data, .data, .sentinel, .sentinel, .pinned], laidTests := true, laidLooks := .later }
def MetaSaysUptoCardSaid : Prop := Claim7.holds Tryz.pinned (.plain (OpenSpec.upto metaSaysSpec)) metaSaysUptoCard

/-- THE SECOND FORM's CARD OF 'wainwrightlaw.UnitHolds'. -/
def unitHoldsUptoCard : Claim7 := { stood := { row := unitHoldsUptoRow, standIns := [], harness := (true, "45dfdb4131f664f89bcd20788ed5d7efba6295e017e0da1b0710d788dc4c5576"), looks := true }, kinds := [], alts := [], laidByText := true, laidKinds := [.data, .data, .data], laidTests := true, laidLooks := .later }
def UnitHoldsUptoCardSaid : Prop := Claim7.holds Tryz.pinned (.plain (OpenSpec.upto unitHoldsSpec)) unitHoldsUptoCard

/-- THE SECOND FORM's CARD OF 'wainwrightlaw.UnitReady'. -/
def unitReadyUptoCard : Claim7 := { stood := { row := unitReadyUptoRow, standIns := [], harness := (true, "45dfdb4131f664f89bcd20788ed5d7efba6295e017e0da1b0710d788dc4c5576"), looks := true }, kinds := [], alts := [], laidByText := true, laidKinds := [.data, .data, .data], laidTests := true, laidLooks := .later }
def UnitReadyUptoCardSaid : Prop := Claim7.holds Tryz.pinned (.plain (OpenSpec.upto unitReadySpec)) unitReadyUptoCard

/-- THE SECOND FORM's CARD OF 'wainwrightlaw.UnitTwice'. -/
def unitTwiceUptoCard : Claim7 := { stood := { row := unitTwiceUptoRow, standIns := [], harness := (true, "45dfdb4131f664f89bcd20788ed5d7efba6295e017e0da1b0710d788dc4c5576"), looks := true }, kinds := [], alts := [], laidByText := true, laidKinds := [.data, .data, .data], laidTests := true, laidLooks := .later }
def UnitTwiceUptoCardSaid : Prop := Claim7.holds Tryz.pinned (.plain (OpenSpec.upto unitTwiceSpec)) unitTwiceUptoCard

/-- THE SECOND FORM's CARD OF 'wainwrightlaw.UnitDown'. -/
def unitDownUptoCard : Claim7 := { stood := { row := unitDownUptoRow, standIns := [], harness := (true, "45dfdb4131f664f89bcd20788ed5d7efba6295e017e0da1b0710d788dc4c5576"), looks := true }, kinds := [], alts := [], laidByText := true, laidKinds := [.data, .data, .data], laidTests := true, laidLooks := .later }
def UnitDownUptoCardSaid : Prop := Claim7.holds Tryz.pinned (.plain (OpenSpec.upto unitDownSpec)) unitDownUptoCard

/-- THE SECOND FORM's CARD OF 'wainwrightlaw.UnitPieces'. -/
def unitPiecesUptoCard : Claim7 := { stood := { row := unitPiecesUptoRow, standIns := [], harness := (true, "45dfdb4131f664f89bcd20788ed5d7efba6295e017e0da1b0710d788dc4c5576"), looks := true }, kinds := [], alts := [], laidByText := true, laidKinds := [.data, .data, .data], laidTests := true, laidLooks := .later }
def UnitPiecesUptoCardSaid : Prop := Claim7.holds Tryz.pinned (.plain (OpenSpec.upto unitPiecesSpec)) unitPiecesUptoCard
end Rows
end Go.Proofs.YtanpglfpopbfkabGreatDoor
