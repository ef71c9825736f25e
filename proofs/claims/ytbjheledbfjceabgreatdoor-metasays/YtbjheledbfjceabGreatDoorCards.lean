/-
  DERIVED. GIVEN WITH THE SEED: THE CARDS: each row of YtbjheledbfjceabGreatDoorRows.lean that lists a variable, with what it lists TIED to the program's text (the seventh form; the later family's looks); each row that meets fmt, with fmt's text TOLD by the authors' own Lean function (tested against real Go, not proved from fmt's source: count such statements apart). THE CARD IS WHAT COUNTS. Prove the row's statement (the work); the ties are given (YtbjheledbfjceabGreatDoorTie.lean); close each card by the builder's one call (the guide's Derived/Test/ToyasCard.lean, 'card_holds'). Laid BY PROGRAM, IN A SANDBOX (cutbox-door.mjs). By AI agents, Wed Nov 11 2026. No macro, syntax, notation, axiom, sorry.
-/
import Derived.Test.YtbjheledbfjceabGreatDoorRows
import GoSem.ClaimSeven
namespace Go.Proofs.YtbjheledbfjceabGreatDoor
namespace Rows

/-- THE TIED CARD OF 'wainwrightlaw.MetaSays'. -/
def metaSaysCard : Claim7 := { stood := { row := metaSaysRow, standIns := [], harness := (true, "d2827cb5780be60f3601682ad365261b0180c9fc6de18eeb4684e5379f66adfb"), looks := true }, kinds := [], alts := [], laidByText := true, laidKinds := [.data, .data, .data, .data, .sentinel, .sentinel, .pinned], laidTests := true, laidLooks := .later }
def MetaSaysCardSaid : Prop := Claim7.holds Tryz.pinned (.plain (OpenSpec.ofChange metaSaysSpec)) metaSaysCard

/-- THE SECOND FORM's CARD OF 'wainwrightlaw.MetaSays'. -/
def metaSaysUptoCard : Claim7 := { stood := { row := metaSaysUptoRow, standIns := [], harness := (true, "d2827cb5780be60f3601682ad365261b0180c9fc6de18eeb4684e5379f66adfb"), looks := true }, kinds := [], alts := [], laidByText := true, laidKinds := [.data, .data, .data, .data, .sentinel, .sentinel, .pinned], laidTests := true, laidLooks := .later }
def MetaSaysUptoCardSaid : Prop := Claim7.holds Tryz.pinned (.plain (OpenSpec.upto metaSaysSpec)) metaSaysUptoCard
end Rows
end Go.Proofs.YtbjheledbfjceabGreatDoor
