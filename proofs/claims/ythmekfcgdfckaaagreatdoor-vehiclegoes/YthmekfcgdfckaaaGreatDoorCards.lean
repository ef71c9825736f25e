/-
  DERIVED. GIVEN WITH THE SEED: THE CARDS: each row of YthmekfcgdfckaaaGreatDoorRows.lean that lists a variable, with what it lists TIED to the program's text (the seventh form; the later family's looks); each row that meets fmt, with fmt's text TOLD by the authors' own Lean function (tested against real Go, not proved from fmt's source: count such statements apart). THE CARD IS WHAT COUNTS. Prove the row's statement (the work); the ties are given (YthmekfcgdfckaaaGreatDoorTie.lean); close each card by the builder's one call (the guide's Derived/Test/ToyasCard.lean, 'card_holds'). Laid BY PROGRAM, IN A SANDBOX (cutbox-door.mjs). By AI agents, Wed Nov 11 2026. No macro, syntax, notation, axiom, sorry.
-/
import Derived.Test.YthmekfcgdfckaaaGreatDoorRows
import GoSem.ClaimSeven
namespace Go.Proofs.YthmekfcgdfckaaaGreatDoor
namespace Rows

/-- THE TIED CARD OF 'wainwrightlaw.VehicleDoes'. -/
def vehicleDoesCard : Claim7 := { stood := { row := vehicleDoesRow, standIns := [], harness := (true, "ba929ad8d75e0357af2b6610eb7b58000afdf0cff84904ca6b59a1ebbffba081"), looks := false }, kinds := [], alts := [], laidByText := true, laidKinds := [.data, .data, .data], laidTests := true, laidLooks := .later }
def VehicleDoesCardSaid : Prop := Claim7.holds Tryz.pinned (.plain (OpenSpec.ofChange vehicleDoesSpec)) vehicleDoesCard

/-- THE TIED CARD OF 'wainwrightlaw.VehicleNet'. -/
def vehicleNetCard : Claim7 := { stood := { row := vehicleNetRow, standIns := [], harness := (true, "ba929ad8d75e0357af2b6610eb7b58000afdf0cff84904ca6b59a1ebbffba081"), looks := false }, kinds := [], alts := [], laidByText := true, laidKinds := [.data, .data, .data], laidTests := true, laidLooks := .later }
def VehicleNetCardSaid : Prop := Claim7.holds Tryz.pinned (.plain (OpenSpec.ofChange vehicleNetSpec)) vehicleNetCard

/-- THE TIED CARD OF 'wainwrightlaw.VehicleRuns'. -/
def vehicleRunsCard : Claim7 := { stood := { row := vehicleRunsRow, standIns := [], harness := (true, "ba929ad8d75e0357af2b6610eb7b58000afdf0cff84904ca6b59a1ebbffba081"), looks := false }, kinds := [], alts := [], laidByText := true, laidKinds := [.data, .data, .data], laidTests := true, laidLooks := .later }
def VehicleRunsCardSaid : Prop := Claim7.holds Tryz.pinned (.plain (OpenSpec.ofChange vehicleRunsSpec)) vehicleRunsCard

/-- THE TIED CARD OF 'wainwrightlaw.VehicleTakes'. -/
def vehicleTakesCard : Claim7 := { stood := { row := vehicleTakesRow, standIns := [], harness := (true, "ba929ad8d75e0357af2b6610eb7b58000afdf0cff84904ca6b59a1ebbffba081"), looks := false }, kinds := [], alts := [], laidByText := true, laidKinds := [.data, .data, .data], laidTests := true, laidLooks := .later }
def VehicleTakesCardSaid : Prop := Claim7.holds Tryz.pinned (.plain (OpenSpec.ofChange vehicleTakesSpec)) vehicleTakesCard

/-- THE TIED CARD OF 'wainwrightlaw.VehicleEnds'. -/
def vehicleEndsCard : Claim7 := { stood := { row := vehicleEndsRow, standIns := [], harness := (true, "ba929ad8d75e0357af2b6610eb7b58000afdf0cff84904ca6b59a1ebbffba081"), looks := false }, kinds := [], alts := [], laidByText := true, laidKinds := [.data, .data, .data], laidTests := true, laidLooks := .later }
def VehicleEndsCardSaid : Prop := Claim7.holds Tryz.pinned (.plain (OpenSpec.ofChange vehicleEndsSpec)) vehicleEndsCard

/-- THE TIED CARD OF 'wainwrightlaw.VehicleGoes'. -/
def vehicleGoesCard : Claim7 := { stood := { row := vehicleGoesRow, standIns := [], harness := (true, "ba929ad8d75e0357af2b6610eb7b58000afdf0cff84904ca6b59a1ebbffba081"), looks := false }, kinds := [], alts := [], laidByText := true, laidKinds := [.data, .data, .data], laidTests := true, laidLooks := .later }
def VehicleGoesCardSaid : Prop := Claim7.holds Tryz.pinned (.plain (OpenSpec.ofChange vehicleGoesSpec)) vehicleGoesCard

/-- THE TIED CARD OF 'wainwrightlaw.VehicleHolds'. -/
def vehicleHoldsCard : Claim7 := { stood := { row := vehicleHoldsRow, standIns := [], harness := (true, "ba929ad8d75e0357af2b6610eb7b58000afdf0cff84904ca6b59a1ebbffba081"), looks := false }, kinds := [], alts := [], laidByText := true, laidKinds := [.data, .data, .data], laidTests := true, laidLooks := .later }
def VehicleHoldsCardSaid : Prop := Claim7.holds Tryz.pinned (.plain (OpenSpec.ofChange vehicleHoldsSpec)) vehicleHoldsCard

/-- THE SECOND FORM's CARD OF 'wainwrightlaw.VehicleDoes'. -/
def vehicleDoesUptoCard : Claim7 := { stood := { row := vehicleDoesUptoRow, standIns := [], harness := (true, "ba929ad8d75e0357af2b6610eb7b58000afdf0cff84904ca6b59a1ebbffba081"), looks := false }, kinds := [], alts := [], laidByText := true, laidKinds := [.data, .data, .data], laidTests := true, laidLooks := .later }
def VehicleDoesUptoCardSaid : Prop := Claim7.holds Tryz.pinned (.plain (OpenSpec.upto vehicleDoesSpec)) vehicleDoesUptoCard

/-- THE SECOND FORM's CARD OF 'wainwrightlaw.VehicleNet'. -/
def vehicleNetUptoCard : Claim7 := { stood := { row := vehicleNetUptoRow, standIns := [], harness := (true, "ba929ad8d75e0357af2b6610eb7b58000afdf0cff84904ca6b59a1ebbffba081"), looks := false }, kinds := [], alts := [], laidByText := true, laidKinds := [.data, .data, .data], laidTests := true, laidLooks := .later }
def VehicleNetUptoCardSaid : Prop := Claim7.holds Tryz.pinned (.plain (OpenSpec.upto vehicleNetSpec)) vehicleNetUptoCard

/-- THE SECOND FORM's CARD OF 'wainwrightlaw.VehicleRuns'. -/
def vehicleRunsUptoCard : Claim7 := { stood := { row := vehicleRunsUptoRow, standIns := [], harness := (true, "ba929ad8d75e0357af2b6610eb7b58000afdf0cff84904ca6b59a1ebbffba081"), looks := false }, kinds := [], alts := [], laidByText := true, laidKinds := [.data, .data, .data], laidTests := true, laidLooks := .later }
def VehicleRunsUptoCardSaid : Prop := Claim7.holds Tryz.pinned (.plain (OpenSpec.upto vehicleRunsSpec)) vehicleRunsUptoCard

/-- THE SECOND FORM's CARD OF 'wainwrightlaw.VehicleTakes'. -/
def vehicleTakesUptoCard : Claim7 := { stood := { row := vehicleTakesUptoRow, standIns := [], harness := (true, "ba929ad8d75e0357af2b6610eb7b58000afdf0cff84904ca6b59a1ebbffba081"), looks := false }, kinds := [], alts := [], laidByText := true, laidKinds := [.data, .data, .data], laidTests := true, laidLooks := .later }
def VehicleTakesUptoCardSaid : Prop := Claim7.holds Tryz.pinned (.plain (OpenSpec.upto vehicleTakesSpec)) vehicleTakesUptoCard

/-- THE SECOND FORM's CARD OF 'wainwrightlaw.VehicleEnds'. -/
def vehicleEndsUptoCard : Claim7 := { stood := { row := vehicleEndsUptoRow, standIns := [], harness := (true, "ba929ad8d75e0357af2b6610eb7b58000afdf0cff84904ca6b59a1ebbffba081"), looks := false }, kinds := [], alts := [], laidByText := true, laidKinds := [.data, .data, .data], laidTests := true, laidLooks := .later }
def VehicleEndsUptoCardSaid : Prop := Claim7.holds Tryz.pinned (.plain (OpenSpec.upto vehicleEndsSpec)) vehicleEndsUptoCard

/-- THE SECOND FORM's CARD OF 'wainwrightlaw.VehicleGoes'. -/
def vehicleGoesUptoCard : Claim7 := { stood := { row := vehicleGoesUptoRow, standIns := [], harness := (true, "ba929ad8d75e0357af2b6610eb7b58000afdf0cff84904ca6b59a1ebbffba081"), looks := false }, kinds := [], alts := [], laidByText := true, laidKinds := [.data, .data, .data], laidTests := true, laidLooks := .later }
def VehicleGoesUptoCardSaid : Prop := Claim7.holds Tryz.pinned (.plain (OpenSpec.upto vehicleGoesSpec)) vehicleGoesUptoCard

/-- THE SECOND FORM's CARD OF 'wainwrightlaw.VehicleHolds'. -/
def vehicleHoldsUptoCard : Claim7 := { stood := { row := vehicleHoldsUptoRow, standIns := [], harness := (true, "ba929ad8d75e0357af2b6610eb7b58000afdf0cff84904ca6b59a1ebbffba081"), looks := false }, kinds := [], alts := [], laidByText := true, laidKinds := [.data, .data, .data], laidTests := true, laidLooks := .later }
def VehicleHoldsUptoCardSaid : Prop := Claim7.holds Tryz.pinned (.plain (OpenSpec.upto vehicleHoldsSpec)) vehicleHoldsUptoCard
end Rows
end Go.Proofs.YthmekfcgdfckaaaGreatDoor
