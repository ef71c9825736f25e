/-
  DERIVED. GIVEN WITH THE SEED: THE CARDS: each row of YtgngpmgjoifepaaGreatDoorRows.lean that lists a variable, with what it lists TIED to the program's text (the seventh form; the later family's looks); each row that meets fmt, with fmt's text TOLD by the authors' own Lean function (tested against real Go, not proved from fmt's source: count such statements apart). THE CARD IS WHAT COUNTS. Prove the row's statement (the work); the ties are given (YtgngpmgjoifepaaGreatDoorTie.lean); close each card by the builder's one call (the guide's Derived/Test/ToyasCard.lean, 'card_holds'). Laid BY PROGRAM, IN A SANDBOX (cutbox-door.mjs). By AI agents, Wed Nov 11 2026. No macro, syntax, notation, axiom, sorry.
-/
import Derived.Test.YtgngpmgjoifepaaGreatDoorRows
import GoSem.ClaimSeven
namespace Go.Proofs.YtgngpmgjoifepaaGreatDoor
namespace Rows

/-- THE TIED CARD OF 'wainwrightlaw.UnitSays'. -/
def unitSaysCard : Claim7 := { stood := { row := unitSaysRow, standIns := [], harness := (true, "80a9e1cac92587b4c1bddec1794169e6814fbde2813f151fbcd240891406e6e9"), looks := false }, kinds := [], alts := [], laidByText := true, laidKinds := [.data, .data, .data], laidTests := true, laidLooks := .later }
def UnitSaysCardSaid : Prop := Claim7.holds Tryz.pinned (.plain (OpenSpec.ofChange unitSaysSpec)) unitSaysCard

/-- THE TIED CARD OF 'wainwrightlaw.GateSays'. -/
def gateSaysCard : Claim7 := { stood := { row := gateSaysRow, standIns := [], harness := (true, "80a9e1cac92587b4c1bddec1794169e6814fbde2813f151fbcd240891406e6e9"), looks := false }, kinds := [], alts := [], laidByText := true, laidKinds := [.data, .data, .data], laidTests := true, laidLooks := .later }
def GateSaysCardSaid : Prop := Claim7.holds Tryz.pinned (.plain (OpenSpec.ofChange gateSaysSpec)) gateSaysCard

/-- THE TIED CARD OF 'wainwrightlaw.GateHears'. -/
def gateHearsCard : Claim7 := { stood := { row := gateHearsRow, standIns := [], harness := (true, "80a9e1cac92587b4c1bddec1794169e6814fbde2813f151fbcd240891406e6e9"), looks := false }, kinds := [], alts := [], laidByText := true, laidKinds := [.data, .data, .data], laidTests := true, laidLooks := .later }
def GateHearsCardSaid : Prop := Claim7.holds Tryz.pinned (.plain (OpenSpec.ofChange gateHearsSpec)) gateHearsCard

/-- THE TIED CARD OF 'wainwrightlaw.GateOnce'. -/
def gateOnceCard : Claim7 := { stood := { row := gateOnceRow, standIns := [], harness := (true, "80a9e1cac92587b4c1bddec1794169e6814fbde2813f151fbcd240891406e6e9"), looks := false }, kinds := [], alts := [], laidByText := true, laidKinds := [.data, .data, .data], laidTests := true, laidLooks := .later }
def GateOnceCardSaid : Prop := Claim7.holds Tryz.pinned (.plain (OpenSpec.ofChange gateOnceSpec)) gateOnceCard

/-- THE TIED CARD OF 'wainwrightlaw.GatePieces'. -/
def gatePiecesCard : Claim7 := { stood := { row := gatePiecesRow, standIns := [], harness := (true, "80a9e1cac92587b4c1bddec1794169e6814fbde2813f151fbcd240891406e6e9"), looks := false }, kinds := [], alts := [], laidByText := true, laidKinds := [.data, .data, .data], laidTests := true, laidLooks := .later }
def GatePiecesCardSaid : Prop := Claim7.holds Tryz.pinned (.plain (OpenSpec.ofChange gatePiecesSpec)) gatePiecesCard

/-- THE TIED CARD OF 'wainwrightlaw.GateTwice'. -/
def gateTwiceCard : Claim7 := { stood := { row := gateTwiceRow, standIns := [], harness := (true, "80a9e1cac92587b4c1bddec1794169e6814fbde2813f151fbcd240891406e6e9"), looks := false }, kinds := [], alts := [], laidByText := true, laidKinds := [.data, .data, .data], laidTests := true, laidLooks := .later }
def GateTwiceCardSaid : Prop := Claim7.holds Tryz.pinned (.plain (OpenSpec.ofChange gateTwiceSpec)) gateTwiceCard

/-- THE SECOND FORM's CARD OF 'wainwrightlaw.UnitSays'. -/
def unitSaysUptoCard : Claim7 := { stood := { row := unitSaysUptoRow, standIns := [], harness := (true, "80a9e1cac92587b4c1bddec1794169e6814fbde2813f151fbcd240891406e6e9"), looks := false }, kinds := [], alts := [], laidByText := true, laidKinds := [.data, .data, .data], laidTests := true, laidLooks := .later }
def UnitSaysUptoCardSaid : Prop := Claim7.holds Tryz.pinned (.plain (OpenSpec.upto unitSaysSpec)) unitSaysUptoCard

/-- THE SECOND FORM's CARD OF 'wainwrightlaw.GateSays'. -/
def gateSaysUptoCard : Claim7 := { stood := { row := gateSaysUptoRow, standIns := [], harness := (true, "80a9e1cac92587b4c1bddec1794169e6814fbde2813f151fbcd240891406e6e9"), looks := false }, kinds := [], alts := [], laidByText := true, laidKinds := [.data, .data, .data], laidTests := true, laidLooks := .later }
def GateSaysUptoCardSaid : Prop := Claim7.holds Tryz.pinned (.plain (OpenSpec.upto gateSaysSpec)) gateSaysUptoCard

/-- THE SECOND FORM's CARD OF 'wainwrightlaw.GateHears'. -/
def gateHearsUptoCard : Claim7 := { stood := { row := gateHearsUptoRow, standIns := [], harness := (true, "80a9e1cac92587b4c1bddec1794169e6814fbde2813f151fbcd240891406e6e9"), looks := false }, kinds := [], alts := [], laidByText := true, laidKinds := [.data, .data, .data], laidTests := true, laidLooks := .later }
def GateHearsUptoCardSaid : Prop := Claim7.holds Tryz.pinned (.plain (OpenSpec.upto gateHearsSpec)) gateHearsUptoCard

/-- THE SECOND FORM's CARD OF 'wainwrightlaw.GateOnce'. -/
def gateOnceUptoCard : Claim7 := { stood := { row := gateOnceUptoRow, standIns := [], harness := (true, "80a9e1cac92587b4c1bddec1794169e6814fbde2813f151fbcd240891406e6e9"), looks := false }, kinds := [], alts := [], laidByText := true, laidKinds := [.data, .data, .data], laidTests := true, laidLooks := .later }
def GateOnceUptoCardSaid : Prop := Claim7.holds Tryz.pinned (.plain (OpenSpec.upto gateOnceSpec)) gateOnceUptoCard

/-- THE SECOND FORM's CARD OF 'wainwrightlaw.GatePieces'. -/
def gatePiecesUptoCard : Claim7 := { stood := { row := gatePiecesUptoRow, standIns := [], harness := (true, "80a9e1cac92587b4c1bddec1794169e6814fbde2813f151fbcd240891406e6e9"), looks := false }, kinds := [], alts := [], laidByText := true, laidKinds := [.data, .data, .data], laidTests := true, laidLooks := .later }
def GatePiecesUptoCardSaid : Prop := Claim7.holds Tryz.pinned (.plain (OpenSpec.upto gatePiecesSpec)) gatePiecesUptoCard

/-- THE SECOND FORM's CARD OF 'wainwrightlaw.GateTwice'. -/
def gateTwiceUptoCard : Claim7 := { stood := { row := gateTwiceUptoRow, standIns := [], harness := (true, "80a9e1cac92587b4c1bddec1794169e6814fbde2813f151fbcd240891406e6e9"), looks := false }, kinds := [], alts := [], laidByText := true, laidKinds := [.data, .data, .data], laidTests := true, laidLooks := .later }
def GateTwiceUptoCardSaid : Prop := Claim7.holds Tryz.pinned (.plain (OpenSpec.upto gateTwiceSpec)) gateTwiceUptoCard
end Rows
end Go.Proofs.YtgngpmgjoifepaaGreatDoor
