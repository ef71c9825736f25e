/-
  DERIVED. GIVEN WITH THE SEED: THE CARDS: each row of YtanpglfpopbfkabDoorRows.lean that lists a variable, with what it lists TIED to the program's text (the seventh form; the later family's looks); each row that meets fmt, with fmt's text TOLD by the authors' own Lean function (tested against real Go, not proved from fmt's source: count such statements apart). THE CARD IS WHAT COUNTS. Prove the row's statement (the work); the ties are given (YtanpglfpopbfkabDoorTie.lean); close each card by the builder's one call (the guide's Derived/Test/ToyasCard.lean, 'card_holds'). Laid BY PROGRAM, IN A SANDBOX (cutbox-door.mjs). By AI agents, Wed Nov 11 2026. No macro, syntax, notation, axiom, sorry.
-/
import Derived.Test.YtanpglfpopbfkabDoorRows
import GoSem.ClaimSeven
namespace Go.Proofs.YtanpglfpopbfkabDoor
namespace Rows

/-- THE TIED CARD OF 'wainwrightlaw.MetaNames'. -/
def metaNamesCard : Claim7 := { stood := { row := metaNamesRow, standIns := [], harness := (true, "4e37b58a94617259a22c447dc68e1333f2f2b349cc5f93304e8bf351eb8528bb"), looks := true }, kinds := [], alts := [], laidByText := true, laidKinds := [.data, .data, .data], laidTests := true, laidLooks := .later }
def MetaNamesCardSaid : Prop := Claim7.holds Tryd.pinned (.plain (OpenSpec.ofChange metaNamesSpec)) metaNamesCard

/-- THE TIED CARD OF 'wainwrightlaw.MetaBack'. -/
def metaBackCard : Claim7 := { stood := { row := metaBackRow, standIns := [], harness := (true, "4e37b58a94617259a22c447dc68e1333f2f2b349cc5f93304e8bf351eb8528bb"), looks := true }, kinds := [], alts := [], laidByText := true, laidKinds := [.data, .data, .data, .data, .sentinel, .sentinel, .pinned], laidTests := true, laidLooks := .later }
def MetaBackCardSaid : Prop := Claim7.holds Tryd.pinned (.plain (OpenSpec.ofChange metaBackSpec)) metaBackCard

/-- THE TIED CARD OF 'wainwrightlaw.MetaApart'. -/
def metaApartCard : Claim7 := { stood := { row := metaApartRow, standIns := [], harness := (true, "4e37b58a94617259a22c447dc68e1333f2f2b349cc5f93304e8bf351eb8528bb"), looks := true }, kinds := [], alts := [], laidByText := true, laidKinds := [.data, .data, .data], laidTests := true, laidLooks := .later }
def MetaApartCardSaid : Prop := Claim7.holds Tryd.pinned (.plain (OpenSpec.ofChange metaApartSpec)) metaApartCard

/-- THE TIED CARD OF 'wainwrightlaw.TrustSays'. -/
def trustSaysCard : Claim7 := { stood := { row := trustSaysRow, standIns := [], harness := (true, "4e37b58a94617259a22c447dc68e1333f2f2b349cc5f93304e8bf351eb8528bb"), looks := true }, kinds := [], alts := [], laidByText := true, laidKinds := [.data, .data, .data], laidTests := true, laidLooks := .later }
def TrustSaysCardSaid : Prop := Claim7.holds Tryd.pinned (.plain (OpenSpec.ofChange trustSaysSpec)) trustSaysCard

/-- THE TIED CARD OF 'wainwrightlaw.TrustRises'. -/
def trustRisesCard : Claim7 := { stood := { row := trustRisesRow, standIns := [], harness := (true, "4e37b58a94617259a22c447dc68e1333f2f2b349cc5f93304e8bf351eb8528bb"), looks := true }, kinds := [], alts := [], laidByText := true, laidKinds := [.data, .data, .data], laidTests := true, laidLooks := .later }
def TrustRisesCardSaid : Prop := Claim7.holds Tryd.pinned (.plain (OpenSpec.ofChange trustRisesSpec)) trustRisesCard

/-- THE TIED CARD OF 'wainwrightlaw.TrustCounts'. -/
def trustCountsCard : Claim7 := { stood := { row := trustCountsRow, standIns := [], harness := (true, "4e37b58a94617259a22c447dc68e1333f2f2b349cc5f93304e8bf351eb8528bb"), looks := true }, kinds := [], alts := [], laidByText := true, laidKinds := [.data, .data, .data], laidTests := true, laidLooks := .later }
def TrustCountsCardSaid : Prop := Claim7.holds Tryd.pinned (.plain (OpenSpec.ofChange trustCountsSpec)) trustCountsCard

/-- THE SECOND FORM's CARD OF 'wainwrightlaw.MetaNames'. -/
def metaNamesUptoCard : Claim7 := { stood := { row := metaNamesUptoRow, standIns := [], harness := (true, "4e37b58a94617259a22c447dc68e1333f2f2b349cc5f93304e8bf351eb8528bb"), looks := true }, kinds := [], alts := [], laidByText := true, laidKinds := [.data, .data, .data], laidTests := true, laidLooks := .later }
def MetaNamesUptoCardSaid : Prop := Claim7.holds Tryd.pinned (.plain (OpenSpec.upto metaNamesSpec)) metaNamesUptoCard

/-- THE SECOND FORM's CARD OF 'wainwrightlaw.MetaBack'. -/
def metaBackUptoCard : Claim7 := { stood := { row := metaBackUptoRow, standIns := [], harness := (true, "4e37b58a94617259a22c447dc68e1333f2f2b349cc5f93304e8bf351eb8528bb"), looks := true }, kinds := [], alts := [], laidByText := true, laidKinds := [.data, .data, .data, .data, .sentinel, .sentinel, .pinned], laidTests := true, laidLooks := .later }
def MetaBackUptoCardSaid : Prop := Claim7.holds Tryd.pinned (.plain (OpenSpec.upto metaBackSpec)) metaBackUptoCard

/-- THE SECOND FORM's CARD OF 'wainwrightlaw.MetaApart'. -/
def metaApartUptoCard : Claim7 := { stood := { row := metaApartUptoRow, standIns := [], harness := (true, "4e37b58a94617259a22c447dc68e1333f2f2b349cc5f93304e8bf351eb8528bb"), looks := true }, kinds := [], alts := [], laidByText := true, laidKinds := [.data, .data, .data], laidTests := true, laidLooks := .later }
def MetaApartUptoCardSaid : Prop := Claim7.holds Tryd.pinned (.plain (OpenSpec.upto metaApartSpec)) metaApartUptoCard

/-- THE SECOND FORM's CARD OF 'wainwrightlaw.TrustSays'. -/
def trustSaysUptoCard : Claim7 := { stood := { row := trustSaysUptoRow, standIns := [], harness := (true, "4e37b58a94617259a22c447dc68e1333f2f2b349cc5f93304e8bf351eb8528bb"), looks := true }, kinds := [], alts := [], laidByText := true, laidKinds := [.data, .data, .data], laidTests := true, laidLooks := .later }
def TrustSaysUptoCardSaid : Prop := Claim7.holds Tryd.pinned (.plain (OpenSpec.upto trustSaysSpec)) trustSaysUptoCard

/-- THE SECOND FORM's CARD OF 'wainwrightlaw.TrustRises'. -/
def trustRisesUptoCard : Claim7 := { stood := { row := trustRisesUptoRow, standIns := [], harness := (true, "4e37b58a94617259a22c447dc68e1333f2f2b349cc5f93304e8bf351eb8528bb"), looks := true }, kinds := [], alts := [], laidByText := true, laidKinds := [.data, .data, .data], laidTests := true, laidLooks := .later }
def TrustRisesUptoCardSaid : Prop := Claim7.holds Tryd.pinned (.plain (OpenSpec.upto trustRisesSpec)) trustRisesUptoCard

/-- THE SECOND FORM's CARD OF 'wainwrightlaw.TrustCounts'. -/
def trustCountsUptoCard : Claim7 := { stood := { row := trustCountsUptoRow, standIns := [], harness := (true, "4e37b58a94617259a22c447dc68e1333f2f2b349cc5f93304e8bf351eb8528bb"), looks := true }, kinds := [], alts := [], laidByText := true, laidKinds := [.data, .data, .data], laidTests := true, laidLooks := .later }
def TrustCountsUptoCardSaid : Prop := Claim7.holds Tryd.pinned (.plain (OpenSpec.upto trustCountsSpec)) trustCountsUptoCard
end Rows
end Go.Proofs.YtanpglfpopbfkabDoor
