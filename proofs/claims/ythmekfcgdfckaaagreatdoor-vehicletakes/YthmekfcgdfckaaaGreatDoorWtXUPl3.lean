/- Plain facts for UnitReady and UnitHolds: what a unit that got ready runs once it is told to commit. No program in this text. -/
import Derived.Test.YthmekfcgdfckaaaGreatDoorWt22
set_option maxRecDepth 1000000
set_option maxHeartbeats 0
namespace Go.Proofs.YthmekfcgdfckaaaGreatDoor
section
open Go.RowKit
def btd (x:Un):Un:=⟨x.ws,-1,true,0,0⟩
end
end Go.Proofs.YthmekfcgdfckaaaGreatDoor
