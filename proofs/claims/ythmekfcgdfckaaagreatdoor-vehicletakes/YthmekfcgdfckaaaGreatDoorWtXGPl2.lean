/- Plain facts for GateOnce: what a gateway's records say ahead, and behind. No program in this text. -/
import Derived.Test.YthmekfcgdfckaaaGreatDoorWt22
set_option maxRecDepth 1000000
set_option maxHeartbeats 0
namespace Go.Proofs.YthmekfcgdfckaaaGreatDoor
section
open Go.RowKit
theorem boot_ok {x:Gt} (h:gtE x=0):gtE ⟨x.ws,-1,true,x.t,zbj x.vo,zbj x.di⟩=0:=by
  obtain ⟨h1,h2,h3,h4⟩:=zrp h;exact gtE_0 (zsr h1 (show(-1:Int)≤ -1 by decide) (show(-1:Int)≤100000 by decide)) (by show 1≤(zbj x.vo).length∧(zbj x.vo).length≤4;rw [zru];exact h2) (by show(zbj x.di).length= (zbj x.vo).length;rw [zru,zru];exact h3) h4
end
end Go.Proofs.YthmekfcgdfckaaaGreatDoor
