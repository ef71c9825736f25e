/- Plain facts: what is taken is newer, and signed; without signatures it isn't taken, nor twice. -/
import Derived.Test.YthmekfcgdfckaaaGreatDoorWn19
set_option maxRecDepth 1000000
set_option maxHeartbeats 0
namespace Go.Proofs.YthmekfcgdfckaaaGreatDoor
variable {ss:List ByteArray}
section
open Go.RowKit
theorem zsh {l:List S2} {t:Tr} {o:Of} {now units:Int} (h:takeE ss l t o now units=0):
    trE t=0∧allE ss l t o.roots o.rsigs=0∧crE ss l (lastR t.r o.roots) o.v o.u o.ts o.sigs=0∧restE ss t.ver o now units=0:=by
  unfold takeE at h
  split at h
  {
  rename_i h1
  split at h
  {
  rename_i h2
  split at h
  {
  rename_i h3
  exact⟨h1,h2,h3,h⟩
  }
  {
  rename_i h3
  exact absurd h h3
  }
  }
  {
  rename_i h2
  exact absurd h h2
  }
  }
  {
  rename_i h1
  exact absurd h h1
  }
theorem last_ok {l:List S2} {t:Tr} {o:Of} {now units:Int} (h:takeE ss l t o now units=0) {ver:Int} (hv:0≤ver∧ver≤1000):trE ⟨lastR t.r o.roots,ver⟩=0:=by
  have h3:=(crE_ok (zsh h).2.2.1).2.2;have h4:=(cntE_ok (csE_ok h3).1).2.1;rw [zkd (inR_t hv.1 hv.2)];exact h4
end
end Go.Proofs.YthmekfcgdfckaaaGreatDoor
