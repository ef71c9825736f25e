/- What the loops of VehicleTakes and VehicleHolds keep in memory. -/
import Derived.Test.YthmekfcgdfckaaaGreatDoorWtXVOff
import Derived.Test.YthmekfcgdfckaaaGreatDoorWtXVPk2
set_option maxRecDepth 1000000
set_option maxHeartbeats 0
namespace Go.Proofs.YthmekfcgdfckaaaGreatDoor
section
open Go.RowKit
structure TL (w W0 w3:World) (B:Nat) (sv:Value) (L:List Hp) (v:Vh) (m:VA) (wq:World):Prop where
  bel:Below w.heap.size w wq
  bas:Below W0.heap.size W0 wq
  own:wq.heap[B]?=some (vhO v m)
  veh:VIn wq (fun b=>b=B) m v
  row: ∃vs,wq.ownsRow w3.heap.size 49 10 sv L.length vs∧Vs (HR W0 (fun _=>False)) L vs
section
variable {w W0 w3:World} {B:Nat} {sv:Value} {L:List Hp} {v:Vh} {m:VA} {wq:World}
theorem TL.keep (h:TL w W0 w3 B sv L v m wq) {w' :World} (hb:Below wq.heap.size wq w'):TL w W0 w3 B sv L v m w' :=by
  obtain ⟨vs,h1,h2⟩:=h.row;exact⟨h.bel.trans (hb.mono h.bel.size),h.bas.trans (hb.mono h.bas.size),zab h.own hb,h.veh.below hb,vs,zba h1 hb,h2⟩
theorem TL.put (h:TL w W0 w3 B sv L v m wq) {W w' :World} {y:Vh} {m' :VA} (hb:Below wq.heap.size wq W) (hc:Below W.heap.size W w') (hB0:W0.heap.size≤B) (hBw:w.heap.size≤B) (hB3:B<w3.heap.size) (hv:VIn w' (fun b=>b<W.heap.size∧Sm W b) m' y):TL w W0 w3 B sv L y m' (w'.setRow B (vhC y m')):=by
  have h8:=h.keep ((bT hb hc));have hW:=h.keep hb;have ch:=zcv w' B (vhC y m');obtain ⟨vs,h1,h2⟩:=h8.row;refine⟨h8.bel.trans (ch.below (fun b e=>by omega) h8.bel.size),h8.bas.trans (ch.below (fun b e=>by omega) h8.bas.size),setRow_heap w' B _ (vhC y m') _ _ h8.own, ?_,vs,zbt h1 ch (fun g e c=> ?_),h2⟩
  { exact(hv.wide (K' :=fun b=>b=B) fun b e=>.inl (by rw [e];exact⟨zak hW.own,_,_,hW.own,by show 15<192;decide⟩)).chg ch }
  {
  have:=(h1.lt g e).1;have c:g=B:=c;omega
  }
theorem TL.hap (h:TL w W0 w3 B sv L v m wq) {a:Option Addr} {n c:Nat} (hs:sv=.slice a n c) (hn:L.length=n) {k:Nat} (hk:k<n): ∃b off,∃mo:OA,a=some ⟨b,off,none⟩∧BO wq mo (L[k]'(by omega)).o∧(rdB 49 (.pointer (some ⟨b,off+k * 10,none⟩))).run Tryz.prog wq=.ok (.agg (hpC (L[k]'(by omega)) mo)) wq:=by
  obtain ⟨vs,h1,h2⟩:=h.row;rw [hs] at h1;obtain ⟨b,off,mo,e,q0,qc⟩:=zuh (zdd h1) (h2.mono (HR.below h.bas)) (List.getElem?_eq_getElem (show k<L.length by omega));exact⟨b,off,mo,e,q0,zuq wq b (off+k * 10) _ mo fun j u hu=>qc j u hu⟩
theorem zve {W:World} {b:Nat} {v:Vh} {m:VA} (h:W.heap[b]?=some (vhO v m)): (rdB 35 (.pointer (some ⟨b,2,none⟩))).run Tryz.prog W=.ok (.agg (gaC v.g m.g)) W:=
  rdG_mid W b 2 v.g m.g fun j u hu=>by
    match j,hu with
    |0,e=>cases e;exact zaa h 2 _ rfl
    |1,e=>cases e;exact zaa h 3 _ rfl
    |2,e=>cases e;exact zaa h 4 _ rfl
    |3,e=>cases e;exact zaa h 5 _ rfl
    |4,e=>cases e;exact zaa h 6 _ rfl
    |5,e=>cases e;exact zaa h 7 _ rfl
    |6,e=>cases e;exact zaa h 8 _ rfl
    |7,e=>cases e;exact zaa h 9 _ rfl
    |8,e=>cases e;exact zaa h 10 _ rfl
    |j+9,hu=>exact absurd (List.getElem?_eq_some_iff.1 hu).1 (by show¬j+9<9;omega)
end
theorem off_in {os:List Of} {l:List Hp} (hl:os.length=3): ∀x∈offL os l,x.k=1→x.o∈os:=by
  intro x hx hk;unfold offL at hx;obtain ⟨y,-,rfl⟩:=List.mem_map.1 hx;unfold offX at hk⊢
  split
  {
  have h3: (y.j % 3).toNat<os.length:=by rw [hl];omega
  show os.getD _ _∈os
  rw [List.getD_eq_getElem?_getD,List.getElem?_eq_getElem h3];exact List.getElem_mem h3
  }
  {
  rename_i h;rw [if_neg h] at hk;exact absurd hk h
  }
end
end Go.Proofs.YthmekfcgdfckaaaGreatDoor
