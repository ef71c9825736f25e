/- Facts. -/
import Derived.Test.YthmekfcgdfckaaaGreatDoorWz17
set_option maxRecDepth 1000000
set_option maxHeartbeats 0
namespace Go.Proofs.YthmekfcgdfckaaaGreatDoor
open Go.RowKit
section
attribute [local go_sem ↓] kM kO
theorem do_bad (v:Vh) (m:VA) (x:Hp) (mo:OA) (w:World) (h:VIn w (fun _=>False) m v) (hT:Tab w) (ho:BO w mo x.o) (he:vhE v≠0):
 Cq 11 #[vhv v m,hpv x mo] w (DoAns w (doS' v x)):=by
 have hw:=zds w (.cells (aV m v) 40) (.cells (aH x mo) 49) (.cells aZ 40);have b0:=uH (zai (zai (kP w (.cells (aV m v) 40)) (.cells (aH x mo) 49)) (.cells aZ 40));have b1:=uH (zai (zau w (.cells (aV m v) 40) (.cells (aH x mo) 49)) (.cells aZ 40));have b2:=uH (zb9 w (.cells (aV m v) 40) (.cells (aH x mo) 49) (.cells aZ 40));have hsz: (((w.alloc (.cells (aV m v) 40)).alloc (.cells (aH x mo) 49)).alloc (.cells aZ 40)).heap.size=w.heap.size+1+1+1:=by simp
 have HC:=uH (fun W (hW:bZ w W)=>zct v m W (h.bl hW));have HV:=uH h;have HTb:=uH hT;have HBO:=uH ho;clear h hT ho;unfold vhv vhC at HC;unfold vhv vhC hpv;have D1:=uH (do_e1 (v:=v) (x:=x));go_enter Tryz.func11,Tryz.ntmps11;go_wp2_with fail;generalize (((w.alloc (.cells (aV m v) 40)).alloc (.cells (aH x mo) 49)).alloc (.cells aZ 40))=W1 at *;refine(zae HC _ hw).mono ?_;rintro e w2 ⟨rfl,hb⟩;have hw2:=bT hw hb;replace b0:=uH (zab b0.o hb);replace b1:=uH (zab b1.o hb);replace b2:=uH (zab b2.o hb);have hs2:w.heap.size+3<=w2.heap.size:=by have:=hb.size;omega
 clear HC hw hb hsz;have d: (vhE v !=0)=true:=by simpa using he
 have HE:=uH (D1.o he);clear he;generalize vhE v=y at *;obtain ⟨z0,z1,z2,z3,z4,z5,z6,z7,z8,z9,z10,z11,z12,z13,z14⟩:=cl15 b2.o;obtain ⟨y0,y1,y2,y3,y4,y5,y6,y7,y8,y9,y10,y11,y12,y13,y14⟩:=fr15 b2.o;go_wp2_with fail;refine kT (v:=.tuple #[vhv vh0 va0,iV y]) (by simp [results,Tryz.results11,go_sem,vhv,vhC,vh0,va0,ga0,gt0,z0,z1,z2,z3,z4,z5,z6,z7,z8,z9,z10,z11,z12,z13,z14]) rfl ?_;have hbF:bZ w (puts w2 (w.heap.size+1+1) 0 [nV,nV,nV,iV 0,.bool false,iV 0,nV,iV 0,iV 0,nV,nV,nV,nV,nV,iV 0]):=hw2.trans (zbd _ (by omega) hw2.size);have hfin:DoAns w (doS' v x) (.returned (.tuple #[vhv vh0 va0,iV y])) (puts w2 (w.heap.size+1+1) 0 [nV,nV,nV,iV 0,.bool false,iV 0,nV,iV 0,iV 0,nV,nV,nV,nV,nV,iV 0]):=by rw [HE.o];exact⟨⟨va0,rfl,vin0 _ _⟩,hbF⟩
 exact hfin
end
end Go.Proofs.YthmekfcgdfckaaaGreatDoor
