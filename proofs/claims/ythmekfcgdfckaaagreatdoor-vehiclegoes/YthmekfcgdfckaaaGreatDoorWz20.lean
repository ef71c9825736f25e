/- Facts. -/
import Derived.Test.YthmekfcgdfckaaaGreatDoorWz17
set_option maxRecDepth 1000000
set_option maxHeartbeats 0
namespace Go.Proofs.YthmekfcgdfckaaaGreatDoor
open Go.RowKit
section
attribute [local go_sem ↓] kM kO
theorem do_err (v:Vh) (m:VA) (x:Hp) (mo:OA) (w:World) (h:VIn w (fun _=>False) m v) (hT:Tab w) (ho:BO w mo x.o) (he:vhE v=0) (hze: (hapS v x).2≠0):
 Cq 11 #[vhv v m,hpv x mo] w (DoAns w (doS' v x)):=by
 have hw:=zds w (.cells (aV m v) 40) (.cells (aH x mo) 49) (.cells aZ 40);have b0:=uH (zai (zai (kP w (.cells (aV m v) 40)) (.cells (aH x mo) 49)) (.cells aZ 40));have b1:=uH (zai (zau w (.cells (aV m v) 40) (.cells (aH x mo) 49)) (.cells aZ 40));have b2:=uH (zb9 w (.cells (aV m v) 40) (.cells (aH x mo) 49) (.cells aZ 40));have hsz: (((w.alloc (.cells (aV m v) 40)).alloc (.cells (aH x mo) 49)).alloc (.cells aZ 40)).heap.size=w.heap.size+1+1+1:=by simp
 have HC:=uH (fun W (hW:bZ w W)=>zct v m W (h.bl hW));have HV:=uH h;have HTb:=uH hT;have HBO:=uH ho;clear h hT ho;unfold vhv vhC at HC;unfold vhv vhC hpv;have D1:=uH (do_e1 (v:=v) (x:=x));have D2:=uH (do_e2 (v:=v) (x:=x));have D3:=uH (do_0 (v:=v) (x:=x));go_enter Tryz.func11,Tryz.ntmps11;go_wp2_with fail;generalize (((w.alloc (.cells (aV m v) 40)).alloc (.cells (aH x mo) 49)).alloc (.cells aZ 40))=W1 at *;refine(zae HC _ hw).mono ?_;rintro e w2 ⟨rfl,hb⟩;have hw2:=bT hw hb;replace b0:=uH (zab b0.o hb);replace b1:=uH (zab b1.o hb);replace b2:=uH (zab b2.o hb);have hs2:w.heap.size+3<=w2.heap.size:=by have:=hb.size;omega
 clear HC hw hb hsz;have d: (vhE v !=0)=false:=by simpa using he
 have HF:=uH (zec he);have HE0:=uH he;clear he;have HTw:=uH (zhm v m (fun _=>False) w2 (HV.o.bl hw2) (HF.o.small HV.o));unfold vhv vhC at HTw;generalize vhE v=y at *;obtain ⟨x0,x1,x2,x3,x4,x5,x6,x7,x8,x9,x10,x11,x12,x13,x14⟩:=cl15 b0.o;go_wp2_with fail;refine(zae HTw).mono ?_;rintro e w3 ⟨⟨m3,bu,bc,bn,rfl,hvt⟩,hb3⟩;unfold vhv vhC;have hbo:bZ w3 (w3.alloc (.cells (aV m3 v) 40)):=bA1;have hb4:bZ w2 (w3.alloc (.cells (aV m3 v) 40)):=bT hb3 hbo;have HO:Hd (VOwn (w3.alloc (.cells (aV m3 v) 40)) w2.heap.size (fun b=>b<w2.heap.size) ⟨w3.heap.size,bu,bc,bn⟩ m3 v):=hvt.own hb3.size (fun b e=>e);have HOk:Hd (VOk (w3.alloc (.cells (aV m3 v) 40)) w2.heap.size (fun b=>b<w2.heap.size) m3 v):=by
  have hul:v.us.length=v.g.vo.length:=by
   have:=HF.o.us;unfold unsE at this
   split at this
   { cases this }
   { rename_i h1;exact ky fun e=>h1 e }
  have hvo:=(zen HF.o.gt).2.1;have hm:=HF.o.many;have c1:=hvt.cap;have c2:=hvt.us.len;have c3:=hvt.cs.len;have c4:=hvt.net.len;exact⟨⟨by omega,by omega,by omega⟩,by omega,HF.o.us,HF.o.net,fun b e=>kw e hb4.size,fun b e=>e,fun W hW=>HTb.o.bl (hw2.trans ((hb4.trans hW).mono hw2.size))⟩
 have HH:=uH (zjl w2.heap.size (fun b=>b<w2.heap.size) ⟨w3.heap.size,bu,bc,bn⟩ m3 v x mo _ HO.o HOk.o HF.o.gt (fun y hy=>by have:=(zic (zhn HF.o.net hy).1).2;omega) HF.o.now (fun W hW=>HBO.o.bl (hw2.trans ((hb4.trans hW).mono hw2.size))));unfold hpv at HH;have b1' :=uH (zab (zab b1.o hb3) hbo);clear x0 x1 x2 x3 x4 x5 x6 x7 x8 x9 x10 x11 x12 x13 x14 HTw hvt HOk hbo;have p0:=zaa b1'.o 0 _ rfl;have p1:=zaa b1'.o 1 _ rfl;have p2:=zaa b1'.o 2 _ rfl;have p3:=zaa b1'.o 3 _ rfl;have p4:=zaa b1'.o 4 _ rfl;have p5:=zaa b1'.o 5 _ rfl;have p6:=zaa b1'.o 6 _ rfl;have p7:=zaa b1'.o 7 _ rfl;have p8:=zaa b1'.o 8 _ rfl;have p9:=zaa b1'.o 9 _ rfl;go_upto_region 5 with fail
 generalize w3.alloc (.cells (aV m3 v) 40)=W4 at *;go_wp2_with fail;refine(zae HH).mono ?_;intro e w5 hv;obtain ⟨z,hz,rfl,hv2⟩:=zcn hv;have hb5:bZ w2 w5:=hb4.trans hv2.2.1;replace b2:=uH (show w5.heap[w.heap.size+1+1]?=some (.cells aZ 40 (0,0)) from by rw [hb5.block _ (by omega)];exact b2.o);have hbw:bZ w w5:=bT hw2 hb5;have hvo:=hv2.2.2;clear hv hv2 HH p0 p1 p2 p3 p4 p5 p6 p7 p8 p9 b0 b1 b1';have hz0:z≠0:=by rw [hz];exact hze
 clear hze;have d2: (z !=0)=true:=by simpa using hz0
 have HE:=uH (D2.o HE0.o (by rw [<-hz];exact hz0));rw [<-hz] at HE;clear hz hz0 hvo;obtain ⟨z0,z1,z2,z3,z4,z5,z6,z7,z8,z9,z10,z11,z12,z13,z14⟩:=cl15 b2.o;obtain ⟨y0,y1,y2,y3,y4,y5,y6,y7,y8,y9,y10,y11,y12,y13,y14⟩:=fr15 b2.o;go_wp2_with fail;refine kT (v:=.tuple #[vhv vh0 va0,iV z]) (by simp [results,Tryz.results11,go_sem,vhv,vhC,vh0,va0,ga0,gt0,z0,z1,z2,z3,z4,z5,z6,z7,z8,z9,z10,z11,z12,z13,z14]) rfl ?_;have hbF:bZ w (puts w5 (w.heap.size+1+1) 0 [nV,nV,nV,iV 0,.bool false,iV 0,nV,iV 0,iV 0,nV,nV,nV,nV,nV,iV 0]):=hbw.trans (zbd _ (by omega) hbw.size);have hfin:DoAns w (doS' v x) (.returned (.tuple #[vhv vh0 va0,iV z])) (puts w5 (w.heap.size+1+1) 0 [nV,nV,nV,iV 0,.bool false,iV 0,nV,iV 0,iV 0,nV,nV,nV,nV,nV,iV 0]):=by rw [HE.o];exact⟨⟨va0,rfl,vin0 _ _⟩,hbF⟩
 exact hfin
end
end Go.Proofs.YthmekfcgdfckaaaGreatDoor
