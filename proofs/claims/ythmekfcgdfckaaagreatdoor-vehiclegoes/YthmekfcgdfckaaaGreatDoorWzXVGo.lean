/- Facts. -/
import Derived.Test.YthmekfcgdfckaaaGreatDoorWz27
set_option maxRecDepth 1000000
set_option maxHeartbeats 0
namespace Go.Proofs.YthmekfcgdfckaaaGreatDoor
open Go.RowKit
section
attribute [local go_sem ↓] kM kO zhy zhp zhu zyt zyu zyr zxe zy3 exU_st exU_al exO_ld
attribute [local go_sem] zgl zgn zgi rdF_V wrF_V zuu zup rdF_H wrF_H zur zy9 zy7 rdF_U wrF_U zy8 zgj zli World.setRow_alloc_new rdF_10
theorem box_new {W w' :World} {o:Obj} (h:Below (W.alloc o).drew.heap.size (W.alloc o).drew w'):w'.heap[W.heap.size]?=some o:=zab (show(W.alloc o).drew.heap[W.heap.size]?=some o from kP W o) h
def goP (x:Hp):Bool:=!decide (x.k=1)||!decide (x.o.v=2)
theorem goP_in {os:List Of} {l:List Hp} (hl:os.length=3): ∀x∈(offL os l).filter goP,(x.k=1->x.o∈os)/\(x.k≠1\/x.o.v≠2):=by
 intro x hx;obtain ⟨h1,h2⟩:=List.mem_filter.1 hx;refine⟨off_in hl x h1, ?_⟩;unfold goP at h2
 simpa using h2
theorem SJ.rin {W w wr:World} {l:List Hp} {a:oA} {n c:Nat} (h:SJ W w l (.slice a n c) wr) (hb:bZ W wr) (hl:l.length=n) (hn:n<=1000):RIn HR wr (fun _=>False) a n c l:=by
 obtain ⟨vs,h1,h2⟩:=h.row;rw [hl] at h1;exact⟨⟨vs,zdd h1,h2.mono (HR.bl hb),.no⟩,hl,zlo h1,by unfold maxLen;omega⟩
theorem vGoes_law (x:Int) (l:List Hp) (a:oA) (n c:Nat) (w:World) (hT:Tab w) (hx: -9223372036854775808<=x/\x<=9223372036854775807) (h:RIn HR w (fun _=>False) a n c l) (hB: ∀y∈l,-9223372036854775808<=y.j/\y.j<=9223372036854775807):
 Cq 8 #[iV x,.slice a n c] w fun e w' =>e=.returned (.bool true)/\bZ w w' :=by
 have HT:=uH hT;have HS:=uH h;have HB:=uH hB;have HAt:=uH (zy4 x 4 w (by decide) (by decide) hx);clear h hB;go_enter Tryz.func8,Tryz.ntmps8;go_wp2_with fail;refine(zae HAt).mono ?_;rintro e w0 ⟨rfl,h0⟩;replace h0:=h0.symm;subst h0;obtain ⟨U,hU⟩: ∃U:Nat,(U:Int)=x % 4:=⟨(x % 4).toNat,Int.toNat_of_nonneg (Int.emod_nonneg _ (by decide))⟩;have hU4:U<4:=by have:=Int.emod_lt_of_pos x (show(0:Int)<4 by decide);omega
 have HU:=uH hU4;rw [<-hU];have HF:Hd (Cq 23 #[iV (1+(U:Int)),iV 100] w (zh8 w (U+1) 100)):=by
  show Calls _ _ _ _ _
  rw [show(1:Int)+(U:Int)= ((U+1:Nat):Int) by omega];exact zpb (U+1) 100 w HT.o (facOk_100 hU4)
 have hUI: (U:Int)<4:=by omega
 clear hU HAt hT hx hU4;go_wp2_with fail;refine(zae HF).mono ?_;rintro e w1 ⟨⟨m,oa,no,oc,rfl,hv1,ho1⟩,hb1⟩;clear HF;rw [show nwV (outF (U+1) 100 4).ss (outF (U+1) 100 4).sg rtF (outF (U+1) 100 4).fst=facN (U+1) 100 from rfl] at hv1|-;have HC:=uH (zza U HU.o).2;obtain rfl:no=3:=by rw [<-ho1.len];exact zy5 HC.o
 have HIv:=uH (zy2 HU.o (u:=100) (.inr rfl));have HGo:=uH (go_first HU.o);obtain ⟨o0,o1,o2,hK⟩:=facK_is (facK_ok U HU.o);have HKK:=uH hK;have HFl:Hd ((outF (U+1) 100 4).fst.length=U+1):=(zry U HU.o).2.2.1.2;have hb2:bZ w1 (w1.alloc (.cells (vhC (facN (U+1) 100) m) 40)):=bA1;have hown:=kP w1 (.cells (vhC (facN (U+1) 100) m) 40);have hv2:VIn _ (fun b=>b=w1.heap.size) m (facN (U+1) 100):=(hv1.wide (K' :=fun b=>b=w1.heap.size) fun b e=>.inr (Kg e.symm)).bl hb2;have hw2:=bT hb1 hb2;have HB1:=uH hb1.size;obtain ⟨vso,ro1,ro2,-⟩:=ho1.row;obtain ⟨bo,oo,mo2,rfl,hbo2,hc2⟩:=zme ro1 ro2 (show(facO (U+1) 100)[2]?=some o2 by rw [hK.is];rfl);obtain ⟨bo',oo',mo1,eo1,hbo1,hc1⟩:=zme ro1 ro2 (show(facO (U+1) 100)[1]?=some o1 by rw [hK.is];rfl);cases eo1;simp only [Nat.reduceMul] at hc2 hc1;have HRd2:=uH (fun W (hW:bZ w1 W)=>zyj hc2 hW);have HRd1:=uH (fun W (hW:bZ w1 W)=>zyj hc1 hW);have HIm:=uH (fun W (hW:bZ w1 W)=>(hW.cell (zah (hc1 6 _ rfl))).trans (hc1 6 _ rfl));have HBo1:=uH hbo1;have HBo2:=uH hbo2;clear ro1 ro2 vso hbo1 hbo2 hc1 hc2;have HD:=uH (zqf _ (HT.o.bl hw2));have HO1:=uH ho1;have HL1:Hd (RIn HR w1 (fun _=>False) a n c l):=by
  obtain ⟨vs,r1,r2,r3⟩:=HS.o.row;exact⟨⟨vs,IsRow.chg r1 (.of hb1 _) r3,r2.mono (HR.bl hb1),r3⟩,HS.o.len,HS.o.cap,HS.o.max⟩
 unfold vhv;have hoc:=ho1.cap;clear hv1 ho1 hb1 HS hK;generalize (outF (U+1) 100 4).fst=Fi at *;generalize facN (U+1) 100=F at *;obtain ⟨os,hos⟩: ∃os,os=facO (U+1) 100:=⟨_,rfl⟩;rw [<-hos] at HO1;have HOs:=uH hos;clear hos;go_wp2_with fail;generalize w1.alloc (.cells (vhC F m) 40)=W2 at *;refine(zae HD).mono ?_;rintro e w3 ⟨rfl,hb3⟩;have hb13:=bT hb2 hb3;have HOf:=uH (zvv l a n c os _ _ oc w1 w3 HL1.o HO1.o hb13 HB.o);have HV3:=uH (hv2.bl hb3);have HW3:=uH (bT hw2 hb3);have HOw:=uH (zab hown hb3);have HB13:=uH hb13;clear HD hb2 hb3 hv2 hw2 hown hb13 HL1 HB;go_upto_region 5 with fail
 go_wp2_with fail;refine(zae HOf).mono ?_;rintro e w4 ⟨sa,ns,sc,rfl,hsl,hsj⟩;have hs160:ns<=160:=by rw [<-hsl];unfold offL;rw [Kr,KQ];omega
 obtain ⟨svs,hr1,hr2⟩:=hsj.row;rw [hsl] at hr1;have hcs:ns<=sc:=zlo hr1;have HR1:=uH hr1;have HR2:=uH hr2;have HSL:=uH hsl;have HV4:=uH (HV3.o.bl hsj.bel);have HW4:=uH (bT HW3.o hsj.bel);have HOx:=uH (zab HOw.o hsj.bel);have HB14:=uH (bT HB13.o hsj.bel);have HIn:Hd (∀x∈(offL os l).filter goP,(x.k=1->x.o∈os)/\(x.k≠1\/x.o.v≠2)):=goP_in HO1.o.len;obtain ⟨iH,hiH,hz0,hz1,hz2⟩:=info_parts zyv;generalize offL os l=L at *;clear HOf hsj hsl HV3 HW3 HOw HB13 hr1 hr2;go_wp2_with fail
 go_loopw [8,51] (fun z i wq=>∃(cv:Value) (k:Nat) (lk:List Hp),cv=z/\k<=ns/\i=iV k/\Hd (SJ w4 w4 lk cv wq)/\Hd (lk= (L.take k).filter goP)) (fun _ i _=>ns - (intOf i).toNat)
 case atStart=>exact⟨_,0, [],rfl,by omega,rfl,⟨kS _ _, [],KZ _ _ _ _,rfl⟩,by show _=_;simp⟩
 case round=>
  obtain ⟨wq,rfl⟩: ∃wq:World,wq=wr:=⟨_,rfl⟩;obtain ⟨cv,k,lk,rfl,hk,rfl,hI,hP⟩:=hrel;have hlk:lk.length<=k:=by rw [hP.o];exact kc (List.length_filter_le ..) (by rw [KQ];omega)
  by_cases hkn:k<ns
  {
  have hkI: (k:Int)<ns:=by omega
  have hkL:k<L.length:=by rw [HSL.o];exact hkn
  have hb4:=hI.o.bel;obtain ⟨b,off,mo,rfl,hbo,hrc⟩:=zuh (zdd HR1.o) (HR2.o.mono (HR.bl HB14.o)) (kX hkL);have hrd:=zuq wq b (off+k * 10) L[k] mo (fun j u hu=>(hb4.cell (zah (hrc j u hu))).trans (hrc j u hu));have HX:Hd ((L.take (k+1)).filter goP=lk++if goP L[k]=true then [L[k]] else []):=by
   show _=_
   rw [kl hkL,List.filter_append,<-hP.o]
   congr 1
   by_cases hg:goP L[k]=true
   { rw [KK hg];simp [hg] }
   { rw [KJ hg];simp [hg] }
  generalize L[k]=y at *;have HK:Hd (k<ns):=hkn;have hW:bZ wq (wq.alloc (.cells (hpC y mo) 49)):=bA1;have hbh:=kP wq (.cells (hpC y mo) 49);have HS2:=uH (hI.o.keep hW);have HBo:=uH hbo;clear hrc hkL hk hkn hb4 hI hbo;go_upto_region 8 with fail
  generalize wq.alloc (.cells (hpC y mo) 49)=W at *;have c0:=zaa hbh 0 (iV y.k) rfl;have c5:=zaa hbh 5 (iV y.o.v) rfl;clear hrd
  go_cut [64] (fun z wc=>z=.bool (goP y)/\wc=W)
  case first=>
   by_cases h1:y.k=1
   {
   have d1: (y.k !=1)=false:=by simp [h1]
   by_cases h2:y.o.v=2
   {
   have d2: (y.o.v !=2)=false:=by simp [h2]
   have HG:Hd (goP y=false):=by show _=_;unfold goP;simp [h1,h2]
   clear h1 h2;go_wp2_with fail
   go_meet
   case rel=>exact⟨by rw [HG.o],rfl⟩ }
   {
   have d2: (y.o.v !=2)=true:=by simpa using h2
   have HG:Hd (goP y=true):=by show _=_;unfold goP;simp [h2]
   clear h1 h2;go_wp2_with fail
   go_meet
   case rel=>exact⟨by rw [HG.o],rfl⟩ } }
   {
   have d1: (y.k !=1)=true:=by simpa using h1
   have HG:Hd (goP y=true):=by show _=_;unfold goP;simp [h1]
   clear h1;go_wp2_with fail
   go_meet
   case rel=>exact⟨by rw [HG.o],rfl⟩ }
  case rest=>
   obtain ⟨rfl,hwc⟩:=hcut;replace hwc:=hwc.symm;subst hwc;clear c0 c5
   by_cases hg:goP y=true
   {
   rw [hg];rw [hg,KK rfl] at HX;obtain ⟨vy,hvy,-⟩:=HS2.o.row;obtain ⟨g,cap,w9,hr,hown,hc,-⟩:=zed (P:=Tryz.prog) W 61 49 w4.heap.size iH _ 10 160 Tryz.underlying61 hiH hz0 hz1 hz2 rfl (by omega) (by omega) _ _ vy hvy (hpC y mo) rfl (by simp [hpC,Value.oneCell']) (by have:=HK.o;omega) HS2.o.bel.size;have HI2:Hd (SJ w4 w4 (lk++ [y]) (sV g (lk.length+1) cap) w9):=by
    refine HS2.o.app (l2:= [y]) (cs:=(hpC y mo).toList) hc ⟨(hpC y mo).toList, [],by simp,⟨mo,rfl,HBo.o⟩,rfl⟩ (fun us hus=> ?_);obtain rfl:=zfg hus hvy;exact hown
   have bx:bk W wq.heap.size=some (.cells (hpC y mo) 49 (0,0)):=hbh;have HR:=uH hr;unfold hpC at bx HR;clear hr hown hc hvy hg hbh HS2
   go_wp2_with (at_builtin;refine Lib.wpList_append_run _ rfl _ _ 61 61 rfl _ _ rfl rfl _ _ HR.o ?_)
   go_roundw
   case rel=>exact⟨_,k+1,lk++ [y],rfl,HK.o,by go_num,HI2,by show _=_;rw [HX.o]⟩
   case measure=>have:=HK.o;simp [intOf];omega }
   {
   have hg' :goP y=false:=by simpa using hg
   rw [hg'];rw [KJ hg,List.append_nil] at HX;clear hg hg' hbh;go_wp2_with fail
   go_roundw
   case rel=>exact⟨_,k+1,lk,rfl,HK.o,by go_num,HS2,by show _=_;rw [HX.o]⟩
   case measure=>have:=HK.o;simp [intOf];omega } }
  {
  have hkk: ¬(k:Int)<ns:=by omega
  have hP2:lk=L.filter goP:=by rw [hP.o,kh (by rw [HSL.o];omega)]
  have hl160:lk.length<=160:=by omega
  have HGr:=uH (go_run HC.o HKK.o lk F (by rw [hP2,<-HOs.o];exact HIn.o) HGo.o);have HIr:=uH (zy1 lk 10 F HIv.o);have hrs:runS F lk= (lk.foldl stp F,(runL F lk).2,0):=by
   unfold runS;rw [KJ (by rw [HIv.o.ok];simp),KJ (by omega),zw9]
  have hbq:=hI.o.bel;have HBq:=uH (bT HW4.o hbq);have HB1q:=uH (bT HB14.o hbq);have h5:=zab HOx.o hbq;have hV5:=HV4.o.bl hbq;obtain ⟨vz,hvz,-⟩:=hI.o.row;obtain ⟨aa,ca,rfl⟩:=zbk hvz;have HRun:=uH (zy0 F m lk aa lk.length ca wq (hV5.wide fun _ e=>e.elim) (HT.o.bl HBq.o) (hI.o.rin hbq rfl (by omega)));rw [hrs] at HRun;unfold vhv at HRun;have k5:=bk_v h5;have HO5:=uH h5;have hG:10+(lk.length:Int)+900<60000:=by omega
  have HGG:=uH hG;have HSm:Hd (Sm wq w1.heap.size):=⟨_,_,h5,by show 15<192;decide⟩;generalize lk.foldl stp F=R at *;generalize (lk.length:Int)=Ln at *;clear hI hP hP2 hrs hbq hV5 hvz h5 hkn hk hlk hG HIn HIv HGo HR1 HR2 HSL HV4 HW4 HOx HB14;go_upto_region 11 with fail
  go_wp2_with fail;refine(zae HRun).mono ?_;rintro e w5 ⟨⟨m5,ra,rn,rc,rfl,hv5,-,-⟩,hb5⟩;unfold vhv;clear HRun k5;have h5:=zab HO5.o hb5;have k6:=bk_v h5;have ch:=zcv w5 w1.heap.size (vhC R m5);have HO6:=uH (setRow_heap w5 w1.heap.size _ (vhC R m5) _ _ h5);have hw5:=bT HBq.o hb5;have HW6:=uH (hw5.trans (ch.bl (fun b e=>by have:=HB1.o;omega) hw5.size));have h15:=bT HB1q.o hb5;have HB16:=uH (h15.trans (ch.bl (fun b e=>by omega) h15.size));have HV6:=uH ((hv5.wide (K' :=fun b=>b=w1.heap.size) fun b e=>.inl (by rw [e];exact⟨zak HO5.o,HSm.o⟩)).chg ch);clear h5 ch hw5 hv5 hb5 h15 HO5 HBq HB1q HSm;go_upto_region 14 with fail
  generalize w5.setRow w1.heap.size (vhC R m5)=W6 at *;clear k6;have HTr:=uH (zyw R m5 W6 HV6.o (fun b e=>by rw [e];exact zak HO6.o) (HT.o.bl HW6.o) HIr.o (by have:=HGG.o;omega));have HEn:=uH (zxf HIr.o (by have:=HGG.o;omega));have HGs:=uH (fun h1 h2=>zyy HKK.o HIr.o HGG.o HGr.o HFl.o h1 h2);generalize tourS R=Y at *;unfold vhv at HTr;have k6:=bk_v HO6.o;clear HIr HGr;go_wp2_with fail;refine(zae HTr).mono ?_;rintro e w7 ⟨m7,rfl,hv7,hb7⟩;clear HTr k6;have h7:=zab HO6.o hb7;have k7:=bk_v h7;have ch:=zcv w7 w1.heap.size (vhC Y m7);have HO8:=uH (setRow_heap w7 w1.heap.size _ (vhC Y m7) _ _ h7);have hw7:=bT HW6.o hb7;have HW8:=uH (hw7.trans (ch.bl (fun b e=>by have:=HB1.o;omega) hw7.size));have h17:=bT HB16.o hb7;have HB18:=uH (h17.trans (ch.bl (fun b e=>by omega) h17.size));have HV8:=uH ((hv7.wide (K' :=fun b=>b=w1.heap.size) fun b e=>.inl (.inr e)).chg ch);clear h7 ch hw7 hv7 hb7 h17 HO6 HV6 HW6 HB16;go_upto_region 17 with fail
  generalize w7.setRow w1.heap.size (vhC Y m7)=W8 at *;clear k7;have g1:=zve HO8.o;have HR1:=uH (zh0 Y.g m7.g W8 HV8.o.g);rw [zud,zt2 (vg_of HEn.o.ok).gt] at HR1;have hs8:=(zrr Y.g.ws).n;generalize hs:gOf Y.g.ws=s at *;have HSs:=uH hs;clear hs;unfold gsv at HR1;go_wp2_with fail;refine(zae HR1).mono ?_;rintro e w9 ⟨rfl,hb9⟩;clear HR1 g1;have hb10:bZ w9 (w9.alloc (.cells (aS s) 72)):=bA1;have HA:=uH (kP w9 (.cells (aS s) 72));have hb8:=bT hb9 hb10;have HO9:=uH (zab HO8.o hb8);have HV9:=uH (HV8.o.bl hb8);have HW9:=uH (bT HW8.o hb8);have HB19:=uH (bT HB18.o hb8);clear hb9 hb10 hb8 HO8 HV8 HW8 HB18;go_upto_region 20 with fail
  generalize w9.alloc (.cells (aS s) 72)=W9 at *;have a0:=zaa HA.o 0 (iV s.n) rfl;have a14:=zaa HO9.o 14 (iV Y.now) rfl
  by_cases h8:s.n=8
  {
  have d: (s.n==8)=true:=by simpa using h8
  clear h8 a14 hs8;go_wp2_with fail;go_ret;exact⟨rfl,HW9.o⟩ }
  have d8: (s.n==8)=false:=by simpa using h8
  by_cases hn:100<Y.now
  {
  clear h8 hs8;go_wp2_with fail;go_ret;exact⟨rfl,HW9.o⟩ }
  have HG:=uH (HGs.o h8 (by omega));clear HGs h8;go_upto_region 22 with fail
  clear a14 d8 hn;have HM22:=uH a0;clear a0
  go_cut [15] (fun z wc=>z=iV 9/\Hd (bZ W9 wc))
  case first=>
   have hd:bZ W9 W9.drew:=(kS _ _).drew;have ha0:bZ W9 (W9.alloc (.cells (vhC vh0 va0) 40)):=bA1;have ha:bZ W9 (W9.alloc (.cells (vhC vh0 va0) 40)).drew:=ha0.drew;have HDo:=uH (fun W' (hb:bZ W9 W')=>zyq Y m7 ⟨1,0,0,o2⟩ mo2 W' ((HV9.o.bl hb).wide fun _ e=>e.elim) (HT.o.bl (bT HW9.o hb)) (HBo2.o.bl (bT HB19.o hb)));unfold vhv DoAns at HDo;simp only [zys,HG.o.no] at HDo;have kB:=bk_v HO9.o;have kC:=bk_v (zab HO9.o ha0);have y1:=HRd2.o _ (bT HB19.o hd);have y2:=HRd2.o _ (bT HB19.o ha);clear HO9 HV9 HG HRd2 HRd1 HIm HEn
   go_region_with (go_at_call 11;refine(zae HDo _ (by first|exact hd|exact ha)).mono ?_;rintro e w10 ⟨⟨m10,rfl,hv10⟩,hb10⟩;unfold vhv;try(have kz:bk w10 W9.heap.size=some (.cells (vhC vh0 va0) 40 (0,0)):=box_new hb10))
   all_goals
    go_wp2_with fail
    go_meet
    case rel=>
     first
     |exact⟨rfl,((bT hd hb10).alloc (kc hd.size hb10.size) _)⟩
     |exact⟨rfl,(bT ha hb10).trans ((zcv _ _ _).bl (fun b e=>Kg e.symm) (kc ha.size hb10.size))⟩
  case rest=>
   obtain ⟨W10,rfl⟩: ∃W10:World,W10=wc:=⟨_,rfl⟩;obtain ⟨rfl,HX⟩:=hcut;have HO10:=uH (zab HO9.o HX.o);have HV10:=uH (HV9.o.bl HX.o);have HW10:=uH (bT HW9.o HX.o);have HB110:=uH (bT HB19.o HX.o);have HA10:=uH (zab HA.o HX.o);clear HO9 HV9 HW9 HB19 HX HA HM22 HRd2 HBo2;go_upto_region 25 with fail
   obtain ⟨Q,hQ⟩: ∃Q,Q= (doS' Y ⟨1,0,0,o1⟩).1:=⟨_,rfl⟩
   go_cut [16,12] (fun p z wc=>∃(B2:Nat) (mq:VA),p=.pointer (some ⟨B2,0,none⟩)/\z=iV 0/\Hd (W10.heap.size<=B2/\bZ W10 wc/\wc.heap[B2]?=some (vhO Q mq)/\VIn wc (fun b=>b=B2) mq Q))
   case first=>
    have hd:bZ W10 W10.drew:=(kS _ _).drew;have ha0:bZ W10 (W10.alloc (.cells (vhC vh0 va0) 40)):=bA1;have ha:bZ W10 (W10.alloc (.cells (vhC vh0 va0) 40)).drew:=ha0.drew;have HDo:=uH (fun W' (hb:bZ W10 W')=>zyq Y m7 ⟨1,0,0,o1⟩ mo1 W' ((HV10.o.bl hb).wide fun _ e=>e.elim) (HT.o.bl (bT HW10.o hb)) (HBo1.o.bl (bT HB110.o hb)));unfold vhv DoAns at HDo;simp only [zys,HG.o.yes,<-hQ] at HDo;have kB:=bk_v HO10.o;have kC:=bk_v (zab HO10.o ha0);have y1:=HRd1.o _ (bT HB110.o hd);have y2:=HRd1.o _ (bT HB110.o ha);have hs1: (W10.alloc (.cells (vhC vh0 va0) 40)).drew.heap.size=W10.heap.size+1:=by simp
    clear HO10 HV10 HG HRd1 HIm HEn hQ
    go_region_with (go_at_call 11;refine(zae HDo _ (by first|exact hd|exact ha)).mono ?_;rintro e w11 ⟨⟨m11,rfl,hv11⟩,hb11⟩;unfold vhv;try(have kz:bk w11 W10.heap.size=some (.cells (vhC vh0 va0) 40 (0,0)):=box_new hb11))
    all_goals
     go_wp2_with fail
     go_meet
     case rel=>
      first
      |exact⟨_,m11,rfl,rfl,kc hd.size hb11.size,((bT hd hb11).alloc (kc hd.size hb11.size) _),kP _ _,(hv11.wide fun b e=>.inr (Kg e.symm)).bl (bA1)⟩
      |exact⟨_,m11,rfl,rfl,kQ _,(bT ha hb11).trans ((zcv _ _ _).bl (fun b e=>Kg e.symm) (kc ha.size hb11.size)),setRow_heap _ _ _ _ _ _ kz,(hv11.wide fun b e=>.inl (by rw [e,hs1];exact Nat.lt_succ_self _)).chg (zcv _ _ _)⟩
   case rest=>
    obtain ⟨W11,rfl⟩: ∃W11:World,W11=wc:=⟨_,rfl⟩;obtain ⟨B2,mq,rfl,rfl,HI11⟩:=hcut;have hb01:=HI11.o.2.1;have HB11:=uH (bT HB110.o hb01);have HW11:=uH (bT HW10.o hb01);have HA11:=uH (zab HA10.o hb01);have HL2:Hd (w9.heap.size<B2/\w.heap.size<=B2/\w1.heap.size<=B2):=by
     have h1:=zak HA10.o;have h2:=HI11.o.1;have h3:=HW10.o.size;have h4:=HB110.o.size;exact⟨by omega,by omega,by omega⟩
    have hQi:=HG.o.inv;have hQu:=HG.o.us;rw [<-hQ] at hQi hQu;rw [HSs.o] at hQu;have hGt:10+Ln+301+500<60000:=by have:=HGG.o;omega
    have HTr:=uH (zyw Q mq W11 HI11.o.2.2.2 (fun b e=>by rw [e];exact zak HI11.o.2.2.1) (HT.o.bl HW11.o) hQi hGt);have hTi:=(zw7 hQi hGt).tr.ts.inv;have hu4: (tourS Q).us.length<=4:=hTi.vg.u4.2;have hnf: (tourS Q).us.length=o1.imgs.length:=by obtain ⟨C,P,hI,-⟩:=hTi;rw [hI.nf,HFl.o,HKK.o.n.2.2]
    have HUs:=uH hQu;clear hQi hQu hTi hQ HG;generalize tourS Q=Z at *;unfold vhv at HTr;have k11:=bk_v HI11.o.2.2.1;have HO11:=uH HI11.o.2.2.1;clear hb01 HI11 HO10 HV10 HW10 HB110 HA10 HT HRd1;go_upto_region 28 with fail
    go_wp2_with fail;refine(zae HTr).mono ?_;rintro e w12 ⟨m12,rfl,hv12,hb12⟩;clear HTr k11;have h12:=zab HO11.o hb12;have k12:=bk_v h12;have ch:=zcv w12 B2 (vhC Z m12);have HO13:=uH (setRow_heap w12 B2 _ (vhC Z m12) _ _ h12);have hw12:=bT HW11.o hb12;have HW13:=uH (hw12.trans (ch.bl (fun b e=>by have:=HL2.o;omega) hw12.size));have h112:=bT HB11.o hb12;have HB13:=uH (h112.trans (ch.bl (fun b e=>by have:=HL2.o;omega) h112.size));have HV13:=uH ((hv12.wide (K' :=fun b=>b=B2) fun b e=>.inl (.inr e)).chg ch);have HA13:=uH (Chg.blk (zab HA11.o hb12) ch (by have:=HL2.o;omega));clear h12 ch hw12 hv12 hb12 h112 HO11 HW11 HB11 HA11;go_upto_region 31 with fail
    generalize w12.setRow B2 (vhC Z m12)=W13 at *;clear k12;have n11:=zaa HO13.o 11 (.slice m12.au m12.nu m12.cu) rfl;have hnu:=HV13.o.us.len;have hn4: (m12.nu:Int)<=4:=by omega
    go_upto_region 32 with fail
    clear n11
    go_loopw [134] (fun i wz=>∃j:Nat,j<=m12.nu/\i=iV j/\Hd (bZ W13 wz)) (fun i _=>m12.nu - (intOf i).toNat)
    case atStart=>exact⟨0,by omega,rfl,kS _ _⟩
    case round=>
     obtain ⟨wz,rfl⟩: ∃wz:World,wz=wr:=⟨_,rfl⟩;obtain ⟨j,hj,rfl,hZ⟩:=hrel
     by_cases hjn:j<m12.nu
     {
     have hjI: (j:Int)<m12.nu:=by omega
     have hjJ:0<=(j:Int):=by omega
     have HJ:Hd (j<m12.nu):=hjn;have hjm:j<o1.imgs.length:=by omega
     obtain ⟨u,hu⟩: ∃u,Z.us[j]?=some u:=⟨_,kX (by omega)⟩;obtain ⟨y1,y2,y3,y4⟩:=HUs.o j u hu;rw [ka,kX hjm] at y3;obtain ⟨b5,o5,ai,ci,e5,c5,i5,l5,l6⟩:=zfd HBo1.o.imgs.at_ j hjm;have hn5: (j:Int)<mo1.n5:=by have:=HBo1.o.imgs.len;omega
     have him:=HIm.o;rw [e5] at him;obtain ⟨b,off,xa,xn,xc,eb,hbw,rd⟩:=zye (HV13.o.bl hZ.o) hu;have hWa:bZ wz (wz.alloc (.cells (unC u xa xn xc) 82)):=bA1;have bu:=uH (kP wz (.cells (unC u xa xn xc) 82));have HZa:=uH (bT hZ.o hWa);have HBw:=uH (hbw.bl hWa);have hwl:=zzb u;have hwm: (o1.imgs[j]).length<=maxLen:=by omega
     obtain ⟨im,him2⟩: ∃im,im=o1.imgs[j]:=⟨_,rfl⟩;rw [<-him2] at c5 i5 hwm;have y3' : (runsS u).1=im:=by rw [him2];exact y3
     generalize hrr:runsS u=rr at *;obtain ⟨rw_,rn_,re_⟩:=rr;dsimp only at y3' y4;subst y3' y4;have HRn:=uH (zn0 u xa xn xc _ HBw.o);rw [zx9,hrr] at HRn;unfold Shows at HRn;dsimp only at HRn;have HC5:=uH (fun W (hW:bZ w1 W)=>(hW.cell (zah c5)).trans c5);have HI5:=uH i5;have HC6:=uH him;have Y1:=uH y1;have Y2:=uH y2;simp only [eb];clear hu hbw eb hWa hjn hj hZ y1 y2 y3 c5 i5 l5 l6 him hjm him2 hwl e5 hrr;go_upto_region 34 with fail
     generalize wz.alloc (.cells (unC u xa xn xc) 82)=Wa at *;have k9:bk Wa wz.heap.size=some (.cells (unC u xa xn xc) 82 (0,0)):=bu.o;clear rd;go_wp2_with fail;refine(zae HRn).mono ?_;rintro e w14 ⟨⟨ra,rn,rc,rfl,hri,rfl,-,-⟩,hb14⟩;clear HRn k9;have k10:bk w14 wz.heap.size=some (.cells (unC u xa xn xc) 82 (0,0)):=zab bu.o hb14;have HRd:=uH (zm7 u xa xn xc w14 (HBw.o.bl hb14));rw [zx9,zx1 Y1.o] at HRd;unfold usv at HRd;rw [Y2.o] at HRd;generalize stOf u.ws=t2 at *;have HZb:=uH (bT HZa.o hb14);have HRi:=uH hri;clear hb14 hri HZa HBw bu;go_upto_region 35 with fail
     go_wp2_with fail;refine(zae HRd).mono ?_;rintro e w15 ⟨rfl,hb15⟩;clear HRd k10;have hb16:bZ w15 (w15.alloc (.cells #[iV t2.slot,iV (s.n+1),iV t2.rdy] 84)):=bA1;have ht:=kP w15 (.cells #[iV t2.slot,iV (s.n+1),iV t2.rdy] 84);have hbc:=bT hb15 hb16;have HZc:=uH (bT HZb.o hbc);have HRj:=uH (HRi.o.bl hbc);clear hb15 hb16 hbc HZb HRi;go_upto_region 36 with fail
     generalize w15.alloc (.cells #[iV t2.slot,iV (s.n+1),iV t2.rdy] 84)=Wc at *;have a1:=zaa ht 1 (iV (s.n+1)) rfl;have a0:ce Wc w9.heap.size 0=some (iV s.n):=zaa (zab HA13.o HZc.o) 0 _ rfl;have h1c:=bT HB13.o HZc.o;have c6:=HC6.o _ h1c;have c5:=HC5.o _ h1c;have HQ:=uH (zl3 ra ai rc ci rw_ rw_ Wc HRj.o (HI5.o.bl h1c) hwm hwm);rw [show eqL rw_ rw_=true by unfold eqL;simp] at HQ;clear ht h1c;go_wp2_with fail;refine(zae HQ).mono ?_;rintro e w16 ⟨rfl,hdr,rfl⟩;have HZg:Hd (bZ W13 (Wc.drewN hdr)):=kA HZc.o hdr;clear HQ HRj HZc a1 a0 c6 c5;go_wp2_with fail
     go_roundw
     case rel=>exact⟨j+1,HJ.o,by go_num,HZg⟩
     case measure=>have:=HJ.o;simp [intOf];omega }
     {
     have hjj: ¬(j:Int)<m12.nu:=by omega
     have HE:=uH (bT HW13.o hZ.o);clear hjn hj hZ;go_wp2_with fail;go_ret;exact⟨rfl,HE.o⟩ } }
end
end Go.Proofs.YthmekfcgdfckaaaGreatDoor
