/- Facts. -/
import Derived.Test.YthmekfcgdfckaaaGreatDoorWz3
import Derived.Test.YthmekfcgdfckaaaGreatDoorWz4
import Derived.Maps.AppendAt
import Derived.Test.YthmekfcgdfckaaaGreatDoorWz5
set_option maxRecDepth 1000000
set_option maxHeartbeats 0
namespace Go.Proofs.YthmekfcgdfckaaaGreatDoor
open Go.RowKit
variable {ws xs us r l:LI} {w w' :World} {B n b s:Nat} {a:oA} {f k:Int} {keep rs:LL} {bs:List Bool}
section
attribute [local go_sem ↓] kM kO
def fitsA (ws r:LI):Bool:=zce (restS ws)&&decide (r.length< (restS ws).length)
def headP (ws:LI):Nat:=(secN ws+1)* 32 - (restS ws).length
def laidA (r:LI) (keep:LL):LI×Int:=laidS (keep++ [r]) []
def zg4 (ws r:LI) (keep:LL):List Stp:=
 if fitsA ws r=true then [.prg (headP ws+1) r,.prg (headP ws) [headS r.length]]
 else [.era (1 - secN ws),.prg ((1 - secN ws)* 32+1) (laidA r keep).1,.prg ((1 - secN ws)* 32) [genN ws+1]]
def zcp (ws:LI) (fuel:Int) (r:LI) (keep:LL):Int:=
 if lchk ws fuel≠0 then lchk ws fuel else if recE r≠0 then recE r else if(laidA r keep).2≠0 then(laidA r keep).2
 else if fitsA ws r=false/\genN ws=60000 then 8 else 0
def appS (ws:LI) (fuel:Int) (r:LI) (keep:LL):LI×Int×Int:=
 if zcp ws fuel r keep≠0 then([],0,zcp ws fuel r keep) else turnS (zg4 ws r keep) ws fuel
theorem zsb (rs:LL) (xs:LI) (h:xs.length<=31): (laidS rs xs).1.length<=31:=by
 induction rs generalizing xs with
 |nil=>exact h
 |cons r rs ih=>
  by_cases e:addE xs r=0
  { rw [zex e];exact ih _ (zop e) }
  {
  rw [zet e];simp }
theorem zrt (h:64<=ws.length): (restS ws).length<=31:=by
 have: ∀(k:Nat) (l:LI),(zb6 k l).2.length<=l.length:=by
  intro k
  induction k with
  |zero=>intro l;simp [zb6]
  |succ k ih=>
   intro l;rw [zci]
   split
   { simp }
   {
   have:=ih (l.drop (1+longS l))
   simp at this|-
   omega }
 have h2:=this (secL ws (secN ws)).length (secL ws (secN ws))
 rcases zgk ws with h3|h3
 { rw [zc6 (by omega)] at h2;unfold restS za7;rw [zc6 (by omega)];exact h2 }
 {
 rw [zc6 (by omega)] at h2;unfold restS za7;rw [zc6 (by omega)];exact h2 }
theorem ziu (h:okL ws=true) (s:Nat) (hs:s * 32<ws.length):0<=genS ws s:=by
 unfold genS
 split
 { omega }
 {
 have:=zk3 h (s * 32) hs;simp only [okW,KF] at this;omega }
theorem zo5 (h:okL ws=true) (h2:64<=ws.length):0<=genN ws:=by
 unfold genN
 split
 { exact ziu h 1 (by omega) }
 {
 exact ziu h 0 (by omega) }
theorem zjp (a:oA) (n c:Nat) (ws:LI) (fuel:Int) (ar:oA) (nr cr:Nat) (r:LI) (ak:oA) (nk ck:Nat) (keep:LL) (w:World) (h:zag w a ws) (hn:ws.length=n) (hcap:n<=c) (hm:n<=maxLen)
 (hr:zag w ar r) (hnr:r.length=nr) (hmr:nr<=maxLen) (hk:zck w ak keep) (hnk:keep.length=nk) (hmk:nk<=maxLen):
 Cq 258 #[.agg #[.slice a n c,iV fuel],.slice ar nr cr,.slice ak nk ck] w (zbf w (appS ws fuel r keep)):=by
 have HC:=uH (fun W (h:zag W a ws)=>zd5 a n c ws fuel W h hn hm);have HR:=uH (fun W (h:zag W ar r)=>zf3 ar nr cr r W h hnr hmr);have HLd:=uH (fun W (hk:zck W ak keep) (h:zag W ar r)=>laid_any ak nk ck keep ar nr cr r W hk hnk hmk h hnr hmr);have HG:=uH (fun W (h:zag W a ws) (h64:64<=n)=>zfv a n c ws fuel W h hn hm h64);have HP:=uH (fun W (h:zag W a ws) (hm:n<=192) (hok:okL ws=true) (h64:64<=n)=>zmb a n c ws fuel (secN ws) W h hn hcap hm hok (zgk ws) h64);have HT:=uH (fun W al L cl sts (h:zag W a ws) (hs:zd0 W al sts) (hL:sts.length=L) (hL1:1<=L) (hL2:L<=100)=>zkr a n c ws fuel al L cl sts W h hn hm hs hL hL1 hL2);have b0: ((w.alloc (.cells #[.slice a n c,iV fuel] 28)).alloc (.cells #[nV,iV 0] 28)).heap[w.heap.size]?=some (.cells #[.slice a n c,iV fuel] 28 (0,0)):=
  zai (kP _ _) _
 have b2: ((w.alloc (.cells #[.slice a n c,iV fuel] 28)).alloc (.cells #[nV,iV 0] 28)).heap[w.heap.size+1]?=some (.cells #[nV,iV 0] 28 (0,0)):=
  by simpa using kP (w.alloc _) _
 have hw:bZ w ((w.alloc (.cells #[.slice a n c,iV fuel] 28)).alloc (.cells #[nV,iV 0] 28)):=
  bA2
 have i0:=h.bl hw;have i1:=hr.bl hw;have i2:=hk.bl hw;have B0:=uH b0;have B2:=uH b2;have HN:=uH hn;have HNR:=uH hnr;clear b0 b2 hn hnr hnk h hr hk;have HAE:=uH (show appS ws fuel r keep=if zcp ws fuel r keep≠0 then([],0,zcp ws fuel r keep) else turnS (zg4 ws r keep) ws fuel from rfl);go_enter Tryz.func258,Tryz.ntmps258;go_wp2_with fail;generalize (w.alloc (.cells #[.slice a n c,iV fuel] 28)).alloc (.cells #[nV,iV 0] 28)=W at *;refine(zae HC _ i0).mono ?_;rintro e w1 ⟨rfl,hb1⟩;replace B0:=uH (zab B0.o hb1);replace B2:=uH (zab B2.o hb1);replace i0:=i0.bl hb1;replace i1:=i1.bl hb1;replace i2:=i2.bl hb1;replace hw:=bT hw hb1;clear hb1
 by_cases e1:lchk ws fuel=0
 rotate_left
 {
 have e1' : (lchk ws fuel !=0)=true:=by simpa using e1
 have he:Hd (appS ws fuel r keep= ([],0,lchk ws fuel)):=by
  have:zcp ws fuel r keep=lchk ws fuel:=by unfold zcp;rw [KK e1]
  show _=_
  rw [HAE.o,this,KK e1]
 have y0:=zaa B2.o 0 _ rfl;have y1:=zaa B2.o 1 _ rfl;have f0:=zad B2.o 0;have f1:=zad B2.o 1;go_wp2;refine kT (v:=.tuple #[.agg #[nV,iV 0],iV (lchk ws fuel)]) (by simp [results,Tryz.results258,go_sem,y0,y1]) rfl ?_;exact zaz he.o ((hw.setCell (by simp) _).setCell (by simp) _) }
 have e1' : (lchk ws fuel !=0)=false:=by simpa using e1
 have E1:=uH e1;have parts:=zdm e1;rw [HN.o] at parts;have hrest: (restS ws).length<=31:=zrt (by rw [HN.o];exact parts.2.1);have hlaid: (laidA r keep).1.length<=31:=zsb _ _ (by simp);clear e1;go_wp2_with fail;refine(zae HR _ i1).mono ?_;rintro e w2 ⟨rfl,rfl⟩
 by_cases e2:recE r=0
 rotate_left
 {
 have e2' : (recE r !=0)=true:=by simpa using e2
 have he:Hd (appS ws fuel r keep= ([],0,recE r)):=by
  have:zcp ws fuel r keep=recE r:=by unfold zcp;rw [KJ (by simpa using E1.o),KK e2]
  show _=_
  rw [HAE.o,this,KK e2]
 have y0:=zaa B2.o 0 _ rfl;have y1:=zaa B2.o 1 _ rfl;have f0:=zad B2.o 0;have f1:=zad B2.o 1;go_wp2;refine kT (v:=.tuple #[.agg #[nV,iV 0],iV (recE r)]) (by simp [results,Tryz.results258,go_sem,y0,y1]) rfl ?_;exact zaz he.o ((hw.setCell (by simp) _).setCell (by simp) _) }
 have e2' : (recE r !=0)=false:=by simpa using e2
 have E2:=uH e2;have rparts:=zsa e2;rw [HNR.o] at rparts;clear e2;go_wp2_with fail;refine(zae HLd _ i2 i1).mono ?_;rintro e w3 ⟨⟨a3,n3,c3,rfl,hi3,hn3,hc3,hf3⟩,hb3⟩;replace B0:=uH (zab B0.o hb3);replace B2:=uH (zab B2.o hb3);replace i0:=i0.bl hb3;replace i1:=i1.bl hb3;replace hw:=bT hw hb3;have HN3:Hd ((laidA r keep).1.length=n3):=hn3;have hn31:n3<=31:=by rw [<-HN3.o];exact hlaid
 obtain ⟨la,hla⟩: ∃la,la=laidA r keep:=⟨_,rfl⟩;have hla' :laidS (keep++ [r]) []=la:=by rw [hla];rfl
 rw [hla'] at hi3 hn3|-;clear hb3 hn3 hf3 hla';have HLA:=uH hla;clear hla
 by_cases e3:la.2=0
 rotate_left
 {
 have e3' : (la.2 !=0)=true:=by simpa using e3
 have he:Hd (appS ws fuel r keep= ([],0,la.2)):=by
  have:zcp ws fuel r keep=la.2:=by unfold zcp;rw [KJ (by simpa using E1.o),KJ (by simpa using E2.o),<-HLA.o,KK e3]
  show _=_
  rw [HAE.o,this,KK e3]
 have y0:=zaa B2.o 0 _ rfl;have y1:=zaa B2.o 1 _ rfl;have f0:=zad B2.o 0;have f1:=zad B2.o 1;clear e3;go_wp2;refine kT (v:=.tuple #[.agg #[nV,iV 0],iV la.2]) (by simp [results,Tryz.results258,go_sem,y0,y1]) rfl ?_;exact zaz he.o ((hw.setCell (by simp) _).setCell (by simp) _) }
 have e3' : (la.2 !=0)=false:=by simpa using e3
 have E3:=uH e3;have HE:Hd (zcp ws fuel r keep=if fitsA ws r=false/\genN ws=60000 then 8 else 0):=by
  show _=_
  unfold zcp;rw [KJ (by simpa using E1.o),KJ (by simpa using E2.o),<-HLA.o,KJ (by simpa using e3)]
 rw [e3];clear e3;have c00:=zaa B0.o 0 _ rfl;have c01:=zaa B0.o 1 _ rfl;go_wp2_with fail;refine(zae HG _ i0 parts.2.1).mono ?_;rintro e w4 ⟨rfl,hb4⟩;replace B0:=uH (zab B0.o hb4);replace B2:=uH (zab B2.o hb4);replace i0:=i0.bl hb4;replace i1:=i1.bl hb4;replace hi3:=hi3.bl hb4;replace hw:=bT hw hb4;clear hb4 c00 c01;have c00:=zaa B0.o 0 _ rfl;have c01:=zaa B0.o 1 _ rfl;go_wp2_with fail;refine(zae HP _ i0 parts.2.2.1 parts.2.2.2.1 parts.2.1).mono ?_;rintro e w5 ⟨⟨v,a5,m5,cc5,rfl,hmk5,hi5,hn5,hm5,hok5⟩,hb5⟩;obtain ⟨av,cv,rfl,_,_,_⟩:=hmk5.isRecs;replace B0:=uH (zab B0.o hb5);replace B2:=uH (zab B2.o hb5);replace i0:=i0.bl hb5;replace i1:=i1.bl hb5;replace hi3:=hi3.bl hb5;replace hw:=bT hw hb5;have HRest:Hd ((restS ws).length=m5):=hn5;have hc5:=uH (fun W (h:zag W a5 (restS ws))=>clean_any a5 m5 cc5 (restS ws) W h hn5 (by unfold maxLen;omega));have HI5:Hd (zag w5 a5 (restS ws)):=hi5;clear hb5 hn5 hi5 hmk5 c00 c01 hok5;have x0:=zaa B0.o 0 _ rfl;have x1:=zaa B0.o 1 _ rfl;have y0:=zaa B2.o 0 _ rfl;have y1:=zaa B2.o 1 _ rfl;have f0:=zad B2.o 0;have f1:=zad B2.o 1;have lt0:=zak B0.o;have lt1:=zak B2.o;have HF:Hd (fitsA ws r= (zce (restS ws)&&decide (nr<m5))):=by show _=_;unfold fitsA;rw [HNR.o,HRest.o]
 have HHP:Hd (headP ws= (secN ws+1)* 32 - m5):=by show _=_;unfold headP;rw [HRest.o]
 have HA1:Hd (fitsA ws r=true->appS ws fuel r keep=turnS [.prg (headP ws+1) r,.prg (headP ws) [headS nr]] ws fuel):=fun hf=>by
  rw [HAE.o,HE.o,KJ (by simp [hf])];unfold zg4;rw [KK hf,HNR.o]
 have HA2:Hd (fitsA ws r=false->genN ws=60000->appS ws fuel r keep= ([],0,8)):=fun hf hg=>by
  have h8:zcp ws fuel r keep=8:=by rw [HE.o,KK ⟨hf,hg⟩]
  rw [HAE.o,h8,KK (by decide)]
 have HA3:Hd (fitsA ws r=false->genN ws≠60000->appS ws fuel r keep=turnS [.era (1 - secN ws),.prg ((1 - secN ws)* 32+1) la.1,.prg ((1 - secN ws)* 32) [genN ws+1]] ws fuel):=fun hf hg=>by
  rw [HAE.o,HE.o,KJ (by simp [hg])];unfold zg4;rw [KJ (by simp [hf]),<-HLA.o]
 rw [<-HLA.o] at HN3;have hgn:0<=genN ws:=zo5 parts.2.2.2.1 (by rw [HN.o];exact parts.2.1);obtain ⟨g,hg⟩: ∃g,g=genN ws:=⟨_,rfl⟩;rw [<-hg] at HA2 HA3 parts hgn|-;have hs01:=zgk ws;obtain ⟨s,hs⟩: ∃s,s=secN ws:=⟨_,rfl⟩;rw [<-hs] at HA3 HHP hs01|-;obtain ⟨hp,hhp⟩: ∃p,p=headP ws:=⟨_,rfl⟩;rw [<-hhp] at HA1 HHP;have hhpe:hp= (s+1)* 32 - m5:=HHP.o;clear hs hg hhp HHP HE HAE;have hg0:0<=g:=hgn;have nn:=World.new_ne w5 ⟨w.heap.size,0,none⟩ x0;go_upto_region 12 with fail
 go_cut [60] (fun v60 wx=>v60=.bool (zce (restS ws)&&decide (nr<m5))/\wx=w5)
 case first=>
  go_wp2_with fail;refine(zae hc5 _ HI5.o).mono ?_;rintro e w6 ⟨rfl,rfl⟩;cases hcl:zce (restS ws)
  {
  go_wp2
  go_meet
  case rel=>exact⟨congrArg Value.bool (by simp [hcl]),rfl⟩ }
  {
  by_cases hlt:nr<m5
  {
  have hlt' : (nr:Int)< (m5:Int):=by omega
  go_wp2
  go_meet
  case rel=>exact⟨congrArg Value.bool (by simp [hcl,hlt]),rfl⟩ }
  {
  have hlt' : ¬(nr:Int)< (m5:Int):=by omega
  go_wp2
  go_meet
  case rel=>exact⟨congrArg Value.bool (by simp [hcl,hlt]),rfl⟩ } }
 case rest=>
  obtain ⟨rfl,hwc⟩:=hcut;subst hwc;obtain ⟨w5,rfl⟩: ∃w5:World,w5=wc:=⟨_,rfl⟩;cases hfA:fitsA ws r;rotate_left
  {
  have hfit:zce (restS ws)=true/\nr<m5:=by have:=HF.o;rw [hfA] at this;simpa using this.symm
  have HRes:=uH (HA1.o hfA);rw [<-HF.o,hfA];have hf:=uH (fun W=>zj9 ar nr cr W (by omega));clear hfA HA1 HA2 HA3 HF;have hlt:=hfit.2;clear hfit
  rcases hs01 with rfl|rfl
  {
  have hz0:True:=trivial;have hp1:hp+m5=32:=by omega
  have hpi: (32:Int)- (m5:Int)= (hp:Int):=by omega
  have hwr1:IntKind.i64.wrap ((hp:Int)+1)= (hp:Int)+1:=by rw [kD];omega
  clear hhpe;go_wp2_with fail
  go_region_held3 (fun w' =>w'.cell? ⟨w.heap.size,0,none⟩=some (.slice a n c)/\w'.cell? ⟨w.heap.size,1,none⟩=some (iV fuel)) (first|exact⟨by assumption,by assumption⟩| (refine zgf ?_ lt0 x0 x1;(repeat(first|exact kS _ _|refine kE ?_|refine kF ?_ (by simp<;>omega) _));done)|go_keep)
   ((first
    | (go_at_call 203;refine(zcl _ _ _ ⟨_,_,_,rfl⟩).mono ?_;rintro e w2 ⟨rfl,rfl⟩)
    | (go_at_call 288;refine(zae hf _).mono ?_;rintro e w2 ⟨rfl,rfl⟩)
    | (go_at_call 201;refine(zae HT _ _ 2 _ [.prg (hp+1) r,.prg hp [headS nr]] (i0.bl (by repeat(first|exact kS _ _|refine kE ?_|refine kF ?_ (by simp<;>omega) _))) (znc (by repeat(first| (refine zas ?_ rfl;simp;done)|refine zaq ?_)) (by repeat(first| (refine zas ?_ rfl;simp;done)|refine zaq ?_)) (zb4 (n:=nr) (by repeat(first| (refine zas ?_ rfl;simp;done)|refine zaq ?_)) (by repeat(first| (refine zas ?_ rfl;simp;done)|refine zaq ?_)) (i1.bl (by repeat(first|exact kS _ _|refine kE ?_|refine kF ?_ (by simp<;>omega) _))) HNR.o (by omega) (by omega)) (zb4 (n:=1) (by repeat(first| (refine zas ?_ rfl;simp;done)|refine zaq ?_)) (by repeat(first| (refine zas ?_ rfl;simp;done)|refine zaq ?_)) (zd7 (by repeat(first| (refine zas ?_ rfl;simp;done)|refine zaq ?_))) rfl (by omega) (by omega))) rfl (by decide) (by decide)).mono ?_;rintro e w6 ⟨⟨a6,n6,c6,rfl,hi6,hn6,hc6,hf6⟩,hb6⟩;have hb7:bZ w5 w6:=(Below.trans (by repeat(first|exact kS _ _|refine kE ?_|refine kF ?_ (by simp<;>omega) _)) (hb6.mono (by simp;omega)));have z0:w6.cell? ⟨w.heap.size,0,none⟩=some (.slice a n c):=(by rw [hb7.cell lt0];exact x0);have z1:w6.cell? ⟨w.heap.size,1,none⟩=some (iV fuel):=(by rw [hb7.cell lt0];exact x1);have q0:=zaa (zab B2.o hb7) 0 _ rfl;have q1:=zaa (zab B2.o hb7) 1 _ rfl;have q2:=zad (zab B2.o hb7) 0;have q3:=zad (zab B2.o hb7) 1;have hf7:zal w5.heap.size a6:=zal.mono hf6 (by simp;omega))))
  all_goals
   go_wp2;refine kT (v:=.tuple #[.agg #[.slice a6 n6 c6,iV (turnS [.prg (hp+1) r,.prg hp [headS nr]] ws fuel).2.1],iV (turnS [.prg (hp+1) r,.prg hp [headS nr]] ws fuel).2.2]) (by simp [results,Tryz.results258,go_sem,q0,q1]) rfl ?_;rw [HRes.o];have hw7:=bT hw hb7;exact⟨⟨a6,n6,c6,rfl,(hi6.other hf7 lt1 0 _).other hf7 lt1 1 _,hn6,hc6,zal.mono hf7 hw.size⟩,(hw7.setCell (by simp) _).setCell (by simp) _⟩ }
  {
  have hz0:True:=trivial;have hp1:hp+m5=64:=by omega
  have hpi: (64:Int)- (m5:Int)= (hp:Int):=by omega
  have hwr1:IntKind.i64.wrap ((hp:Int)+1)= (hp:Int)+1:=by rw [kD];omega
  clear hhpe;go_wp2_with fail
  go_region_held3 (fun w' =>w'.cell? ⟨w.heap.size,0,none⟩=some (.slice a n c)/\w'.cell? ⟨w.heap.size,1,none⟩=some (iV fuel)) (first|exact⟨by assumption,by assumption⟩| (refine zgf ?_ lt0 x0 x1;(repeat(first|exact kS _ _|refine kE ?_|refine kF ?_ (by simp<;>omega) _));done)|go_keep)
   ((first
    | (go_at_call 203;refine(zcl _ _ _ ⟨_,_,_,rfl⟩).mono ?_;rintro e w2 ⟨rfl,rfl⟩)
    | (go_at_call 288;refine(zae hf _).mono ?_;rintro e w2 ⟨rfl,rfl⟩)
    | (go_at_call 201;refine(zae HT _ _ 2 _ [.prg (hp+1) r,.prg hp [headS nr]] (i0.bl (by repeat(first|exact kS _ _|refine kE ?_|refine kF ?_ (by simp<;>omega) _))) (znc (by repeat(first| (refine zas ?_ rfl;simp;done)|refine zaq ?_)) (by repeat(first| (refine zas ?_ rfl;simp;done)|refine zaq ?_)) (zb4 (n:=nr) (by repeat(first| (refine zas ?_ rfl;simp;done)|refine zaq ?_)) (by repeat(first| (refine zas ?_ rfl;simp;done)|refine zaq ?_)) (i1.bl (by repeat(first|exact kS _ _|refine kE ?_|refine kF ?_ (by simp<;>omega) _))) HNR.o (by omega) (by omega)) (zb4 (n:=1) (by repeat(first| (refine zas ?_ rfl;simp;done)|refine zaq ?_)) (by repeat(first| (refine zas ?_ rfl;simp;done)|refine zaq ?_)) (zd7 (by repeat(first| (refine zas ?_ rfl;simp;done)|refine zaq ?_))) rfl (by omega) (by omega))) rfl (by decide) (by decide)).mono ?_;rintro e w6 ⟨⟨a6,n6,c6,rfl,hi6,hn6,hc6,hf6⟩,hb6⟩;have hb7:bZ w5 w6:=(Below.trans (by repeat(first|exact kS _ _|refine kE ?_|refine kF ?_ (by simp<;>omega) _)) (hb6.mono (by simp;omega)));have z0:w6.cell? ⟨w.heap.size,0,none⟩=some (.slice a n c):=(by rw [hb7.cell lt0];exact x0);have z1:w6.cell? ⟨w.heap.size,1,none⟩=some (iV fuel):=(by rw [hb7.cell lt0];exact x1);have q0:=zaa (zab B2.o hb7) 0 _ rfl;have q1:=zaa (zab B2.o hb7) 1 _ rfl;have q2:=zad (zab B2.o hb7) 0;have q3:=zad (zab B2.o hb7) 1;have hf7:zal w5.heap.size a6:=zal.mono hf6 (by simp;omega))))
  all_goals
   go_wp2;refine kT (v:=.tuple #[.agg #[.slice a6 n6 c6,iV (turnS [.prg (hp+1) r,.prg hp [headS nr]] ws fuel).2.1],iV (turnS [.prg (hp+1) r,.prg hp [headS nr]] ws fuel).2.2]) (by simp [results,Tryz.results258,go_sem,q0,q1]) rfl ?_;rw [HRes.o];have hw7:=bT hw hb7;exact⟨⟨a6,n6,c6,rfl,(hi6.other hf7 lt1 0 _).other hf7 lt1 1 _,hn6,hc6,zal.mono hf7 hw.size⟩,(hw7.setCell (by simp) _).setCell (by simp) _⟩ } }
  {
  rw [<-HF.o,hfA]
  by_cases hg6:g=60000
  {
  have HRes:=uH (HA2.o hfA hg6);subst hg6;clear hfA HA1 HA2 HA3 HF;go_wp2;refine kT (v:=.tuple #[.agg #[nV,iV 0],iV 8]) (by simp [results,Tryz.results258,go_sem,y0,y1]) rfl ?_;exact zaz HRes.o ((hw.setCell (by simp) _).setCell (by simp) _) }
  {
  have HRes:=uH (HA3.o hfA hg6);have hg6' : (g==60000)=false:=by simpa using hg6
  have hwr2:IntKind.i64.wrap (g+1)=g+1:=by rw [kD];omega
  clear hfA HA1 HA2 HA3 HF hg6
  rcases hs01 with rfl|rfl
  {
  have hz0:True:=trivial;go_wp2_with fail
  go_region_held3 (fun w' =>w'.cell? ⟨w.heap.size,0,none⟩=some (.slice a n c)/\w'.cell? ⟨w.heap.size,1,none⟩=some (iV fuel)) (first|exact⟨by assumption,by assumption⟩| (refine zgf ?_ lt0 x0 x1;(repeat(first|exact kS _ _|refine kE ?_|refine kF ?_ (by simp<;>omega) _));done)|go_keep)
   ((first
    | (go_at_call 202;refine(zg2 _ _).mono ?_;rintro e w2 ⟨rfl,rfl⟩)
    | (go_at_call 203;refine(zcl _ _ _ ⟨_,_,_,rfl⟩).mono ?_;rintro e w2 ⟨rfl,rfl⟩)
    | (go_at_call 201;refine(zae HT _ _ 3 _ [.era 1,.prg 33 la.1,.prg 32 [g+1]] (i0.bl (by repeat(first|exact kS _ _|refine kE ?_|refine kF ?_ (by simp<;>omega) _))) (zji (by repeat(first| (refine zas ?_ rfl;simp;done)|refine zaq ?_)) (by repeat(first| (refine zas ?_ rfl;simp;done)|refine zaq ?_)) (by repeat(first| (refine zas ?_ rfl;simp;done)|refine zaq ?_)) (ze2 (by repeat(first| (refine zas ?_ rfl;simp;done)|refine zaq ?_)) (by omega)) (zb4 (n:=n3) (by repeat(first| (refine zas ?_ rfl;simp;done)|refine zaq ?_)) (by repeat(first| (refine zas ?_ rfl;simp;done)|refine zaq ?_)) (hi3.bl (by repeat(first|exact kS _ _|refine kE ?_|refine kF ?_ (by simp<;>omega) _))) HN3.o (by omega) (by omega)) (zb4 (n:=1) (by repeat(first| (refine zas ?_ rfl;simp;done)|refine zaq ?_)) (by repeat(first| (refine zas ?_ rfl;simp;done)|refine zaq ?_)) (zd7 (by repeat(first| (refine zas ?_ rfl;simp;done)|refine zaq ?_))) rfl (by omega) (by omega))) rfl (by decide) (by decide)).mono ?_;rintro e w6 ⟨⟨a6,n6,c6,rfl,hi6,hn6,hc6,hf6⟩,hb6⟩;have hb7:bZ w5 w6:=(Below.trans (by repeat(first|exact kS _ _|refine kE ?_|refine kF ?_ (by simp<;>omega) _)) (hb6.mono (by simp;omega)));have z0:w6.cell? ⟨w.heap.size,0,none⟩=some (.slice a n c):=(by rw [hb7.cell lt0];exact x0);have z1:w6.cell? ⟨w.heap.size,1,none⟩=some (iV fuel):=(by rw [hb7.cell lt0];exact x1);have q0:=zaa (zab B2.o hb7) 0 _ rfl;have q1:=zaa (zab B2.o hb7) 1 _ rfl;have q2:=zad (zab B2.o hb7) 0;have q3:=zad (zab B2.o hb7) 1;have hf7:zal w5.heap.size a6:=zal.mono hf6 (by simp;omega))))
  all_goals
   go_wp2;refine kT (v:=.tuple #[.agg #[.slice a6 n6 c6,iV (turnS [.era 1,.prg 33 la.1,.prg 32 [g+1]] ws fuel).2.1],iV (turnS [.era 1,.prg 33 la.1,.prg 32 [g+1]] ws fuel).2.2]) (by simp [results,Tryz.results258,go_sem,q0,q1]) rfl ?_;rw [HRes.o];have hw7:=bT hw hb7;exact⟨⟨a6,n6,c6,rfl,(hi6.other hf7 lt1 0 _).other hf7 lt1 1 _,hn6,hc6,zal.mono hf7 hw.size⟩,(hw7.setCell (by simp) _).setCell (by simp) _⟩ }
  {
  have hz0:True:=trivial;go_wp2_with fail
  go_region_held3 (fun w' =>w'.cell? ⟨w.heap.size,0,none⟩=some (.slice a n c)/\w'.cell? ⟨w.heap.size,1,none⟩=some (iV fuel)) (first|exact⟨by assumption,by assumption⟩| (refine zgf ?_ lt0 x0 x1;(repeat(first|exact kS _ _|refine kE ?_|refine kF ?_ (by simp<;>omega) _));done)|go_keep)
   ((first
    | (go_at_call 202;refine(zg2 _ _).mono ?_;rintro e w2 ⟨rfl,rfl⟩)
    | (go_at_call 203;refine(zcl _ _ _ ⟨_,_,_,rfl⟩).mono ?_;rintro e w2 ⟨rfl,rfl⟩)
    | (go_at_call 201;refine(zae HT _ _ 3 _ [.era 0,.prg 1 la.1,.prg 0 [g+1]] (i0.bl (by repeat(first|exact kS _ _|refine kE ?_|refine kF ?_ (by simp<;>omega) _))) (zji (by repeat(first| (refine zas ?_ rfl;simp;done)|refine zaq ?_)) (by repeat(first| (refine zas ?_ rfl;simp;done)|refine zaq ?_)) (by repeat(first| (refine zas ?_ rfl;simp;done)|refine zaq ?_)) (ze2 (by repeat(first| (refine zas ?_ rfl;simp;done)|refine zaq ?_)) (by omega)) (zb4 (n:=n3) (by repeat(first| (refine zas ?_ rfl;simp;done)|refine zaq ?_)) (by repeat(first| (refine zas ?_ rfl;simp;done)|refine zaq ?_)) (hi3.bl (by repeat(first|exact kS _ _|refine kE ?_|refine kF ?_ (by simp<;>omega) _))) HN3.o (by omega) (by omega)) (zb4 (n:=1) (by repeat(first| (refine zas ?_ rfl;simp;done)|refine zaq ?_)) (by repeat(first| (refine zas ?_ rfl;simp;done)|refine zaq ?_)) (zd7 (by repeat(first| (refine zas ?_ rfl;simp;done)|refine zaq ?_))) rfl (by omega) (by omega))) rfl (by decide) (by decide)).mono ?_;rintro e w6 ⟨⟨a6,n6,c6,rfl,hi6,hn6,hc6,hf6⟩,hb6⟩;have hb7:bZ w5 w6:=(Below.trans (by repeat(first|exact kS _ _|refine kE ?_|refine kF ?_ (by simp<;>omega) _)) (hb6.mono (by simp;omega)));have z0:w6.cell? ⟨w.heap.size,0,none⟩=some (.slice a n c):=(by rw [hb7.cell lt0];exact x0);have z1:w6.cell? ⟨w.heap.size,1,none⟩=some (iV fuel):=(by rw [hb7.cell lt0];exact x1);have q0:=zaa (zab B2.o hb7) 0 _ rfl;have q1:=zaa (zab B2.o hb7) 1 _ rfl;have q2:=zad (zab B2.o hb7) 0;have q3:=zad (zab B2.o hb7) 1;have hf7:zal w5.heap.size a6:=zal.mono hf6 (by simp;omega))))
  all_goals
   go_wp2;refine kT (v:=.tuple #[.agg #[.slice a6 n6 c6,iV (turnS [.era 0,.prg 1 la.1,.prg 0 [g+1]] ws fuel).2.1],iV (turnS [.era 0,.prg 1 la.1,.prg 0 [g+1]] ws fuel).2.2]) (by simp [results,Tryz.results258,go_sem,q0,q1]) rfl ?_;rw [HRes.o];have hw7:=bT hw hb7;exact⟨⟨a6,n6,c6,rfl,(hi6.other hf7 lt1 0 _).other hf7 lt1 1 _,hn6,hc6,zal.mono hf7 hw.size⟩,(hw7.setCell (by simp) _).setCell (by simp) _⟩ } } }
end
structure Un where
 ws:LI
 fu:Int
 up:Bool
 n:Int
 hv:Int
structure Ms where
 k:Int
 u:Int
 n:Int
 at' :Int
 im:Int
 ws:LI
 y:Bool
structure Us where
 slot:Int
 by' :Int
 rdy:Int
def isR (r:LI) (k:Int) (l:Nat):Bool:=decide (r.length=l)&&decide (r.getD 0 0=k)
def zcf (s:Us) (r:LI):Us:=
 if(isR r 1 3&&decide (r.getD 1 0<=1))=true then⟨r.getD 1 0,r.getD 2 0,0⟩
 else if isR r 2 2=true then⟨s.slot,s.by',r.getD 1 0⟩
 else if isR r 3 2=true then⟨s.slot,s.by',0⟩ else s
def us0:Us:=⟨0,0,0⟩
def stR (rs:LL):Us:=rs.foldl zcf us0
def stOf (ws:LI):Us:=stR (logR ws)
def unE (u:Un):Int:=if lchk u.ws u.fu≠0 then lchk u.ws u.fu else if u.ws.length≠192 then 4 else if(inB u.n 0 8&&inB u.hv 0 40)=true then 0 else 3
def msB (m:Ms):Bool:=inB m.k 1 7&&(inB m.u 0 3&&(inB m.n 1 8&&(inB m.at' 0 40&&(inB m.im 0 60&&(decide (m.ws.length<=8)&&okL m.ws)))))
def msE (m:Ms):Int:=if msB m=true then 0 else 3
def heE (ss:LB) (u:Un) (m:Ms):Int:=if bookE ss≠0 then bookE ss else if unE u≠0 then unE u else msE m
def doU (u:Un) (r:LI×Int×Int):Un×Bool:=
 if r.2.2=7 then(⟨r.1,r.2.1,false,0,0⟩,false) else if r.2.2=0 then(⟨r.1,r.2.1,u.up,u.n,u.hv⟩,true) else(u,false)
def keepU (s:Us):LL:=if s.rdy=0 then [[1,s.slot,s.by']] else [[1,s.slot,s.by'], [2,s.rdy]]
abbrev Stu:=Sum (Sum Unit Int) (Sum (Int×Int×LI) (Sum (Int×Int×Int) (Us×LI)))
abbrev Stu.fmt:Stu:=Sum.inl (Sum.inl ())
abbrev Stu.clr (s:Int):Stu:=Sum.inl (Sum.inr s)
abbrev Stu.fil (s a:Int) (words:LI):Stu:=Sum.inr (Sum.inl (s,a,words))
abbrev Stu.sea (s long name:Int):Stu:=Sum.inr (Sum.inr (Sum.inl (s,long,name)))
abbrev Stu.not (s:Us) (r:LI):Stu:=Sum.inr (Sum.inr (Sum.inr (s,r)))
def doT:Stu->LI->Int->LI×Int×Int
 | .inl (.inl _),ws,f=>fmtS ws f
 | .inl (.inr s),ws,f=>clrS ws f s
 | .inr (.inl (s,a,words)),ws,f=>fillS ws f s a words
 | .inr (.inr (.inl (s,l,n))),ws,f=>sealS ws f s l n
 | .inr (.inr (.inr (s,r))),ws,f=>appS ws f r (keepU s)
def doV (u:Un) (st:Stu):Un×Bool:=doU u (doT st u.ws u.fu)
def turnU:List Stu->Un->Un×Bool
 | [],u=>(u,true)
 |st::r,u=>if(doV u st).2=true then turnU r (doV u st).1 else((doV u st).1,false)
def oth (s:Us):Int:=1 - s.slot
def mind (u:Un) (n hv:Int):Un:=⟨u.ws,u.fu,u.up,n,hv⟩
def voteM (m:Ms) (y:Bool):Ms:=⟨3,m.u,m.n,0,0, [],y⟩
def doneM (m:Ms):Ms:=⟨6,m.u,m.n,0,0, [],false⟩
def zb8 (u:Un) (s:Us) (m:Ms):Un×Bool:=
 if m.at' =0/\(u.n≠m.n\/u.hv=0) then
  (if(doV u (.clr (oth s))).2=true then(mind (doV u (.clr (oth s))).1 m.n 0,true) else((doV u (.clr (oth s))).1,false))
 else(u,true)
def zcj (u:Un) (s:Us) (m:Ms):Un:=
 if u.n=m.n/\u.hv=m.at' /\(m.ws.length:Int)<=40 - m.at' then
  (if(doV u (.fil (oth s) m.at' m.ws)).2=true then mind (doV u (.fil (oth s) m.at' m.ws)).1 (doV u (.fil (oth s) m.at' m.ws)).1.n ((doV u (.fil (oth s) m.at' m.ws)).1.hv+m.ws.length)
  else(doV u (.fil (oth s) m.at' m.ws)).1)
 else u
def zda (u:Un) (s:Us) (m:Ms):Un:=
 if s.rdy≠0\/m.n<=s.by' then u else if(zb8 u s m).2=true then zcj (zb8 u s m).1 s m else(zb8 u s m).1
def zfm (u:Un) (s:Us) (m:Ms):LI:=(bodyS u.ws u.fu (oth s) m.at').1
def zh6 (ss:LB) (u:Un) (s:Us) (m:Ms):Bool:=
 decide ((bodyS u.ws u.fu (oth s) m.at').2=0)&&(decide (inE ss (zfm u s m)=0)&&(decide (inN ss (zfm u s m)≠0)&&decide (inN ss (zfm u s m)=m.im)))
def zj4 (u:Un) (s:Us) (m:Ms) (words:LI):Bool:=
 decide ((imgS u.ws u.fu (oth s)).2.2=0)&&(decide ((imgS u.ws u.fu (oth s)).2.1=m.im)&&eqL (imgS u.ws u.fu (oth s)).1 words)
def prepC (u:Un) (s:Us) (m:Ms):Un×List Ms:=
 if(doV u (.not s [2,m.n])).2=true then((doV u (.not s [2,m.n])).1, [voteM m true]) else((doV u (.not s [2,m.n])).1, [])
def prepB (u:Un) (s:Us) (m:Ms) (words:LI):Un×List Ms:=
 if(doV u (.sea (oth s) m.at' m.im)).2=true then
  (if zj4 (mind (doV u (.sea (oth s) m.at' m.im)).1 0 0) s m words=true then prepC (mind (doV u (.sea (oth s) m.at' m.im)).1 0 0) s m
  else(mind (doV u (.sea (oth s) m.at' m.im)).1 0 0, [voteM m false]))
 else((doV u (.sea (oth s) m.at' m.im)).1, [])
def prepS (ss:LB) (u:Un) (s:Us) (m:Ms):Un×List Ms:=
 if m.n<=s.by' then(u, [doneM m]) else if s.rdy≠0 then(u, [voteM m (decide (s.rdy=m.n))])
 else if u.n=m.n/\u.hv=m.at' /\zh6 ss u s m=true then prepB u s m (zfm u s m) else(u, [voteM m false])
def comS (u:Un) (s:Us) (m:Ms):Un×List Ms:=
 if s.by' =m.n then(u, [doneM m]) else if s.rdy≠m.n then(u, [])
 else if(doV u (.not s [1,oth s,m.n])).2=true then((doV u (.not s [1,oth s,m.n])).1, [doneM m]) else((doV u (.not s [1,oth s,m.n])).1, [])
def aboB (u:Un) (m:Ms):Un×List Ms:=(if u.n=m.n then mind u 0 0 else u, [doneM m])
def aboS (u:Un) (s:Us) (m:Ms):Un×List Ms:=
 if m.n<=s.by' then(u, []) else if s.rdy=m.n then
  (if(doV u (.not s [3,m.n])).2=true then aboB (doV u (.not s [3,m.n])).1 m else((doV u (.not s [3,m.n])).1, []))
 else aboB u m
def hearK (ss:LB) (u:Un) (m:Ms):Un×List Ms:=
 if m.k=1 then(zda u (stOf u.ws) m, []) else if m.k=2 then prepS ss u (stOf u.ws) m
 else if m.k=4 then comS u (stOf u.ws) m else if m.k=5 then aboS u (stOf u.ws) m else(u, [])
def hearS (ss:LB) (u:Un) (m:Ms):Un×List Ms:=if u.up=true then hearK ss u m else(u, [])
structure Gt where
 ws:LI
 fu:Int
 up:Bool
 t:Tr
 vo:List Bool
 di:List Bool
structure Gs where
 n:Int
 v:Int
 co:Bool
 ab:Bool
 en:Bool
def gs0:Gs:=⟨0,0,false,false,false⟩
def decG (s:Gs):Bool:=s.co||s.ab
def trnG (s:Gs) (k:Int):Gs:=
 if k=2 then⟨s.n,s.v,!s.ab,s.ab,s.en⟩ else if k=3 then⟨s.n,s.v,s.co,!s.co,s.en⟩ else if k=4 then⟨s.n,s.v,s.co,s.ab,decG s⟩ else s
def isBeg (r:LI):Bool:=decide (r.length=3)&&(decide (r.getD 0 0=1)&&inB (r.getD 1 0) 1 8)
def isOf (s:Gs) (r:LI):Bool:=decide (r.length=2)&&(decide (s.n≠0)&&decide (r.getD 1 0=s.n))
def gNext (s:Gs) (r:LI):Gs:=
 if isBeg r=true then⟨r.getD 1 0,r.getD 2 0,false,false,false⟩ else if isOf s r=true then trnG s (r.getD 0 0) else s
def gR (rs:LL):Gs:=rs.foldl gNext gs0
def gOf (ws:LI):Gs:=gR (logR ws)
def gtB (g:Gt):Bool:=inB g.vo.length 1 4&&decide (g.di.length=g.vo.length)
def gtE (g:Gt):Int:=if lchk g.ws g.fu≠0 then lchk g.ws g.fu else if gtB g=true then trE g.t else 4
def kepG (s:Gs):LL:=
 if s.n=0 then [] else [1,s.n,s.v]::((if s.co=true then [[2,s.n]] else [])++((if s.ab=true then [[3,s.n]] else [])++(if s.en=true then [[4,s.n]] else [])))
def zbj (l:List Bool):List Bool:=l.map fun _=>false
def forgG (g:Gt):Gt:=⟨g.ws,g.fu,g.up,g.t,zbj g.vo,zbj g.di⟩
def dnG (g:Gt) (r:LI×Int×Int):Gt×Bool:=
 if r.2.2=7 then(⟨r.1,r.2.1,false,g.t,zbj g.vo,zbj g.di⟩,false) else if r.2.2=0 then(⟨r.1,r.2.1,g.up,g.t,g.vo,g.di⟩,true) else(g,false)
def noteG (g:Gt) (s:Gs) (r:LI):Gt×Bool:=dnG g (appS g.ws g.fu r (kepG s))
def gt0:Gt:=⟨[],0,false,⟨⟨0, [],0⟩,0⟩, [], []⟩
def zc3 (g:Gt):Gs×Int:=if gtE g≠0 then(gs0,gtE g) else(gOf g.ws,0)
def zdb (g:Gt):Gt×Int:=if gtE g≠0 then(gt0,gtE g) else(⟨g.ws,-1,true,g.t,zbj g.vo,zbj g.di⟩,0)
def upE (g:Gt):Int:=if gtE g≠0 then gtE g else if g.up=true then 0 else 7
def gvUp (g:Gt):Gt×Int:=
 if upE g≠0 then(gt0,upE g) else if(decide ((gOf g.ws).n=0)||decG (gOf g.ws))=true then(gt0,12) else((noteG g (gOf g.ws) [3,(gOf g.ws).n]).1,0)
def ghE (g:Gt) (m:Ms):Int:=if gtE g≠0 then gtE g else if(inB m.u 0 ((g.vo.length:Int)- 1)&&inB m.n 1 8)=true then 0 else 3
def pend (s:Gs) (m:Ms):Bool:=decide (s.n=m.n)&&!s.en
def verd (s:Gs) (u n:Int):Ms:=⟨if(decide (s.n=n)&&s.co)=true then 4 else 5,u,n,0,0, [],false⟩
def setB (l:List Bool) (u:Int):List Bool:=l.set u.toNat true
def allB (l:List Bool):Bool:=!(l.any fun b=>!b)
def voteG (g:Gt) (s:Gs) (m:Ms):Gt:=
 if allB (setB g.vo m.u)=true then(noteG ⟨g.ws,g.fu,g.up,g.t,setB g.vo m.u,g.di⟩ s [2,s.n]).1 else⟨g.ws,g.fu,g.up,g.t,setB g.vo m.u,g.di⟩
def doneG (g:Gt) (s:Gs) (m:Ms):Gt:=
 if allB (setB g.di m.u)=true then(noteG ⟨g.ws,g.fu,g.up,g.t,g.vo,setB g.di m.u⟩ s [4,s.n]).1 else⟨g.ws,g.fu,g.up,g.t,g.vo,setB g.di m.u⟩
def ghK (g:Gt) (s:Gs) (m:Ms):Gt×List Ms:=
 if m.k=3 then(if(pend s m&&(!decG s&&m.y))=true then voteG g s m else g, [])
 else if m.k=6 then(if(pend s m&&decG s)=true then doneG g s m else g, [])
 else if m.k=7 then(g,if(pend s m&&!decG s)=true then [] else [verd s m.u m.n]) else(g, [])
def gHear (g:Gt) (m:Ms):Gt×List Ms×Int:=
 if ghE g m≠0 then(gt0, [],ghE g m) else if g.up=true then((ghK g (gOf g.ws) m).1,(ghK g (gOf g.ws) m).2,0) else(g, [],0)
def dueE (g:Gt) (cn:Int) (ts:List T3) (ims:LL) (u:Int):Int:=
 if upE g≠0 then upE g else if(decide ((gOf g.ws).n=0)||(gOf g.ws).en)=true then 12
 else if(inB u 0 ((g.vo.length:Int)- 1)&&(decide (cn= (gOf g.ws).n)&&(decide (u<ims.length)&&decide (u<ts.length))))=true then 0 else 5
def zgh (u n:Int) (image:LI):Nat->Nat->List Ms
 |0,_=> []
 |f+1,p=>if p<image.length then⟨1,u,n,p,0,(image.drop p).take 8,false⟩::zgh u n image f (p+8) else []
def delG (n:Int) (u:Int) (im:Int) (image:LI):List Ms:=zgh u n image 6 0++ [⟨2,u,n,image.length,im, [],false⟩]
def gDue (g:Gt) (cn:Int) (ts:List T3) (ims:LL) (u:Int):List Ms×Int:=
 if dueE g cn ts ims u≠0 then([],dueE g cn ts ims u)
 else if decG (gOf g.ws)=true then(if g.di.getD u.toNat false=true then [] else [verd (gOf g.ws) u (gOf g.ws).n],0)
 else if g.vo.getD u.toNat false=true then([],0)
 else if 40< (ims.getD u.toNat []).length then([],2) else(delG cn u (ts.getD u.toNat (0,0,0)).2.1 (ims.getD u.toNat []),0)
theorem zaj (h:bZ w w') (B:Nat):w.grownBy w' (some B):=⟨h.os,h.tape,h.output,h.size,fun k hk _=>h.block k hk⟩
theorem zac (h:w.grownBy w' (some B)) (i:Nat) (v:Value):w.grownBy (w'.setCell ⟨B,i,none⟩ v) (some B):=
 h.trans ⟨rfl,rfl,rfl,by simp [World.setCell],fun k _ hne=>ki _ _ _ _ (fun e=>hne (by rw [e]))⟩
theorem zam {a:World} (h:Below n a w) (hg:w.grownBy w' (some B)) (hB:n<=B) (hs:n<=w.heap.size):Below n a w' :=
 h.grown hg hs (fun k e=>by cases e;exact hB)
def Off (B:Nat) (a:oA):Prop:=∀ad,a=some ad->ad.block≠B
theorem zn3 (B:Nat):Off B none:=fun _ h=>by cases h
theorem za6 (h:zal n a) (hB:B<n):Off B a:=fun ad e=>by have:=h ad e;omega
theorem zax (h:zag w a xs) (hg:w.grownBy w' (some B)) (ho:Off B a):zag w' a xs:=by
 rcases h with h| ⟨b,off,rfl,hc⟩
 { exact .inl h }
 { exact .inr ⟨b,off,rfl,fun i hi=>hg.cell (hc i hi) (fun e=>ho _ rfl (by cases e;rfl))⟩ }
theorem zar {o:Obj} (h:w.heap[b]?=some o) (hg:w.grownBy w' (some B)) (hne:b≠B):w'.heap[b]?=some o:=by
 rw [hg.block b (zak h) (fun e=>hne (by cases e;rfl))];exact h
theorem zcu (h:zag w a xs) (B:Nat) (hB:w.heap.size<=B):xs= []\/Off B a:=by
 rcases h with h| ⟨b,off,rfl,hc⟩
 { exact .inl h }
 {
 by_cases h0:xs= []
 { exact .inl h0 }
 {
 refine .inr fun ad e=> ?_
 cases e;have:=zah (hc 0 (by cases xs with|nil=>exact absurd rfl h0|cons _ _=>simp))
 show b≠B
 have h2:b<w.heap.size:=this;omega } }
theorem zau (w:World) (o1 o2:Obj): ((w.alloc o1).alloc o2).heap[w.heap.size+1]?=some o2:=by
 have:=kP (w.alloc o1) o2
 rwa [KB] at this
theorem zb9 (w:World) (o1 o2 o3:Obj): (((w.alloc o1).alloc o2).alloc o3).heap[w.heap.size+1+1]?=some o3:=by
 have:=kP ((w.alloc o1).alloc o2) o3
 rwa [KB,KB] at this
theorem zj3 (w:World) (o1 o2 o3 o4:Obj): ((((w.alloc o1).alloc o2).alloc o3).alloc o4).heap[w.heap.size+1+1+1]?=some o4:=by
 have:=kP (((w.alloc o1).alloc o2).alloc o3) o4
 rwa [KB,KB,KB] at this
def unO (u:Un) (a:oA) (n c:Nat):Obj:=.cells #[.slice a n c,iV u.fu,.bool u.up,iV u.n,iV u.hv] 82 (0,0)
def unv (u:Un) (a:oA) (n c:Nat):Value:=.agg #[.slice a n c,iV u.fu,.bool u.up,iV u.n,iV u.hv]
def OwnU (F:Nat) (w:World) (B:Nat) (u:Un):Prop:=∃a n c,w.heap[B]?=some (unO u a n c)/\zag w a u.ws/\u.ws.length=n/\n<=c/\n<=maxLen/\Off B a/\zal F a/\F<=B
def msv (m:Ms) (a:oA) (n c:Nat):Value:=.agg #[iV m.k,iV m.u,iV m.n,iV m.at',iV m.im,.slice a n c,.bool m.y]
def msO (m:Ms) (a:oA) (n c:Nat):Obj:=.cells #[iV m.k,iV m.u,iV m.n,iV m.at',iV m.im,.slice a n c,.bool m.y] 99 (0,0)
def za9 (w:World) (a:oA) (l:List Ms):Prop:=
 l= []\/∃b,a=some ⟨b,0,none⟩/\∀i m,l[i]?=some m->m.ws= []/\
  w.cell? ⟨b,i * 7,none⟩=some (iV m.k)/\w.cell? ⟨b,i * 7+1,none⟩=some (iV m.u)/\w.cell? ⟨b,i * 7+2,none⟩=some (iV m.n)/\w.cell? ⟨b,i * 7+3,none⟩=some (iV m.at')/\
  w.cell? ⟨b,i * 7+4,none⟩=some (iV m.im)/\w.cell? ⟨b,i * 7+5,none⟩=some (nV)/\w.cell? ⟨b,i * 7+6,none⟩=some (.bool m.y)
theorem za9.bl {l:List Ms} (h:za9 w a l) (hb:bZ w w'):za9 w' a l:=by
 rcases h with h| ⟨b,rfl,hc⟩
 { exact .inl h }
 {
 refine .inr ⟨b,rfl,fun i m hi=> ?_⟩;obtain ⟨h0,h1,h2,h3,h4,h5,h6,h7⟩:=hc i m hi;exact⟨h0,by rw [hb.cell (zah h1)];exact h1,by rw [hb.cell (zah h2)];exact h2,by rw [hb.cell (zah h3)];exact h3,by rw [hb.cell (zah h4)];exact h4,by rw [hb.cell (zah h5)];exact h5,by rw [hb.cell (zah h6)];exact h6,by rw [hb.cell (zah h7)];exact h7⟩ }
theorem zg1 {m:Ms} {t:TypeId} (h0:m.ws= []) (h:w.heap[b]?=some (.cells #[iV m.k,iV m.u,iV m.n,iV m.at',iV m.im,nV,.bool m.y] t (0,0))):za9 w (some ⟨b,0,none⟩) [m]:=by
 refine .inr ⟨b,rfl,fun i x hi=> ?_⟩;have hlt:=(kY.1 hi).1
 simp at hlt
 subst hlt
 simp at hi
 subst hi;exact⟨h0,zaa h 0 _ rfl,zaa h 1 _ rfl,zaa h 2 _ rfl,zaa h 3 _ rfl,zaa h 4 _ rfl,zaa h 5 _ rfl,zaa h 6 _ rfl⟩
abbrev aM (m:Ms) (a:oA) (n c:Nat):Array Value:=#[iV m.k,iV m.u,iV m.n,iV m.at',iV m.im,.slice a n c,.bool m.y]
abbrev aU (a:oA) (n c:Nat) (u:Un):Array Value:=#[.slice a n c,iV u.fu,.bool u.up,iV u.n,iV u.hv]
def proC (p:Nat) (words:LI):List (Nat×Option (Nat×Int)):=(List.range words.length).map (fun i=>(p+i,some (0,words.getD i 0)))
theorem zrx (p:Nat) (words:LI): (proC p words).length=words.length:=by simp [proC]
theorem zt6 (p:Nat) (words:LI):ProL p words words.length (proC p words):=by
 refine⟨zrx _ _,fun i hi=>⟨0, ?_⟩⟩
 simp [proC,hi]
def stC:Stp->List (Nat×Option (Nat×Int))
 | .inl s=>eraL s 32
 | .inr (p,words)=>proC p words
def StOk (L:Nat):Stp->Prop
 | .inl s=>s * 32+32<=L
 | .inr (p,words)=>p+words.length<=L/\okL words=true
theorem doS_chg {st:Stp} (h:chk ws f=0) (ho:StOk ws.length st):doS st ws f=chgS ws f (stC st):=by
 have hp:=zhq h;cases st with
 |inl s=>exact(chgS_era h (by simp only [StOk] at ho;omega)).symm
 |inr q=>obtain ⟨p,words⟩:=q;exact(chgS_pro h (zt6 p words) ho.1 ho.2).symm
theorem zux {cs:List (Nat×Option (Nat×Int))} (h:okL ws=true) (hc: ∀c∈cs,∀b x,c.2=some (b,x)->okW x=true):okL (zro cs ws)=true:=by
 induction cs generalizing ws with
 |nil=>exact h
 |cons c cs ih=>
  show okL (zro cs (ws.set c.1 (apW c.2 (ws.getD c.1 0))))=true
  refine ih ?_ (fun d hd=>hc d (kI _ hd))
  by_cases hlt:c.1<ws.length
  {
  apply zwv
  intro i hi
  simp at hi
  by_cases e:c.1=i
  {
  subst e;have: (ws.set c.1 (apW c.2 (ws.getD c.1 0))).getD c.1 0=apW c.2 (ws.getD c.1 0):=by simp [hlt]
  rw [this];cases h2:c.2 with
  |none=>rfl
  |some p=>obtain ⟨b,x⟩:=p;exact and_ok (zk3 h _ hlt) (hc c kG b x h2) }
  {
  have: (ws.set c.1 (apW c.2 (ws.getD c.1 0))).getD i 0=ws.getD i 0:=by simp [e]
  rw [this];exact zk3 h i hi } }
  {
  rw [List.set_eq_of_length_le (by omega)];exact h }
theorem stC_ok {L:Nat} {st:Stp} (h:StOk L st): ∀c∈stC st,∀b x,c.2=some (b,x)->okW x=true:=by
 intro c hc b x hx;cases st with
 |inl s=>simp [stC,eraL] at hc;obtain ⟨i,_,rfl⟩:=hc;cases hx
 |inr q=>
  obtain ⟨p,words⟩:=q;simp only [stC,proC,kL,List.mem_range] at hc;obtain ⟨i,hi,rfl⟩:=hc;simp only [Option.some.injEq,Prod.mk.injEq] at hx;rw [<-hx.2];exact zk3 h.2 i hi
theorem zta {f' :Int} (h:chk ws f=0) (hl:us.length=ws.length) (hok:okL us=true) (h0: -1<=f') (h1:f' <=100000):chk us f' =0:=by
 have q:=zhq h
 apply zwq
 { rw [hl];exact decide_eq_true q.1 }
 {
 unfold zc0;rw [hok];simp;omega }
theorem turn_chg (sts:List Stp) (ws:LI) (f:Int) (h:chk ws f=0) (ho: ∀st∈sts,StOk ws.length st):turnS sts ws f=chgS ws f (sts.flatMap stC):=by
 induction sts generalizing ws f with
 |nil=>
  have:cnt f 0=0:=Nat.le_zero.1 (zr7 _ _)
  show(ws,f,(0:Int))=chgS ws f []
  unfold chgS;rw [List.length_nil,this,zsx this];have:burn f 0=f:=by unfold burn;split<;>simp
  rw [this];rfl
 |cons st sts ih=>
  have hd:=doS_chg h (ho st kG);have q:=zhq h;rw [List.flatMap_cons]
  by_cases c:cnt f (stC st).length= (stC st).length
  {
  have e2: (doS st ws f).2.2=0:=by rw [hd];exact zsx c
  rw [zjb e2,hd,chgS_go c];have e1: (chgS ws f (stC st)).1=zro (stC st) ws:=by unfold chgS;rw [c,List.take_length]
  have e3: (chgS ws f (stC st)).2.1=burn f (stC st).length:=by unfold chgS;rw [c]
  rw [e1,e3];have bb:=zpr q.2.1 q.2.2.1 (Kg c.symm);refine ih _ _ ?_ ?_
  { exact zta h (zrs _ _) (zux q.2.2.2 (stC_ok (ho st kG))) bb.1 bb.2 }
  { rw [zrs];exact fun d hd=>ho d (kI _ hd) } }
  {
  have lt:cnt f (stC st).length< (stC st).length:=by have:=zr7 f (stC st).length;omega
  have e2: (doS st ws f).2.2≠0:=by
   rw [hd]
   show perr f (stC st).length≠0
   rw [zst lt];decide
  rw [zgx e2,hd,chgS_stop lt] }
theorem addL_ok (h:okL xs=true) (hr:recE r=0):okL (addL xs r)=true:=by
 have q:=zsa hr;unfold addL okL at *;rw [List.all_append,List.all_cons,h,q.2.2];have:okW (headS r.length)=true:=by unfold okW headS;simp;omega
 rw [this];rfl
theorem zvl (h:addE xs r=0):recE r=0:=by
 unfold addE at h
 split at h
 { rename_i h1;exact absurd h h1 }
 {
 rename_i h1;simpa using h1 }
theorem zvd (rs:LL) (xs:LI) (h:okL xs=true):okL (laidS rs xs).1=true:=by
 induction rs generalizing xs with
 |nil=>exact h
 |cons r rs ih=>
  by_cases e:addE xs r=0
  { rw [zex e];exact ih _ (addL_ok h (zvl e)) }
  {
  rw [zet e];rfl }
theorem zr2 (h:zcp ws f r keep=0):lchk ws f=0/\recE r=0/\(laidA r keep).2=0/\(fitsA ws r=true\/genN ws≠60000):=by
 unfold zcp at h
 split at h
 { rename_i h1;exact absurd h h1 }
 {
 rename_i h1
 split at h
 { rename_i h2;exact absurd h h2 }
 {
 rename_i h2
 split at h
 { rename_i h3;exact absurd h h3 }
 {
 rename_i h3
 split at h
 { simp at h }
 {
 rename_i h4
 refine⟨by simpa using h1,by simpa using h2,by simpa using h3, ?_⟩;cases hf:fitsA ws r
 { right;intro hg;exact h4 ⟨hf,hg⟩ }
 {
 left;rfl } } } } }
theorem ztj (h1:chk ws f=0) (h2:64<=ws.length) (h3:genN ws≠0) (h4:genN ws<=60000):lchk ws f=0:=by
 have hs:secS ws f=0:=by unfold secS;rw [KJ (by simpa using h1),KJ (by omega)]
 unfold lchk;rw [KJ (by simpa using hs),KJ (by omega)]
theorem zsr {f' :Int} (h:lchk ws f=0) (h0: -1<=f') (h1:f' <=100000):lchk ws f' =0:=by
 have q:=zdm h;exact ztj (chk_fuel q.1 h0 h1) q.2.1 q.2.2.2.2.1 q.2.2.2.2.2
def appC (ws r:LI) (keep:LL):List (Nat×Option (Nat×Int)):=(zg4 ws r keep).flatMap stC
theorem zvm (h:n<=4):okW (headS n)=true:=by unfold okW headS;simp;omega
theorem zr0 (h:fitsA ws r=true):zce (restS ws)=true/\r.length< (restS ws).length:=by
 unfold fitsA at h
 simpa using h
theorem ztw (h:zcp ws f r keep=0): ∀st∈zg4 ws r keep,StOk ws.length st:=by
 have q:=zr2 h;have l:=zdm q.1;have rr:=zsa q.2.1;have hf:=zrt l.2.1;have hs:=zgk ws;intro st hst;unfold zg4 at hst
 split at hst
 {
 rename_i hfit
 have hp:=zr0 hfit;simp only [kt,KY,or_false] at hst
 rcases hst with rfl|rfl
 { exact⟨by unfold headP;rcases hs with e|e<;>rw [e]<;>omega,rr.2.2⟩ }
 { exact⟨by unfold headP;simp only [KX,List.length_nil];rcases hs with e|e<;>rw [e]<;>omega,by unfold okL;rw [List.all_cons,zvm rr.2.1];rfl⟩ } }
 {
 rename_i hfit
 simp only [kt,KY,or_false] at hst;have hl: (laidA r keep).1.length<=31:=zsb _ _ (by simp);have hg:=q.2.2.2.resolve_left hfit;have hgn:=zo5 l.2.2.2.1 l.2.1
 rcases hst with rfl|rfl|rfl
 {
 show(1 - secN ws)* 32+32<=_
 omega }
 { exact⟨by omega,zvd _ _ rfl⟩ }
 {
 refine⟨by simp only [KX,List.length_nil];omega, ?_⟩;unfold okL;rw [List.all_cons];have:okW (genN ws+1)=true:=by unfold okW;simp;omega
 rw [this];rfl } }
theorem ztp (h:zcp ws f r keep=0):appS ws f r keep=chgS ws f (appC ws r keep):=by
 unfold appS;rw [KJ (by simpa using h)];exact turn_chg _ _ _ (zdm (zr2 h).1).1 (ztw h)
theorem zsv (h:zcp ws f r keep≠0):appS ws f r keep= ([],0,zcp ws f r keep):=by
 unfold appS;rw [KK h]
theorem app_full (h:zcp ws f r keep=0) (hf:cnt f (appC ws r keep).length= (appC ws r keep).length):appS ws f r keep= (zro (appC ws r keep) ws,burn f (appC ws r keep).length,0):=by
 rw [ztp h];unfold chgS;rw [hf,List.take_length,zsx hf]
theorem zul (h:zcp ws (-1) r keep=0):appS ws (-1) r keep= (zro (appC ws r keep) ws,-1,0):=by
 rw [app_full h (zsy _ (by decide)),zeo _ (by decide)]
theorem take_getD {ys:LI} {k:Nat} (h: ∀i,i<k->xs.getD i 0=ys.getD i 0) (hx:k<=xs.length) (hy:k<=ys.length):xs.take k=ys.take k:=by
 apply zr4 (by simp;omega)
 intro i hi
 simp at hi
 have:=h i (by omega)
 simpa [show i<k by omega] using this
theorem zvh (hl:us.length=ws.length) (h: ∀i,s * 32+1<=i->i<s * 32+32->us.getD i 0=ws.getD i 0):secL us s=secL ws s:=by
 unfold secL
 apply zr4 (by simp [hl])
 intro i hi
 simp at hi
 have:=h (s * 32+1+i) (by omega) (by omega)
 simpa [show i<31 by omega] using this
theorem zsm (h:us.getD (s * 32) 0=ws.getD (s * 32) 0):genS us s=genS ws s:=by unfold genS;rw [h]
theorem zus (hl:us.length=ws.length) (h: ∀i,i<64->us.getD i 0=ws.getD i 0):secN us=secN ws/\genN us=genN ws/\secL us (secN us)=secL ws (secN ws):=by
 have g0:genS us 0=genS ws 0:=zsm (h _ (by omega));have g1:genS us 1=genS ws 1:=zsm (h _ (by omega));have hs:secN us=secN ws:=by unfold secN;rw [g0,g1]
 refine⟨hs,by unfold genN;rw [g0,g1], ?_⟩;rw [hs]
 apply zvh hl
 intro i h1 h2
 rcases zgk ws with e|e<;>rw [e] at h1 h2<;>exact h i (by omega)
theorem logR_ext (hl:us.length=ws.length) (h: ∀i,i<64->us.getD i 0=ws.getD i 0):logR us=logR ws:=by
 unfold logR;rw [(zus hl h).2.2]
theorem zvs {f' :Int} (hk:lchk ws f=0) (hl:us.length=ws.length) (h: ∀i,i<64->us.getD i 0=ws.getD i 0) (hok:okL us=true) (h0: -1<=f') (h1:f' <=100000):lchk us f' =0:=by
 have q:=zdm hk;have e:=(zus hl h).2.1;exact ztj (zta q.1 hl hok h0 h1) (by omega) (by rw [e];exact q.2.2.2.2.1) (by rw [e];exact q.2.2.2.2.2)
theorem zs1 {cs:List (Nat×Option (Nat×Int))} {i:Nat} (h: ∀c∈cs,c.1≠i): (zro cs ws).getD i 0=ws.getD i 0:=by
 induction cs generalizing ws with
 |nil=>rfl
 |cons c cs ih=>
  show(zro cs (ws.set c.1 (apW c.2 (ws.getD c.1 0)))).getD i 0=_
  rw [ih (fun d hd=>h d (kI _ hd))];have:=h c kG
  simp [this]
theorem stC_far {st:Stp} {c:Nat×Option (Nat×Int)} (hc:c∈stC st):match st with
 | .inl s=>s * 32<=c.1/\c.1<s * 32+32
 | .inr (p,words)=>p<=c.1/\c.1<p+words.length:=by
 cases st with
 |inl s=>simp [stC,eraL] at hc;obtain ⟨i,hi,rfl⟩:=hc;simp only;omega
 |inr q=>obtain ⟨p,words⟩:=q;simp only [stC,proC,kL,List.mem_range] at hc;obtain ⟨i,hi,rfl⟩:=hc;simp only;omega
theorem appC_low (h:zcp ws f r keep=0): ∀c∈appC ws r keep,c.1<64:=by
 intro c hc;have q:=zr2 h;have l:=zdm q.1;have hf:=zrt l.2.1;have hs:=zgk ws;have hl: (laidA r keep).1.length<=31:=zsb _ _ (by simp);unfold appC at hc;rw [List.mem_flatMap] at hc;obtain ⟨st,hst,hc⟩:=hc;have hfar:=stC_far hc;unfold zg4 at hst
 split at hst
 {
 rename_i hfit
 have hp:=zr0 hfit;simp only [kt,KY,or_false] at hst
 rcases hst with rfl|rfl
 { simp only [headP] at hfar;omega }
 { simp only [headP,KX,List.length_nil] at hfar;omega } }
 {
 simp only [kt,KY,or_false] at hst
 rcases hst with rfl|rfl|rfl
 { simp only at hfar;omega }
 { simp only at hfar;omega }
 {
 simp only [KX,List.length_nil] at hfar;omega } }
theorem zwd (h:zcp ws f r keep=0): (appS ws f r keep).1.length=ws.length/\∀i,64<=i->(appS ws f r keep).1.getD i 0=ws.getD i 0:=by
 rw [ztp h];refine⟨zrs _ _,fun i hi=>zs1 (fun c hc=> ?_)⟩;have:=appC_low h c (List.mem_of_mem_take hc);omega
theorem zvt (k:Nat) (l:LI): (zb6 k l).2.length<=l.length:=by
 induction k generalizing l with
 |zero=>simp [zb6]
 |succ k ih=>
  rw [zci]
  split
  { simp }
  {
  have:=ih (l.drop (1+longS l))
  simp at this|-
  omega }
theorem zts (l:LI): (za7 l).2.length<=l.length:=zvt _ _
theorem zv1 {l' :LI} (h:l.getD 0 0=l'.getD 0 0) (hl:l.length=l'.length):longS l=longS l' :=by
 cases l with
 |nil=>cases l' with
  |nil=>rfl
  |cons _ _=>simp at hl
 |cons x r=>cases l' with
  |nil=>simp at hl
  |cons y r' =>
   simp at h hl
   simp only [longS];rw [h,hl]
theorem zwc: ∀(N:Nat) (l:LI),l.length<=N->∀(rest' :LI),rest'.length= (za7 l).2.length->
 za7 (l.take (l.length - (za7 l).2.length)++rest')= ((za7 l).1++(za7 rest').1,(za7 rest').2):=by
 intro N
 induction N with
 |zero=>
  intro l hl rest' hr;have:l= []:=kn (by omega);subst this;have h0:za7 ([]:LI)= ([], []):=rfl;rw [h0] at hr|-
  simp at hr
  subst hr;rfl
 |succ N ih=>
  intro l hl rest' hr
  by_cases h0:longS l=0
  {
  rw [zov h0] at hr|-
  simp }
  {
  have hlt:=zon (l:=l) (by omega);have hst:=zpq h0;obtain ⟨n,hn⟩: ∃n,n=longS l:=⟨_,rfl⟩;rw [<-hn] at hst hlt h0;have hrl:=zts (l.drop (1+n));rw [List.length_drop] at hrl;have e2: (za7 l).2= (za7 (l.drop (1+n))).2:=by rw [hst]
  rw [e2] at hr;have hih:=ih (l.drop (1+n)) (by simp;omega) rest' hr;obtain ⟨m,hm⟩: ∃m,m= (za7 (l.drop (1+n))).2.length:=⟨_,rfl⟩;rw [<-hm] at hih hr hrl;rw [List.length_drop] at hih;have e3:l.length - (za7 l).2.length=l.length - m:=by rw [e2,hm]
  rw [e3];have hlen: (l.take (l.length - m)++rest').length=l.length:=by simp [hr];omega
  have hlong:longS (l.take (l.length - m)++rest')=n:=by
   rw [hn];refine zv1 ?_ hlen;cases l with
   |nil=>simp at hlt
   |cons x t=>
    have:0< (x::t).length - m:=by omega
    obtain ⟨q,hq⟩: ∃q,(x::t).length - m=q+1:=⟨(x::t).length - m - 1,by omega⟩;rw [hq];rfl
  have hne:longS (l.take (l.length - m)++rest')≠0:=by rw [hlong];exact h0
  rw [zpq hne,hlong];have hd: (l.take (l.length - m)++rest').drop (1+n)= (l.drop (1+n)).take (l.length - (1+n)- m)++rest' :=by
   rw [List.drop_append_of_le_length (by simp;omega),List.drop_take]
   congr 2
   omega
  have ht: ((l.take (l.length - m)++rest').drop 1).take n= (l.drop 1).take n:=by
   rw [List.drop_append_of_le_length (by simp;omega),Kn (by simp;omega),List.drop_take,List.take_take]
   congr 1
   omega
  rw [hd,ht,hih,hst]
  simp }
theorem zv0 (l:LI):l=l.take (l.length - (za7 l).2.length)++(za7 l).2:=by
 have: ∀(N:Nat) (l:LI),l.length<=N->l=l.take (l.length - (za7 l).2.length)++(za7 l).2:=by
  intro N
  induction N with
  |zero=>
   intro l hl;have:l= []:=kn (by omega);subst this;rfl
  |succ N ih=>
   intro l hl
   by_cases h0:longS l=0
   { rw [zov h0];simp }
   {
   have hlt:=zon (l:=l) (by omega);have hst:=zpq h0;have hih:=ih (l.drop (1+longS l)) (by simp;omega);have e2: (za7 l).2= (za7 (l.drop (1+longS l))).2:=by rw [hst]
   have hrl:=zts (l.drop (1+longS l));rw [List.length_drop] at hrl hih;rw [e2];obtain ⟨R,hR⟩: ∃R,R= (za7 (l.drop (1+longS l))).2:=⟨_,rfl⟩;rw [<-hR] at hih hrl|-;have h1:l=l.take (1+longS l)++l.drop (1+longS l):=(List.take_append_drop _ _).symm;have h2:l.take (l.length - R.length)=l.take (1+longS l)++(l.drop (1+longS l)).take (l.length - (1+longS l)- R.length):=by
    conv=>lhs;rw [show l.length - R.length= (1+longS l)+(l.length - (1+longS l)- R.length) by omega]
    rw [List.take_add]
   rw [h2,KW,<-hih];exact h1 }
 exact this l.length l (kQ _)
theorem ztx (h:zce l=true):longS l=0:=by
 cases l with
 |nil=>rfl
 |cons x r=>
  unfold zce at h
  simp at h
  simp only [longS];rw [KJ (by omega)]
theorem zu3 (n:Nat):zce (List.replicate n 65535)=true:=by
 unfold zce
 simp
theorem zuz {rest:LI} (hr:recE r=0) (t:LL×LI) (ht:za7 rest=t):za7 (headS r.length::r++rest)= (r::t.1,t.2):=by
 have q:=zsa hr;have hl:longS (headS r.length::r++rest)=r.length:=by
  show longS (headS r.length::(r++rest))=_
  simp only [longS];unfold headS;rw [KK (by simp;omega)];omega
 rw [zpq (by rw [hl];omega),hl];have h1: (headS r.length::r++rest).drop (1+r.length)=rest:=by
  rw [Nat.add_comm]
  simp
 have h2: ((headS r.length::r++rest).drop 1).take r.length=r:=by simp
 rw [h1,h2,ht]
def flat (rs:LL):LI:=rs.flatMap (fun r=>headS r.length::r)
theorem zv3 (rs:LL) (xs:LI) (h: (laidS rs xs).2=0): (laidS rs xs).1=xs++flat rs/\∀r∈rs,recE r=0:=by
 induction rs generalizing xs with
 |nil=>exact⟨by simp [laidS,flat],by simp⟩
 |cons r rs ih=>
  by_cases e:addE xs r=0
  {
  rw [zex e] at h|-;obtain ⟨h1,h2⟩:=ih _ h;refine⟨by rw [h1];simp [addL,flat],fun q hq=> ?_⟩
  rcases kt.1 hq with rfl|hq
  { exact zvl e }
  { exact h2 q hq } }
  {
  rw [zet e] at h;exact absurd h e }
theorem zwb (rs:LL) (rest:LI) (h: ∀r∈rs,recE r=0) (hc:zce rest=true):za7 (flat rs++rest)= (rs,rest):=by
 induction rs with
 |nil=>exact zov (ztx hc)
 |cons r rs ih=>
  have:=zuz (rest:=flat rs++rest) (h r kG) _ (ih (fun q hq=>h q (kI _ hq)));have e:flat (r::rs)++rest=headS r.length::r++(flat rs++rest):=by simp [flat]
  rw [e];exact this
theorem genS_all (h:ws.getD (s * 32) 0=65535):genS ws s=0:=by unfold genS;rw [KK h]
theorem genS_word {x:Int} (h:ws.getD (s * 32) 0=x) (hx:x≠65535):genS ws s=x:=by unfold genS;rw [h,KJ hx]
theorem zvr (ws:LI):genN ws=genS ws (secN ws):=by
 unfold genN secN
 split<;>rfl
theorem sec_of (hs:s=0\/s=1) (h:genS us (1 - s)<genS us s):secN us=s/\genN us=genS us s:=by
 rcases hs with rfl|rfl
 {
 have: ¬genS us 0<genS us 1:=by simp at h;omega
 unfold secN genN;rw [KJ this,KJ this];exact⟨rfl,rfl⟩ }
 {
 have:genS us 0<genS us 1:=by simpa using h
 unfold secN genN;rw [KK this,KK this];exact⟨rfl,rfl⟩ }
theorem rest_at (h:64<=ws.length) (i:Nat) (hi:i< (restS ws).length): (restS ws).getD i 0=ws.getD (headP ws+i) 0:=by
 have hs:=zgk ws;have hl: (secL ws (secN ws)).length=31:=zc6 (by omega);have hf:=zrt h;have hsp:=zv0 (secL ws (secN ws));have hr: (za7 (secL ws (secN ws))).2=restS ws:=rfl;rw [hr,hl] at hsp;have h1: (secL ws (secN ws)).getD (31 - (restS ws).length+i) 0= (restS ws).getD i 0:=by
  rw [hsp];have: ((secL ws (secN ws)).take (31 - (restS ws).length)).length=31 - (restS ws).length:=by rw [KQ,hl];omega
  simp only [ka];rw [KC (by rw [this];omega),this]
  congr 2
  omega
 rw [<-h1];unfold secL headP;simp only [ka];rw [List.getElem?_take_of_lt (by omega),List.getElem?_drop]
 congr 2
 omega
theorem zt5 (h:64<=ws.length) (hl:us.length=ws.length) (hsame: ∀i,i<64->i<headP ws\/(secN ws+1)* 32<=i->us.getD i 0=ws.getD i 0):
 secN us=secN ws/\genN us=genN ws/\secL us (secN ws)= (secL ws (secN ws)).take (31 - (restS ws).length)++(secL us (secN ws)).drop (31 - (restS ws).length):=by
 have hs:=zgk ws;have hf:=zrt h;have hh:headP ws+(restS ws).length= (secN ws+1)* 32:=by unfold headP;omega
 have g: ∀s,s=0\/s=1->genS us s=genS ws s:=fun s hs' =>zsm (hsame _ (by omega) (by omega))
 have e0:=g 0 (.inl rfl);have e1:=g 1 (.inr rfl);refine⟨by unfold secN;rw [e0,e1],by unfold genN;rw [e0,e1], ?_⟩;have hl1: (secL ws (secN ws)).length=31:=zc6 (by omega);have hl2: (secL us (secN ws)).length=31:=zc6 (by omega)
 conv=>lhs;rw [<-List.take_append_drop (31 - (restS ws).length) (secL us (secN ws))]
 congr 1
 apply take_getD ?_ (by omega) (by omega)
 intro i hi;unfold secL;simp only [ka];rw [List.getElem?_take_of_lt (by omega),List.getElem?_drop,List.getElem?_take_of_lt (by omega),List.getElem?_drop];have:=hsame (secN ws * 32+1+i) (by omega) (by omega)
 simpa only [ka] using this
theorem zua (h:64<=ws.length) (hl:us.length=ws.length) (hsame: ∀i,i<64->i<headP ws\/(secN ws+1)* 32<=i->us.getD i 0=ws.getD i 0):
 logR us=logR ws++(za7 ((secL us (secN ws)).drop (31 - (restS ws).length))).1:=by
 obtain ⟨h1,_,h3⟩:=zt5 h hl hsame;have hs:=zgk ws;have hl1: (secL ws (secN ws)).length=31:=zc6 (by omega);have hl2: (secL us (secN ws)).length=31:=zc6 (by omega);have hf:=zrt h;have:=zwc 31 (secL ws (secN ws)) (by omega) ((secL us (secN ws)).drop (31 - (restS ws).length)) (by rw [List.length_drop,hl2];show _= (restS ws).length;omega);rw [hl1,show(za7 (secL ws (secN ws))).2=restS ws from rfl,<-h3] at this;unfold logR;rw [h1,this]
theorem rest_us (h:64<=ws.length): (secL us (secN ws)).drop (31 - (restS ws).length)= (us.drop (headP ws)).take (restS ws).length:=by
 have hs:=zgk ws;have hf:=zrt h;unfold secL headP;rw [List.drop_take,List.drop_drop]
 congr 1
 { omega }
 {
 congr 1
 omega }
theorem zvi (h:l.getD 0 0=65535):longS l=0:=by
 cases l with
 |nil=>rfl
 |cons x r=>
  simp at h
  simp only [longS];rw [KJ (by omega)]
theorem zu0 (h:zce l=true) (i:Nat) (hi:i<l.length):l.getD i 0=65535:=by
 unfold zce at h;rw [kH] at h;have:=h l[i] (KH hi);rw [zk5 hi]
 simpa using this
theorem zsf (l:LI) (p m i:Nat) (hi:i<m): ((l.drop p).take m).getD i 0=l.getD (p+i) 0:=by
 simp only [ka];rw [List.getElem?_take_of_lt hi,List.getElem?_drop]
theorem zr6 {words:LI} {p:Nat} (hf:p+words.length<=ws.length):zro (proC p words) ws=chg (andW words) p words.length ws:=by
 have:=zs4 (zt6 p words) hf words.length (kQ _);rw [<-this,kh (by rw [zrx];exact kQ _)]
theorem fit_stay (hk:lchk ws f=0) (hfit:fitsA ws r=true) (k:Nat) (hkr:k<=r.length):logR (chg (andW r) (headP ws+1) k ws)=logR ws/\genN (chg (andW r) (headP ws+1) k ws)=genN ws:=by
 have q:=zdm hk;have hp:=zr0 hfit;have hs:=zgk ws;have hf:=zrt q.2.1;have hh:headP ws+(restS ws).length= (secN ws+1)* 32:=by unfold headP;omega
 have hsame: ∀i,i<64->i<headP ws\/(secN ws+1)* 32<=i->(chg (andW r) (headP ws+1) k ws).getD i 0=ws.getD i 0:=fun i hi hc=>by
  rw [zrq _ _ _ _ _ (by omega),KJ (by omega)]
 refine⟨?_,(zt5 q.2.1 (zbw _ _ _ _) hsame).2.1⟩;rw [zua q.2.1 (zbw _ _ _ _) hsame,rest_us q.2.1];have h0: (((chg (andW r) (headP ws+1) k ws).drop (headP ws)).take (restS ws).length).getD 0 0=65535:=by
  rw [zsf _ _ _ _ (by omega),zrq _ _ _ _ _ (by omega),KJ (by omega),<-rest_at q.2.1 0 (by omega)];exact zu0 hp.1 0 (by omega)
 rw [zov (zvi h0)]
 simp
theorem fit_new (hk:lchk ws f=0) (hr:recE r=0) (hfit:fitsA ws r=true):
 logR (chg (andW [headS r.length]) (headP ws) 1 (chg (andW r) (headP ws+1) r.length ws))=logR ws++ [r]/\genN (chg (andW [headS r.length]) (headP ws) 1 (chg (andW r) (headP ws+1) r.length ws))=genN ws:=by
 have q:=zdm hk;have rr:=zsa hr;have hp:=zr0 hfit;have hs:=zgk ws;have hf:=zrt q.2.1;have hh:headP ws+(restS ws).length= (secN ws+1)* 32:=by unfold headP;omega
 obtain ⟨us,hus⟩: ∃us,us=chg (andW [headS r.length]) (headP ws) 1 (chg (andW r) (headP ws+1) r.length ws):=⟨_,rfl⟩;have hlen:us.length=ws.length:=by rw [hus,zbw,zbw]
 have hget: ∀i,i<64->us.getD i 0=if i=headP ws then andW [headS r.length] 0 (ws.getD i 0) else if headP ws+1<=i/\i<headP ws+1+r.length then andW r (i - (headP ws+1)) (ws.getD i 0) else ws.getD i 0:=fun i hi=>by
  rw [hus,zrq _ _ _ _ _ (by rw [zbw];omega),zrq _ _ _ _ _ (by omega)]
  by_cases c:i=headP ws
  {
  rw [KK (by omega),KK c,KJ (by omega)]
  congr 1
  omega }
  { rw [KJ (by omega),KJ c] }
 have hsame: ∀i,i<64->i<headP ws\/(secN ws+1)* 32<=i->us.getD i 0=ws.getD i 0:=fun i hi hc=>by
  rw [hget i hi,KJ (by omega),KJ (by omega)]
 rw [<-hus];refine⟨?_,(zt5 q.2.1 hlen hsame).2.1⟩;rw [zua q.2.1 hlen hsame,rest_us q.2.1];have hold: ∀i,i< (restS ws).length->ws.getD (headP ws+i) 0=65535:=fun i hi=>by rw [<-rest_at q.2.1 i hi];exact zu0 hp.1 i hi
 have hwords: (us.drop (headP ws)).take (restS ws).length=headS r.length::r++List.replicate ((restS ws).length - 1 - r.length) 65535:=by
  apply zr4
  { simp [hlen];omega }
  {
  intro i hi;have hi' :i< (restS ws).length:=by simp at hi;omega
  rw [zsf _ _ _ _ hi',hget _ (by omega),hold i hi']
  by_cases c0:i=0
  {
  subst c0;rw [KK (by omega)]
  show bits .and .i64 65535 (headS r.length)=_
  rw [zs0 (zvm rr.2.1)];rfl }
  {
  rw [KJ (by omega)];obtain ⟨j,rfl⟩: ∃j,i=j+1:=⟨i - 1,by omega⟩
  by_cases c1:j<r.length
  {
  rw [KK (by omega)];have e:headP ws+(j+1)- (headP ws+1)=j:=by omega
  rw [e]
  show bits .and .i64 65535 (r.getD j 0)=_
  rw [zs0 (zk3 rr.2.2 j c1),List.cons_append];simp only [ka,KL];rw [KD c1] }
  {
  rw [KJ (by omega)];rw [List.cons_append];simp only [ka,KL];rw [KC (by omega),List.getElem?_replicate,KK (by omega)];rfl } } }
 rw [hwords,zuz hr _ rfl,zov (ztx (zu3 _))]
theorem swap_stay (hk:lchk ws f=0) (hl:us.length=ws.length) (hsame: ∀i,secN ws * 32<=i->i<secN ws * 32+32->us.getD i 0=ws.getD i 0) (hz:us.getD ((1 - secN ws)* 32) 0=65535):logR us=logR ws/\genN us=genN ws:=by
 have q:=zdm hk;have hs:=zgk ws;have hgn:=zo5 q.2.2.2.1 q.2.1;have e1:genS us (secN ws)=genN ws:=by rw [zvr];exact zsm (hsame _ (kQ _) (by omega))
 have e0:genS us (1 - secN ws)=0:=genS_all hz;obtain ⟨h1,h2⟩:=sec_of hs (show genS us (1 - secN ws)<genS us (secN ws) by rw [e0,e1];omega);refine⟨?_,by rw [h2,e1]⟩;unfold logR;rw [h1,zvh hl (fun i h3 h4=>hsame i (by omega) h4)]
theorem swap_new (hk:lchk ws f=0) (hla: (laidA r keep).2=0) (hl:us.length=ws.length) (hsame:us.getD (secN ws * 32) 0=ws.getD (secN ws * 32) 0) (hz:us.getD ((1 - secN ws)* 32) 0=genN ws+1)
 (hw: ∀i,i<31->us.getD ((1 - secN ws)* 32+1+i) 0=if i< (laidA r keep).1.length then(laidA r keep).1.getD i 0 else 65535):logR us=keep++ [r]/\genN us=genN ws+1:=by
 have q:=zdm hk;have hs:=zgk ws;have hgn:=zo5 q.2.2.2.1 q.2.1;have e1:genS us (secN ws)=genN ws:=by rw [zvr];exact zsm hsame
 have e0:genS us (1 - secN ws)=genN ws+1:=genS_word hz (by omega);have hoo:1 - (1 - secN ws)=secN ws:=by omega
 obtain ⟨h1,h2⟩:=sec_of (s:=1 - secN ws) (by omega) (show genS us (1 - (1 - secN ws))<genS us (1 - secN ws) by rw [hoo,e0,e1];omega);refine⟨?_,by rw [h2,e0]⟩;unfold logR;rw [h1];obtain ⟨f1,f2⟩:=zv3 (keep++ [r]) [] hla;have hfl: (laidA r keep).1=flat (keep++ [r]):=by
  show(laidS (keep++ [r]) []).1=_
  rw [f1];simp
 have hle: (laidA r keep).1.length<=31:=zsb _ _ (by simp);have:secL us (1 - secN ws)=flat (keep++ [r])++List.replicate (31 - (laidA r keep).1.length) 65535:=by
  rw [<-hfl]
  apply zr4
  { rw [zc6 (by omega)];simp;omega }
  {
  intro i hi;rw [zc6 (by omega)] at hi;unfold secL;rw [zsf _ _ _ _ hi,hw i hi]
  by_cases c:i< (laidA r keep).1.length
  {
  rw [KK c];simp only [ka];rw [KD c] }
  {
  rw [KJ c];simp only [ka];rw [KC (by omega),List.getElem?_replicate];rw [KK (by omega)];rfl } }
 rw [this,zwb _ _ f2 (zu3 _)]
theorem eraL_cons (o:Nat):eraL o 32= (32 * o,none)::(List.range 31).map (fun i=>(32 * o+(i+1),none)):=by
 unfold eraL;rw [List.range_succ_eq_map]
 simp [Function.comp_def]
theorem zvq (h:zcp ws f r keep=0) (k:Nat) (hk:k< (appC ws r keep).length):logR (zro ((appC ws r keep).take k) ws)=logR ws/\genN (zro ((appC ws r keep).take k) ws)=genN ws:=by
 have q:=zr2 h;have l:=zdm q.1;have rr:=zsa q.2.1;have hs:=zgk ws;have hf:=zrt l.2.1
 by_cases k0:k=0
 { subst k0;exact⟨rfl,rfl⟩ }
 cases hfit:fitsA ws r
 {
 have hC:appC ws r keep=eraL (1 - secN ws) 32++(proC ((1 - secN ws)* 32+1) (laidA r keep).1++proC ((1 - secN ws)* 32) [genN ws+1]):=by
  unfold appC zg4;rw [KJ (by simp [hfit])];simp [stC]
 have hle: (laidA r keep).1.length<=31:=zsb _ _ (by simp);rw [hC] at hk|-;have hk2:k<=32+(laidA r keep).1.length:=by
  simp only [kj,zss,zrx,KX,List.length_nil] at hk;omega
 rw [<-KW,Kn (by simp only [kj,zss,zrx];exact hk2)];obtain ⟨k',rfl⟩: ∃k',k=k' +1:=⟨k - 1,by omega⟩;rw [eraL_cons,List.cons_append,List.take_succ_cons];have hmem: ∀c∈((List.range 31).map (fun i=>(32 *(1 - secN ws)+(i+1),(none:Option (Nat×Int))))++proC ((1 - secN ws)* 32+1) (laidA r keep).1).take k',(1 - secN ws)* 32+1<=c.1/\c.1< (1 - secN ws)* 32+32:=by
  intro c hc;have hc:=List.mem_of_mem_take hc;rw [KS] at hc
  rcases hc with hc|hc
  {
  simp only [kL,List.mem_range] at hc;obtain ⟨i,hi,rfl⟩:=hc;simp only;omega }
  {
  have:=stC_far (st:=.prg ((1 - secN ws)* 32+1) (laidA r keep).1) hc;simp only at this;omega }
 refine swap_stay q.1 (by rw [zrs]) ?_ ?_
 {
 intro i h1 h2
 show(zro _ (ws.set (32 *(1 - secN ws)) 65535)).getD i 0=_
 rw [zs1 (fun c hc=>by have:=hmem c hc;omega)];have:32 *(1 - secN ws)≠i:=by omega
 simp [this] }
 {
 show(zro _ (ws.set (32 *(1 - secN ws)) 65535)).getD _ 0=_
 rw [zs1 (fun c hc=>by have:=hmem c hc;omega)];have: (1 - secN ws)* 32<ws.length:=by omega
 rw [Nat.mul_comm 32]
 simp [this] } }
 {
 have hp:=zr0 hfit;have hh:headP ws+(restS ws).length= (secN ws+1)* 32:=by unfold headP;omega
 have hC:appC ws r keep=proC (headP ws+1) r++proC (headP ws) [headS r.length]:=by
  unfold appC zg4;rw [KK hfit];simp [stC]
 rw [hC] at hk|-;have hk2:k<=r.length:=by simp only [kj,zrx,KX,List.length_nil] at hk;omega
 rw [Kn (by rw [zrx];exact hk2),zs4 (zt6 _ _) (by omega) k hk2];exact fit_stay q.1 hfit k hk2 }
theorem app_new (h:zcp ws f r keep=0): (logR (zro (appC ws r keep) ws)=logR ws++ [r]\/logR (zro (appC ws r keep) ws)=keep++ [r])/\genN (zro (appC ws r keep) ws)≠0/\genN (zro (appC ws r keep) ws)<=60000/\genN (zro (appC ws r keep) ws)<=genN ws+1:=by
 have q:=zr2 h;have l:=zdm q.1;have rr:=zsa q.2.1;have hs:=zgk ws;have hf:=zrt l.2.1;have hgn:=zo5 l.2.2.2.1 l.2.1;cases hfit:fitsA ws r
 {
 have hg:=q.2.2.2.resolve_left (by simp [hfit]);have hC:appC ws r keep=eraL (1 - secN ws) 32++(proC ((1 - secN ws)* 32+1) (laidA r keep).1++proC ((1 - secN ws)* 32) [genN ws+1]):=by
  unfold appC zg4;rw [KJ (by simp [hfit])];simp [stC]
 have hle: (laidA r keep).1.length<=31:=zsb _ _ (by simp);have hlok:okL (laidA r keep).1=true:=zvd _ _ rfl;have hE:zro (appC ws r keep) ws=chg (andW [genN ws+1]) ((1 - secN ws)* 32) 1 (chg (andW (laidA r keep).1) ((1 - secN ws)* 32+1) (laidA r keep).1.length (chg (fun _ _=>65535) ((1 - secN ws)* 32) 32 ws)):=by
  rw [hC,zr8,zr8,zuf,zr6 (p:=(1 - secN ws)* 32+1) (words:=(laidA r keep).1) (by rw [zbw];omega),zr6 (p:=(1 - secN ws)* 32) (by rw [zbw,zbw];simp only [KX,List.length_nil];omega)];rfl
 rw [hE];obtain ⟨us,hus⟩: ∃us,us=chg (andW [genN ws+1]) ((1 - secN ws)* 32) 1 (chg (andW (laidA r keep).1) ((1 - secN ws)* 32+1) (laidA r keep).1.length (chg (fun _ _=>65535) ((1 - secN ws)* 32) 32 ws)):=⟨_,rfl⟩;rw [<-hus];have hlen:us.length=ws.length:=by rw [hus,zbw,zbw,zbw]
 have hokg:okW (genN ws+1)=true:=by unfold okW;simp;omega
 have hnew:=swap_new (r:=r) (keep:=keep) q.1 q.2.2.1 hlen ?_ ?_ ?_
 { exact⟨.inr hnew.1,by rw [hnew.2];omega,by rw [hnew.2];omega,by rw [hnew.2];omega⟩ }
 { rw [hus,zrq _ _ _ _ _ (by rw [zbw,zbw];omega),KJ (by omega),zrq _ _ _ _ _ (by rw [zbw];omega),KJ (by omega),zrq _ _ _ _ _ (by omega),KJ (by omega)] }
 {
 rw [hus,zrq _ _ _ _ _ (by rw [zbw,zbw];omega),KK (by omega),zrq _ _ _ _ _ (by rw [zbw];omega),KJ (by omega),zrq _ _ _ _ _ (by omega),KK (by omega)];rw [Nat.sub_self]
 show bits .and .i64 65535 (genN ws+1)=_
 exact zs0 hokg }
 {
 intro i hi;rw [hus,zrq _ _ _ _ _ (by rw [zbw,zbw];omega),KJ (by omega),zrq _ _ _ _ _ (by rw [zbw];omega),zrq _ _ _ _ _ (by omega)]
 by_cases c:i< (laidA r keep).1.length
 {
 rw [KK (by omega),KK (by omega),KK c];have e: (1 - secN ws)* 32+1+i - ((1 - secN ws)* 32+1)=i:=by omega
 rw [e]
 show bits .and .i64 65535 ((laidA r keep).1.getD i 0)=_
 exact zs0 (zk3 hlok i c) }
 { rw [KJ (by omega),KK (by omega),KJ c] } } }
 {
 have hp:=zr0 hfit;have hh:headP ws+(restS ws).length= (secN ws+1)* 32:=by unfold headP;omega
 have hC:appC ws r keep=proC (headP ws+1) r++proC (headP ws) [headS r.length]:=by
  unfold appC zg4;rw [KK hfit];simp [stC]
 rw [hC,zr8,zr6 (p:=headP ws+1) (words:=r) (by omega),zr6 (p:=headP ws) (by rw [zbw];simp only [KX,List.length_nil];omega)];have:=fit_new q.1 q.2.1 hfit;exact⟨.inl this.1,by show genN (chg _ _ 1 _)≠0;rw [this.2];exact l.2.2.2.2.1,by show genN (chg _ _ 1 _)<=_;rw [this.2];exact l.2.2.2.2.2,by show genN (chg _ _ 1 _)<=_;rw [this.2];omega⟩ }
theorem appC_ok (h:zcp ws f r keep=0): ∀c∈appC ws r keep,∀b x,c.2=some (b,x)->okW x=true:=by
 intro c hc b x hx;unfold appC at hc;rw [List.mem_flatMap] at hc;obtain ⟨st,hst,hc⟩:=hc;exact stC_ok (ztw h st hst) c hc b x hx
theorem zvg {f' :Int} (h:zcp ws f r keep=0) (k:Nat) (hk:k<=(appC ws r keep).length) (h0: -1<=f') (h1:f' <=100000):
 lchk (zro ((appC ws r keep).take k) ws) f' =0/\(k< (appC ws r keep).length->logR (zro ((appC ws r keep).take k) ws)=logR ws)/\(k= (appC ws r keep).length->logR (zro ((appC ws r keep).take k) ws)=logR ws++ [r]\/logR (zro ((appC ws r keep).take k) ws)=keep++ [r]):=by
 have q:=zr2 h;have l:=zdm q.1;have hok:okL (zro ((appC ws r keep).take k) ws)=true:=zux l.2.2.2.1 (fun c hc=>appC_ok h c (List.mem_of_mem_take hc));have hck:chk (zro ((appC ws r keep).take k) ws) f' =0:=zta l.1 (zrs _ _) hok h0 h1
 by_cases c:k< (appC ws r keep).length
 {
 have hs:=zvq h k c;exact⟨ztj hck (by rw [zrs];exact l.2.1) (by rw [hs.2];exact l.2.2.2.2.1) (by rw [hs.2];exact l.2.2.2.2.2),fun _=>hs.1,fun e=>by omega⟩ }
 {
 have e:k= (appC ws r keep).length:=by omega
 have ht: (appC ws r keep).take k=appC ws r keep:=kh (by omega);have hn:=app_new h;rw [ht] at hck|-;exact⟨ztj hck (by rw [zrs];exact l.2.1) hn.2.1 hn.2.2.1,fun h=>absurd h c,fun _=>hn.1⟩ }
theorem zto (h:zcp ws f r keep=0):
 (appS ws f r keep).1.length=ws.length/\(-1<=(appS ws f r keep).2.1/\(appS ws f r keep).2.1<=100000)/\(∀f',-1<=f' ->f' <=100000->lchk (appS ws f r keep).1 f' =0)/\
 ((appS ws f r keep).2.2=0/\(logR (appS ws f r keep).1=logR ws++ [r]\/logR (appS ws f r keep).1=keep++ [r])\/(appS ws f r keep).2.2=7/\logR (appS ws f r keep).1=logR ws):=by
 have q:=zr2 h;have l:=zdm q.1;have c:=zhq l.1;rw [ztp h];have hle:=zr7 f (appC ws r keep).length;have bb:=zpr (n:=(appC ws r keep).length) c.2.1 c.2.2.1 (kQ (cnt f (appC ws r keep).length));refine⟨zrs _ _,bb,fun f' h0 h1=>(zvg h _ hle h0 h1).1, ?_⟩;have hp:=zvg h _ hle (f' := -1) (by decide) (by decide)
 by_cases e:cnt f (appC ws r keep).length= (appC ws r keep).length
 {
 left
 exact⟨zsx e,hp.2.2 e⟩ }
 {
 right
 exact⟨zst (by omega),hp.2.1 (by omega)⟩ }
theorem ztt (h:zcp ws (-1) r keep=0):
 ∃us,appS ws (-1) r keep= (us,-1,0)/\us.length=ws.length/\lchk us (-1)=0/\(logR us=logR ws++ [r]\/logR us=keep++ [r]):=by
 have:=zto h;rw [zul h] at this;refine⟨_,zul h,this.1,this.2.2.1 (-1) (by decide) (by decide), ?_⟩
 rcases this.2.2.2 with h|h
 { exact h.2 }
 {
 have:=h.1;simp at this }
theorem zoq (h:64<=ws.length): (logR ws).length<=31:=by
 have:=zkg (secL ws (secN ws));rw [zc6 (by have:=zgk ws;omega)] at this;exact this
structure BW (w:World) (a:oA) (n c:Nat) (ws:LI):Prop where
 at_:zag w a ws
 len:ws.length=n
 cap:n<=c
 max:n<=maxLen
theorem BW.bl {c:Nat} (h:BW w a n c ws) (hb:bZ w w'):BW w' a n c ws:=⟨h.at_.bl hb,h.len,h.cap,h.max⟩
theorem BW.bi {c:Nat} (h:BW w a n c ws):BI w a n ws:=⟨h.at_,h.len,h.max⟩
theorem BW.turns {c:Nat} (h:BW w a n c ws) (hg:w.grownBy w' (some B)) (ho:Off B a):BW w' a n c ws:=⟨zax h.at_ hg ho,h.len,h.cap,h.max⟩
theorem inB_t {n a b:Int} (h0:a<=n) (h1:n<=b):inB n a b=true:=by unfold inB;simp;omega
theorem inB_lo {n a b:Int} (h0: ¬a<=n):inB n a b=false:=by unfold inB;simp;omega
theorem inB_hi {n a b:Int} (h0: ¬n<=b):inB n a b=false:=by unfold inB;simp;omega
theorem zbb (n a b:Int) (w:World):Cq 176 #[iV n,iV a,iV b] w fun e w' =>e=.returned (.bool (inB n a b))/\w' =w:=by
 by_cases h0:a<=n
 {
 by_cases h1:n<=b
 {
 have hd:decide (n<=b)=true:=by simp;omega
 go_enter Tryz.func176,Tryz.ntmps176;go_wp2;go_ret;exact⟨zan (inB_t h0 h1).symm,rfl⟩ }
 {
 have hd:decide (n<=b)=false:=by simp;omega
 go_enter Tryz.func176,Tryz.ntmps176;go_wp2;go_ret;exact⟨zan (inB_hi (by omega)).symm,rfl⟩ } }
 {
 go_enter Tryz.func176,Tryz.ntmps176;go_wp2;go_ret;exact⟨zan (inB_lo (by omega)).symm,rfl⟩ }
theorem unE_1 {u:Un} (h:lchk u.ws u.fu≠0):unE u=lchk u.ws u.fu:=by unfold unE;rw [KK h]
theorem unE_2 {u:Un} (h:lchk u.ws u.fu=0) (h2:u.ws.length≠192):unE u=4:=by unfold unE;rw [KJ (by simpa using h),KK h2]
theorem unE_3 {u:Un} (h:lchk u.ws u.fu=0) (h2:u.ws.length=192) (h3: (inB u.n 0 8&&inB u.hv 0 40)=false):unE u=3:=by unfold unE;rw [KJ (by simpa using h),KJ (by simpa using h2),h3];rfl
theorem unE_0 {u:Un} (h:lchk u.ws u.fu=0) (h2:u.ws.length=192) (h3: (inB u.n 0 8&&inB u.hv 0 40)=true):unE u=0:=by unfold unE;rw [KJ (by simpa using h),KJ (by simpa using h2),h3];rfl
theorem zjw {u:Un} (h:unE u=0):lchk u.ws u.fu=0/\u.ws.length=192/\(0<=u.n/\u.n<=8)/\0<=u.hv/\u.hv<=40:=by
 unfold unE at h
 split at h
 { rename_i h1;exact absurd h h1 }
 {
 rename_i h1
 split at h
 { cases h }
 {
 rename_i h2
 split at h
 {
 rename_i h3
 rw [kr] at h3;unfold inB at h3
 simp at h3 h1 h2
 exact⟨h1,h2,h3.1,h3.2⟩ }
 {
 cases h } } }
theorem zcz (u:Un) (a:oA) (n c:Nat) (w:World) (h:BW w a n c u.ws):
 Cq 110 #[unv u a n c] w fun e w' =>e=.returned (iV (unE u))/\bZ w w' :=by
 have hw0:bZ w (w.alloc (.cells (aU a n c u) 82)):=bA1;have b0:=uH (kP w (.cells (aU a n c u) 82));have HL:=uH (fun W (hW:bZ w W)=>zd5 a n c u.ws u.fu W (h.bl hW).at_ h.len h.max);have L:=uH h.len;have hm:=h.max;unfold maxLen at hm;unfold unv;clear h;have x0:=zaa b0.o 0 _ rfl;have x1:=zaa b0.o 1 _ rfl;go_enter Tryz.func110,Tryz.ntmps110;go_wp2_with fail;generalize w.alloc (.cells (aU a n c u) 82)=W at *;refine(zae HL _ hw0).mono ?_;rintro e w1 ⟨rfl,hb⟩;replace b0:=uH (zab b0.o hb);replace hw0:=bT hw0 hb;clear hb x0 x1 HL
 by_cases z1:lchk u.ws u.fu=0
 rotate_left
 {
 have HE:=uH (unE_1 z1);have hq: (lchk u.ws u.fu !=0)=true:=by simpa using z1
 clear z1;generalize lchk u.ws u.fu=q at *;go_wp2_with fail;go_ret;exact⟨zap HE.o.symm,hw0⟩ }
 have E2:=uH (unE_2 z1);have E3:=uH (unE_3 z1);have E0:=uH (unE_0 z1);rw [z1];clear z1;have x0:=zaa b0.o 0 _ rfl;have x3:=zaa b0.o 3 _ rfl;have x4:=zaa b0.o 4 _ rfl
 by_cases z2:n=192
 rotate_left
 {
 have HE:=uH (E2.o (by rw [L.o];exact z2));have hq: ((n:Int) !=192)=true:=by simp;omega
 clear z2;go_wp2_with fail;go_ret;exact⟨zap HE.o.symm,hw0⟩ }
 have hq: ((n:Int) !=192)=false:=by simp;omega
 have hl:=L.o.trans z2;replace E3:=uH (E3.o hl);replace E0:=uH (E0.o hl);clear z2 hl;cases g1:inB u.n 0 8
 {
 have HE:=uH (E3.o (by rw [g1];rfl))
 go_wp2_with (go_at_call 176;refine(zbb _ _ _ _).mono ?_;rintro e w' ⟨rfl,rfl⟩)
 go_ret;exact⟨zap HE.o.symm,hw0⟩ }
 {
 cases g2:inB u.hv 0 40
 {
 have HE:=uH (E3.o (by rw [g1,g2];rfl))
 go_wp2_with (go_at_call 176;refine(zbb _ _ _ _).mono ?_;rintro e w' ⟨rfl,rfl⟩)
 go_ret;exact⟨zap HE.o.symm,hw0⟩ }
 {
 have HE:=uH (E0.o (by rw [g1,g2];rfl))
 go_wp2_with (go_at_call 176;refine(zbb _ _ _ _).mono ?_;rintro e w' ⟨rfl,rfl⟩)
 go_ret;exact⟨zap HE.o.symm,hw0⟩ } }
theorem msE_bad {m:Ms} (h:msB m=false):msE m=3:=by unfold msE;rw [h];rfl
theorem msE_ok {m:Ms} (h:msB m=true):msE m=0:=by unfold msE;rw [h];rfl
theorem ze9 (m:Ms) (a:oA) (n c:Nat) (w:World) (h:BI w a n m.ws):
 Cq 148 #[msv m a n c] w fun e w' =>e=.returned (iV (msE m))/\bZ w w' :=by
 have hw0:bZ w (w.alloc (.cells (aM m a n c) 99)):=bA1;have HA:=uH (zc8 a n c m.ws _ (h.bl hw0).at_ h.len h.max);have L:=uH h.len;have hm:=h.max;unfold maxLen at hm;unfold msv;clear h;have hB:Hd (∀b,msB m=b->b=false->msE m=3):=fun b h1 h2=>msE_bad (h1.trans h2)
 unfold msB at hB;cases g1:inB m.k 1 7
 {
 have HE:=uH (hB.o _ rfl (by rw [g1];rfl));go_enter Tryz.func148,Tryz.ntmps148
 go_wp2_with (go_at_call 176;refine(zbb _ _ _ _).mono ?_;rintro e w' ⟨rfl,rfl⟩)
 go_ret;exact⟨zap HE.o.symm,hw0⟩ }
 cases g2:inB m.u 0 3
 {
 have HE:=uH (hB.o _ rfl (by rw [g1,g2];rfl));go_enter Tryz.func148,Tryz.ntmps148
 go_wp2_with (go_at_call 176;refine(zbb _ _ _ _).mono ?_;rintro e w' ⟨rfl,rfl⟩)
 go_ret;exact⟨zap HE.o.symm,hw0⟩ }
 cases g3:inB m.n 1 8
 {
 have HE:=uH (hB.o _ rfl (by rw [g1,g2,g3];rfl));go_enter Tryz.func148,Tryz.ntmps148
 go_wp2_with (go_at_call 176;refine(zbb _ _ _ _).mono ?_;rintro e w' ⟨rfl,rfl⟩)
 go_ret;exact⟨zap HE.o.symm,hw0⟩ }
 cases g4:inB m.at' 0 40
 {
 have HE:=uH (hB.o _ rfl (by rw [g1,g2,g3,g4];rfl));go_enter Tryz.func148,Tryz.ntmps148
 go_wp2_with (go_at_call 176;refine(zbb _ _ _ _).mono ?_;rintro e w' ⟨rfl,rfl⟩)
 go_ret;exact⟨zap HE.o.symm,hw0⟩ }
 cases g5:inB m.im 0 60
 {
 have HE:=uH (hB.o _ rfl (by rw [g1,g2,g3,g4,g5];rfl));go_enter Tryz.func148,Tryz.ntmps148
 go_wp2_with (go_at_call 176;refine(zbb _ _ _ _).mono ?_;rintro e w' ⟨rfl,rfl⟩)
 go_ret;exact⟨zap HE.o.symm,hw0⟩ }
 by_cases g6:n<=8
 rotate_left
 {
 have HE:=uH (hB.o _ rfl (by rw [g1,g2,g3,g4,g5,L.o];simp [g6]));have d6:decide ((n:Int)<=8)=false:=by simp;omega
 clear g6;go_enter Tryz.func148,Tryz.ntmps148
 go_wp2_with (go_at_call 176;refine(zbb _ _ _ _).mono ?_;rintro e w' ⟨rfl,rfl⟩)
 go_ret;exact⟨zap HE.o.symm,hw0⟩ }
 have d6:decide ((n:Int)<=8)=true:=by simp;omega
 cases g7:okL m.ws
 {
 have HE:=uH (hB.o _ rfl (by rw [g1,g2,g3,g4,g5,g7];simp));rw [g7] at HA;clear g6;go_enter Tryz.func148,Tryz.ntmps148
 go_wp2_with (first| (go_at_call 176;refine(zbb _ _ _ _).mono ?_;rintro e w' ⟨rfl,rfl⟩)| (go_at_call 217;refine(zae HA).mono ?_;rintro e w' ⟨rfl,rfl⟩))
 go_ret;exact⟨zap HE.o.symm,hw0⟩ }
 {
 have HE:=uH (msE_ok (m:=m) (by unfold msB;rw [g1,g2,g3,g4,g5,g7,L.o];simp [g6]));rw [g7] at HA;clear g6;go_enter Tryz.func148,Tryz.ntmps148
 go_wp2_with (first| (go_at_call 176;refine(zbb _ _ _ _).mono ?_;rintro e w' ⟨rfl,rfl⟩)| (go_at_call 217;refine(zae HA).mono ?_;rintro e w' ⟨rfl,rfl⟩))
 go_ret;exact⟨zap HE.o.symm,hw0⟩ }
theorem zqu (a:oA) (n c:Nat) (r:LI) (k:Int) (l:Nat) (w:World) (h:zag w a r) (hn:r.length=n) (hm:n<=maxLen) (h0:0<l) (hl:l<=10):
 Cq 177 #[.slice a n c,iV k,iV l] w fun e w' =>e=.returned (.bool (isR r k l))/\w' =w:=by
 unfold maxLen at hm
 by_cases h1:n=l
 rotate_left
 {
 have HE:=uH (show isR r k l=false by unfold isR;rw [hn];simp [h1]);have d1: ((n:Int)==(l:Int))=false:=by simp;omega
 clear hn h1;go_enter Tryz.func177,Tryz.ntmps177;go_wp2;go_ret;exact⟨zan HE.o.symm,rfl⟩ }
 {
 have d1: ((n:Int)==(l:Int))=true:=by simp;omega
 rcases h with e| ⟨b,off,rfl,hc⟩
 { rw [e] at hn;simp at hn;omega }
 have e0:=hc 0 (by omega);rw [Nat.add_zero] at e0;have hlt: (0:Int)< (n:Int):=by omega
 by_cases h2:r.getD 0 0=k
 {
 have HE:=uH (show isR r k l=true by unfold isR;rw [hn];simp only [h1,h2];simp);have d2: (r.getD 0 0==k)=true:=by simpa using h2
 clear hn h1 hc h2;generalize r.getD 0 0=r0 at *;go_enter Tryz.func177,Tryz.ntmps177;go_wp2;go_ret;exact⟨zan HE.o.symm,rfl⟩ }
 {
 have HE:=uH (show isR r k l=false by unfold isR;simp only [decide_eq_false h2,Bool.and_false]);have d2: (r.getD 0 0==k)=false:=by simpa using h2
 clear hn h1 hc h2;generalize r.getD 0 0=r0 at *;go_enter Tryz.func177,Tryz.ntmps177;go_wp2;go_ret;exact⟨zan HE.o.symm,rfl⟩ } }
theorem zcs (s:Us) (w:World) (h0:0<=s.slot) (h1:s.slot<=1):Cq 311 #[.agg #[iV s.slot,iV s.by',iV s.rdy]] w fun e w' =>e=.returned (iV (oth s))/\bZ w w' :=by
 have hw0:bZ w (w.alloc (.cells #[iV s.slot,iV s.by',iV s.rdy] 84)):=bA1;go_enter Tryz.func311,Tryz.ntmps311;go_wp2;go_ret;exact⟨rfl,hw0⟩
def OneM (w:World) (m:Ms) (e:Ending) (w' :World):Prop:=(∃b,e=.returned (sV b 1 1)/\za9 w' (some ⟨b,0,none⟩) [m]/\w.heap.size<=b)/\bZ w w'
theorem zdy (m:Ms) (a:oA) (n c:Nat) (w:World):Cq 313 #[msv m a n c] w (OneM w (doneM m)):=by
 have hw0:bZ w (w.alloc (.cells (aM m a n c) 99)):=bA1;unfold msv;go_enter Tryz.func313,Tryz.ntmps313;go_wp2;go_ret;exact⟨⟨_,rfl,zg1 (m:=doneM m) rfl (zau _ _ _),by simp⟩,hw0.alloc hw0.size _⟩
def zbz (w:World) (a:oA) (bs:List Bool):Prop:=
 bs= []\/∃b off,a=some ⟨b,off,none⟩/\∀i,i<bs.length->w.cell? ⟨b,off+i,none⟩=some (.bool (bs.getD i false))
theorem zbz.bl (h:zbz w a bs) (hb:bZ w w'):zbz w' a bs:=by
 rcases h with h| ⟨b,off,rfl,hc⟩
 { exact .inl h }
 { exact .inr ⟨b,off,rfl,fun i hi=>by rw [hb.cell (zah (hc i hi))];exact hc i hi⟩ }
structure BV (w:World) (a:oA) (n c:Nat) (bs:List Bool):Prop where
 at_:zbz w a bs
 len:bs.length=n
 cap:n<=c
 max:n<=maxLen
theorem BV.bl {c:Nat} (h:BV w a n c bs) (hb:bZ w w'):BV w' a n c bs:=⟨h.at_.bl hb,h.len,h.cap,h.max⟩
structure GA where
 a:oA
 n:Nat
 c:Nat
 ak:oA
 nk:Nat
 ck:Nat
 av:oA
 nv:Nat
 cv:Nat
 ad:oA
 nd:Nat
 cd:Nat
def gtC (g:Gt) (m:GA):Array Value:=#[.slice m.a m.n m.c,iV g.fu,.bool g.up,iV g.t.r.v,.slice m.ak m.nk m.ck,iV g.t.r.t,iV g.t.ver,.slice m.av m.nv m.cv,.slice m.ad m.nd m.cd]
def gtv (g:Gt) (m:GA):Value:=.agg #[.slice m.a m.n m.c,iV g.fu,.bool g.up,iV g.t.r.v,.slice m.ak m.nk m.ck,iV g.t.r.t,iV g.t.ver,.slice m.av m.nv m.cv,.slice m.ad m.nd m.cd]
def gtO (g:Gt) (m:GA):Obj:=.cells #[.slice m.a m.n m.c,iV g.fu,.bool g.up,iV g.t.r.v,.slice m.ak m.nk m.ck,iV g.t.r.t,iV g.t.ver,.slice m.av m.nv m.cv,.slice m.ad m.nd m.cd] 35 (0,0)
theorem BI.turns (h:BI w a n xs) (hg:w.grownBy w' (some B)) (ho:Off B a):BI w' a n xs:=⟨zax h.at_ hg ho,h.len,h.max⟩
structure GIn (w:World) (m:GA) (g:Gt):Prop where
 ws:BW w m.a m.n m.c g.ws
 ks:BI w m.ak m.nk g.t.r.ks
 vo:BV w m.av m.nv m.cv g.vo
 di:BV w m.ad m.nd m.cd g.di
theorem GIn.bl {m:GA} {g:Gt} (h:GIn w m g) (hb:bZ w w'):GIn w' m g:=⟨h.ws.bl hb,h.ks.bl hb,h.vo.bl hb,h.di.bl hb⟩
def gsv (s:Gs):Value:=.agg #[iV s.n,iV s.v,.bool s.co,.bool s.ab,.bool s.en]
def gsO (s:Gs):Obj:=.cells #[iV s.n,iV s.v,.bool s.co,.bool s.ab,.bool s.en] 72 (0,0)
theorem gtE_1 {g:Gt} (h:lchk g.ws g.fu≠0):gtE g=lchk g.ws g.fu:=by unfold gtE;rw [KK h]
theorem gtE_2 {g:Gt} (h:lchk g.ws g.fu=0) (h2:gtB g=false):gtE g=4:=by unfold gtE;rw [KJ (by simpa using h),KJ (by rw [h2];decide)]
theorem gtE_3 {g:Gt} (h:lchk g.ws g.fu=0) (h2:gtB g=true):gtE g=trE g.t:=by unfold gtE;rw [KJ (by simpa using h),KK h2]
theorem zen {g:Gt} (h:gtE g=0):lchk g.ws g.fu=0/\(1<=g.vo.length/\g.vo.length<=4)/\g.di.length=g.vo.length/\trE g.t=0:=by
 rcases Decidable.em (lchk g.ws g.fu=0) with h1|h1
 {
 cases h2:gtB g
 { rw [gtE_2 h1 h2] at h;cases h }
 {
 rw [gtE_3 h1 h2] at h;unfold gtB inB at h2
 simp at h2
 exact⟨h1,⟨by omega,by omega⟩,h2.2,h⟩ } }
 {
 rw [gtE_1 h1] at h;exact absurd h h1 }
abbrev aG (m:GA) (g:Gt):Array Value:=#[.slice m.a m.n m.c,iV g.fu,.bool g.up,iV g.t.r.v,.slice m.ak m.nk m.ck,iV g.t.r.t,iV g.t.ver,.slice m.av m.nv m.cv,.slice m.ad m.nd m.cd]
abbrev aS (s:Gs):Array Value:=#[iV s.n,iV s.v,.bool s.co,.bool s.ab,.bool s.en]
section
attribute [local go_sem ↓] kM kO
theorem zbc (n a b:Int) (w:World):Cq 135 #[iV n,iV a,iV b] w fun e w' =>e=.returned (.bool (inB n a b))/\w' =w:=by
 by_cases h0:a<=n
 {
 by_cases h1:n<=b
 {
 go_enter Tryz.func135,Tryz.ntmps135;go_wp2;go_ret;exact⟨zan (inB_t h0 h1).symm,rfl⟩ }
 {
 have hd:decide (n<=b)=false:=by simpa using h1
 go_enter Tryz.func135,Tryz.ntmps135;go_wp2;go_ret;exact⟨zan (inB_hi (by omega)).symm,rfl⟩ } }
 {
 go_enter Tryz.func135,Tryz.ntmps135;go_wp2;go_ret;exact⟨zan (inB_lo (by omega)).symm,rfl⟩ }
theorem zej (s:Gs) (w:World):Cq 234 #[gsv s] w fun e w' =>e=.returned (.bool (decG s))/\bZ w w' :=by
 unfold gsv decG;cases h:s.co
 {
 go_enter Tryz.func234,Tryz.ntmps234;go_wp2;go_ret;exact⟨zan (by simp),bA1⟩ }
 {
 go_enter Tryz.func234,Tryz.ntmps234;go_wp2;go_ret;exact⟨zan (by simp),bA1⟩ }
theorem zca (g:Gt) (m:GA) (w:World) (h:GIn w m g):
 Cq 61 #[gtv g m] w fun e w' =>e=.returned (iV (gtE g))/\bZ w w' :=by
 have hw0:bZ w (w.alloc (.cells (gtC g m) 35)):=bA1;have b0:=uH (kP w (.cells (gtC g m) 35));have HL:=uH (fun W (hW:bZ w W)=>zd5 m.a m.n m.c g.ws g.fu W (h.ws.bl hW).at_ h.ws.len h.ws.max);have HT:=uH (fun W (hW:bZ w W)=>zee g.t m.ak m.nk m.ck W (h.ks.bl hW));unfold trv at HT;have Lv:=uH h.vo.len;have Ld:=uH h.di.len;have hv:=h.vo.max;have hd:=h.di.max;unfold maxLen at hv hd;unfold gtv;unfold gtC at hw0 b0;clear h;have x0:=zaa b0.o 0 _ rfl;have x1:=zaa b0.o 1 _ rfl;go_enter Tryz.func61,Tryz.ntmps61;go_wp2_with fail;generalize w.alloc (.cells (aG m g) 35)=W at *;refine(zae HL _ hw0).mono ?_;rintro e w1 ⟨rfl,hb⟩;replace b0:=uH (zab b0.o hb);replace hw0:=bT hw0 hb;clear hb x0 x1 HL
 by_cases z1:lchk g.ws g.fu=0
 rotate_left
 {
 have HE:=uH (gtE_1 z1);have hq: (lchk g.ws g.fu !=0)=true:=by simpa using z1
 clear z1;generalize lchk g.ws g.fu=q at *;go_wp2_with fail;go_ret;exact⟨zap HE.o.symm,hw0⟩ }
 have E2:=uH (gtE_2 z1);have E3:=uH (gtE_3 z1);rw [z1];clear z1;have x3:=zaa b0.o 3 _ rfl;have x4:=zaa b0.o 4 _ rfl;have x5:=zaa b0.o 5 _ rfl;have x6:=zaa b0.o 6 _ rfl;have x7:=zaa b0.o 7 _ rfl;have x8:=zaa b0.o 8 _ rfl;cases g1:inB (m.nv:Int) 1 4
 {
 have HE:=uH (E2.o (by unfold gtB;rw [Lv.o,g1];rfl))
 go_wp2_with (go_at_call 135;refine(zbc _ _ _ _).mono ?_;rintro e w' ⟨rfl,rfl⟩)
 go_ret;exact⟨zap HE.o.symm,hw0⟩ }
 {
 by_cases z2:m.nd=m.nv
 rotate_left
 {
 have HE:=uH (E2.o (by unfold gtB;rw [Lv.o,Ld.o,g1];simpa using z2));have hq: ((m.nd:Int) != (m.nv:Int))=true:=by simp;omega
 clear z2
 go_wp2_with (go_at_call 135;refine(zbc _ _ _ _).mono ?_;rintro e w' ⟨rfl,rfl⟩)
 go_ret;exact⟨zap HE.o.symm,hw0⟩ }
 {
 have HE:=uH (E3.o (by unfold gtB;rw [Lv.o,Ld.o,g1];simpa using z2));have hq: ((m.nd:Int) != (m.nv:Int))=false:=by simp;omega
 clear z2
 go_wp2_with (first| (go_at_call 135;refine(zbc _ _ _ _).mono ?_;rintro e w' ⟨rfl,rfl⟩)| (go_at_call 146;refine(zae HT _ hw0).mono ?_;rintro e w2 ⟨rfl,hb2⟩;replace hw0:=(bT hw0 hb2)))
 go_ret;exact⟨zap HE.o.symm,hw0⟩ } }
end
section
attribute [local go_sem ↓] kM kO
theorem trnG_2 {s:Gs} (h:k=2):trnG s k= ⟨s.n,s.v,!s.ab,s.ab,s.en⟩:=by unfold trnG;rw [KK h]
theorem trnG_3 {s:Gs} (h:k=3):trnG s k= ⟨s.n,s.v,s.co,!s.co,s.en⟩:=by unfold trnG;rw [KJ (by omega),KK h]
theorem trnG_4 {s:Gs} (h:k=4):trnG s k= ⟨s.n,s.v,s.co,s.ab,decG s⟩:=by unfold trnG;rw [KJ (by omega),KJ (by omega),KK h]
theorem trnG_0 {s:Gs} (h2:k≠2) (h3:k≠3) (h4:k≠4):trnG s k=s:=by unfold trnG;rw [KJ h2,KJ h3,KJ h4]
theorem zp9 (s:Gs) (k:Int) (w:World):Cq 172 #[gsv s,iV k] w fun e w' =>e=.returned (gsv (trnG s k))/\bZ w w' :=by
 unfold gsv
 by_cases z2:k=2
 {
 have HE:=uH (trnG_2 (s:=s) z2);subst z2;go_enter Tryz.func172,Tryz.ntmps172;go_wp2_with fail;refine kT (v:=gsv ⟨s.n,s.v,!s.ab,s.ab,s.en⟩) (by simp [results,Tryz.results172,go_sem,gsv]) rfl ?_;rw [HE.o];exact⟨rfl,by(repeat(first|exact kS _ _|refine Below.setCell ?_ (by simp) _|refine zaf ?_ _))⟩ }
 by_cases z3:k=3
 {
 have HE:=uH (trnG_3 (s:=s) z3);subst z3;go_enter Tryz.func172,Tryz.ntmps172;go_wp2_with fail;refine kT (v:=gsv ⟨s.n,s.v,s.co,!s.co,s.en⟩) (by simp [results,Tryz.results172,go_sem,gsv]) rfl ?_;rw [HE.o];exact⟨rfl,by(repeat(first|exact kS _ _|refine Below.setCell ?_ (by simp) _|refine zaf ?_ _))⟩ }
 by_cases z4:k=4
 {
 have HE:=uH (trnG_4 (s:=s) z4);subst z4;have hw0:bZ w ((w.alloc (.cells (aS s) 72)).alloc (.cells aX 72)):=bA2;have b0:Hd (((w.alloc (.cells (aS s) 72)).alloc (.cells aX 72)).heap[w.heap.size]?=some (.cells (aS s) 72 (0,0))):=zai (kP _ _) _;have b1:Hd (((w.alloc (.cells (aS s) 72)).alloc (.cells aX 72)).heap[w.heap.size+1]?=some (.cells aX 72 (0,0))):=zau _ _ _;have HD:=uH (zej s ((w.alloc (.cells (aS s) 72)).alloc (.cells aX 72)));unfold gsv at HD;go_enter Tryz.func172,Tryz.ntmps172;go_wp2_with fail;generalize ((w.alloc (.cells (aS s) 72)).alloc (.cells aX 72))=W at *;refine(zae HD).mono ?_;rintro e w1 ⟨rfl,hb⟩;replace b0:=uH (zab b0.o hb);replace b1:=uH (zab b1.o hb);replace hw0:=bT hw0 hb;obtain ⟨x0,x1,x2,x3,x4⟩:=cl5 b0.o;obtain ⟨y0,y1,y2,y3,y4⟩:=cl5 b1.o;obtain ⟨f0,f1,f2,f3,f4⟩:=fr5 b0.o;obtain ⟨g0,g1,g2,g3,g4⟩:=fr5 b1.o;clear hb HD;go_wp2_with fail;refine kT (v:=gsv ⟨s.n,s.v,s.co,s.ab,decG s⟩) (by simp [results,Tryz.results172,go_sem,gsv,y0,y1,y2,y3,y4]) rfl ?_;rw [HE.o];exact⟨rfl,(((((hw0.setCell (p:=⟨w.heap.size,4,none⟩) (kQ _) _).setCell (p:=⟨w.heap.size+1,0,none⟩) (Nat.le_succ _) _).setCell (p:=⟨w.heap.size+1,1,none⟩) (Nat.le_succ _) _).setCell (p:=⟨w.heap.size+1,2,none⟩) (Nat.le_succ _) _).setCell (p:=⟨w.heap.size+1,3,none⟩) (Nat.le_succ _) _).setCell (p:=⟨w.heap.size+1,4,none⟩) (Nat.le_succ _) _⟩ }
 {
 have HE:=uH (trnG_0 (s:=s) z2 z3 z4);have d2: (k==2)=false:=by simpa using z2
 have d3: (k==3)=false:=by simpa using z3
 have d4: (k==4)=false:=by simpa using z4
 clear z2 z3 z4;go_enter Tryz.func172,Tryz.ntmps172;go_wp2_with fail;refine kT (v:=gsv s) (by simp [results,Tryz.results172,go_sem,gsv]) rfl ?_;rw [HE.o];exact⟨rfl,by(repeat(first|exact kS _ _|refine Below.setCell ?_ (by simp) _|refine zaf ?_ _))⟩ }
end
section
attribute [local go_sem ↓] kM kO
def RecM (w:World) (a:oA) (rs:LL):Prop:=
 rs= []\/∃b cur,a=some ⟨b,0,none⟩/\w.heap[b]?=some (.cells cur 208 (0,0))/\∀(i:Nat) (r:LI),rs[i]?=some r->∃g c,cur[i]?=some (sV g r.length c)/\za5 w g r/\r.length<=c/\c<=maxLen
theorem RecM.turns {S:Nat} {cs:Array Value} (h:RecM w a rs) (hS:w.heap[S]?=some (.cells cs 84 (0,0))) (hg:w.grownBy w' (some S)):RecM w' a rs:=by
 rcases h with h| ⟨b,cur,rfl,hb,hr⟩
 { exact .inl h }
 {
 have hne: ∀(g:Nat) (cs' :Array Value) (t:TypeId),w.heap[g]?=some (.cells cs' t (0,0))->t≠84->g≠S:=by
  rintro g cs' t h1 h2 rfl;rw [hS] at h1
  simp at h1
  exact h2 h1.2.symm
 refine .inr ⟨b,cur,rfl,zar hb hg (hne _ _ _ hb (by decide)),fun i r hi=> ?_⟩;obtain ⟨g,c,h1,⟨cu,h2,h3⟩,h4⟩:=hr i r hi;exact⟨g,c,h1,⟨cu,zar h2 hg (hne _ _ _ h2 (by decide)),h3⟩,h4⟩ }
theorem zbp.recM {w0:World} {v:Value} (h:zbp w0 w v rs): ∃a c,v=.slice a rs.length c/\rs.length<=c/\c<=maxLen/\RecM w a rs:=by
 obtain ⟨vs,hown,hr⟩:=h.own;obtain ⟨_,⟨hv,hn⟩| ⟨g,cap,cur,hv,hg,hh,hc,hm,_,ht⟩⟩:=hown
 { exact⟨none,0,by rw [hv,hn],by omega,by unfold maxLen;omega,.inl (kn hn)⟩ }
 {
 refine⟨some ⟨g,0,none⟩,cap,hv,hc,hm,.inr ⟨g,cur,rfl,hh,fun i r hi=> ?_⟩⟩;obtain ⟨g1,c1,h1,h2,h3,h4⟩:=hr i r hi;refine⟨g1,c1, ?_,h2,h3,h4⟩;rw [<-ht,List.getElem?_take] at h1
 split at h1
 { simpa using h1 }
 {
 cases h1 } }
def RecsM (w:World) (rs:LL) (e:Ending) (w' :World):Prop:=
 (∃a c,e=.returned (.tuple #[.slice a rs.length c,iV 0])/\RecM w' a rs/\rs.length<=c/\c<=maxLen)/\bZ w w'
theorem zh9 (a:oA) (n c:Nat) (ws:LI) (fuel:Int) (w:World) (h:BW w a n c ws) (e1:lchk ws fuel=0):
 Cq 26 #[.agg #[.slice a n c,iV fuel]] w (RecsM w (logR ws)):=by
 have hw:bZ w (w.alloc (.cells #[.slice a n c,iV fuel] 28)):=bA1;have i0:=h.at_.bl hw;have HS:=uH (fun W (h' :zag W a ws)=>zd5 a n c ws fuel W h' h.len h.max);have HG:=uH (fun W (h' :zag W a ws) (h64:64<=n)=>zfv a n c ws fuel W h' h.len h.max h64);have HP:=uH (fun W (h' :zag W a ws) (hm:n<=192) (hok:okL ws=true) (h64:64<=n)=>zmb a n c ws fuel (secN ws) W h' h.len h.cap hm hok (zgk ws) h64);have B0:=uH (kP w (.cells #[.slice a n c,iV fuel] 28));have parts:=zdm e1;rw [h.len] at parts;rw [e1] at HS;clear h e1;go_enter Tryz.func26,Tryz.ntmps26;go_wp2_with fail;generalize w.alloc (.cells #[.slice a n c,iV fuel] 28)=W at *;refine(zae HS _ i0).mono ?_;rintro e w1 ⟨rfl,hb1⟩;have hw1:=bT hw hb1;have c00:=zaa (zab B0.o hb1) 0 _ rfl;have c01:=zaa (zab B0.o hb1) 1 _ rfl;go_wp2_with fail;refine(zae HG _ (i0.bl hb1) parts.2.1).mono ?_;rintro e w2 ⟨rfl,hb2⟩;have hw2:=bT hw1 hb2;have c10:=zaa (zab (zab B0.o hb1) hb2) 0 _ rfl;have c11:=zaa (zab (zab B0.o hb1) hb2) 1 _ rfl;go_wp2_with fail;refine(zae HP _ ((i0.bl hb1).bl hb2) parts.2.2.1 parts.2.2.2.1 parts.2.1).mono ?_;rintro e w3 ⟨⟨v,a3,m3,cc3,rfl,hmk,hi3,hn3,hm3,hok3⟩,hb3⟩;obtain ⟨av,cv,rfl,q1,q2,q3⟩:=hmk.recM;have HQ:=uH q3;clear hmk hn3 q3;have hw3:=bT hw2 hb3;go_wp2;go_ret2;exact⟨⟨av,cv,rfl,HQ.o,q1,q2⟩,hw3⟩
def usO (s:Us):Obj:=.cells #[iV s.slot,iV s.by',iV s.rdy] 84 (0,0)
def usv (s:Us):Value:=.agg #[iV s.slot,iV s.by',iV s.rdy]
theorem stR_step {k:Nat} (hk:k<rs.length):stR (rs.take (k+1))=zcf (stR (rs.take k)) rs[k]:=by
 unfold stR;rw [kl hk,List.foldl_append];rfl
theorem zn1 {s:Us} (h:isR r 1 3=true) (h2:r.getD 1 0<=1):zcf s r= ⟨r.getD 1 0,r.getD 2 0,0⟩:=by unfold zcf;rw [KK (by rw [h];simpa using h2)]
theorem zng {s:Us} (h: ¬(isR r 1 3=true/\r.getD 1 0<=1)) (h2:isR r 2 2=true):zcf s r= ⟨s.slot,s.by',r.getD 1 0⟩:=by unfold zcf;rw [KJ (by simpa using h),KK h2]
theorem zom {s:Us} (h: ¬(isR r 1 3=true/\r.getD 1 0<=1)) (h2: ¬isR r 2 2=true) (h3:isR r 3 2=true):zcf s r= ⟨s.slot,s.by',0⟩:=by unfold zcf;rw [KJ (by simpa using h),KJ h2,KK h3]
theorem znn {s:Us} (h: ¬(isR r 1 3=true/\r.getD 1 0<=1)) (h2: ¬isR r 2 2=true) (h3: ¬isR r 3 2=true):zcf s r=s:=by unfold zcf;rw [KJ (by simpa using h),KJ h2,KJ h3]
theorem zlq {l:Nat} (h:isR r k l=true):r.length=l:=by
 unfold isR at h;rw [kr] at h
 simpa using h.1
structure SB (W:World) (B:Nat) (s:Us):Prop where
 b1:W.heap[B+1]?=some (usO us0)
 b2:W.heap[B+1+1]?=some (usO s)
theorem us_set3 {W:World} {s t:Us} (h:W.heap[b]?=some (usO s)): (((W.setCell ⟨b,0,none⟩ (iV t.slot)).setCell ⟨b,1,none⟩ (iV t.by')).setCell ⟨b,2,none⟩ (iV t.rdy)).heap[b]?=some (usO t):=by
 unfold usO at h|-;simp only [World.setCell,KP]
 simp [h]
theorem us_set1 {W:World} {s:Us} {x:Int} (h:W.heap[b]?=some (usO s)): (W.setCell ⟨b,2,none⟩ (iV x)).heap[b]?=some (usO ⟨s.slot,s.by',x⟩):=by
 unfold usO at h|-;simp only [World.setCell,KP]
 simp [h]
theorem zbv {B:Option Nat} (h:w.grownBy w' B):w.grownBy w'.drew B:=⟨h.os,h.tape,h.output,h.size,h.block⟩
theorem zfn {o:Obj} (h:w.heap[b]?=some o):w.drew.heap[b]?=some o:=h
def isI (r:LI) (k l:Int):Bool:=isR r k l.toNat
theorem zo1 (a:oA) (n c:Nat) (r:LI) (k l:Int) (w:World) (h:zag w a r) (hn:r.length=n) (hm:n<=maxLen) (h0:0<l) (hl:l<=10):
 Cq 177 #[.slice a n c,iV k,iV l] w fun e w' =>e=.returned (.bool (isI r k l))/\w' =w:=by
 obtain ⟨q,rfl⟩: ∃q:Nat,l=q:=⟨l.toNat,by omega⟩;exact zqu a n c r k q w h hn hm (by omega) (by omega)
theorem zaw (w:World) (B i:Nat) (v:Value):w.grownBy (w.setCell ⟨B,i,none⟩ v) (some B):=zac (kf _ _) i v
theorem zgc (a:oA) (n c:Nat) (ws:LI) (fuel:Int) (w:World) (h:BW w a n c ws) (e1:lchk ws fuel=0):
 Cq 111 #[.agg #[.slice a n c,iV fuel]] w fun e w' =>e=.returned (usv (stOf ws))/\bZ w w' :=by
 have hw0:bZ w (((w.alloc (.cells #[.slice a n c,iV fuel] 28)).alloc (usO us0)).alloc (usO us0)):=(bA2).alloc (by simp;omega) _;have b0:Hd ((((w.alloc (.cells #[.slice a n c,iV fuel] 28)).alloc (usO us0)).alloc (usO us0)).heap[w.heap.size]?=some (.cells #[.slice a n c,iV fuel] 28 (0,0))):=zai (zai (kP _ _) _) _;have sb:Hd (SB (((w.alloc (.cells #[.slice a n c,iV fuel] 28)).alloc (usO us0)).alloc (usO us0)) w.heap.size us0):=⟨zai (zau _ _ _) _,zb9 _ _ _ _⟩;have HR:=uH (fun W (hW:bZ w W)=>zh9 a n c ws fuel W (h.bl hW) e1);have hfew: (logR ws).length<=31:=zoq (by have:=zdm e1;omega);have HS:Hd (stOf ws=stR (logR ws)):=rfl;clear h e1;generalize logR ws=rs at *;have x0:=zaa b0.o 0 _ rfl;have x1:=zaa b0.o 1 _ rfl;unfold usO us0 at hw0 b0 sb x0 x1;go_enter Tryz.func111,Tryz.ntmps111;go_wp2_with fail;generalize ((w.alloc (.cells #[.slice a n c,iV fuel] 28)).alloc (.cells #[iV 0,iV 0,iV 0] 84)).alloc (.cells #[iV 0,iV 0,iV 0] 84)=W at *;refine(zae HR _ hw0).mono ?_;rintro e w1 ⟨⟨ar,cr,rfl,hrm,hlc,hcm⟩,hb⟩;replace sb:Hd (SB w1 w.heap.size us0):=⟨zab sb.o.b1 hb,zab sb.o.b2 hb⟩;replace hw0:=bT hw0 hb;clear hb HR x0 x1 b0;obtain ⟨nr,hnr⟩: ∃nr,nr=rs.length:=⟨_,rfl⟩;rw [<-hnr] at hfew hlc|-;have LR:=uH hnr;have HM:=uH hrm;clear hnr hrm;go_wp2_with fail
 go_loopw [15] (fun i wr=>∃k:Nat,k<=nr/\i=iV k/\bZ w wr/\Hd (SB wr w.heap.size (stR (rs.take k)))/\Hd (RecM wr ar rs)) (fun i _=>nr - (intOf i).toNat)
 case atStart=>exact⟨0,KG _,rfl,hw0,by show SB _ _ _;simpa [stR] using sb.o,HM⟩
 case round=>
  clear hw0 sb HM;obtain ⟨wq,rfl⟩: ∃wq:World,wq=wr:=⟨_,rfl⟩;obtain ⟨k,hk,rfl,hw,sb,hm⟩:=hrel;generalize hst:stR (rs.take k)=st at *
  by_cases hlt:k<nr
  {
  have hkx:k<rs.length:=by rw [<-LR.o];exact hlt
  have HX:=uH (stR_step hkx);rw [hst] at HX
  rcases hm.o with e| ⟨b,cur,rfl,hb,hr⟩
  { rw [e] at hkx;simp at hkx }
  obtain ⟨g,cg,h1,h2,h3,h4⟩:=hr k rs[k] (kX hkx);have ec:=zaa hb k _ h1;have hin:=h2.isInts;have hcell:=fun i hi=>h2.cell i hi
  clear hst hr h1 hb;generalize rs[k]=r at *;obtain ⟨m,hmr⟩: ∃m,m=r.length:=⟨_,rfl⟩;rw [<-hmr] at ec h3;unfold maxLen at h4;have HI:=uH (fun (k:Int) (l:Int) (h0:0<l) (h1:l<=10)=>zo1 (some ⟨g,0,none⟩) m cg r k l wq hin hmr.symm (by unfold maxLen;omega) h0 h1);have LM:=uH hmr;have S2:=uH sb.o.b2;have S1:=uH sb.o.b1;have N1:=uH (zn1 (s:=st) (r:=r));have N2:=uH (zng (s:=st) (r:=r));have N3:=uH (zom (s:=st) (r:=r));have N0:=uH (znn (s:=st) (r:=r));have C1:=uH (hcell 1);have C2:=uH (hcell 2);clear hmr hcell hin h2;have frame: ∀(w' :World) (s' :Us),wq.grownBy w' (some (w.heap.size+1+1))->w'.heap[w.heap.size+1+1]?=some (usO s')->bZ w w' /\SB w' w.heap.size s' /\RecM w' (some ⟨b,0,none⟩) rs:=by
   intro w' s' hg hb2;exact⟨zam hw hg (by omega) hw.size,⟨zar S1.o hg (by omega),hb2⟩,hm.o.turns (by unfold usO at S2;exact S2.o) hg⟩
  have FR:=uH frame;clear frame;unfold usO us0 at S1;unfold usO at S2;have s0:=zaa S2.o 0 _ rfl;have s1:=zaa S2.o 1 _ rfl;have s2:=zaa S2.o 2 _ rfl;have f0:=zad S2.o 0;have f1:=zad S2.o 1;have f2:=zad S2.o 2;cases g1:isI r 1 3
  {
  have hno: ¬(isR r 1 3=true/\r.getD 1 0<=1):=fun h=>by rw [show isR r 1 3=isI r 1 3 from rfl,g1] at h;cases h.1
  cases g2:isI r 2 2
  {
  have hn2: ¬isR r 2 2=true:=by rw [show isR r 2 2=isI r 2 2 from rfl,g2];decide
  cases g3:isI r 3 2
  {
  have HN:=uH (HX.o.trans (N0.o hno hn2 (by rw [show isR r 3 2=isI r 3 2 from rfl,g3];decide)));clear hno hn2
  go_wp2_with (go_at_call 177;refine(zae HI _ _ (by decide) (by decide)).mono ?_;rintro e w' ⟨rfl,rfl⟩)
  go_roundw
  case rel=>exact⟨k+1,by omega,by go_num,hw,by show SB _ _ _;rw [HN.o];exact sb.o,hm⟩
  case measure=>simp [intOf];omega }
  {
  have HN:=uH (HX.o.trans (N3.o hno hn2 g3));clear hno hn2
  go_wp2_with (go_at_call 177;refine(zae HI _ _ (by decide) (by decide)).mono ?_;rintro e w' ⟨rfl,rfl⟩)
  go_roundw
  case rel=>
   obtain ⟨q1,q2,q3⟩:=FR.o _ ⟨st.slot,st.by',0⟩ (zaw _ _ _ _) (us_set1 S2.o);exact⟨k+1,by omega,by go_num,q1,by show SB _ _ _;rw [HN.o];exact q2,q3⟩
  case measure=>simp [intOf];omega } }
  {
  have HN:=uH (HX.o.trans (N2.o hno g2));have hl:m=2:=by rw [LM.o];exact zlq g2
  subst hl;have c1:=C1.o (by rw [<-LM.o];omega);clear hno;generalize r.getD 1 0=r1 at *
  go_wp2_with (go_at_call 177;refine(zae HI _ _ (by decide) (by decide)).mono ?_;rintro e w' ⟨rfl,rfl⟩)
  go_roundw
  case rel=>
   obtain ⟨q1,q2,q3⟩:=FR.o _ ⟨st.slot,st.by',r1⟩ (zaw _ _ _ _) (us_set1 S2.o);exact⟨k+1,by omega,by go_num,q1,by show SB _ _ _;rw [HN.o];exact q2,q3⟩
  case measure=>simp [intOf];omega } }
  {
  have hl:m=3:=by rw [LM.o];exact zlq g1
  subst hl;have c1:=C1.o (by rw [<-LM.o];omega);have c2:=C2.o (by rw [<-LM.o];omega)
  by_cases z:r.getD 1 0<=1
  {
  have HN:=uH (HX.o.trans (N1.o g1 z));clear N1 N2 N3 N0;generalize r.getD 1 0=r1 at *;generalize r.getD 2 0=r2 at *;go_upto_region 7 with (go_at_call 177;refine(zae HI _ _ (by decide) (by decide)).mono ?_;rintro e w' ⟨rfl,rfl⟩)
  go_region
  go_wp2_with fail
  go_roundw
  case rel=>
   obtain ⟨q1,q2,q3⟩:=FR.o _ ⟨r1,r2,0⟩ (zac (zac (zac (zbv (kf _ _)) _ _) _ _) _ _) (us_set3 (t:=⟨r1,r2,0⟩) (zfn S2.o));exact⟨k+1,by omega,by go_num,q1,by show SB _ _ _;rw [HN.o];exact q2,q3⟩
  case measure=>simp [intOf];omega }
  {
  have hno: ¬(isR r 1 3=true/\r.getD 1 0<=1):=fun h=>z h.2
  have g2:isI r 2 2=false:=by unfold isI isR;rw [<-LM.o];rfl
  have g3:isI r 3 2=false:=by unfold isI isR;rw [<-LM.o];rfl
  have HN:=uH (HX.o.trans (N0.o hno (by rw [show isR r 2 2=isI r 2 2 from rfl,g2];decide) (by rw [show isR r 3 2=isI r 3 2 from rfl,g3];decide)));have d1:decide (r.getD 1 0<=1)=false:=by simpa using z
  clear hno N1 N2 N3 N0 z;generalize r.getD 1 0=r1 at *
  go_wp2_with (go_at_call 177;refine(zae HI _ _ (by decide) (by decide)).mono ?_;rintro e w' ⟨rfl,rfl⟩)
  go_roundw
  case rel=>exact⟨k+1,by omega,by go_num,hw,by show SB _ _ _;rw [HN.o];exact sb.o,hm⟩
  case measure=>simp [intOf];omega } } }
  {
  have hx:stR rs=st:=by rw [<-hst,kh (by rw [<-LR.o];omega)]
  have HE:=uH (HS.o.trans hx);have S2:=uH sb.o.b2;have S1:=uH sb.o.b1;unfold usO us0 at S1;unfold usO at S2;have s0:=zaa S2.o 0 _ rfl;have s1:=zaa S2.o 1 _ rfl;have s2:=zaa S2.o 2 _ rfl;have y0:=zaa S1.o 0 _ rfl;have y1:=zaa S1.o 1 _ rfl;have y2:=zaa S1.o 2 _ rfl;have f0:=zad S1.o 0;have f1:=zad S1.o 1;have f2:=zad S1.o 2;clear hx hst;go_wp2_with fail;refine kT (v:=usv st) (by simp [results,Tryz.results111,go_sem,usv,y0,y1,y2]) rfl ?_;rw [HE.o];exact⟨rfl,((hw.setCell (by show w.heap.size<=w.heap.size+1;omega) _).setCell (by show w.heap.size<=w.heap.size+1;omega) _).setCell (by show w.heap.size<=w.heap.size+1;omega) _⟩ }
end
section
attribute [local go_sem ↓] kM kO
theorem zpo (b1:Nat) (s:Int) (a:oA) (n c:Nat) (ws:LI) (fuel:Int) (w:World) (hc1:w.cell? ⟨b1,0,none⟩=some (iV s)) (h:BW w a n c ws):
 Cq 322 #[.agg #[.slice a n c,iV fuel],.pointer (some ⟨b1,0,none⟩)] w (zbf w (clrS ws fuel s)):=by
 have HE:=uH (fun W (hW:bZ w W)=>clear_any a n c ws fuel s W (h.bl hW).at_ h.len h.max h.cap);have hw:bZ w ((w.alloc (.cells #[.slice a n c,iV fuel] 28)).alloc (.cells #[nV,iV 0] 28)):=
  bA2
 have b1: ((w.alloc (.cells #[.slice a n c,iV fuel] 28)).alloc (.cells #[nV,iV 0] 28)).heap[w.heap.size+1]?=some (.cells #[nV,iV 0] 28 (0,0)):=
  zau _ _ _
 have k1:=(hw.cell (zah hc1)).trans hc1;have B1:=uH b1;clear b1 h;go_enter Tryz.func322,Tryz.ntmps322;go_wp2_with fail;generalize (w.alloc (.cells #[.slice a n c,iV fuel] 28)).alloc (.cells #[nV,iV 0] 28)=W at *;refine(zae HE _ hw).mono ?_;rintro e w1 ⟨⟨a1,n1,c1,rfl,hi1,hn1,hc1,hf1⟩,hb1⟩;have q0:=zaa (zab B1.o hb1) 0 _ rfl;have q1:=zaa (zab B1.o hb1) 1 _ rfl;have q2:=zad (zab B1.o hb1) 0;have q3:=zad (zab B1.o hb1) 1;have ltB:=zak B1.o;have hw1:=bT hw hb1;have HN1:=uH hn1;clear hn1;generalize clrS ws fuel s=R at *;go_wp2_with fail;refine kT (v:=.tuple #[.agg #[.slice a1 n1 c1,iV R.2.1],iV R.2.2]) (by simp [results,Tryz.results322,go_sem,q0,q1]) rfl ?_;exact⟨⟨a1,n1,c1,rfl,(hi1.other hf1 ltB 0 _).other hf1 ltB 1 _,HN1.o,hc1,zal.mono hf1 hw.size⟩,(hw1.setCell (by show w.heap.size<=w.heap.size+1;omega) _).setCell (by show w.heap.size<=w.heap.size+1;omega) _⟩
theorem zpw (b1 b2 b3:Nat) (s p:Int) (a2:oA) (n2 c2:Nat) (words:LI) (a:oA) (n c:Nat) (ws:LI) (fuel:Int) (w:World) (hc1:ce w b1 0=some (iV s)) (hc2:ce w b2 0=some (iV p)) (hc3:ce w b3 0=some (.slice a2 n2 c2)) (h2:BI w a2 n2 words) (h:BW w a n c ws):
 Cq 253 #[.agg #[.slice a n c,iV fuel],.pointer (some ⟨b1,0,none⟩),.pointer (some ⟨b2,0,none⟩),.pointer (some ⟨b3,0,none⟩)] w (zbf w (fillS ws fuel s p words)):=by
 have HE:=uH (fun W (hW:bZ w W)=>fill_any a n c ws fuel s p a2 n2 c2 words W (h.bl hW).at_ h.len h.max (h2.bl hW).at_ h2.len h2.max);have hw:bZ w ((w.alloc (.cells #[.slice a n c,iV fuel] 28)).alloc (.cells #[nV,iV 0] 28)):=
  bA2
 have b1: ((w.alloc (.cells #[.slice a n c,iV fuel] 28)).alloc (.cells #[nV,iV 0] 28)).heap[w.heap.size+1]?=some (.cells #[nV,iV 0] 28 (0,0)):=
  zau _ _ _
 have k1:=(hw.cell (zah hc1)).trans hc1;have k2:=(hw.cell (zah hc2)).trans hc2;have k3:=(hw.cell (zah hc3)).trans hc3;have B1:=uH b1;clear b1 h h2;go_enter Tryz.func253,Tryz.ntmps253;go_wp2_with fail;generalize (w.alloc (.cells #[.slice a n c,iV fuel] 28)).alloc (.cells #[nV,iV 0] 28)=W at *;refine(zae HE _ hw).mono ?_;rintro e w1 ⟨⟨a1,n1,c1,rfl,hi1,hn1,hc1,hf1⟩,hb1⟩;have q0:=zaa (zab B1.o hb1) 0 _ rfl;have q1:=zaa (zab B1.o hb1) 1 _ rfl;have q2:=zad (zab B1.o hb1) 0;have q3:=zad (zab B1.o hb1) 1;have ltB:=zak B1.o;have hw1:=bT hw hb1;have HN1:=uH hn1;clear hn1;generalize fillS ws fuel s p words=R at *;go_wp2_with fail;refine kT (v:=.tuple #[.agg #[.slice a1 n1 c1,iV R.2.1],iV R.2.2]) (by simp [results,Tryz.results253,go_sem,q0,q1]) rfl ?_;exact⟨⟨a1,n1,c1,rfl,(hi1.other hf1 ltB 0 _).other hf1 ltB 1 _,HN1.o,hc1,zal.mono hf1 hw.size⟩,(hw1.setCell (by show w.heap.size<=w.heap.size+1;omega) _).setCell (by show w.heap.size<=w.heap.size+1;omega) _⟩
theorem zpv (b1 b2 b3:Nat) (s long name:Int) (a:oA) (n c:Nat) (ws:LI) (fuel:Int) (w:World) (hc1:ce w b1 0=some (iV s)) (hc2:ce w b2 0=some (iV long)) (hc3:ce w b3 0=some (iV name)) (h:BW w a n c ws):
 Cq 255 #[.agg #[.slice a n c,iV fuel],.pointer (some ⟨b1,0,none⟩),.pointer (some ⟨b2,0,none⟩),.pointer (some ⟨b3,0,none⟩)] w (zbf w (sealS ws fuel s long name)):=by
 have HE:=uH (fun W (hW:bZ w W)=>seal_any a n c ws fuel s long name W (h.bl hW).at_ h.len h.max);have hw:bZ w ((w.alloc (.cells #[.slice a n c,iV fuel] 28)).alloc (.cells #[nV,iV 0] 28)):=
  bA2
 have b1: ((w.alloc (.cells #[.slice a n c,iV fuel] 28)).alloc (.cells #[nV,iV 0] 28)).heap[w.heap.size+1]?=some (.cells #[nV,iV 0] 28 (0,0)):=
  zau _ _ _
 have k1:=(hw.cell (zah hc1)).trans hc1;have k2:=(hw.cell (zah hc2)).trans hc2;have k3:=(hw.cell (zah hc3)).trans hc3;have B1:=uH b1;clear b1 h;go_enter Tryz.func255,Tryz.ntmps255;go_wp2_with fail;generalize (w.alloc (.cells #[.slice a n c,iV fuel] 28)).alloc (.cells #[nV,iV 0] 28)=W at *;refine(zae HE _ hw).mono ?_;rintro e w1 ⟨⟨a1,n1,c1,rfl,hi1,hn1,hc1,hf1⟩,hb1⟩;have q0:=zaa (zab B1.o hb1) 0 _ rfl;have q1:=zaa (zab B1.o hb1) 1 _ rfl;have q2:=zad (zab B1.o hb1) 0;have q3:=zad (zab B1.o hb1) 1;have ltB:=zak B1.o;have hw1:=bT hw hb1;have HN1:=uH hn1;clear hn1;generalize sealS ws fuel s long name=R at *;go_wp2_with fail;refine kT (v:=.tuple #[.agg #[.slice a1 n1 c1,iV R.2.1],iV R.2.2]) (by simp [results,Tryz.results255,go_sem,q0,q1]) rfl ?_;exact⟨⟨a1,n1,c1,rfl,(hi1.other hf1 ltB 0 _).other hf1 ltB 1 _,HN1.o,hc1,zal.mono hf1 hw.size⟩,(hw1.setCell (by show w.heap.size<=w.heap.size+1;omega) _).setCell (by show w.heap.size<=w.heap.size+1;omega) _⟩
theorem zo2 (b1 b2:Nat) (ar:oA) (nr cr:Nat) (r:LI) (ak:oA) (nk ck:Nat) (keep:LL) (a:oA) (n c:Nat) (ws:LI) (fuel:Int) (w:World) (hc1:ce w b1 0=some (.slice ar nr cr)) (hc2:ce w b2 0=some (.slice ak nk ck)) (hr:BI w ar nr r) (hk:zck w ak keep) (hnk:keep.length=nk) (hmk:nk<=maxLen) (h:BW w a n c ws):
 Cq 257 #[.agg #[.slice a n c,iV fuel],.pointer (some ⟨b1,0,none⟩),.pointer (some ⟨b2,0,none⟩)] w (zbf w (appS ws fuel r keep)):=by
 have HE:=uH (fun W (hW:bZ w W)=>zjp a n c ws fuel ar nr cr r ak nk ck keep W (h.bl hW).at_ h.len h.cap h.max (hr.bl hW).at_ hr.len hr.max (hk.bl hW) hnk hmk);have hw:bZ w ((w.alloc (.cells #[.slice a n c,iV fuel] 28)).alloc (.cells #[nV,iV 0] 28)):=
  bA2
 have b1: ((w.alloc (.cells #[.slice a n c,iV fuel] 28)).alloc (.cells #[nV,iV 0] 28)).heap[w.heap.size+1]?=some (.cells #[nV,iV 0] 28 (0,0)):=
  zau _ _ _
 have k1:=(hw.cell (zah hc1)).trans hc1;have k2:=(hw.cell (zah hc2)).trans hc2;have B1:=uH b1;clear b1 h hr hnk;go_enter Tryz.func257,Tryz.ntmps257;go_wp2_with fail;generalize (w.alloc (.cells #[.slice a n c,iV fuel] 28)).alloc (.cells #[nV,iV 0] 28)=W at *;refine(zae HE _ hw).mono ?_;rintro e w1 ⟨⟨a1,n1,c1,rfl,hi1,hn1,hc1,hf1⟩,hb1⟩;have q0:=zaa (zab B1.o hb1) 0 _ rfl;have q1:=zaa (zab B1.o hb1) 1 _ rfl;have q2:=zad (zab B1.o hb1) 0;have q3:=zad (zab B1.o hb1) 1;have ltB:=zak B1.o;have hw1:=bT hw hb1;have HN1:=uH hn1;clear hn1;generalize appS ws fuel r keep=R at *;go_wp2_with fail;refine kT (v:=.tuple #[.agg #[.slice a1 n1 c1,iV R.2.1],iV R.2.2]) (by simp [results,Tryz.results257,go_sem,q0,q1]) rfl ?_;exact⟨⟨a1,n1,c1,rfl,(hi1.other hf1 ltB 0 _).other hf1 ltB 1 _,HN1.o,hc1,zal.mono hf1 hw.size⟩,(hw1.setCell (by show w.heap.size<=w.heap.size+1;omega) _).setCell (by show w.heap.size<=w.heap.size+1;omega) _⟩
def IsSt0 (w:World) (v:Value):Stu->Prop
 | .inl (.inl _)=>v=.func (.func 137) #[] #[]
 | .inl (.inr s)=>∃b1,v=.func (.func 322) #[] #[.pointer (some ⟨b1,0,none⟩)]/\w.cell? ⟨b1,0,none⟩=some (iV s)
 | .inr (.inl (s,p,words))=>∃b1 b2 b3 a2 n2 c2,v=.func (.func 253) #[] #[.pointer (some ⟨b1,0,none⟩),.pointer (some ⟨b2,0,none⟩),.pointer (some ⟨b3,0,none⟩)]/\w.cell? ⟨b1,0,none⟩=some (iV s)/\w.cell? ⟨b2,0,none⟩=some (iV p)/\w.cell? ⟨b3,0,none⟩=some (.slice a2 n2 c2)/\BI w a2 n2 words
 | .inr (.inr (.inl (s,l,nm)))=>∃b1 b2 b3,v=.func (.func 255) #[] #[.pointer (some ⟨b1,0,none⟩),.pointer (some ⟨b2,0,none⟩),.pointer (some ⟨b3,0,none⟩)]/\w.cell? ⟨b1,0,none⟩=some (iV s)/\w.cell? ⟨b2,0,none⟩=some (iV l)/\w.cell? ⟨b3,0,none⟩=some (iV nm)
 | .inr (.inr (.inr (s,r)))=>∃b1 b2 ar nr cr ak nk ck,v=.func (.func 257) #[] #[.pointer (some ⟨b1,0,none⟩),.pointer (some ⟨b2,0,none⟩)]/\w.cell? ⟨b1,0,none⟩=some (.slice ar nr cr)/\w.cell? ⟨b2,0,none⟩=some (.slice ak nk ck)/\BI w ar nr r/\zck w ak (keepU s)/\(keepU s).length=nk/\nk<=maxLen
def IsStu (w:World) (B:Nat) (v:Value) (st:Stu):Prop:=∀w' :World,w.grownBy w' (some B)->IsSt0 w' v st
theorem IsStu.turns {v:Value} {st:Stu} (h:IsStu w B v st) (hg:w.grownBy w' (some B)):IsStu w' B v st:=fun w2 h2=>h w2 (hg.trans h2)
def CapsOf (v:Value) (fn:Nat) (caps:Array Value):Prop:=v=.func (.func fn) #[] caps/\
 ((fn=137/\caps=#[])\/(fn=322/\∃p,caps=#[p])\/(fn=253/\∃p q r,caps=#[p,q,r])\/(fn=255/\∃p q r,caps=#[p,q,r])\/(fn=257/\∃p q,caps=#[p,q]))
theorem step_any (v:Value) (st:Stu) (a:oA) (n c:Nat) (ws:LI) (fuel:Int) (w:World) (hs:IsSt0 w v st) (h:BW w a n c ws):
 ∃fn caps,CapsOf v fn caps/\Cq fn (#[.agg #[.slice a n c,iV fuel]]++caps) w (zbf w (doT st ws fuel)):=by
 rcases st with (_|s)| (⟨s,p,words⟩| (⟨s,l,nm⟩| ⟨s,r⟩))
 { exact⟨_,_,⟨hs,.inl ⟨rfl,rfl⟩⟩,zju a n c ws fuel w h.at_ h.len h.max⟩ }
 {
 obtain ⟨b1,hv,h1⟩:=hs;exact⟨_,_,⟨hv,.inr (.inl ⟨rfl,_,rfl⟩)⟩,zpo b1 s a n c ws fuel w h1 h⟩ }
 {
 obtain ⟨b1,b2,b3,a2,n2,c2,hv,h1,h2,h3,h4⟩:=hs;exact⟨_,_,⟨hv,.inr (.inr (.inl ⟨rfl,_,_,_,rfl⟩))⟩,zpw b1 b2 b3 s p a2 n2 c2 words a n c ws fuel w h1 h2 h3 h4 h⟩ }
 {
 obtain ⟨b1,b2,b3,hv,h1,h2,h3⟩:=hs;exact⟨_,_,⟨hv,.inr (.inr (.inr (.inl ⟨rfl,_,_,_,rfl⟩)))⟩,zpv b1 b2 b3 s l nm a n c ws fuel w h1 h2 h3 h⟩ }
 {
 obtain ⟨b1,b2,ar,nr,cr,ak,nk,ck,hv,h1,h2,h3,h4,h5,h6⟩:=hs;exact⟨_,_,⟨hv,.inr (.inr (.inr (.inr ⟨rfl,_,_,rfl⟩)))⟩,zo2 b1 b2 ar nr cr r ak nk ck (keepU s) a n c ws fuel w h1 h2 h3 h4 h5 h6 h⟩ }
theorem zho (ws:LI) (fuel p:Int) (words:LI): (progS ws fuel p words).1.length<=ws.length:=by
 unfold progS
 split
 { simp }
 {
 split
 { simp }
 {
 split
 { simp }
 { rw [zbw];exact kQ _ } } }
theorem doS_le (st:Stp) (ws:LI) (f:Int): (doS st ws f).1.length<=ws.length:=by
 cases st with
 |inl s=>exact zni _ _ _
 |inr q=>obtain ⟨p,words⟩:=q;exact zho _ _ _ _
theorem zi4 (sts:List Stp): ∀(ws:LI) (f:Int),(turnS sts ws f).1.length<=ws.length:=by
 induction sts with
 |nil=>intro ws f;exact kQ _
 |cons st r ih=>
  intro ws f
  by_cases h: (doS st ws f).2.2=0
  { rw [zjb h];exact kc (ih _ _) (doS_le _ _ _) }
  { rw [zgx h];exact doS_le _ _ _ }
theorem doT_le (st:Stu) (ws:LI) (f:Int): (doT st ws f).1.length<=ws.length:=by
 rcases st with (_|s)| (⟨s,p,words⟩| (⟨s,l,nm⟩| ⟨s,r⟩))
 {
 show(fmtS ws f).1.length<=_
 unfold fmtS
 split
 { simp }
 { exact zi4 _ _ _ } }
 {
 show(clrS ws f s).1.length<=_
 unfold clrS
 split
 { simp }
 { exact zmc _ _ _ _ } }
 {
 show(fillS ws f s p words).1.length<=_
 unfold fillS
 split
 { simp }
 {
 split
 { simp }
 { exact zho _ _ _ _ } } }
 {
 show(sealS ws f s l nm).1.length<=_
 unfold sealS
 split
 { simp }
 {
 split
 { simp }
 { exact zho _ _ _ _ } } }
 {
 show(appS ws f r (keepU s)).1.length<=_
 unfold appS
 split
 { simp }
 {
 exact zi4 _ _ _ } }
end
end Go.Proofs.YthmekfcgdfckaaaGreatDoor
