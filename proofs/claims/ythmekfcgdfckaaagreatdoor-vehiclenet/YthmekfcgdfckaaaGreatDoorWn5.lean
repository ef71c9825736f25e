/- The contract of log.Append. -/
import Derived.Test.YthmekfcgdfckaaaGreatDoorWn4
set_option maxRecDepth 1000000
set_option maxHeartbeats 0
namespace Go.Proofs.YthmekfcgdfckaaaGreatDoor
variable {ws:List Int}
section
open Go.RowKit
attribute [local go_sem ↓] Go.wp_at_zero Go.wp_at_succ
def fitsA (ws r:List Int):Bool:=zce (restS ws)&&decide (r.length< (restS ws).length)
def headP (ws:List Int):Nat:=(secN ws+1)* 32 - (restS ws).length
def laidA (r:List Int) (keep:List (List Int)):List Int×Int:=laidS (keep++ [r]) []
def zg4 (ws r:List Int) (keep:List (List Int)):List Stp:=
  if fitsA ws r=true then [.prg (headP ws+1) r,.prg (headP ws) [headS r.length]]
  else [.era (1 - secN ws),.prg ((1 - secN ws)* 32+1) (laidA r keep).1,.prg ((1 - secN ws)* 32) [genN ws+1]]
def zcp (ws:List Int) (fuel:Int) (r:List Int) (keep:List (List Int)):Int:=
  if lchk ws fuel≠0 then lchk ws fuel else if recE r≠0 then recE r else if(laidA r keep).2≠0 then(laidA r keep).2
  else if fitsA ws r=false∧genN ws=60000 then 8 else 0
def appS (ws:List Int) (fuel:Int) (r:List Int) (keep:List (List Int)):List Int×Int×Int:=
  if zcp ws fuel r keep≠0 then([],0,zcp ws fuel r keep) else turnS (zg4 ws r keep) ws fuel
theorem zsb (rs:List (List Int)) (xs:List Int) (h:xs.length≤31): (laidS rs xs).1.length≤31:=by
  induction rs generalizing xs with
  |nil=>exact h
  |cons r rs ih=>
    by_cases e:addE xs r=0
    { rw [zex e];exact ih _ (zop e) }
    {
    rw [zet e];simp
    }
theorem zrt (h:64≤ws.length): (restS ws).length≤31:=by
  have: ∀(k:Nat) (l:List Int),(zb6 k l).2.length≤l.length:=by
    intro k
    induction k with
    |zero=>intro l;simp [zb6]
    |succ k ih=>
      intro l;rw [zci]
      split
      { simp }
      {
      have:=ih (l.drop (1+longS l))
      simp at this⊢
      omega
      }
  have h2:=this (secL ws (secN ws)).length (secL ws (secN ws))
  rcases zgk ws with h3|h3
  { rw [zc6 (by omega)] at h2;unfold restS za7;rw [zc6 (by omega)];exact h2 }
  {
  rw [zc6 (by omega)] at h2;unfold restS za7;rw [zc6 (by omega)];exact h2
  }
theorem ziu (h:okL ws=true) (s:Nat) (hs:s * 32<ws.length):0≤genS ws s:=by
  unfold genS
  split
  { omega }
  {
  have:=zk3 h (s * 32) hs;simp only [okW,decide_eq_true_eq] at this;omega
  }
theorem zo5 (h:okL ws=true) (h2:64≤ws.length):0≤genN ws:=by
  unfold genN
  split
  { exact ziu h 1 (by omega) }
  {
  exact ziu h 0 (by omega)
  }
theorem zjp (a:Option Addr) (n c:Nat) (ws:List Int) (fuel:Int) (ar:Option Addr) (nr cr:Nat) (r:List Int) (ak:Option Addr) (nk ck:Nat) (keep:List (List Int)) (w:World) (h:zag w a ws) (hn:ws.length=n) (hcap:n≤c) (hm:n≤maxLen)
    (hr:zag w ar r) (hnr:r.length=nr) (hmr:nr≤maxLen) (hk:zck w ak keep) (hnk:keep.length=nk) (hmk:nk≤maxLen):
    Calls Tryz.prog 258 #[.agg #[.slice a n c,.int .i64 fuel],.slice ar nr cr,.slice ak nk ck] w (zbf w (appS ws fuel r keep)):=by
  have HC:=hide (fun W (h:zag W a ws)=>zd5 a n c ws fuel W h hn hm);have HR:=hide (fun W (h:zag W ar r)=>zf3 ar nr cr r W h hnr hmr);have HLd:=hide (fun W (hk:zck W ak keep) (h:zag W ar r)=>laid_any ak nk ck keep ar nr cr r W hk hnk hmk h hnr hmr);have HG:=hide (fun W (h:zag W a ws) (h64:64≤n)=>zfv a n c ws fuel W h hn hm h64);have HP:=hide (fun W (h:zag W a ws) (hm:n≤192) (hok:okL ws=true) (h64:64≤n)=>zmb a n c ws fuel (secN ws) W h hn hcap hm hok (zgk ws) h64);have HT:=hide (fun W al L cl sts (h:zag W a ws) (hs:zd0 W al sts) (hL:sts.length=L) (hL1:1≤L) (hL2:L≤100)=>zkr a n c ws fuel al L cl sts W h hn hm hs hL hL1 hL2);have b0: ((w.alloc (.cells #[.slice a n c,.int .i64 fuel] 28)).alloc (.cells #[.slice none 0 0,.int .i64 0] 28)).heap[w.heap.size]?=some (.cells #[.slice a n c,.int .i64 fuel] 28 (0,0)):=
    zai (heap_alloc_last _ _) _
  have b2: ((w.alloc (.cells #[.slice a n c,.int .i64 fuel] 28)).alloc (.cells #[.slice none 0 0,.int .i64 0] 28)).heap[w.heap.size+1]?=some (.cells #[.slice none 0 0,.int .i64 0] 28 (0,0)):=
    by simpa using heap_alloc_last (w.alloc _) _
  have hw:Below w.heap.size w ((w.alloc (.cells #[.slice a n c,.int .i64 fuel] 28)).alloc (.cells #[.slice none 0 0,.int .i64 0] 28)):=
    bA2
  have i0:=h.below hw;have i1:=hr.below hw;have i2:=hk.below hw;have B0:=hide b0;have B2:=hide b2;have HN:=hide hn;have HNR:=hide hnr;clear b0 b2 hn hnr hnk h hr hk;have HAE:=hide (show appS ws fuel r keep=if zcp ws fuel r keep≠0 then([],0,zcp ws fuel r keep) else turnS (zg4 ws r keep) ws fuel from rfl);go_enter Tryz.func258,Tryz.ntmps258;go_wp2_with fail;generalize (w.alloc (.cells #[.slice a n c,.int .i64 fuel] 28)).alloc (.cells #[.slice none 0 0,.int .i64 0] 28)=W at *;refine(zae HC _ i0).mono ?_;rintro e w1 ⟨rfl,hb1⟩;replace B0:=hide (zab B0.out hb1);replace B2:=hide (zab B2.out hb1);replace i0:=i0.below hb1;replace i1:=i1.below hb1;replace i2:=i2.below hb1;replace hw:=bT hw hb1;clear hb1
  by_cases e1:lchk ws fuel=0
  rotate_left
  {
  have e1' : (lchk ws fuel !=0)=true:=by simpa using e1
  have he:Hid (appS ws fuel r keep= ([],0,lchk ws fuel)):=by
    have:zcp ws fuel r keep=lchk ws fuel:=by unfold zcp;rw [if_pos e1]
    show _=_
    rw [HAE.out,this,if_pos e1]
  have y0:=zaa B2.out 0 _ rfl;have y1:=zaa B2.out 1 _ rfl;have f0:=zad B2.out 0;have f1:=zad B2.out 1;go_wp2;refine bodyPost_ret (v:=.tuple #[.agg #[.slice none 0 0,.int .i64 0],.int .i64 (lchk ws fuel)]) (by simp [results,Tryz.results258,go_sem,y0,y1]) rfl ?_;exact zaz he.out ((hw.setCell (by simp) _).setCell (by simp) _)
  }
  have e1' : (lchk ws fuel !=0)=false:=by simpa using e1
  have E1:=hide e1;have parts:=zdm e1;rw [HN.out] at parts;have hrest: (restS ws).length≤31:=zrt (by rw [HN.out];exact parts.2.1);have hlaid: (laidA r keep).1.length≤31:=zsb _ _ (by simp);clear e1;go_wp2_with fail;refine(zae HR _ i1).mono ?_;rintro e w2 ⟨rfl,rfl⟩
  by_cases e2:recE r=0
  rotate_left
  {
  have e2' : (recE r !=0)=true:=by simpa using e2
  have he:Hid (appS ws fuel r keep= ([],0,recE r)):=by
    have:zcp ws fuel r keep=recE r:=by unfold zcp;rw [if_neg (by simpa using E1.out),if_pos e2]
    show _=_
    rw [HAE.out,this,if_pos e2]
  have y0:=zaa B2.out 0 _ rfl;have y1:=zaa B2.out 1 _ rfl;have f0:=zad B2.out 0;have f1:=zad B2.out 1;go_wp2;refine bodyPost_ret (v:=.tuple #[.agg #[.slice none 0 0,.int .i64 0],.int .i64 (recE r)]) (by simp [results,Tryz.results258,go_sem,y0,y1]) rfl ?_;exact zaz he.out ((hw.setCell (by simp) _).setCell (by simp) _)
  }
  have e2' : (recE r !=0)=false:=by simpa using e2
  have E2:=hide e2;have rparts:=zsa e2;rw [HNR.out] at rparts;clear e2;go_wp2_with fail;refine(zae HLd _ i2 i1).mono ?_;rintro e w3 ⟨⟨a3,n3,c3,rfl,hi3,hn3,hc3,hf3⟩,hb3⟩;replace B0:=hide (zab B0.out hb3);replace B2:=hide (zab B2.out hb3);replace i0:=i0.below hb3;replace i1:=i1.below hb3;replace hw:=bT hw hb3;have HN3:Hid ((laidA r keep).1.length=n3):=hn3;have hn31:n3≤31:=by rw [←HN3.out];exact hlaid
  obtain ⟨la,hla⟩: ∃la,la=laidA r keep:=⟨_,rfl⟩;have hla' :laidS (keep++ [r]) []=la:=by rw [hla];rfl
  rw [hla'] at hi3 hn3⊢;clear hb3 hn3 hf3 hla';have HLA:=hide hla;clear hla
  by_cases e3:la.2=0
  rotate_left
  {
  have e3' : (la.2 !=0)=true:=by simpa using e3
  have he:Hid (appS ws fuel r keep= ([],0,la.2)):=by
    have:zcp ws fuel r keep=la.2:=by unfold zcp;rw [if_neg (by simpa using E1.out),if_neg (by simpa using E2.out),←HLA.out,if_pos e3]
    show _=_
    rw [HAE.out,this,if_pos e3]
  have y0:=zaa B2.out 0 _ rfl;have y1:=zaa B2.out 1 _ rfl;have f0:=zad B2.out 0;have f1:=zad B2.out 1;clear e3;go_wp2;refine bodyPost_ret (v:=.tuple #[.agg #[.slice none 0 0,.int .i64 0],.int .i64 la.2]) (by simp [results,Tryz.results258,go_sem,y0,y1]) rfl ?_;exact zaz he.out ((hw.setCell (by simp) _).setCell (by simp) _)
  }
  have e3' : (la.2 !=0)=false:=by simpa using e3
  have E3:=hide e3;have HE:Hid (zcp ws fuel r keep=if fitsA ws r=false∧genN ws=60000 then 8 else 0):=by
    show _=_
    unfold zcp;rw [if_neg (by simpa using E1.out),if_neg (by simpa using E2.out),←HLA.out,if_neg (by simpa using e3)]
  rw [e3];clear e3;have c00:=zaa B0.out 0 _ rfl;have c01:=zaa B0.out 1 _ rfl;go_wp2_with fail;refine(zae HG _ i0 parts.2.1).mono ?_;rintro e w4 ⟨rfl,hb4⟩;replace B0:=hide (zab B0.out hb4);replace B2:=hide (zab B2.out hb4);replace i0:=i0.below hb4;replace i1:=i1.below hb4;replace hi3:=hi3.below hb4;replace hw:=bT hw hb4;clear hb4 c00 c01;have c00:=zaa B0.out 0 _ rfl;have c01:=zaa B0.out 1 _ rfl;go_wp2_with fail;refine(zae HP _ i0 parts.2.2.1 parts.2.2.2.1 parts.2.1).mono ?_;rintro e w5 ⟨⟨v,a5,m5,cc5,rfl,hmk5,hi5,hn5,hm5,hok5⟩,hb5⟩;obtain ⟨av,cv,rfl,_,_,_⟩:=hmk5.isRecs;replace B0:=hide (zab B0.out hb5);replace B2:=hide (zab B2.out hb5);replace i0:=i0.below hb5;replace i1:=i1.below hb5;replace hi3:=hi3.below hb5;replace hw:=bT hw hb5;have HRest:Hid ((restS ws).length=m5):=hn5;have hc5:=hide (fun W (h:zag W a5 (restS ws))=>clean_any a5 m5 cc5 (restS ws) W h hn5 (by unfold maxLen;omega));have HI5:Hid (zag w5 a5 (restS ws)):=hi5;clear hb5 hn5 hi5 hmk5 c00 c01 hok5;have x0:=zaa B0.out 0 _ rfl;have x1:=zaa B0.out 1 _ rfl;have y0:=zaa B2.out 0 _ rfl;have y1:=zaa B2.out 1 _ rfl;have f0:=zad B2.out 0;have f1:=zad B2.out 1;have lt0:=zak B0.out;have lt1:=zak B2.out;have HF:Hid (fitsA ws r= (zce (restS ws)&&decide (nr<m5))):=by show _=_;unfold fitsA;rw [HNR.out,HRest.out]
  have HHP:Hid (headP ws= (secN ws+1)* 32 - m5):=by show _=_;unfold headP;rw [HRest.out]
  have HA1:Hid (fitsA ws r=true→appS ws fuel r keep=turnS [.prg (headP ws+1) r,.prg (headP ws) [headS nr]] ws fuel):=fun hf=>by
    rw [HAE.out,HE.out,if_neg (by simp [hf])];unfold zg4;rw [if_pos hf,HNR.out]
  have HA2:Hid (fitsA ws r=false→genN ws=60000→appS ws fuel r keep= ([],0,8)):=fun hf hg=>by
    have h8:zcp ws fuel r keep=8:=by rw [HE.out,if_pos ⟨hf,hg⟩]
    rw [HAE.out,h8,if_pos (by decide)]
  have HA3:Hid (fitsA ws r=false→genN ws≠60000→appS ws fuel r keep=turnS [.era (1 - secN ws),.prg ((1 - secN ws)* 32+1) la.1,.prg ((1 - secN ws)* 32) [genN ws+1]] ws fuel):=fun hf hg=>by
    rw [HAE.out,HE.out,if_neg (by simp [hg])];unfold zg4;rw [if_neg (by simp [hf]),←HLA.out]
  rw [←HLA.out] at HN3;have hgn:0≤genN ws:=zo5 parts.2.2.2.1 (by rw [HN.out];exact parts.2.1);obtain ⟨g,hg⟩: ∃g,g=genN ws:=⟨_,rfl⟩;rw [←hg] at HA2 HA3 parts hgn⊢;have hs01:=zgk ws;obtain ⟨s,hs⟩: ∃s,s=secN ws:=⟨_,rfl⟩;rw [←hs] at HA3 HHP hs01⊢;obtain ⟨hp,hhp⟩: ∃p,p=headP ws:=⟨_,rfl⟩;rw [←hhp] at HA1 HHP;have hhpe:hp= (s+1)* 32 - m5:=HHP.out;clear hs hg hhp HHP HE HAE;have hg0:0≤g:=hgn;have nn:=World.new_ne w5 ⟨w.heap.size,0,none⟩ x0;go_upto_region 12 with fail
  go_cut [60] (fun v60 wx=>v60=.bool (zce (restS ws)&&decide (nr<m5))∧wx=w5)
  case first=>
    go_wp2_with fail;refine(zae hc5 _ HI5.out).mono ?_;rintro e w6 ⟨rfl,rfl⟩;cases hcl:zce (restS ws)
    {
    go_wp2
    go_meet
    case rel=>exact⟨congrArg Value.bool (by simp [hcl]),rfl⟩
    }
    {
    by_cases hlt:nr<m5
    {
    have hlt' : (nr:Int)< (m5:Int):=by omega
    go_wp2
    go_meet
    case rel=>exact⟨congrArg Value.bool (by simp [hcl,hlt]),rfl⟩
    }
    {
    have hlt' : ¬(nr:Int)< (m5:Int):=by omega
    go_wp2
    go_meet
    case rel=>exact⟨congrArg Value.bool (by simp [hcl,hlt]),rfl⟩
    }
    }
  case rest=>
    obtain ⟨rfl,hwc⟩:=hcut;subst hwc;obtain ⟨w5,rfl⟩: ∃w5:World,w5=wc:=⟨_,rfl⟩;cases hfA:fitsA ws r;rotate_left
    {
    have hfit:zce (restS ws)=true∧nr<m5:=by have:=HF.out;rw [hfA] at this;simpa using this.symm
    have HRes:=hide (HA1.out hfA);rw [←HF.out,hfA];have hf:=hide (fun W=>zj9 ar nr cr W (by omega));clear hfA HA1 HA2 HA3 HF;have hlt:=hfit.2;clear hfit
    rcases hs01 with rfl|rfl
    {
    have hz0:True:=trivial;have hp1:hp+m5=32:=by omega
    have hpi: (32:Int)- (m5:Int)= (hp:Int):=by omega
    have hwr1:IntKind.i64.wrap ((hp:Int)+1)= (hp:Int)+1:=by rw [IntKind.wrap_i64];omega
    clear hhpe;go_wp2_with fail
    go_region_held3 (fun w' =>w'.cell? ⟨w.heap.size,0,none⟩=some (.slice a n c)∧w'.cell? ⟨w.heap.size,1,none⟩=some (.int .i64 fuel)) (first|exact⟨by assumption,by assumption⟩| (refine zgf ?_ lt0 x0 x1;(repeat(first|exact Below.refl _ _|refine Below.drew ?_|refine Below.alloc ?_ (by simp<;>omega) _));done)|go_keep)
      ((first
        | (go_at_call 203;refine(zcl _ _ _ ⟨_,_,_,rfl⟩).mono ?_;rintro e w2 ⟨rfl,rfl⟩)
        | (go_at_call 288;refine(zae hf _).mono ?_;rintro e w2 ⟨rfl,rfl⟩)
        | (go_at_call 201;refine(zae HT _ _ 2 _ [.prg (hp+1) r,.prg hp [headS nr]] (i0.below (by repeat(first|exact Below.refl _ _|refine Below.drew ?_|refine Below.alloc ?_ (by simp<;>omega) _))) (znc (by repeat(first| (refine zas ?_ rfl;simp;done)|refine zaq ?_)) (by repeat(first| (refine zas ?_ rfl;simp;done)|refine zaq ?_)) (zb4 (n:=nr) (by repeat(first| (refine zas ?_ rfl;simp;done)|refine zaq ?_)) (by repeat(first| (refine zas ?_ rfl;simp;done)|refine zaq ?_)) (i1.below (by repeat(first|exact Below.refl _ _|refine Below.drew ?_|refine Below.alloc ?_ (by simp<;>omega) _))) HNR.out (by omega) (by omega)) (zb4 (n:=1) (by repeat(first| (refine zas ?_ rfl;simp;done)|refine zaq ?_)) (by repeat(first| (refine zas ?_ rfl;simp;done)|refine zaq ?_)) (zd7 (by repeat(first| (refine zas ?_ rfl;simp;done)|refine zaq ?_))) rfl (by omega) (by omega))) rfl (by decide) (by decide)).mono ?_;rintro e w6 ⟨⟨a6,n6,c6,rfl,hi6,hn6,hc6,hf6⟩,hb6⟩;have hb7:Below w5.heap.size w5 w6:=(Below.trans (by repeat(first|exact Below.refl _ _|refine Below.drew ?_|refine Below.alloc ?_ (by simp<;>omega) _)) (hb6.mono (by simp;omega)));have z0:w6.cell? ⟨w.heap.size,0,none⟩=some (.slice a n c):=(by rw [hb7.cell lt0];exact x0);have z1:w6.cell? ⟨w.heap.size,1,none⟩=some (.int .i64 fuel):=(by rw [hb7.cell lt0];exact x1);have q0:=zaa (zab B2.out hb7) 0 _ rfl;have q1:=zaa (zab B2.out hb7) 1 _ rfl;have q2:=zad (zab B2.out hb7) 0;have q3:=zad (zab B2.out hb7) 1;have hf7:zal w5.heap.size a6:=zal.mono hf6 (by simp;omega))))
    all_goals
      go_wp2;refine bodyPost_ret (v:=.tuple #[.agg #[.slice a6 n6 c6,.int .i64 (turnS [.prg (hp+1) r,.prg hp [headS nr]] ws fuel).2.1],.int .i64 (turnS [.prg (hp+1) r,.prg hp [headS nr]] ws fuel).2.2]) (by simp [results,Tryz.results258,go_sem,q0,q1]) rfl ?_;rw [HRes.out];have hw7:=bT hw hb7;exact⟨⟨a6,n6,c6,rfl,(hi6.other hf7 lt1 0 _).other hf7 lt1 1 _,hn6,hc6,zal.mono hf7 hw.size⟩,(hw7.setCell (by simp) _).setCell (by simp) _⟩
    }
    {
    have hz0:True:=trivial;have hp1:hp+m5=64:=by omega
    have hpi: (64:Int)- (m5:Int)= (hp:Int):=by omega
    have hwr1:IntKind.i64.wrap ((hp:Int)+1)= (hp:Int)+1:=by rw [IntKind.wrap_i64];omega
    clear hhpe;go_wp2_with fail
    go_region_held3 (fun w' =>w'.cell? ⟨w.heap.size,0,none⟩=some (.slice a n c)∧w'.cell? ⟨w.heap.size,1,none⟩=some (.int .i64 fuel)) (first|exact⟨by assumption,by assumption⟩| (refine zgf ?_ lt0 x0 x1;(repeat(first|exact Below.refl _ _|refine Below.drew ?_|refine Below.alloc ?_ (by simp<;>omega) _));done)|go_keep)
      ((first
        | (go_at_call 203;refine(zcl _ _ _ ⟨_,_,_,rfl⟩).mono ?_;rintro e w2 ⟨rfl,rfl⟩)
        | (go_at_call 288;refine(zae hf _).mono ?_;rintro e w2 ⟨rfl,rfl⟩)
        | (go_at_call 201;refine(zae HT _ _ 2 _ [.prg (hp+1) r,.prg hp [headS nr]] (i0.below (by repeat(first|exact Below.refl _ _|refine Below.drew ?_|refine Below.alloc ?_ (by simp<;>omega) _))) (znc (by repeat(first| (refine zas ?_ rfl;simp;done)|refine zaq ?_)) (by repeat(first| (refine zas ?_ rfl;simp;done)|refine zaq ?_)) (zb4 (n:=nr) (by repeat(first| (refine zas ?_ rfl;simp;done)|refine zaq ?_)) (by repeat(first| (refine zas ?_ rfl;simp;done)|refine zaq ?_)) (i1.below (by repeat(first|exact Below.refl _ _|refine Below.drew ?_|refine Below.alloc ?_ (by simp<;>omega) _))) HNR.out (by omega) (by omega)) (zb4 (n:=1) (by repeat(first| (refine zas ?_ rfl;simp;done)|refine zaq ?_)) (by repeat(first| (refine zas ?_ rfl;simp;done)|refine zaq ?_)) (zd7 (by repeat(first| (refine zas ?_ rfl;simp;done)|refine zaq ?_))) rfl (by omega) (by omega))) rfl (by decide) (by decide)).mono ?_;rintro e w6 ⟨⟨a6,n6,c6,rfl,hi6,hn6,hc6,hf6⟩,hb6⟩;have hb7:Below w5.heap.size w5 w6:=(Below.trans (by repeat(first|exact Below.refl _ _|refine Below.drew ?_|refine Below.alloc ?_ (by simp<;>omega) _)) (hb6.mono (by simp;omega)));have z0:w6.cell? ⟨w.heap.size,0,none⟩=some (.slice a n c):=(by rw [hb7.cell lt0];exact x0);have z1:w6.cell? ⟨w.heap.size,1,none⟩=some (.int .i64 fuel):=(by rw [hb7.cell lt0];exact x1);have q0:=zaa (zab B2.out hb7) 0 _ rfl;have q1:=zaa (zab B2.out hb7) 1 _ rfl;have q2:=zad (zab B2.out hb7) 0;have q3:=zad (zab B2.out hb7) 1;have hf7:zal w5.heap.size a6:=zal.mono hf6 (by simp;omega))))
    all_goals
      go_wp2;refine bodyPost_ret (v:=.tuple #[.agg #[.slice a6 n6 c6,.int .i64 (turnS [.prg (hp+1) r,.prg hp [headS nr]] ws fuel).2.1],.int .i64 (turnS [.prg (hp+1) r,.prg hp [headS nr]] ws fuel).2.2]) (by simp [results,Tryz.results258,go_sem,q0,q1]) rfl ?_;rw [HRes.out];have hw7:=bT hw hb7;exact⟨⟨a6,n6,c6,rfl,(hi6.other hf7 lt1 0 _).other hf7 lt1 1 _,hn6,hc6,zal.mono hf7 hw.size⟩,(hw7.setCell (by simp) _).setCell (by simp) _⟩
    }
    }
    {
    rw [←HF.out,hfA]
    by_cases hg6:g=60000
    {
    have HRes:=hide (HA2.out hfA hg6);subst hg6;clear hfA HA1 HA2 HA3 HF;go_wp2;refine bodyPost_ret (v:=.tuple #[.agg #[.slice none 0 0,.int .i64 0],.int .i64 8]) (by simp [results,Tryz.results258,go_sem,y0,y1]) rfl ?_;exact zaz HRes.out ((hw.setCell (by simp) _).setCell (by simp) _)
    }
    {
    have HRes:=hide (HA3.out hfA hg6);have hg6' : (g==60000)=false:=by simpa using hg6
    have hwr2:IntKind.i64.wrap (g+1)=g+1:=by rw [IntKind.wrap_i64];omega
    clear hfA HA1 HA2 HA3 HF hg6
    rcases hs01 with rfl|rfl
    {
    have hz0:True:=trivial;go_wp2_with fail
    go_region_held3 (fun w' =>w'.cell? ⟨w.heap.size,0,none⟩=some (.slice a n c)∧w'.cell? ⟨w.heap.size,1,none⟩=some (.int .i64 fuel)) (first|exact⟨by assumption,by assumption⟩| (refine zgf ?_ lt0 x0 x1;(repeat(first|exact Below.refl _ _|refine Below.drew ?_|refine Below.alloc ?_ (by simp<;>omega) _));done)|go_keep)
      ((first
        | (go_at_call 202;refine(zg2 _ _).mono ?_;rintro e w2 ⟨rfl,rfl⟩)
        | (go_at_call 203;refine(zcl _ _ _ ⟨_,_,_,rfl⟩).mono ?_;rintro e w2 ⟨rfl,rfl⟩)
        | (go_at_call 201;refine(zae HT _ _ 3 _ [.era 1,.prg 33 la.1,.prg 32 [g+1]] (i0.below (by repeat(first|exact Below.refl _ _|refine Below.drew ?_|refine Below.alloc ?_ (by simp<;>omega) _))) (zji (by repeat(first| (refine zas ?_ rfl;simp;done)|refine zaq ?_)) (by repeat(first| (refine zas ?_ rfl;simp;done)|refine zaq ?_)) (by repeat(first| (refine zas ?_ rfl;simp;done)|refine zaq ?_)) (ze2 (by repeat(first| (refine zas ?_ rfl;simp;done)|refine zaq ?_)) (by omega)) (zb4 (n:=n3) (by repeat(first| (refine zas ?_ rfl;simp;done)|refine zaq ?_)) (by repeat(first| (refine zas ?_ rfl;simp;done)|refine zaq ?_)) (hi3.below (by repeat(first|exact Below.refl _ _|refine Below.drew ?_|refine Below.alloc ?_ (by simp<;>omega) _))) HN3.out (by omega) (by omega)) (zb4 (n:=1) (by repeat(first| (refine zas ?_ rfl;simp;done)|refine zaq ?_)) (by repeat(first| (refine zas ?_ rfl;simp;done)|refine zaq ?_)) (zd7 (by repeat(first| (refine zas ?_ rfl;simp;done)|refine zaq ?_))) rfl (by omega) (by omega))) rfl (by decide) (by decide)).mono ?_;rintro e w6 ⟨⟨a6,n6,c6,rfl,hi6,hn6,hc6,hf6⟩,hb6⟩;have hb7:Below w5.heap.size w5 w6:=(Below.trans (by repeat(first|exact Below.refl _ _|refine Below.drew ?_|refine Below.alloc ?_ (by simp<;>omega) _)) (hb6.mono (by simp;omega)));have z0:w6.cell? ⟨w.heap.size,0,none⟩=some (.slice a n c):=(by rw [hb7.cell lt0];exact x0);have z1:w6.cell? ⟨w.heap.size,1,none⟩=some (.int .i64 fuel):=(by rw [hb7.cell lt0];exact x1);have q0:=zaa (zab B2.out hb7) 0 _ rfl;have q1:=zaa (zab B2.out hb7) 1 _ rfl;have q2:=zad (zab B2.out hb7) 0;have q3:=zad (zab B2.out hb7) 1;have hf7:zal w5.heap.size a6:=zal.mono hf6 (by simp;omega))))
    all_goals
      go_wp2;refine bodyPost_ret (v:=.tuple #[.agg #[.slice a6 n6 c6,.int .i64 (turnS [.era 1,.prg 33 la.1,.prg 32 [g+1]] ws fuel).2.1],.int .i64 (turnS [.era 1,.prg 33 la.1,.prg 32 [g+1]] ws fuel).2.2]) (by simp [results,Tryz.results258,go_sem,q0,q1]) rfl ?_;rw [HRes.out];have hw7:=bT hw hb7;exact⟨⟨a6,n6,c6,rfl,(hi6.other hf7 lt1 0 _).other hf7 lt1 1 _,hn6,hc6,zal.mono hf7 hw.size⟩,(hw7.setCell (by simp) _).setCell (by simp) _⟩
    }
    {
    have hz0:True:=trivial;go_wp2_with fail
    go_region_held3 (fun w' =>w'.cell? ⟨w.heap.size,0,none⟩=some (.slice a n c)∧w'.cell? ⟨w.heap.size,1,none⟩=some (.int .i64 fuel)) (first|exact⟨by assumption,by assumption⟩| (refine zgf ?_ lt0 x0 x1;(repeat(first|exact Below.refl _ _|refine Below.drew ?_|refine Below.alloc ?_ (by simp<;>omega) _));done)|go_keep)
      ((first
        | (go_at_call 202;refine(zg2 _ _).mono ?_;rintro e w2 ⟨rfl,rfl⟩)
        | (go_at_call 203;refine(zcl _ _ _ ⟨_,_,_,rfl⟩).mono ?_;rintro e w2 ⟨rfl,rfl⟩)
        | (go_at_call 201;refine(zae HT _ _ 3 _ [.era 0,.prg 1 la.1,.prg 0 [g+1]] (i0.below (by repeat(first|exact Below.refl _ _|refine Below.drew ?_|refine Below.alloc ?_ (by simp<;>omega) _))) (zji (by repeat(first| (refine zas ?_ rfl;simp;done)|refine zaq ?_)) (by repeat(first| (refine zas ?_ rfl;simp;done)|refine zaq ?_)) (by repeat(first| (refine zas ?_ rfl;simp;done)|refine zaq ?_)) (ze2 (by repeat(first| (refine zas ?_ rfl;simp;done)|refine zaq ?_)) (by omega)) (zb4 (n:=n3) (by repeat(first| (refine zas ?_ rfl;simp;done)|refine zaq ?_)) (by repeat(first| (refine zas ?_ rfl;simp;done)|refine zaq ?_)) (hi3.below (by repeat(first|exact Below.refl _ _|refine Below.drew ?_|refine Below.alloc ?_ (by simp<;>omega) _))) HN3.out (by omega) (by omega)) (zb4 (n:=1) (by repeat(first| (refine zas ?_ rfl;simp;done)|refine zaq ?_)) (by repeat(first| (refine zas ?_ rfl;simp;done)|refine zaq ?_)) (zd7 (by repeat(first| (refine zas ?_ rfl;simp;done)|refine zaq ?_))) rfl (by omega) (by omega))) rfl (by decide) (by decide)).mono ?_;rintro e w6 ⟨⟨a6,n6,c6,rfl,hi6,hn6,hc6,hf6⟩,hb6⟩;have hb7:Below w5.heap.size w5 w6:=(Below.trans (by repeat(first|exact Below.refl _ _|refine Below.drew ?_|refine Below.alloc ?_ (by simp<;>omega) _)) (hb6.mono (by simp;omega)));have z0:w6.cell? ⟨w.heap.size,0,none⟩=some (.slice a n c):=(by rw [hb7.cell lt0];exact x0);have z1:w6.cell? ⟨w.heap.size,1,none⟩=some (.int .i64 fuel):=(by rw [hb7.cell lt0];exact x1);have q0:=zaa (zab B2.out hb7) 0 _ rfl;have q1:=zaa (zab B2.out hb7) 1 _ rfl;have q2:=zad (zab B2.out hb7) 0;have q3:=zad (zab B2.out hb7) 1;have hf7:zal w5.heap.size a6:=zal.mono hf6 (by simp;omega))))
    all_goals
      go_wp2;refine bodyPost_ret (v:=.tuple #[.agg #[.slice a6 n6 c6,.int .i64 (turnS [.era 0,.prg 1 la.1,.prg 0 [g+1]] ws fuel).2.1],.int .i64 (turnS [.era 0,.prg 1 la.1,.prg 0 [g+1]] ws fuel).2.2]) (by simp [results,Tryz.results258,go_sem,q0,q1]) rfl ?_;rw [HRes.out];have hw7:=bT hw hb7;exact⟨⟨a6,n6,c6,rfl,(hi6.other hf7 lt1 0 _).other hf7 lt1 1 _,hn6,hc6,zal.mono hf7 hw.size⟩,(hw7.setCell (by simp) _).setCell (by simp) _⟩
    }
    }
    }
end
end Go.Proofs.YthmekfcgdfckaaaGreatDoor
