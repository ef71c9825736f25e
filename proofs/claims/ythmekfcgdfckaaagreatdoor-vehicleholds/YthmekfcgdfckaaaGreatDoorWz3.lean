/- Facts. -/
import Derived.Test.YthmekfcgdfckaaaGreatDoorWz1
set_option maxRecDepth 1000000
set_option maxHeartbeats 0
namespace Go.Proofs.YthmekfcgdfckaaaGreatDoor
open Go.RowKit
variable {w:World} {b B:Nat} {v:Value} {r xs:LI} {rs:LL}
section
attribute [local go_sem ↓] kM kO
def TurnSt (w:World) (B n k:Nat) (ws:LI) (f:Int) (wr:World):Prop:=
 ∃a c,wr.heap[B]?=some (.cells #[.slice a n c,iV f] 28 (0,0))/\zag wr a ws/\ws.length=n/\(k=0\/(zal (w.heap.size+2) a/\n<=c))
theorem zkr (a:oA) (n c:Nat) (ws:LI) (fuel:Int) (al:oA) (L cl:Nat) (sts:List Stp) (w:World) (h:zag w a ws) (hn:ws.length=n) (hm:n<=maxLen) (hst:zd0 w al sts) (hL:sts.length=L) (hL1:1<=L) (hL2:L<=100):
 Cq 201 #[.agg #[.slice a n c,iV fuel],.slice al L cl] w (zbf w (turnS sts ws fuel)):=by
 have hw:bZ w ((w.alloc (.cells #[.slice a n c,iV fuel] 28)).alloc (.cells #[nV,iV 0] 28)):=
  bA2
 have b0:=zai (kP w (.cells #[.slice a n c,iV fuel] 28)) (.cells #[nV,iV 0] 28);have b1: ((w.alloc (.cells #[.slice a n c,iV fuel] 28)).alloc (.cells #[nV,iV 0] 28)).heap[w.heap.size+1]?=some (.cells #[nV,iV 0] 28 (0,0)):=
  by simpa using kP (w.alloc _) _
 have hstart:TurnSt w w.heap.size n 0 ws fuel ((w.alloc (.cells #[.slice a n c,iV fuel] 28)).alloc (.cells #[nV,iV 0] 28)):=⟨a,c,b0,h.bl hw,hn,.inl rfl⟩;have B1:=uH b1;have HL:=uH hL;clear hL b0 b1 hn h;obtain ⟨bs,rfl,hsteps⟩:=hst;have HS:=uH hsteps;clear hsteps;go_enter Tryz.func201,Tryz.ntmps201;go_wp2;generalize (w.alloc (.cells #[.slice a n c,iV fuel] 28)).alloc (.cells #[nV,iV 0] 28)=W at *
 go_loopw [11] (fun i wr=>∃(k:Nat) (us:LI) (f:Int),k<=L/\i=iV k/\TurnSt w w.heap.size n k us f wr/\Hd (wr.heap[w.heap.size+1]?=some (.cells #[nV,iV 0] 28 (0,0)))/\bZ w wr/\Hd (turnS sts ws fuel=turnS (sts.drop k) us f)) (fun i _=>L - (intOf i).toNat)
 case atStart=>exact⟨0,ws,fuel,KG _,rfl,hstart,B1,hw,by show _=_;rw [List.drop_zero]⟩
 case round=>
  obtain ⟨k,us,f,hk,rfl,⟨a1,c1,hbox,hi,hlen,hfr⟩,hz,hbe,hl⟩:=hrel;have x0:=zaa hbox 0 _ rfl;have x1:=zaa hbox 1 _ rfl;have HBox:=uH hbox;have HLen:=uH hlen;clear hbox hlen
  by_cases hlt:k<L
  {
  have hkl:k<sts.length:=by rw [HL.o];exact hlt
  obtain ⟨v,hv,hsv⟩:=HS.o k sts[k] (kX hkl);have hd:Hd (sts.drop k=sts[k]::sts.drop (k+1)):=kq hkl;have hv' :wr.cell? ⟨bs,k,none⟩=some v:=by rw [hbe.cell (zah hv)];exact hv
  replace hsv:=hsv.bl hbe;obtain ⟨st,hst⟩: ∃st,st=sts[k]:=⟨_,rfl⟩;rw [<-hst] at hsv hd;clear hst hv;have HC:Hd (∃fn caps,v=.func (.func fn) #[] caps/\(fn=249/\(∃p,caps=#[p])\/fn=251/\∃p q,caps=#[p,q])/\Cq fn (#[.agg #[.slice a1 n c1,iV f]]++caps) wr (zbf wr (doS st us f))):=by
   cases st with
   |inl s=>
    obtain ⟨b,h1,h2,h3⟩:=hsv;exact⟨_,_,h1,.inl ⟨rfl,_,rfl⟩,zpy b s a1 n c1 us f wr h2 hi HLen.o hm⟩
   |inr q=>
    obtain ⟨p,words⟩:=q;obtain ⟨p1,p2,a2,n2,c2,h1,h2,h3,h4,h5,h6,h7⟩:=hsv;exact⟨_,_,h1,.inr ⟨rfl,_,_,rfl⟩,zox p1 p2 p a2 n2 c2 words a1 n c1 us f wr h2 h3 h4 h5 h6 h7 hi HLen.o hm⟩
  obtain ⟨fn,caps,rfl,hcaps,hcall⟩:=HC.o;have HCall:=uH hcall;clear HC hcall hsv;have lt0:=zak HBox.o;have lt1:=zak hz.o;have z0: (k:Int)< (L:Int):=by omega
  rcases hcaps with ⟨rfl,p,rfl⟩| ⟨rfl,p,q,rfl⟩
  all_goals
   go_wp2_with fail;refine(zae HCall).mono ?_;rintro e w1 ⟨⟨a2,n2,c2,rfl,hi2,hn2,hc2,hf2⟩,hb2⟩;have y0:=zaa (zab HBox.o hb2) 0 _ rfl;have y1:=zaa (zab HBox.o hb2) 1 _ rfl;have y2:=zad (zab HBox.o hb2) 0;have y3:=zad (zab HBox.o hb2) 1;have u0:=zaa (zab hz.o hb2) 0 _ rfl;have u1:=zaa (zab hz.o hb2) 1 _ rfl;have u2:=zad (zab hz.o hb2) 0;have u3:=zad (zab hz.o hb2) 1;have hbe2:=bT hbe hb2;have HN2:=uH hn2;have HI2:=uH hi2;have HF2:=uH hf2;clear hn2 hi2 hf2
   by_cases e1: (doS st us f).2.2=0
   {
   have e1' : ((doS st us f).2.2 !=0)=false:=by simpa using e1
   have hl2:Hd (turnS sts ws fuel=turnS (sts.drop (k+1)) (doS st us f).1 (doS st us f).2.1):=by show _=_;rw [hl.o,hd.o,zjb e1]
   have hlen2:Hd ((doS st us f).1.length=n):=by show _=_;rw [doS_len e1];exact HLen.o
   obtain rfl:n2=n:=by rw [<-HN2.o,hlen2.o]
   rw [e1] at *;clear e1;go_wp2
   go_roundw
   case rel=>
    refine⟨k+1,(doS st us f).1,(doS st us f).2.1,by omega,by go_num,⟨a2,c2, ?_,(HI2.o.other HF2.o lt0 0 _).other HF2.o lt0 1 _,hlen2.o,.inr ⟨zal.mono HF2.o (by omega),hc2⟩⟩, ?_,(hbe2.setCell (by simp) _).setCell (by simp) _,hl2⟩
    {
    have:=zab HBox.o hb2;simp only [World.setCell,KP]
    simp [this] }
    {
    show _=_
    rw [ki _ _ _ _ (by simp),ki _ _ _ _ (by simp)];exact zab hz.o hb2 }
   case measure=>simp [intOf];omega }
   {
   have e1' : ((doS st us f).2.2 !=0)=true:=by simpa using e1
   have hl2:Hd (turnS sts ws fuel=doS st us f):=by show _=_;rw [hl.o,hd.o,zgx e1]
   clear e1;go_wp2;refine kT (v:=.tuple #[.agg #[.slice a2 n2 c2,iV (doS st us f).2.1],iV (doS st us f).2.2]) (by simp [results,Tryz.results201,go_sem,u0,u1]) rfl ?_;rw [hl2.o];exact⟨⟨a2,n2,c2,rfl,(((HI2.o.other HF2.o lt0 0 _).other HF2.o lt0 1 _).other HF2.o lt1 0 _).other HF2.o lt1 1 _,HN2.o,hc2,zal.mono HF2.o (by omega)⟩,(((hbe2.setCell (by simp) _).setCell (by simp) _).setCell (by simp) _).setCell (by simp) _⟩ } }
  {
  have hd:Hd (turnS sts ws fuel= (us,f,0)):=by show _=_;rw [hl.o,Kj (by rw [HL.o];omega)];rfl
  obtain ⟨hf,hc⟩:=hfr.resolve_left (by omega);have HI:=uH hi;have u0:=zaa hz.o 0 _ rfl;have u1:=zaa hz.o 1 _ rfl;have u2:=zad hz.o 0;have u3:=zad hz.o 1;have z0: ¬(k:Int)< (L:Int):=by omega
  clear hi;go_wp2;refine kT (v:=.tuple #[.agg #[.slice a1 n c1,iV f],iV 0]) (by simp [results,Tryz.results201,go_sem,u0,u1]) rfl ?_;rw [hd.o];exact⟨⟨a1,n,c1,rfl,(HI.o.other hf (by omega) 0 _).other hf (by omega) 1 _,HLen.o,hc,zal.mono hf (by omega)⟩,(hbe.setCell (by simp) _).setCell (by simp) _⟩ }
end
section
attribute [local go_sem ↓] kM kO
theorem ze2 {s:Nat} (h:w.cell? ⟨b,0,none⟩=some (iV s)) (hs:s<=100):zdg w (.func (.func 249) #[] #[.pointer (some ⟨b,0,none⟩)]) (.era s):=⟨b,rfl,h,hs⟩
theorem zb4 {b1 b2 p n c:Nat} {a:oA} {words:LI} (h1:ce w b1 0=some (iV p)) (h2:ce w b2 0=some (.slice a n c)) (h3:zag w a words) (h4:words.length=n) (h5:n<=100) (h6:p<=1000):
 zdg w (.func (.func 251) #[] #[.pointer (some ⟨b1,0,none⟩),.pointer (some ⟨b2,0,none⟩)]) (.prg p words):=⟨b1,b2,a,n,c,rfl,h1,h2,h3,h4,h5,h6⟩
theorem znc {v0 v1:Value} {s0 s1:Stp} (h0:ce w b 0=some v0) (h1:ce w b 1=some v1) (k0:zdg w v0 s0) (k1:zdg w v1 s1):zd0 w (some ⟨b,0,none⟩) [s0,s1]:=by
 refine⟨b,rfl,fun i st hi=> ?_⟩
 match i,hi with
 |0,hi=>simp at hi;subst hi;exact⟨v0,h0,k0⟩
 |1,hi=>simp at hi;subst hi;exact⟨v1,h1,k1⟩
theorem zji {v0 v1 v2:Value} {s0 s1 s2:Stp} (h0:ce w b 0=some v0) (h1:ce w b 1=some v1) (h2:ce w b 2=some v2) (k0:zdg w v0 s0) (k1:zdg w v1 s1) (k2:zdg w v2 s2):zd0 w (some ⟨b,0,none⟩) [s0,s1,s2]:=by
 refine⟨b,rfl,fun i st hi=> ?_⟩
 match i,hi with
 |0,hi=>simp at hi;subst hi;exact⟨v0,h0,k0⟩
 |1,hi=>simp at hi;subst hi;exact⟨v1,h1,k1⟩
 |2,hi=>simp at hi;subst hi;exact⟨v2,h2,k2⟩
theorem zd7 {x:Int} (h:w.cell? ⟨b,0,none⟩=some (iV x)):zag w (some ⟨b,0,none⟩) [x]:=
 .inr ⟨b,0,rfl,fun i hi=>by
  have:i=0:=by simp at hi;omega
  subst this;exact h⟩
theorem zg2 (s:Int) (w:World):Cq 202 #[iV s] w fun e w' =>e=.returned (.func (.func 249) #[] #[.pointer (some ⟨w.heap.size,0,none⟩)])/\w' =w.alloc (.cells #[iV s] 3):=by
 go_enter Tryz.func202,Tryz.ntmps202;go_wp2;go_ret;exact⟨rfl,rfl⟩
theorem zcl (p:Int) (v:Value) (w:World) (hv: ∃a n c,v=.slice a n c):Cq 203 #[iV p,v] w fun e w' =>e=.returned (.func (.func 251) #[] #[.pointer (some ⟨w.heap.size,0,none⟩),.pointer (some ⟨w.heap.size+1,0,none⟩)])/\w' = (w.alloc (.cells #[iV p] 3)).alloc (.cells #[v] 26):=by
 obtain ⟨a,n,c,rfl⟩:=hv;go_enter Tryz.func203,Tryz.ntmps203;go_wp2;go_ret;exact⟨rfl,rfl⟩
theorem zas {cs:Array Value} {t:TypeId} {i:Nat} (hb:b=w.heap.size) (hv:cs[i]?=some v): (w.alloc (.cells cs t)).cell? ⟨b,i,none⟩=some v:=by
 subst hb;exact zaa (kP _ _) i _ hv
theorem zaq {o:Obj} {p:Addr} (h:w.cell? p=some v): (w.alloc o).cell? p=some v:=by
 rw [Below.cell ((kS _ w).alloc (kQ _) o) (zah h)];exact h
theorem zgf {W W' :World} {v0 v1:Value} (hb:bZ W W') (lt:b<W.heap.size) (x0:ce W b 0=some v0) (x1:ce W b 1=some v1):ce W' b 0=some v0/\ce W' b 1=some v1:=
 ⟨(hb.cell (p:=⟨b,0,none⟩) lt).trans x0,(hb.cell (p:=⟨b,1,none⟩) lt).trans x1⟩
def fmtS (ws:LI) (fuel:Int):LI×Int×Int:=if secS ws fuel≠0 then([],0,secS ws fuel) else turnS [.era 1,.era 0,.prg 0 [1]] ws fuel
theorem zju (a:oA) (n c:Nat) (ws:LI) (fuel:Int) (w:World) (h:zag w a ws) (hn:ws.length=n) (hm:n<=maxLen):
 Cq 137 #[.agg #[.slice a n c,iV fuel]] w (zbf w (fmtS ws fuel)):=by
 have HC:=uH (fun W (h:zag W a ws)=>zfc a n c ws fuel W h hn hm);have HT:=uH (fun W al cl (h:zag W a ws) (hs:zd0 W al [.era 1,.era 0,.prg 0 [1]])=>zkr a n c ws fuel al 3 cl [.era 1,.era 0,.prg 0 [1]] W h hn hm hs rfl (by decide) (by decide));have b0: ((w.alloc (.cells #[.slice a n c,iV fuel] 28)).alloc (.cells #[nV,iV 0] 28)).heap[w.heap.size]?=some (.cells #[.slice a n c,iV fuel] 28 (0,0)):=
  zai (kP _ _) _
 have b2: ((w.alloc (.cells #[.slice a n c,iV fuel] 28)).alloc (.cells #[nV,iV 0] 28)).heap[w.heap.size+1]?=some (.cells #[nV,iV 0] 28 (0,0)):=
  by simpa using kP (w.alloc _) _
 have hw:bZ w ((w.alloc (.cells #[.slice a n c,iV fuel] 28)).alloc (.cells #[nV,iV 0] 28)):=
  bA2
 have i0:=h.bl hw;have B0:=uH b0;have B2:=uH b2;clear b0 b2 hn;go_enter Tryz.func137,Tryz.ntmps137;go_wp2_with fail;generalize (w.alloc (.cells #[.slice a n c,iV fuel] 28)).alloc (.cells #[nV,iV 0] 28)=W at *;refine(zae HC _ i0).mono ?_;rintro e w1 ⟨rfl,hb1⟩;replace B0:=uH (zab B0.o hb1);replace B2:=uH (zab B2.o hb1);replace i0:=i0.bl hb1;replace hw:=bT hw hb1;clear hb1;have x0:=zaa B0.o 0 _ rfl;have x1:=zaa B0.o 1 _ rfl;have y0:=zaa B2.o 0 _ rfl;have y1:=zaa B2.o 1 _ rfl;have f0:=zad B2.o 0;have f1:=zad B2.o 1;have lt0:=zak B0.o;have lt1:=zak B2.o
 by_cases e1:secS ws fuel=0
 rotate_left
 {
 have e1' : (secS ws fuel !=0)=true:=by simpa using e1
 have hr:Hd (fmtS ws fuel= ([],0,secS ws fuel)):=by show _=_;unfold fmtS;rw [KK e1]
 go_wp2;refine kT (v:=.tuple #[.agg #[nV,iV 0],iV (secS ws fuel)]) (by simp [results,Tryz.results137,go_sem,y0,y1]) rfl ?_;exact zaz hr.o ((hw.setCell (by simp) _).setCell (by simp) _) }
 have e1' : (secS ws fuel !=0)=false:=by simpa using e1
 have hr:Hd (fmtS ws fuel=turnS [.era 1,.era 0,.prg 0 [1]] ws fuel):=by show _=_;unfold fmtS;rw [KJ (by simpa using e1)]
 clear e1;have nn:=World.new_ne w1 ⟨w.heap.size,0,none⟩ x0;go_wp2_with fail
 go_region_held3 (fun w' =>w'.cell? ⟨w.heap.size,0,none⟩=some (.slice a n c)/\w'.cell? ⟨w.heap.size,1,none⟩=some (iV fuel)) (first|exact⟨by assumption,by assumption⟩| (refine zgf ?_ lt0 x0 x1;(repeat(first|exact kS _ _|refine kE ?_|refine kF ?_ (by simp<;>omega) _));done)|go_keep)
  ((first
   | (go_at_call 202;refine(zg2 _ _).mono ?_;rintro e w2 ⟨rfl,rfl⟩)
   | (go_at_call 203;refine(zcl _ _ _ ⟨_,_,_,rfl⟩).mono ?_;rintro e w2 ⟨rfl,rfl⟩)
   | (go_at_call 201;refine(zae HT _ _ _ (i0.bl (by repeat(first|exact kS _ _|refine kE ?_|refine kF ?_ (by simp<;>omega) _))) (zji (by repeat(first| (refine zas ?_ rfl;simp;done)|refine zaq ?_)) (by repeat(first| (refine zas ?_ rfl;simp;done)|refine zaq ?_)) (by repeat(first| (refine zas ?_ rfl;simp;done)|refine zaq ?_)) (ze2 (by repeat(first| (refine zas ?_ rfl;simp;done)|refine zaq ?_)) (by omega)) (ze2 (by repeat(first| (refine zas ?_ rfl;simp;done)|refine zaq ?_)) (by omega)) (zb4 (n:=1) (by repeat(first| (refine zas ?_ rfl;simp;done)|refine zaq ?_)) (by repeat(first| (refine zas ?_ rfl;simp;done)|refine zaq ?_)) (zd7 (by repeat(first| (refine zas ?_ rfl;simp;done)|refine zaq ?_))) rfl (by omega) (by omega)))).mono ?_;rintro e w6 ⟨⟨a6,n6,c6,rfl,hi6,hn6,hc6,hf6⟩,hb6⟩;have hb7:bZ w1 w6:=(Below.trans (by repeat(first|exact kS _ _|refine kE ?_|refine kF ?_ (by simp<;>omega) _)) (hb6.mono (by simp;omega)));have z0:w6.cell? ⟨w.heap.size,0,none⟩=some (.slice a n c):=(by rw [hb7.cell lt0];exact x0);have z1:w6.cell? ⟨w.heap.size,1,none⟩=some (iV fuel):=(by rw [hb7.cell lt0];exact x1);have q0:=zaa (zab B2.o hb7) 0 _ rfl;have q1:=zaa (zab B2.o hb7) 1 _ rfl;have q2:=zad (zab B2.o hb7) 0;have q3:=zad (zab B2.o hb7) 1;have hf7:zal w1.heap.size a6:=zal.mono hf6 (by simp;omega))))
 all_goals
  go_wp2;refine kT (v:=.tuple #[.agg #[.slice a6 n6 c6,iV (turnS [.era 1,.era 0,.prg 0 [1]] ws fuel).2.1],iV (turnS [.era 1,.era 0,.prg 0 [1]] ws fuel).2.2]) (by simp [results,Tryz.results137,go_sem,q0,q1]) rfl ?_;rw [hr.o];have hw7:=bT hw hb7;exact⟨⟨a6,n6,c6,rfl,(hi6.other hf7 lt1 0 _).other hf7 lt1 1 _,hn6,hc6,zal.mono hf7 hw.size⟩,(hw7.setCell (by simp) _).setCell (by simp) _⟩
end
section
set_option linter.unusedSimpArgs false
attribute [local go_sem ↓] kM kO
def addL (xs one:LI):LI:=xs++headS one.length::one
def addE (xs one:LI):Int:=if recE one≠0 then recE one else if 31< (addL xs one).length then 8 else 0
def laidS:LL->LI->LI×Int
 | [],xs=>(xs,0)
 |r::rs,xs=>if addE xs r≠0 then([],addE xs r) else laidS rs (addL xs r)
theorem zet (h:addE xs r≠0):laidS (r::rs) xs= ([],addE xs r):=by
 show(if _ then _ else _)=_;rw [KK h]
theorem zex (h:addE xs r=0):laidS (r::rs) xs=laidS rs (addL xs r):=by
 show(if _ then _ else _)=_;rw [KJ (by simpa using h)]
theorem zsa (h:recE r=0):1<=r.length/\r.length<=4/\okL r=true:=by
 unfold recE at h
 split at h
 { simp at h }
 {
 split at h
 { simp at h }
 {
 rename_i h1 h2
 simp at h2
 exact⟨by omega,by omega,h2⟩ } }
theorem zdj {w' :World} {o:Obj} (hb:Below B w w') (h:w.heap[b]?=some o) (hlt:b<B):w'.heap[b]?=some o:=by rw [hb.block b hlt];exact h
def zb7 (B:Nat) (w wr:World) (xs:LI):Prop:=
 ∃v,wr.heap[B]?=some (.cells #[v] 26 (0,0))/\wr.ownsRow (B+1) 3 1 v xs.length (vals xs)/\Below B w wr
def AddAns (B:Nat) (w:World) (xs one:LI) (e:Ending) (w' :World):Prop:=
 e=.returned (iV (addE xs one))/\Below B w w' /\(addE xs one=0->zb7 B w w' (addL xs one))
theorem zb7.bl {wr:World} (h:zb7 B w wr xs):Below B w wr:=by
 obtain ⟨_,_,_,h⟩:=h;exact h
theorem zob {w2:World} {V:Value} (h:w2.heap[B]?=some (.cells #[v] 26 (0,0))) (hown:w2.ownsRow (B+1) 3 1 V xs.length (vals xs)) (hb:Below B w w2):zb7 B w (w2.setCell ⟨B,0,none⟩ V) xs:=by
 refine⟨V, ?_, ?_,hb.setCell (kQ _) _⟩
 {
 simp only [World.setCell,KP]
 simp [h] }
 {
 obtain ⟨h1,h2⟩:=hown;refine⟨h1, ?_⟩
 rcases h2 with h2| ⟨g,cap,cur,hv,hg,hh,hr⟩
 { exact .inl h2 }
 {
 exact .inr ⟨g,cap,cur,hv,hg,by rw [ki _ _ _ _ (by simp;omega)];exact hh,hr⟩ } }
theorem addL_own {base g n cap:Nat} {one:LI} (h:w.ownsRow base 3 1 (sV g (xs.length+1+n) cap) (xs.length+1+n) (vals xs++vals [headS n]++vals one)) (hn:one.length=n):
 w.ownsRow base 3 1 (sV g (xs.length+1+n) cap) (addL xs one).length (vals (addL xs one)):=by
 subst hn;have e1: (addL xs one).length=xs.length+1+one.length:=by simp [addL];omega
 have e2:vals (addL xs one)=vals xs++vals [headS one.length]++vals one:=by simp [addL,vals]
 rw [e1,e2];exact h
theorem zq5 (w:World) (n:Nat): ∀j u,(vals [headS n])[j]?=some u->(w.alloc (.cells #[iV (headS n)] 3)).cell? ((⟨w.heap.size,0,none⟩:Addr).add j)=some u:=by
 intro j u h;cases j with
 |zero=>simp [vals] at h;subst h;simp [Addr.add]
 |succ j=>simp [vals] at h
theorem addFn_any (B:Nat) (a:oA) (n c:Nat) (one xs:LI) (w:World) (h:zag w a one) (hn:one.length=n) (hm:n<=maxLen) (hfr: ∀b off,a=some ⟨b,off,none⟩->0<n->b<B) (hst:zb7 B w w xs) (hx:xs.length<=31):
 Cq 302 #[.slice a n c,.pointer (some ⟨B,0,none⟩)] w (AddAns B w xs one):=by
 obtain ⟨ii,hii,iz0,iz1,iz2⟩:=info_parts zef;have HC:=uH (zf3 a n c one w h hn hm);have HN:=uH hn;obtain ⟨v,hbox,hown,_⟩:=hst;have HB:=uH hbox;have x0:=zaa hbox 0 _ rfl;have f0:=zad hbox 0;have ltB:=zak hbox;clear hn hbox;go_enter Tryz.func302,Tryz.ntmps302;go_wp2_with fail;refine(zae HC).mono ?_;rintro e w' ⟨rfl,rfl⟩
 by_cases e1:recE one=0
 rotate_left
 {
 have e1' : (recE one !=0)=true:=by simpa using e1
 have hr:Hd (addE xs one=recE one):=by show _=_;unfold addE;rw [KK e1]
 have hr2:Hd (addE xs one≠0):=by show¬_;rw [hr.o];exact e1
 go_wp2;go_ret;exact⟨zao hr.o.symm,kS _ _,fun h=>absurd h hr2.o⟩ }
 have e1' : (recE one !=0)=false:=by simpa using e1
 have parts:=zsa e1;rw [HN.o] at parts;have E1:=uH e1;clear e1;have hf:=uH (fun W=>zj9 a n c W (by omega));obtain ⟨b,off,rfl⟩:=h.nonempty (by rw [HN.o];omega);have hbB:b<B:=hfr _ _ rfl (by omega);have HI:=uH h;have hge:=zc5 hown;have x1:w'.drew.cell? ⟨B,0,none⟩=some v:=x0;have x2: (w'.alloc (.cells #[iV (headS n)] 3)).drew.cell? ⟨B,0,none⟩=some v:=zaa (zai HB.o _) 0 _ rfl;have x3: (w'.drew.alloc (.cells #[iV (headS n)] 3)).cell? ⟨B,0,none⟩=some v:=x2;have x4: (w'.alloc (.cells #[iV (headS n)] 3)).cell? ⟨B,0,none⟩=some v:=x2;clear h hfr HC;go_wp2_with fail;refine km (S:=fun _=>True) (by kernel_rfl) trivial (fun hHeld=> ?_);refine wpAnyH_take (i:=1) (v:= ?_) rfl (by kernel_rfl) (by kernel_rfl) (by kernel_rfl) (fun _ _ _ h=>h) (Or.inl ⟨by rfl, ?_⟩) trivial ?_;rotate_left
 {
 intro w hSw;go_simp
 try with_reducible rfl }
 try simp only [Kf,Kd,Ke,Act.put,KA,Kb,Kc]
 refine wpAnyH_take (i:=5) (v:= ?_) rfl (by kernel_rfl) (by kernel_rfl) (by kernel_rfl) (fun _ _ _ h=>h) (Or.inl ⟨by rfl, ?_⟩) trivial ?_;rotate_left
 {
 intro w hSw;go_simp
 try with_reducible rfl }
 try simp only [Kf,Kd,Ke,Act.put,KA,Kb,Kc]
 refine kZ (rs:= [0,2]) (by kernel_rfl) (by simp) ?_;refine(kU rfl (fun K hK=> ?_) (kU rfl (fun K hK=> ?_) kW));rotate_left;go_simp;refine(zae hf _).mono ?_;rintro e W1 ⟨rfl,rfl⟩;go_wp2_with fail;refine hK.out _ _ trivial (fun hHeld=> ?_);clear hK K
 try simp only [Kf,Kd,Ke,Act.put,KA,Kb,Kc]
 refine kZ (rs:= [0,3]) (by kernel_rfl) (by simp) ?_;refine(kU rfl (fun K hK=> ?_) (kU rfl (fun K hK=> ?_) kW));rotate_left;go_simp;refine hK.out _ _ trivial (fun hHeld=> ?_);clear hK K
 try simp only [Kf,Kd,Ke,Act.put,KA,Kb,Kc]
 refine kZ (rs:= [0]) (by kernel_rfl) (by simp) ?_;refine(kU rfl (fun K hK=> ?_) kW);go_simp;refine hK.out _ _ trivial (fun hHeld=> ?_);clear hK K
 try simp only [Kf,Kd,Ke,Act.put,KA,Kb,Kc]
 rotate_left;go_simp;refine hK.out _ _ trivial (fun hHeld=> ?_);clear hK K
 try simp only [Kf,Kd,Ke,Act.put,KA,Kb,Kc]
 refine kZ (rs:= [2]) (by kernel_rfl) (by simp) ?_;refine(kU rfl (fun K hK=> ?_) kW);go_simp;refine(zae hf _).mono ?_;rintro e W1 ⟨rfl,rfl⟩;go_wp2_with fail;refine hK.out _ _ trivial (fun hHeld=> ?_);clear hK K
 try simp only [Kf,Kd,Ke,Act.put,KA,Kb,Kc]
 refine kZ (rs:= [3]) (by kernel_rfl) (by simp) ?_;refine(kU rfl (fun K hK=> ?_) kW);go_simp;refine hK.out _ _ trivial (fun hHeld=> ?_);clear hK K
 try simp only [Kf,Kd,Ke,Act.put,KA,Kb,Kc]
 rotate_left;go_simp;refine hK.out _ _ trivial (fun hHeld=> ?_);clear hK K
 try simp only [Kf,Kd,Ke,Act.put,KA,Kb,Kc]
 refine kZ (rs:= [3]) (by kernel_rfl) (by simp) ?_;refine(kU rfl (fun K hK=> ?_) kW);go_simp;refine hK.out _ _ trivial (fun hHeld=> ?_);clear hK K
 try simp only [Kf,Kd,Ke,Act.put,KA,Kb,Kc]
 all_goals
  refine kZ (rs:= [4]) (by kernel_rfl) (by simp) ?_;refine(kU rfl (fun K hK=> ?_) kW);refine step_append_lies _ (by rfl) _ _ 26 (by rfl) (B+1) 3 ii _ 1 8 Tryz.underlying26 hii iz0 iz1 iz2 rfl (by omega) v xs.length (vals xs) (by rfl) (zba hown ((kS _ w').alloc (kQ _) _).drew) ⟨w'.heap.size,0,none⟩ 1 1 (vals [headS n]) (by rfl) rfl (zq5 _ _) (zbu _) (by omega) (by unfold maxLen;omega) (by omega) (by simp;omega) (w'.heap.size+1) (by simp) ?_;intro g1 cap1 w1 hown1 hgrow1 hat1 hlt1;have hB1:Below (B+1) w' w1:=((kS _ w').alloc (by omega) _).drew.grown hgrow1 (by simp;omega) (fun k hk=>by have:=hge k hk;omega);refine hK.out _ _ trivial (fun hHeld=> ?_);clear hK K
  try simp only [Kf,Kd,Ke,Act.put,KA,Kb,Kc]
  refine kZ (rs:= [6]) (by kernel_rfl) (by simp) ?_;refine(kU rfl (fun K hK=> ?_) kW);refine zf4 _ (by rfl) _ _ 26 208 (by rfl) (B+1) 3 3 ii _ 1 8 Tryz.underlying26 Tryz.underlying208 hii iz0 iz1 iz2 rfl (by omega) (sV g1 (xs.length+1) cap1) (xs.length+1) _ (by rfl) hown1 ⟨b,off,none⟩ n c (vals one) (by rfl) (by rw [za3,HN.o,Ko]) (zl8 (HI.o.low hB1 (by omega))) (zbu one) (by omega) (by unfold maxLen;omega) (by omega) (by have:=hB1.size;omega) w1.heap.size rfl ?_;intro g2 cap2 w2 hown2 hgrow2 hat2 hlt2;have hB2:Below (B+1) w' w2:=hB1.grown hgrow2 (by have:=hB1.size;omega) (fun k hk=>by have:=zc5 hown1 k hk;omega);have z0:=zaa (zdj hB2 HB.o (by omega)) 0 _ rfl;have z1:=zad (zdj hB2 HB.o (by omega)) 0;refine hK.out _ _ trivial (fun hHeld=> ?_);clear hK K
  try simp only [Kf,Kd,Ke,Act.put,KA,Kb,Kc]
  refine kZ (rs:= [7]) (by kernel_rfl) (by simp) ?_;refine(kU rfl (fun K hK=> ?_) kW);go_simp;refine hK.out _ _ trivial (fun hHeld=> ?_);clear hK K
  try simp only [Kf,Kd,Ke,Act.put,KA,Kb,Kc]
  refine KE (by kernel_rfl) ?_ _;have hV:=zob (zdj hB2 HB.o (by omega)) (addL_own hown2 HN.o) (hB2.mono (by omega));have hcB: (w2.setCell ⟨B,0,none⟩ (sV g2 (xs.length+1+n) cap2)).cell? ⟨B,0,none⟩=some (sV g2 (xs.length+1+n) cap2):=by
   have:=zdj hB2 HB.o (show B<B+1 by omega);simp only [World.setCell,World.cell?,KP]
   simp [this]
  have HL:Hd ((addL xs one).length=xs.length+1+n):=by show _=_;simp [addL,HN.o];omega
  have HV:=uH hV;clear hV hown2 hown1 hgrow1 hgrow2 x1 x2 x3 x4 z0 z1
  by_cases big:31<xs.length+1+n
  {
  have hr:Hd (addE xs one=8):=by show _=_;unfold addE;rw [KJ (by simpa using E1.o),HL.o,KK big]
  have big' : (31:Int)< (xs.length:Int)+1+(n:Int):=by omega
  go_wp2;go_ret;exact⟨zao hr.o.symm,HV.o.bl,fun h=>by rw [hr.o] at h;cases h⟩ }
  {
  have hr:Hd (addE xs one=0):=by show _=_;unfold addE;rw [KJ (by simpa using E1.o),HL.o,KJ big]
  have big' : ¬(31:Int)< (xs.length:Int)+1+(n:Int):=by omega
  go_wp2;go_ret;exact⟨zao hr.o.symm,HV.o.bl,fun _=>HV.o⟩ }
theorem zop (h:addE xs r=0): (addL xs r).length<=31:=by
 unfold addE at h
 split at h
 { rename_i h1;exact absurd h h1 }
 {
 split at h
 { simp at h }
 {
 omega } }
theorem zag.lt_of {off:Nat} (h:zag w (some ⟨b,off,none⟩) xs) (hn:0<xs.length):b<w.heap.size:=by
 rcases h with rfl| ⟨b',off',e,hc⟩
 { simp at hn }
 {
 cases e;exact zah (hc 0 hn) }
theorem zb7.step {wr w' :World} {ys:LI} (h:zb7 B w wr xs) (h' :zb7 B wr w' ys):zb7 B w w' ys:=by
 obtain ⟨v,h1,h2,h3⟩:=h';exact⟨v,h1,h2,h.bl.trans h3⟩
theorem zb7.here {wr:World} (h:zb7 B w wr xs):zb7 B wr wr xs:=by
 obtain ⟨v,h1,h2,h3⟩:=h;exact⟨v,h1,h2,kS _ _⟩
theorem laid_any (ak:oA) (nk ck:Nat) (keep:LL) (ar:oA) (nr cr:Nat) (r:LI) (w:World) (hk:zck w ak keep) (hnk:keep.length=nk) (hmk:nk<=maxLen) (hr:zag w ar r) (hnr:r.length=nr) (hmr:nr<=maxLen):
 Cq 286 #[.slice ak nk ck,.slice ar nr cr] w (Reads w (laidS (keep++ [r]) [])):=by
 have hst0:zb7 w.heap.size w (w.alloc (.cells #[nV] 26)) []:=⟨nV,kP _ _,KZ _ _ _ _,bA1⟩;have HA:=uH (fun (a:oA) (n c:Nat) (one xs:LI) (W:World) (hw:bZ w W) (h:zag w a one) (hn:one.length=n) (hm:n<=maxLen) (hst:zb7 w.heap.size W W xs) (hx:xs.length<=31)=>
  addFn_any w.heap.size a n c one xs W (h.bl hw) hn hm (fun b off e h0=>by subst e;exact h.lt_of (by omega)) hst hx)
 have HNK:=uH hnk;have HNR:=uH hnr;clear hnk hnr;unfold maxLen at hmk;go_enter Tryz.func286,Tryz.ntmps286;go_wp2
 go_loopw [15] (fun i wr=>∃(k:Nat) (xs:LI),k<=nk/\i=iV k/\zb7 w.heap.size w wr xs/\xs.length<=31/\Hd (laidS (keep++ [r]) []=laidS (keep.drop k++ [r]) xs)) (fun i _=>nk - (intOf i).toNat)
 case atStart=>exact⟨0, [],KG _,rfl,hst0,by simp,by show _=_;rw [List.drop_zero]⟩
 case round=>
  obtain ⟨k,xs,hkn,rfl,hst,hx,hl⟩:=hrel;have hbe:=hst.bl
  by_cases hlt:k<nk
  {
  have hkl:k<keep.length:=by rw [HNK.o];exact hlt
  rcases hk with rfl| ⟨b,off,rfl,hc⟩
  { simp at hkl }
  obtain ⟨ai,ci,q1,q2,q3,q4⟩:=hc k keep[k] (kX hkl);have hd:Hd (keep.drop k++ [r]=keep[k]::(keep.drop (k+1)++ [r])):=by show _=_;rw [kq hkl];rfl
  obtain ⟨one,hone⟩: ∃one,one=keep[k]:=⟨_,rfl⟩;rw [<-hone] at q1 q2 q3 hd;obtain ⟨n1,hn1⟩: ∃n1,n1=one.length:=⟨_,rfl⟩;rw [<-hn1] at q1 q3;have q1' :wr.cell? ⟨b,off+k,none⟩=some (.slice ai n1 ci):=by rw [hbe.cell (zah q1)];exact q1
  have HN1:=uH hn1;have HS:=uH hst;clear hone hn1 hc q1 hst;go_wp2_with fail;refine(zae HA ai n1 ci one xs wr hbe q2 HN1.o.symm (by omega) HS.o.here hx).mono ?_;rintro e w1 ⟨rfl,hb1,hst1⟩
  by_cases e1:addE xs one=0
  {
  have e1' : (addE xs one !=0)=false:=by simpa using e1
  have hs2:=HS.o.step (hst1 e1);have hlen2:=zop e1;have hl2:Hd (laidS (keep++ [r]) []=laidS (keep.drop (k+1)++ [r]) (addL xs one)):=by show _=_;rw [hl.o,hd.o,zex e1]
  have HS2:=uH hs2;clear hs2 hst1 e1 hl hd;go_wp2
  go_roundw
  case rel=>exact⟨k+1,addL xs one,by omega,by go_num,HS2.o,hlen2,hl2⟩
  case measure=>simp [intOf];omega }
  {
  have e1' : (addE xs one !=0)=true:=by simpa using e1
  have hl2:Hd (laidS (keep++ [r]) []= ([],addE xs one)):=by show _=_;rw [hl.o,hd.o,zet e1]
  clear hst1 e1 hl hd;go_wp2;go_ret2;exact zfw hl2.o (hbe.trans hb1) } }
  {
  have hd:Hd (keep.drop k++ [r]= [r]):=by show _=_;rw [Kj (by rw [HNK.o];omega)];rfl
  have HS:=uH hst;clear hst;go_wp2_with fail;refine(zae HA ar nr cr r xs wr hbe hr HNR.o hmr HS.o.here hx).mono ?_;rintro e w1 ⟨rfl,hb1,hst1⟩
  by_cases e1:addE xs r=0
  {
  have e1' : (addE xs r !=0)=false:=by simpa using e1
  obtain ⟨v,hbox,hown,hb2⟩:=HS.o.step (hst1 e1);have hl2:Hd (laidS (keep++ [r]) []= (addL xs r,0)):=by show _=_;rw [hl.o,hd.o,zex e1];rfl
  have c0:=zaa hbox 0 _ rfl;obtain ⟨g,cap,rfl,hg,hlt2⟩:=hown.form (by simp [addL];omega);have q:=zjq hown rfl;have Q:=uH q;clear hst1 e1 hl hd hown q;go_wp2;go_ret2;exact⟨⟨some ⟨g,0,none⟩,(addL xs r).length,cap,by rw [hl2.o];rfl,by rw [hl2.o];exact Q.o.1.isInts,by rw [hl2.o],Q.o.2.2.1,zal.here (by omega) 0⟩,hb2⟩ }
  {
  have e1' : (addE xs r !=0)=true:=by simpa using e1
  have hl2:Hd (laidS (keep++ [r]) []= ([],addE xs r)):=by show _=_;rw [hl.o,hd.o,zet e1]
  clear hst1 e1 hl hd;go_wp2;go_ret2;exact zfw hl2.o (hbe.trans hb1) } }
end
section
attribute [local go_sem ↓] kM kO
def logR (ws:LI):LL:=(za7 (secL ws (secN ws))).1
def restS (ws:LI):LI:=(za7 (secL ws (secN ws))).2
theorem zdm {ws:LI} {fuel:Int} (h:lchk ws fuel=0):chk ws fuel=0/\64<=ws.length/\ws.length<=192/\okL ws=true/\genN ws≠0/\genN ws<=60000:=by
 unfold lchk at h
 split at h
 { rename_i h1;exact absurd h h1 }
 {
 rename_i h1
 split at h
 { simp at h }
 {
 rename_i h2
 have h3:secS ws fuel=0:=by simpa using h1
 unfold secS at h3
 split at h3
 { rename_i h4;exact absurd h3 h4 }
 {
 rename_i h4
 split at h3
 { simp at h3 }
 {
 have h5:chk ws fuel=0:=by simpa using h4
 have q:=zhq h5;exact⟨h5,by omega,by omega,q.2.2.2,by omega,by omega⟩ } } } }
theorem zgk (ws:LI):secN ws=0\/secN ws=1:=by unfold secN;split<;>simp
end
end Go.Proofs.YthmekfcgdfckaaaGreatDoor
