/- Facts. -/
import Derived.Test.YthmekfcgdfckaaaGreatDoorWz0
import Derived.Deep.DeepCutAuto
import Derived.Deep.AppendLies
set_option maxRecDepth 1000000
set_option maxHeartbeats 0
namespace Go.Proofs.YthmekfcgdfckaaaGreatDoor
open Go.RowKit
variable {fuel err f:Int} {n k g L B:Nat} {w w' :World} {xs ws words l r:LI} {a:oA} {rs:LL} {v:Value}
section
attribute [local go_sem ↓] kM kO
def cnt (fuel:Int) (n:Nat):Nat:=if fuel<0 then n else min n fuel.toNat
def burn (fuel:Int) (k:Nat):Int:=if fuel<0 then fuel else fuel - k
def chg (nx:Nat->Int->Int) (p:Nat):Nat->LI->LI
 |0,ws=>ws
 |k+1,ws=>(chg nx p k ws).set (p+k) (nx k (ws.getD (p+k) 0))
theorem zbw (nx:Nat->Int->Int) (p k:Nat) (ws:LI): (chg nx p k ws).length=ws.length:=by
 induction k with
 |zero=>rfl
 |succ k ih=>simp [chg,ih]
theorem zrq (nx:Nat->Int->Int) (p k j:Nat) (ws:LI) (hj:j<ws.length): (chg nx p k ws).getD j 0=if p<=j/\j<p+k then nx (j - p) (ws.getD j 0) else ws.getD j 0:=by
 induction k with
 |zero=>simp [chg];omega
 |succ k ih=>
  simp only [chg]
  by_cases h:p+k=j
  {
  subst h;rw [KK ⟨by omega,by omega⟩];have:p+k< (chg nx p k ws).length:=by rw [zbw];exact hj
  simp [this] }
  {
  have e: ((chg nx p k ws).set (p+k) (nx k (ws.getD (p+k) 0))).getD j 0= (chg nx p k ws).getD j 0:=by simp [h]
  rw [e,ih]
  by_cases c:p<=j/\j<p+k
  { rw [KK c,KK ⟨c.1,by omega⟩] }
  {
  rw [KJ c,KJ (by omega)] } }
theorem zjd (nx:Nat->Int->Int) (p k:Nat) (ws:LI) (hj:p+k<ws.length): (chg nx p k ws).getD (p+k) 0=ws.getD (p+k) 0:=by
 rw [zrq _ _ _ _ _ hj,KJ (by omega)]
def perr (fuel:Int) (n:Nat):Int:=if cnt fuel n=n then 0 else 7
theorem zr7 (fuel:Int) (n:Nat):cnt fuel n<=n:=by unfold cnt;split<;>omega
theorem cnt_end (h:n<=cnt fuel n):cnt fuel n=n:=Nat.le_antisymm (zr7 _ _) h
theorem zsx (h:cnt fuel n=n):perr fuel n=0:=by unfold perr;rw [KK h]
theorem zst (h:cnt fuel n<n):perr fuel n=7:=by unfold perr;rw [KJ (by omega)]
theorem zsy (n:Nat) (h:fuel<0):cnt fuel n=n:=by unfold cnt;rw [KK h]
theorem zks (n:Nat) (h: ¬fuel<0):cnt fuel n=min n fuel.toNat:=by unfold cnt;rw [KJ h]
theorem zeo (k:Nat) (h:fuel<0):burn fuel k=fuel:=by unfold burn;rw [KK h]
theorem ze4 (k:Nat) (h: ¬fuel<0):burn fuel k=fuel - k:=by unfold burn;rw [KJ h]
theorem cnt_stop (_hk:k<n) (h:k<=cnt fuel n) (hz:burn fuel k=0):cnt fuel n=k:=by
 by_cases hf:fuel<0
 { rw [zeo _ hf] at hz;omega }
 { rw [ze4 _ hf] at hz;rw [zks _ hf] at *;omega }
theorem cnt_go (hk:k<n) (h:k<=cnt fuel n) (hz:burn fuel k≠0):k+1<=cnt fuel n:=by
 by_cases hf:fuel<0
 { rw [zsy _ hf];omega }
 { rw [ze4 _ hf] at hz;rw [zks _ hf] at *;omega }
theorem burn_neg (h0:k<=cnt fuel n) (h:burn fuel k<0):burn fuel (k+1)=burn fuel k:=by
 by_cases hf:fuel<0
 { rw [zeo _ hf,zeo _ hf] }
 { rw [ze4 _ hf] at h;rw [zks _ hf] at h0;omega }
theorem burn_pos (h:0<burn fuel k):burn fuel (k+1)=burn fuel k - 1:=by
 by_cases hf:fuel<0
 { rw [zeo _ hf] at h;omega }
 { rw [ze4 _ hf,ze4 _ hf];omega }
theorem zpr (h0: -1<=fuel) (h1:fuel<=100000) (h:k<=cnt fuel n): -1<=burn fuel k/\burn fuel k<=100000:=by
 by_cases hf:fuel<0
 { rw [zeo _ hf];omega }
 {
 rw [ze4 _ hf];rw [zks _ hf] at h;omega }
def Box (w:World) (bo g L:Nat) (fuel:Int):Prop:=w.heap[bo]?=some (.cells #[sV g L L,iV fuel] 28 (0,0))
theorem Box.cell0 {bo:Nat} (h:Box w bo g L fuel):w.cell? ⟨bo,0,none⟩=some (sV g L L):=by
 unfold Box at h;simp [World.cell?,h]
theorem Box.cell1 {bo:Nat} (h:Box w bo g L fuel):w.cell? ⟨bo,1,none⟩=some (iV fuel):=by
 unfold Box at h;simp [World.cell?,h]
theorem Box.free {bo:Nat} (h:Box w bo g L fuel) (i:Nat):w.frozen? ⟨bo,i,none⟩=false:=by
 unfold Box at h;simp [World.frozen?,h]
theorem Box.set {bo:Nat} (h:Box w bo g L fuel) (f:Int):Box (w.setCell ⟨bo,1,none⟩ (iV f)) bo g L f:=by
 unfold Box at h|-;simp only [World.setCell,KP]
 simp [h]
theorem Box.other {bo:Nat} (h:Box w bo g L fuel) (b i:Nat) (v:Value) (hb:bo≠b):Box (w.setCell ⟨b,i,none⟩ v) bo g L fuel:=by
 unfold Box at h|-;rw [ki _ _ _ _ hb];exact h
theorem zat.other (h:zat w g xs) (b i:Nat) (v:Value) (hb:g≠b):zat (w.setCell ⟨b,i,none⟩ v) g xs:=by
 unfold zat at h|-;rw [ki _ _ _ _ hb];exact h
theorem zkq (gf:Nat) (caps:Array Value) (nx:Nat->Int->Int) (B bo g L p n:Nat) (fuel:Int) (ws:LI) (w:World)
 (hgf: (gf=282/\caps=#[])\/(gf=284/\∃a,caps=#[.pointer (some a)]))
 (hbox:Box w bo g L fuel) (hown:zat w g ws) (hL:ws.length=L) (hmax:L<=192) (hfit:p+n<=L) (hne:bo≠g) (hB1:B<=bo) (hB2:B<=g) (hf0: -1<=fuel) (hf1:fuel<=100000)
 (hnx: ∀(i:Nat) (old:Int) (w1:World),i<n->Below B w w1->Cq gf (#[iV i,iV old]++caps) w1 fun e w' =>e=.returned (iV (nx i old))/\w' =w1):
 Cq 281 #[.pointer (some ⟨bo,0,none⟩),iV p,iV n,.func (.func gf) #[] caps] w fun e w' =>
  e=.returned (iV (perr fuel n))/\Box w' bo g L (burn fuel (cnt fuel n))/\zat w' g (chg nx p (cnt fuel n) ws)/\Below B w w' :=by
 have HL:=uH hL;clear hL;have HX:=uH hnx;clear hnx;have hne' : ¬g=bo:=fun e=>hne e.symm
 rcases hgf with ⟨rfl,rfl⟩| ⟨rfl,a,rfl⟩
 all_goals
  go_enter Tryz.func281,Tryz.ntmps281;go_wp2
  go_loopw [11] (fun i wr=>∃k:Nat,k<=n/\k<=cnt fuel n/\i=iV k/\Box wr bo g L (burn fuel k)/\zat wr g (chg nx p k ws)/\Below B w wr) (fun i _=>n - (intOf i).toNat)
  case atStart=>exact⟨0,KG _,KG _,rfl,by simpa [burn] using hbox,hown,kS _ _⟩
  case round=>
   obtain ⟨k,hk,hkc,rfl,hbx,how,hbe⟩:=hrel
   by_cases hlt:k<n
   {
   have c0:=hbx.cell0;have c1:=hbx.cell1;have f1:=hbx.free 1;have bb:=zpr hf0 hf1 hkc
   by_cases hz:burn fuel k=0
   {
   rw [hz] at c1;have HZ:=uH hz;clear hz;go_wp2;go_ret;have e:=cnt_stop hlt hkc HZ.o;refine⟨zao (zst (by omega)).symm, ?_, ?_,hbe⟩
   { rw [e];exact hbx }
   { rw [e];exact how } }
   {
   have hgo:=cnt_go hlt hkc hz;have hpk:p+k< (chg nx p k ws).length:=by rw [zbw,HL.o];omega
   have cw:=how.cell (p+k) hpk;have fw:=how.free (p+k);rw [zjd nx p k ws (by rw [HL.o];omega)] at cw;have i1: (0:Int)<=(p:Int)+(k:Int):=by omega
   have i2: (p:Int)+(k:Int)< (L:Int):=by omega
   have i3:IntKind.i64.wrap ((p:Int)+(k:Int))= (p:Int)+(k:Int):=by rw [kD];omega
   have i4: ((p:Int)+(k:Int)).toNat=p+k:=by omega
   have HB:=uH (⟨fun h=>burn_neg hkc h,fun h=>burn_pos h⟩: (burn fuel k<0->burn fuel (k+1)=burn fuel k)/\(0<burn fuel k->burn fuel (k+1)=burn fuel k - 1));obtain ⟨f,hf⟩: ∃f,f=burn fuel k:=⟨_,rfl⟩;rw [<-hf] at c1 hz bb;have HF:=uH hf;clear hf cw fw
   by_cases hpos:0<f
   {
   have hb1: (f==0)=false:=by simp;omega
   have hbx2:=hbx.set (f - 1);have how2:=how.other bo 1 (iV (f - 1)) hne';have hbe2:=hbe.setCell (p:=⟨bo,1,none⟩) hB1 (iV (f - 1));clear hbe how hbx;go_wp2;have hF2:Hd (f - 1=burn fuel (k+1)):=by have:=HB.o.2 (by have:=HF.o;omega);show _=_;rw [this,<-HF.o]
   generalize wr.setCell ⟨bo,1,none⟩ (iV (f - 1))=w2 at *;have d0:=hbx2.cell0;have d1:=how2.cell (p+k) hpk;have d2:=how2.free (p+k);rw [zjd nx p k ws (by rw [HL.o];omega)] at d1;obtain ⟨old,hold⟩: ∃old,old=ws.getD (p+k) 0:=⟨_,rfl⟩;rw [<-hold] at d1;have HO:=uH hold;clear hold;clear c1 c0
   go_region_with ((first|go_at_call 282|go_at_call 284);refine(zae HX k old _ hlt ?_).mono ?_;exact hbe2.drew;rintro e w1 ⟨rfl,rfl⟩)
   all_goals
    go_wp2
    go_roundw
    case rel=>
     refine⟨k+1,by omega,hgo,by go_num, ?_, ?_,(hbe2.setCell (p:=⟨g,p+k,none⟩) hB2 _).drew⟩
     { rw [<-hF2.o];exact hbx2.other g (p+k) _ hne }
     {
     show zat _ g ((chg nx p k ws).set (p+k) (nx k (ws.getD (p+k) 0)))
     rw [<-HO.o];exact how2.set (p+k) (nx k old) }
    case measure=>simp [intOf];omega }
   {
   have hb1: (f==0)=false:=by simp;omega
   have hb2:decide (0<f)=false:=by simp;omega
   have hbx2:=hbx;rw [<-HF.o] at hbx2;have how2:=how;have hbe2:=hbe;clear hbe how hbx;go_wp2;have hF2:Hd (f=burn fuel (k+1)):=by have:=HB.o.1 (by have:=HF.o;omega);show _=_;rw [this,<-HF.o]
   have d0:=hbx2.cell0;have d1:=how2.cell (p+k) hpk;have d2:=how2.free (p+k);rw [zjd nx p k ws (by rw [HL.o];omega)] at d1;obtain ⟨old,hold⟩: ∃old,old=ws.getD (p+k) 0:=⟨_,rfl⟩;rw [<-hold] at d1;have HO:=uH hold;clear hold;clear c1 c0
   go_region_with ((first|go_at_call 282|go_at_call 284);refine(zae HX k old _ hlt ?_).mono ?_;exact hbe2.drew;rintro e w1 ⟨rfl,rfl⟩)
   all_goals
    go_wp2
    go_roundw
    case rel=>
     refine⟨k+1,by omega,hgo,by go_num, ?_, ?_,(hbe2.setCell (p:=⟨g,p+k,none⟩) hB2 _).drew⟩
     { rw [<-hF2.o];exact hbx2.other g (p+k) _ hne }
     {
     show zat _ g ((chg nx p k ws).set (p+k) (nx k (ws.getD (p+k) 0)))
     rw [<-HO.o];exact how2.set (p+k) (nx k old) }
    case measure=>simp [intOf];omega } } }
   {
   go_wp2;go_ret;have e:=cnt_end (show n<=cnt fuel n by omega);obtain rfl:k=n:=by omega
   refine⟨zao (zsx e).symm, ?_, ?_,hbe⟩
   { rw [e];exact hbx }
   {
   rw [e];exact how } }
end
def andW (words:LI) (i:Nat) (old:Int):Int:=bits .and .i64 old (words.getD i 0)
def progS (ws:LI) (fuel:Int) (p:Int) (words:LI):LI×Int×Int:=
 if chk ws fuel≠0 then([],0,chk ws fuel) else if fitB ws.length p words.length=false then([],0,5) else if okL words=false then([],0,3)
 else(chg (andW words) p.toNat (cnt fuel words.length) ws,burn fuel (cnt fuel words.length),perr fuel words.length)
theorem zhq (h:chk xs fuel=0): (xs.length % 32=0/\0<xs.length/\xs.length<=192)/\ -1<=fuel/\fuel<=100000/\okL xs=true:=by
 unfold chk at h
 split at h
 { simp at h }
 {
 split at h
 { simp at h }
 {
 rename_i h1 h2
 simp [formB] at h1
 simp [zc0] at h2
 exact⟨h1,h2.1,h2.2.1,h2.2.2⟩ } }
def zal (B:Nat) (a:oA):Prop:=∀x,a=some x->B<=x.block
theorem zal.nil (B:Nat):zal B none:=fun _ h=>by cases h
theorem zal.here (h:B<=g) (i:Nat):zal B (some ⟨g,i,none⟩):=fun x hx=>by cases hx;exact h
theorem zag.other (h:zag w a xs) {b:Nat} (hf:zal B a) (hb:b<B) (i:Nat) (v:Value):zag (w.setCell ⟨b,i,none⟩ v) a xs:=by
 rcases h with h| ⟨g,off,rfl,hc⟩
 { exact .inl h }
 {
 have hg:B<=g:=hf _ rfl;refine .inr ⟨g,off,rfl,fun j hj=> ?_⟩;rw [World.cell?_of_block (w:=w) (ki w _ v g (by simp;omega))];exact hc j hj }
def zbf (w:World) (r:LI×Int×Int) (e:Ending) (w' :World):Prop:=
 (∃a n c,e=.returned (.tuple #[.agg #[.slice a n c,iV r.2.1],iV r.2.2])/\zag w' a r.1/\r.1.length=n/\n<=c/\zal w.heap.size a)/\bZ w w'
theorem zaz {r:LI×Int×Int} (hr:r= ([],0,err)) (hb:bZ w w'):zbf w r (.returned (.tuple #[.agg #[nV,iV 0],iV err])) w' :=by
 subst hr;exact⟨⟨none,0,0,rfl,.inl rfl,rfl,kQ _,zal.nil _⟩,hb⟩
theorem zrc (b:Nat) (a2:oA) (n2 c2:Nat) (words:LI) (i:Nat) (old:Int) (w:World) (hc:w.cell? ⟨b,0,none⟩=some (.slice a2 n2 c2)) (h:zag w a2 words) (hn:words.length=n2) (hi:i<n2):
 Cq 284 #[iV i,iV old,.pointer (some ⟨b,0,none⟩)] w fun e w' =>e=.returned (iV (andW words i old))/\w' =w:=by
 rcases h with rfl| ⟨b0,o0,rfl,hc0⟩
 { simp at hn;omega }
 have e0:=hc0 i (by omega);have hi2:i<words.length:=by omega
 clear hn hc0;go_enter Tryz.func284,Tryz.ntmps284;go_wp2;go_ret;exact⟨zao (by simp [andW,hi2]),rfl⟩
theorem zo4 (i old:Int) (w:World):Cq 282 #[iV i,iV old] w fun e w' =>e=.returned (iV 65535)/\w' =w:=by
 go_enter Tryz.func282,Tryz.ntmps282;go_wp2;go_ret;exact⟨rfl,rfl⟩
theorem zf9 (a:oA) (n c:Nat) (ws:LI) (fuel p:Int) (a2:oA) (n2 c2:Nat) (words:LI) (w:World)
 (h:zag w a ws) (hn:ws.length=n) (hm:n<=maxLen) (h2:zag w a2 words) (hn2:words.length=n2) (hm2:n2<=maxLen) (hp: -9223372036854775808<=p/\p<=9223372036854775807):
 Cq 252 #[.agg #[.slice a n c,iV fuel],iV p,.slice a2 n2 c2] w (zbf w (progS ws fuel p words)):=by
 have HC:=uH (fun W (h:zag W a ws)=>zf5 a n c ws fuel W h hn hm);have HF:=uH (fun W=>zqv a n c fuel p n2 W hm (by unfold maxLen at hm2;omega) hp);have HA:=uH (fun W (h:zag W a2 words)=>zc8 a2 n2 c2 words W h hn2 hm2);have HN:=uH hn;have HN2:=uH hn2;clear hn hn2;have b0: ((((w.alloc (.cells #[.slice a n c,iV fuel] 28)).alloc (.cells #[.slice a2 n2 c2] 26)).alloc (.cells #[nV,iV 0] 28))).heap[w.heap.size]?=some (.cells #[.slice a n c,iV fuel] 28 (0,0)):=
  zai (zai (kP _ _) _) _
 have b1: ((((w.alloc (.cells #[.slice a n c,iV fuel] 28)).alloc (.cells #[.slice a2 n2 c2] 26)).alloc (.cells #[nV,iV 0] 28))).heap[w.heap.size+1]?=some (.cells #[.slice a2 n2 c2] 26 (0,0)):=
  zai (by simpa using kP (w.alloc _) _) _
 have b2: ((((w.alloc (.cells #[.slice a n c,iV fuel] 28)).alloc (.cells #[.slice a2 n2 c2] 26)).alloc (.cells #[nV,iV 0] 28))).heap[w.heap.size+1+1]?=some (.cells #[nV,iV 0] 28 (0,0)):=
  by simpa using kP ((w.alloc _).alloc _) _
 have hw:bZ w (((w.alloc (.cells #[.slice a n c,iV fuel] 28)).alloc (.cells #[.slice a2 n2 c2] 26)).alloc (.cells #[nV,iV 0] 28)):=
  (bA2).alloc (by simp;omega) _
 have i0:=h.bl hw;have i1:=h2.bl hw;have B0:=uH b0;have B1:=uH b1;have B2:=uH b2;clear b0 b1 b2;go_enter Tryz.func252,Tryz.ntmps252;go_wp2_with fail;generalize (((w.alloc (.cells #[.slice a n c,iV fuel] 28)).alloc (.cells #[.slice a2 n2 c2] 26)).alloc (.cells #[nV,iV 0] 28))=W at *;refine(zae HC _ i0).mono ?_;rintro e w1 ⟨rfl,hb1⟩;replace B0:=uH (zab B0.o hb1);replace B1:=uH (zab B1.o hb1);replace B2:=uH (zab B2.o hb1);replace i0:=i0.bl hb1;replace i1:=i1.bl hb1;replace hw:=bT hw hb1;clear hb1;have c00:=zaa B0.o 0 _ rfl;have c01:=zaa B0.o 1 _ rfl;have c10:=zaa B1.o 0 _ rfl;have c20:=zaa B2.o 0 _ rfl;have c21:=zaa B2.o 1 _ rfl;have f20:=zad B2.o 0;have f21:=zad B2.o 1
 by_cases e1:chk ws fuel=0
 rotate_left
 {
 have e1' : (chk ws fuel !=0)=true:=by simpa using e1
 have hr:Hd (progS ws fuel p words= ([],0,chk ws fuel)):=by show _=_;unfold progS;rw [KK e1]
 go_wp2;refine kT (v:=.tuple #[.agg #[nV,iV 0],iV (chk ws fuel)]) (by simp [results,Tryz.results252,go_sem,c20,c21]) rfl ?_;exact zaz hr.o ((hw.setCell (by simp;omega) _).setCell (by simp;omega) _) }
 have e1' : (chk ws fuel !=0)=false:=by simpa using e1
 have E1:=uH e1;clear e1;go_wp2_with fail;refine(zae HF _).mono ?_;rintro e w2 ⟨rfl,hb1⟩;replace B0:=uH (zab B0.o hb1);replace B1:=uH (zab B1.o hb1);replace B2:=uH (zab B2.o hb1);replace i0:=i0.bl hb1;replace i1:=i1.bl hb1;replace hw:=bT hw hb1;clear hb1;replace c00:=zaa B0.o 0 _ rfl;replace c01:=zaa B0.o 1 _ rfl;replace c10:=zaa B1.o 0 _ rfl;replace c20:=zaa B2.o 0 _ rfl;replace c21:=zaa B2.o 1 _ rfl;replace f20:=zad B2.o 0;replace f21:=zad B2.o 1;cases e2:fitB n p n2
 {
 have hr:Hd (progS ws fuel p words= ([],0,5)):=by show _=_;unfold progS;rw [KJ (by simpa using E1.o),HN.o,HN2.o,KK e2]
 clear e2;go_wp2;refine kT (v:=.tuple #[.agg #[nV,iV 0],iV 5]) (by simp [results,Tryz.results252,go_sem,c20,c21]) rfl ?_;exact zaz hr.o ((hw.setCell (by simp;omega) _).setCell (by simp;omega) _) }
 have E2:=uH e2;clear e2;go_wp2_with fail;refine(zae HA _ i1).mono ?_;rintro e w3 ⟨rfl,rfl⟩;cases e3:okL words
 {
 have hr:Hd (progS ws fuel p words= ([],0,3)):=by show _=_;unfold progS;rw [KJ (by simpa using E1.o),HN.o,HN2.o,KJ (by simp [E2.o]),KK e3]
 clear e3;go_wp2;refine kT (v:=.tuple #[.agg #[nV,iV 0],iV 3]) (by simp [results,Tryz.results252,go_sem,c20,c21]) rfl ?_;exact zaz hr.o ((hw.setCell (by simp;omega) _).setCell (by simp;omega) _) }
 have E3:=uH e3;clear e3;have parts:=zhq E1.o;rw [HN.o] at parts;have fitP:0<=p/\(n2:Int)<=(n:Int)- p:=by have:=E2.o;unfold fitB at this;simp at this;omega
 obtain ⟨k,rfl⟩:=Km fitP.1;go_wp2_with fail;refine(znq a n c ws fuel _ i0 HN.o (by omega)).mono ?_;rintro e w4 ⟨g,hg,rfl,ho,hb4⟩;have D0:=uH (zab B0.o hb4);have D1:=uH (zab B1.o hb4);have D2:=uH (zab B2.o hb4);have lt1:=zak B1.o;have lt2:=zak B2.o;have lg:=ho.lt;have q10: ce (w4.alloc (.cells #[sV g n n,iV fuel] 28)) (w.heap.size+1) 0=some (.slice a2 n2 c2):=zaa (zai D1.o _) 0 _ rfl;have hb5:bZ w3 (w4.alloc (.cells #[sV g n n,iV fuel] 28)):=hb4.alloc hb4.size _;have hbox:Box (w4.alloc (.cells #[sV g n n,iV fuel] 28)) w4.heap.size g n fuel:=kP _ _;have hown:zat (w4.alloc (.cells #[sV g n n,iV fuel] 28)) g ws:=zai ho _;have D2' :=uH (zai D2.o (.cells #[sV g n n,iV fuel] 28));clear c00 c01 c10 c20 c21 f20 f21;go_wp2_with fail;generalize w4.alloc (.cells #[sV g n n,iV fuel] 28)=w5 at *;refine(zkq 284 #[.pointer (some ⟨w.heap.size+1,0,none⟩)] (andW words) w3.heap.size w4.heap.size g n k n2 fuel ws w5 (.inr ⟨rfl,_,rfl⟩) hbox hown HN.o (by omega) (by omega) (by omega) hb4.size hg (by omega) (by omega) ?_).mono ?_
 {
 intro i old w6 hi hb6;have h6:bZ w3 w6:=hb5.trans hb6;exact zrc _ a2 n2 c2 words i old w6 (zaa (zab B1.o h6) 0 _ rfl) (i1.bl h6) HN2.o hi }
 rintro e w6 ⟨rfl,hbox6,hown6,hb6⟩;have h6:bZ w3 w6:=hb5.trans hb6;have D3:=uH (zab B2.o h6);have x0:=hbox6.cell0;have x1:=hbox6.cell1;have c20:=zaa D3.o 0 _ rfl;have c21:=zaa D3.o 1 _ rfl;have f20:=zad D3.o 0;have f21:=zad D3.o 1;have hr:Hd (progS ws fuel k words= (chg (andW words) k (cnt fuel n2) ws,burn fuel (cnt fuel n2),perr fuel n2)):=by
  show _=_
  unfold progS;rw [KJ (by simpa using E1.o),HN.o,HN2.o,KJ (by simp [E2.o]),KJ (by simp [E3.o]),kp]
 have hw6:bZ w w6:=bT hw h6;have hne:g≠w.heap.size+1+1:=by omega
 clear hbox hown hb4 hb5 hb6 q10;go_wp2;refine kT (v:=.tuple #[.agg #[sV g n n,iV (burn fuel (cnt fuel n2))],iV (perr fuel n2)]) (by simp [results,Tryz.results252,go_sem,c20,c21]) rfl ?_;refine⟨⟨some ⟨g,0,none⟩,n,n,by rw [hr.o], ?_,by rw [hr.o,zbw,HN.o],kQ _,zal.here (by have:=hw.size;omega) 0⟩,(hw6.setCell (by simp;omega) _).setCell (by simp;omega) _⟩;rw [hr.o];exact((hown6.other _ 0 _ hne).other _ 1 _ hne).isInts
def eraS (ws:LI) (fuel:Int) (s:Int):LI×Int×Int:=
 if chk ws fuel≠0 then([],0,chk ws fuel) else if¬(0<=s/\s< (ws.length:Int)/ 32) then([],0,5)
 else(chg (fun _ _=>65535) (s.toNat * 32) (cnt fuel 32) ws,burn fuel (cnt fuel 32),perr fuel 32)
theorem zl0 (a:oA) (n c:Nat) (ws:LI) (fuel s:Int) (w:World)
 (h:zag w a ws) (hn:ws.length=n) (hm:n<=maxLen):
 Cq 250 #[.agg #[.slice a n c,iV fuel],iV s] w (zbf w (eraS ws fuel s)):=by
 have HC:=uH (fun W (h:zag W a ws)=>zf5 a n c ws fuel W h hn hm);have HN:=uH hn;clear hn;have b0: ((w.alloc (.cells #[.slice a n c,iV fuel] 28)).alloc (.cells #[nV,iV 0] 28)).heap[w.heap.size]?=some (.cells #[.slice a n c,iV fuel] 28 (0,0)):=
  zai (kP _ _) _
 have b2: ((w.alloc (.cells #[.slice a n c,iV fuel] 28)).alloc (.cells #[nV,iV 0] 28)).heap[w.heap.size+1]?=some (.cells #[nV,iV 0] 28 (0,0)):=
  by simpa using kP (w.alloc _) _
 have hw:bZ w ((w.alloc (.cells #[.slice a n c,iV fuel] 28)).alloc (.cells #[nV,iV 0] 28)):=
  bA2
 have i0:=h.bl hw;have B0:=uH b0;have B2:=uH b2;clear b0 b2;go_enter Tryz.func250,Tryz.ntmps250;go_wp2_with fail;generalize (w.alloc (.cells #[.slice a n c,iV fuel] 28)).alloc (.cells #[nV,iV 0] 28)=W at *;refine(zae HC _ i0).mono ?_;rintro e w1 ⟨rfl,hb1⟩;replace B0:=uH (zab B0.o hb1);replace B2:=uH (zab B2.o hb1);replace i0:=i0.bl hb1;replace hw:=bT hw hb1;clear hb1;have c00:=zaa B0.o 0 _ rfl;have c01:=zaa B0.o 1 _ rfl;have c20:=zaa B2.o 0 _ rfl;have c21:=zaa B2.o 1 _ rfl;have f20:=zad B2.o 0;have f21:=zad B2.o 1
 by_cases e1:chk ws fuel=0
 rotate_left
 {
 have e1' : (chk ws fuel !=0)=true:=by simpa using e1
 have hr:Hd (eraS ws fuel s= ([],0,chk ws fuel)):=by show _=_;unfold eraS;rw [KK e1]
 go_wp2;refine kT (v:=.tuple #[.agg #[nV,iV 0],iV (chk ws fuel)]) (by simp [results,Tryz.results250,go_sem,c20,c21]) rfl ?_;exact zaz hr.o ((hw.setCell (by simp) _).setCell (by simp) _) }
 have e1' : (chk ws fuel !=0)=false:=by simpa using e1
 have E1:=uH e1;clear e1;have parts:=zhq E1.o;rw [HN.o] at parts
 by_cases s0:s<0
 {
 have hr:Hd (eraS ws fuel s= ([],0,5)):=by show _=_;unfold eraS;rw [KJ (by simpa using E1.o),KK (by omega)]
 go_wp2;refine kT (v:=.tuple #[.agg #[nV,iV 0],iV 5]) (by simp [results,Tryz.results250,go_sem,c20,c21]) rfl ?_;exact zaz hr.o ((hw.setCell (by simp) _).setCell (by simp) _) }
 by_cases s1:s< (n:Int)/ 32
 rotate_left
 {
 have hr:Hd (eraS ws fuel s= ([],0,5)):=by show _=_;unfold eraS;rw [KJ (by simpa using E1.o),HN.o,KK (by omega)]
 go_wp2;refine kT (v:=.tuple #[.agg #[nV,iV 0],iV 5]) (by simp [results,Tryz.results250,go_sem,c20,c21]) rfl ?_;exact zaz hr.o ((hw.setCell (by simp) _).setCell (by simp) _) }
 have hr:Hd (eraS ws fuel s= (chg (fun _ _=>65535) (s.toNat * 32) (cnt fuel 32) ws,burn fuel (cnt fuel 32),perr fuel 32)):=by
  show _=_;unfold eraS;rw [KJ (by simpa using E1.o),HN.o,KJ (by omega)]
 obtain ⟨k,rfl⟩:=Km (show 0<=s by omega);have s1' :decide ((n:Int)/ 32<=(k:Int))=false:=by simp;omega
 go_wp2_with fail;refine(znq a n c ws fuel _ i0 HN.o (by omega)).mono ?_;rintro e w4 ⟨g,hg,rfl,ho,hb4⟩;have lt2:=zak B2.o;have lg:=ho.lt;have hb5:bZ w1 (w4.alloc (.cells #[sV g n n,iV fuel] 28)):=hb4.alloc hb4.size _;have hbox:Box (w4.alloc (.cells #[sV g n n,iV fuel] 28)) w4.heap.size g n fuel:=kP _ _;have hown:zat (w4.alloc (.cells #[sV g n n,iV fuel] 28)) g ws:=zai ho _;clear c00 c01 c20 c21 f20 f21;go_wp2_with fail;generalize w4.alloc (.cells #[sV g n n,iV fuel] 28)=w5 at *;have hcc:=zkq 282 #[] (fun _ _=>65535) w1.heap.size w4.heap.size g n (k * 32) 32 fuel ws w5 (.inl ⟨rfl,rfl⟩) hbox hown HN.o (by omega) (by omega) (by omega) hb4.size hg (by omega) (by omega) (fun i old w6 _ _=>zo4 i old w6);rw [show((k * 32:Nat):Int)= (k:Int)* 32 from by omega] at hcc;refine Calls.mono hcc ?_;clear hcc;rintro e w6 ⟨rfl,hbox6,hown6,hb6⟩;have h6:bZ w1 w6:=hb5.trans hb6;have D3:=uH (zab B2.o h6);have x0:=hbox6.cell0;have x1:=hbox6.cell1;have c20:=zaa D3.o 0 _ rfl;have c21:=zaa D3.o 1 _ rfl;have f20:=zad D3.o 0;have f21:=zad D3.o 1;have hw6:bZ w w6:=bT hw h6;have hne:g≠w.heap.size+1:=by omega
 clear hbox hown hb4 hb5 hb6;go_wp2;refine kT (v:=.tuple #[.agg #[sV g n n,iV (burn fuel (cnt fuel 32))],iV (perr fuel 32)]) (by simp [results,Tryz.results250,go_sem,c20,c21]) rfl ?_;refine⟨⟨some ⟨g,0,none⟩,n,n,by rw [hr.o], ?_,by rw [hr.o,zbw,HN.o],kQ _,zal.here (by have:=hw.size;omega) 0⟩,(hw6.setCell (by simp) _).setCell (by simp) _⟩;rw [hr.o,kp];exact((hown6.other _ 0 _ hne).other _ 1 _ hne).isInts
def Reads (w:World) (r:LI×Int) (e:Ending) (w' :World):Prop:=
 (∃a n c,e=.returned (.tuple #[.slice a n c,iV r.2])/\zag w' a r.1/\r.1.length=n/\n<=c/\zal w.heap.size a)/\bZ w w'
theorem zfw {r:LI×Int} (hr:r= ([],err)) (hb:bZ w w'):Reads w r (.returned (.tuple #[nV,iV err])) w' :=by
 subst hr;exact⟨⟨none,0,0,rfl,.inl rfl,rfl,kQ _,zal.nil _⟩,hb⟩
def newS (s:Int):LI×Int×Int:=if s<1\/6<s then([],0,3) else(List.replicate (s.toNat * 32) 65535,-1,0)
def zdo (L j:Nat):LI:=List.replicate j 65535++List.replicate (L - j) 0
theorem zmn {j:Nat} (h:j<=L): (zdo L j).length=L:=by simp [zdo];omega
theorem zoy {j:Nat} (h:j<L): (zdo L j).set j 65535=zdo L (j+1):=by
 unfold zdo;obtain ⟨r,hr⟩: ∃r,L - j=r+1:=⟨L - j - 1,by omega⟩;rw [List.set_append_right _ _ (by simp),hr,show L - (j+1)=r by omega];rw [List.replicate_succ' (n:=j)]
 simp [List.replicate_succ]
theorem zp1 (L:Nat):zdo L L=List.replicate L 65535:=by simp [zdo]
theorem new_any (s:Int) (w:World):Cq 136 #[iV s] w (zbf w (newS s)):=by
 have hw:bZ w (w.alloc (.cells #[nV,iV 0] 28)):=bA1
 by_cases s0:s<1
 {
 have hr:Hd (newS s= ([],0,3)):=by show _=_;unfold newS;rw [KK (by omega)]
 go_enter Tryz.func136,Tryz.ntmps136;go_wp2;refine kT (v:=.tuple #[.agg #[nV,iV 0],iV 3]) (by simp [results,Tryz.results136,go_sem]) rfl ?_;exact zaz hr.o hw }
 by_cases s1:s<=6
 rotate_left
 {
 have hr:Hd (newS s= ([],0,3)):=by show _=_;unfold newS;rw [KK (by omega)]
 go_enter Tryz.func136,Tryz.ntmps136;go_wp2;refine kT (v:=.tuple #[.agg #[nV,iV 0],iV 3]) (by simp [results,Tryz.results136,go_sem]) rfl ?_;exact zaz hr.o hw }
 have s1' :decide (6<s)=false:=by simp;omega
 obtain ⟨k,rfl⟩:=Km (show 0<=s by omega);have hr:Hd (newS k= (List.replicate (k * 32) 65535,-1,0)):=by show _=_;unfold newS;rw [KJ (by omega),kp]
 have hmk:=zes (k * 32) (w.alloc (.cells #[nV,iV 0] 28)) (by omega);rw [show((k * 32:Nat):Int)= (k:Int)* 32 from by omega] at hmk;have hb1: (w.alloc (.cells #[nV,iV 0] 28)).heap[w.heap.size]?=some (.cells #[nV,iV 0] 28 (0,0)):=kP _ _;have HB:=uH hb1;clear hb1;go_enter Tryz.func136,Tryz.ntmps136;go_wp2
 go_loopw [18] (fun i wr=>∃j:Nat,j<=k * 32/\i=iV j/\zat wr (w.heap.size+1) (zdo (k * 32) j)/\Below (w.heap.size+1) (w.alloc (.cells #[nV,iV 0] 28)) wr) (fun i _=>k * 32 - (intOf i).toNat)
 case atStart=>
  refine⟨0,KG _,rfl, ?_,(kS _ _).alloc (by simp) _⟩;have:=kP (w.alloc (.cells #[nV,iV 0] 28)) (.cells (vals (List.replicate (k * 32) 0)).toArray 3)
  simpa [zat,zdo] using this
 case round=>
  obtain ⟨j,hj,rfl,how,hbe⟩:=hrel
  by_cases hlt:j<k * 32
  {
  have hjl:j< (zdo (k * 32) j).length:=by rw [zmn hj];exact hlt
  have cw:=how.cell j hjl;have fw:=how.free j;have i1: (j:Int)< (k:Int)* 32:=by omega
  go_wp2
  go_roundw
  case rel=>exact⟨j+1,by omega,by go_num,by rw [<-zoy hlt];exact how.set j 65535,hbe.setCell (by simp) _⟩
  case measure=>simp [intOf];omega }
  {
  have i1: ¬(j:Int)< (k:Int)* 32:=by omega
  have hb2:=zak HB.o;have D:=uH (show wr.heap[w.heap.size]?=_ from(hbe.block _ (by omega)).trans HB.o);have c0:=zaa D.o 0 _ rfl;have c1:=zaa D.o 1 _ rfl;have f0:=zad D.o 0;have f1:=zad D.o 1;go_wp2;refine kT (v:=.tuple #[.agg #[sV (w.heap.size+1) (k * 32) (k * 32),iV (-1)],iV 0]) (by simp [results,Tryz.results136,go_sem,c0,c1]) rfl ?_;refine⟨⟨some ⟨w.heap.size+1,0,none⟩,k * 32,k * 32,by rw [hr.o], ?_,by rw [hr.o];simp,kQ _,zal.here (by omega) 0⟩, ?_⟩
  {
  rw [hr.o];obtain rfl:j=k * 32:=by omega
  rw [zp1] at how;exact((how.other _ 0 _ (by omega)).other _ 1 _ (by omega)).isInts }
  {
  exact((hw.trans (hbe.mono (by omega))).setCell (by simp) _).setCell (by simp) _ } }
theorem zy4 (k n:Int) (w:World) (h0:0<n) (h1:n<=9223372036854775807) (hk: -9223372036854775808<=k/\k<=9223372036854775807):
 Cq 20 #[iV k,iV n] w fun e w' =>e=.returned (iV (k % n))/\w' =w:=by
 have hz: (n==0)=false:=by simp;omega
 have t1:=Int.emod_nonneg k (show n≠0 by omega);have t2:=Int.emod_lt_of_pos k h0
 by_cases c:0<=k
 {
 have ht:k.tmod n=k % n:=Int.tmod_eq_emod_of_nonneg c;go_enter Tryz.func20,Tryz.ntmps20;go_wp2;go_ret;exact⟨rfl,rfl⟩ }
 {
 by_cases d:n∣k
 {
 have ht:k.tmod n=k % n:=by rw [Int.tmod_eq_emod,KK (Or.inr d)];omega
 go_enter Tryz.func20,Tryz.ntmps20;go_wp2;go_ret;exact⟨rfl,rfl⟩ }
 {
 have ht:k.tmod n=k % n - n:=by rw [Int.tmod_eq_emod,KJ (by simp [d];omega)];omega
 have hneg:k % n - n<0:=by omega
 go_enter Tryz.func20,Tryz.ntmps20;go_wp2;go_ret;exact⟨zao (by omega),rfl⟩ } }
theorem zbf.opened {r:LI×Int×Int} {e:Ending} (h:zbf w r e w') (hr:r= (ws,fuel,err)):
 ∃a n c,e=.returned (.tuple #[.agg #[.slice a n c,iV fuel],iV err])/\zag w' a ws/\ws.length=n/\n<=c/\zal w.heap.size a/\bZ w w' :=by
 subst hr;obtain ⟨⟨a,n,c,h1,h2,h3,h4,h6⟩,h5⟩:=h;exact⟨a,n,c,h1,h2,h3,h4,h6,h5⟩
theorem Reads.opened {r:LI×Int} {e:Ending} (h:Reads w r e w') (hr:r= (ws,err)):
 ∃a n c,e=.returned (.tuple #[.slice a n c,iV err])/\zag w' a ws/\ws.length=n/\n<=c/\zal w.heap.size a/\bZ w w' :=by
 subst hr;obtain ⟨⟨a,n,c,h1,h2,h3,h4,h6⟩,h5⟩:=h;exact⟨a,n,c,h1,h2,h3,h4,h6,h5⟩
theorem zuy (a:Nat) (ha:a<18446744073709551616): (BitVec.ofInt 64 (a:Int)).toNat=a:=by
 rw [BitVec.toNat_ofInt];omega
theorem and_nat (a b:Nat) (ha:a<65536) (hb:b<65536):bits .and .i64 (a:Int) (b:Int)= ((a&&& b:Nat):Int):=by
 have h:a&&& b<65536:=Nat.lt_of_le_of_lt Nat.and_le_left ha
 show IntKind.i64.wrap ((BitVec.ofInt 64 (a:Int)&&& BitVec.ofInt 64 (b:Int)).toNat:Int)=_
 rw [BitVec.toNat_and,zuy a (by omega),zuy b (by omega),kD];omega
theorem zuv {x y:Int} (hx:okW x=true) (hy:okW y=true):bits .and .i64 x y= ((x.toNat&&& y.toNat:Nat):Int):=by
 simp [okW] at hx hy
 have:=and_nat x.toNat y.toNat (by omega) (by omega);rw [Int.toNat_of_nonneg hx.1,Int.toNat_of_nonneg hy.1] at this;exact this
theorem and_ok {x y:Int} (hx:okW x=true) (hy:okW y=true):okW (bits .and .i64 x y)=true:=by
 rw [zuv hx hy]
 simp [okW] at hx|-
 have:x.toNat&&& y.toNat<=x.toNat:=Nat.and_le_left;omega
theorem zs0 {y:Int} (hy:okW y=true):bits .and .i64 65535 y=y:=by
 rw [zuv rfl hy]
 simp [okW] at hy
 have h: (65535:Int).toNat&&& y.toNat=y.toNat:=by
  show 65535&&& y.toNat=_
  rw [Nat.and_comm];have:=Nat.and_two_pow_sub_one_eq_mod y.toNat 16
  simp at this
  rw [this];omega
 rw [h];omega
theorem zk5 {i:Nat} (hi:i<xs.length):xs.getD i 0=xs[i]:=by simp [hi]
theorem zk3 (h:okL xs=true) (i:Nat) (hi:i<xs.length):okW (xs.getD i 0)=true:=by
 unfold okL at h;rw [kH] at h;rw [zk5 hi];exact h _ (KH hi)
theorem zwv (h: ∀i,i<xs.length->okW (xs.getD i 0)=true):okL xs=true:=by
 unfold okL;rw [kH];intro x hx;obtain ⟨i,hi,rfl⟩:=List.getElem_of_mem hx;have:=h i hi
 rwa [zk5 hi] at this
theorem zr4 {ys:LI} (hl:xs.length=ys.length) (h: ∀i,i<xs.length->xs.getD i 0=ys.getD i 0):xs=ys:=by
 apply List.ext_getElem hl
 intro i h1 h2;have:=h i h1
 rwa [zk5 h1,zk5 h2] at this
theorem zi6 (k:Nat) (h:okL xs=true):okL (xs.take k)=true:=by
 unfold okL at *;rw [kH] at *;exact fun x hx=>h x (List.mem_of_mem_take hx)
theorem zfq (k:Nat) (h:okL xs=true):okL (xs.drop k)=true:=by
 unfold okL at *;rw [kH] at *;exact fun x hx=>h x (List.mem_of_mem_drop hx)
theorem chg_ok {p:Nat} (h:okL ws=true) (h2:okL words=true) (hk:k<=words.length) (_hf:p+k<=ws.length):okL (chg (andW words) p k ws)=true:=by
 apply zwv
 intro i hi;rw [zbw] at hi;rw [zrq _ _ _ _ _ hi]
 split
 { exact and_ok (zk3 h i hi) (zk3 h2 _ (by omega)) }
 {
 exact zk3 h i hi }
theorem chk_chg (h:chk ws fuel=0) (nx:Nat->Int->Int) (p k:Nat) (hok:okL (chg nx p k ws)=true) (h0: -1<=f) (h1:f<=100000):chk (chg nx p k ws) f=0:=by
 have q:=zhq h
 apply zwq
 { rw [zbw];exact decide_eq_true q.1 }
 {
 unfold zc0;rw [hok];simp;omega }
theorem chk_fuel (h:chk ws fuel=0) (h0: -1<=f) (h1:f<=100000):chk ws f=0:=by
 have q:=zhq h
 apply zwq
 { exact decide_eq_true q.1 }
 {
 unfold zc0;rw [q.2.2.2];simp;omega }
theorem prog_ok {p:Nat} (h:chk ws fuel=0) (hf:p+words.length<=ws.length) (h2:okL words=true):
 progS ws fuel p words= (chg (andW words) p (cnt fuel words.length) ws,burn fuel (cnt fuel words.length),perr fuel words.length):=by
 unfold progS;rw [KJ (by simpa using h),KJ (by unfold fitB;simp;omega),KJ (by simp [h2]),kp]
theorem zxs {p:Nat} (h:chk ws (-1)=0) (hf:p+words.length<=ws.length) (h2:okL words=true):
 progS ws (-1) p words= (chg (andW words) p words.length ws,-1,0):=by
 rw [prog_ok h hf h2,zsy _ (by decide),zeo _ (by decide),zsx (zsy _ (by decide))]
section
attribute [local go_sem ↓] kM kO
theorem zal.mono {B' :Nat} (h:zal B a) (hB:B' <=B):zal B' a:=fun x hx=>kc hB (h x hx)
theorem zag.take (h:zag w a xs) (j:Nat):zag w a (xs.take j):=by
 rcases h with rfl| ⟨b,off,rfl,hc⟩
 { exact .inl (by simp) }
 {
 refine .inr ⟨b,off,rfl,fun i hi=> ?_⟩;have hi' :i<j/\i<xs.length:=by simp at hi;omega
 rw [hc i hi'.2]
 simp [hi'.1] }
theorem zag.drop {b off:Nat} (h:zag w (some ⟨b,off,none⟩) xs) (j:Nat):zag w (some ⟨b,off+j,none⟩) (xs.drop j):=by
 rcases h with rfl| ⟨b',off',e,hc⟩
 { exact .inl (by simp) }
 {
 cases e;refine .inr ⟨b,off+j,rfl,fun i hi=> ?_⟩
 simp at hi
 rw [Nat.add_assoc,hc (j+i) (by omega)]
 simp }
end
section
attribute [local go_sem ↓] kM kO
def secS (ws:LI) (fuel:Int):Int:=if chk ws fuel≠0 then chk ws fuel else if ws.length<64 then 4 else 0
def genS (ws:LI) (s:Nat):Int:=if ws.getD (s * 32) 0=65535 then 0 else ws.getD (s * 32) 0
def secN (ws:LI):Nat:=if genS ws 0<genS ws 1 then 1 else 0
def genN (ws:LI):Int:=if genS ws 0<genS ws 1 then genS ws 1 else genS ws 0
def lchk (ws:LI) (fuel:Int):Int:=if secS ws fuel≠0 then secS ws fuel else if genN ws=0\/60000<genN ws then 5 else 0
theorem zfc (a:oA) (n c:Nat) (ws:LI) (fuel:Int) (w:World) (h:zag w a ws) (hn:ws.length=n) (hm:n<=maxLen):
 Cq 173 #[.agg #[.slice a n c,iV fuel]] w fun e w' =>e=.returned (iV (secS ws fuel))/\bZ w w' :=by
 have HC:=uH (fun W (h:zag W a ws)=>zf5 a n c ws fuel W h hn hm);have hw:bZ w (w.alloc (.cells #[.slice a n c,iV fuel] 28)):=bA1;have B0:=uH (kP w (.cells #[.slice a n c,iV fuel] 28));have i0:=h.bl hw;have HN:=uH hn;clear hn;unfold maxLen at hm;go_enter Tryz.func173,Tryz.ntmps173;go_wp2_with fail;generalize w.alloc (.cells #[.slice a n c,iV fuel] 28)=W at *;refine(zae HC _ i0).mono ?_;rintro e w1 ⟨rfl,hb1⟩;have hw1:=bT hw hb1
 by_cases e1:chk ws fuel=0
 rotate_left
 {
 have e1' : (chk ws fuel !=0)=true:=by simpa using e1
 have hr:Hd (secS ws fuel=chk ws fuel):=by show _=_;unfold secS;rw [KK e1]
 go_wp2;go_ret;exact⟨zao hr.o.symm,hw1⟩ }
 have e1' : (chk ws fuel !=0)=false:=by simpa using e1
 have E1:=uH e1;clear e1;have c00:=zaa (zab B0.o hb1) 0 _ rfl
 by_cases hl:n<64
 {
 have hr:Hd (secS ws fuel=4):=by show _=_;unfold secS;rw [KJ (by simpa using E1.o),KK (by rw [HN.o];exact hl)]
 go_wp2;go_ret;exact⟨zao hr.o.symm,hw1⟩ }
 {
 have hr:Hd (secS ws fuel=0):=by show _=_;unfold secS;rw [KJ (by simpa using E1.o),KJ (by rw [HN.o];exact hl)]
 have hl' : ¬(n:Int)<64:=by omega
 go_wp2;go_ret;exact⟨zao hr.o.symm,hw1⟩ }
theorem zjg (a:oA) (n c:Nat) (ws:LI) (fuel:Int) (s:Nat) (w:World) (h:zag w a ws) (hn:ws.length=n) (hm:n<=maxLen) (hs:s * 32<n):
 Cq 174 #[.agg #[.slice a n c,iV fuel],iV s] w fun e w' =>e=.returned (iV (genS ws s))/\bZ w w' :=by
 have hw:bZ w (w.alloc (.cells #[.slice a n c,iV fuel] 28)):=bA1;have i0:=h.bl hw;have HN:=uH hn;have hs2:s * 32<ws.length:=by omega
 clear hn;unfold maxLen at hm
 rcases i0 with rfl| ⟨b,off,rfl,hc⟩
 { simp at hs2 }
 have e0:=hc (s * 32) hs2;clear hc;have i1: (0:Int)<=(s:Int)* 32:=by omega
 have i2: (s:Int)* 32< (n:Int):=by omega
 have i4: ((s:Int)* 32).toNat=s * 32:=by omega
 obtain ⟨g,hg⟩: ∃g,g=ws.getD (s * 32) 0:=⟨_,rfl⟩;rw [<-hg] at e0
 by_cases hz:g=65535
 {
 have hr:Hd (genS ws s=0):=by show _=_;unfold genS;rw [<-hg,KK hz]
 subst hz;clear hg;go_enter Tryz.func174,Tryz.ntmps174;go_wp2;go_ret;exact⟨zao hr.o.symm,hw⟩ }
 {
 have hr:Hd (genS ws s=g):=by show _=_;unfold genS;rw [<-hg,KJ hz]
 have hz' : (g !=65535)=true:=by simpa using hz
 clear hg;go_enter Tryz.func174,Tryz.ntmps174;go_wp2;go_ret;exact⟨zao hr.o.symm,hw⟩ }
def genI (ws:LI) (s:Int):Int:=genS ws s.toNat
theorem zjs (a:oA) (n c:Nat) (ws:LI) (fuel:Int) (s:Int) (w:World) (h:zag w a ws) (hn:ws.length=n) (hm:n<=maxLen) (hs:0<=s/\s<2) (h64:64<=n):
 Cq 174 #[.agg #[.slice a n c,iV fuel],iV s] w fun e w' =>e=.returned (iV (genI ws s))/\bZ w w' :=by
 obtain ⟨k,rfl⟩:=Km hs.1;exact zjg a n c ws fuel k w h hn hm (by omega)
def CountsAns (w:World) (ws:LI) (e:Ending) (w' :World):Prop:=
 e=.returned (.tuple #[iV (secN ws),iV (genN ws)])/\bZ w w'
theorem ret_two {a b c d:Int} (h1:a=c) (h2:b=d):Ending.returned (.tuple #[iV a,iV b])=.returned (.tuple #[iV c,iV d]):=by rw [h1,h2]
theorem zfv (a:oA) (n c:Nat) (ws:LI) (fuel:Int) (w:World) (h:zag w a ws) (hn:ws.length=n) (hm:n<=maxLen) (h64:64<=n):
 Cq 107 #[.agg #[.slice a n c,iV fuel]] w (CountsAns w ws):=by
 have hw:bZ w (w.alloc (.cells #[.slice a n c,iV fuel] 28)):=bA1;have i0:=h.bl hw;have HG:=uH (fun W (s:Int) (h:zag W a ws) (hs:0<=s/\s<2)=>zjs a n c ws fuel s W h hn hm hs h64);have B0:=uH (kP w (.cells #[.slice a n c,iV fuel] 28));have HN:=uH hn;clear hn;unfold maxLen at hm;go_enter Tryz.func107,Tryz.ntmps107;go_upto_region 1 with fail
 generalize w.alloc (.cells #[.slice a n c,iV fuel] 28)=W at *;have x0:=zaa B0.o 0 (.slice a n c) rfl;have x1:=zaa B0.o 1 (iV fuel) rfl;have lt0:=zak B0.o
 go_cut [4,5] (fun v4 v5 wx=>v4=iV (genI ws 0)/\v5=iV (genI ws 1)/\bZ W wx)
 case first=>
  have hW:bZ W W:=kS _ _;go_wp2_with fail
  go_region_held3 (fun w' =>w'.cell? ⟨w.heap.size,0,none⟩=some (.slice a n c)/\w'.cell? ⟨w.heap.size,1,none⟩=some (iV fuel)) (first|exact⟨by assumption,by assumption⟩|go_keep)
   ((go_at_call 174;refine(zae HG _ _ ?_ ?_).mono ?_;(first|exact i0|exact i0.bl hW);decide;rintro e w1 ⟨rfl,hb1⟩;replace hW:bZ W w1:=(by first|exact (bT hW.drew hb1)|exact (bT hW hb1));have z0:w1.cell? ⟨w.heap.size,0,none⟩=some (.slice a n c):=(by rw [hW.cell lt0];exact x0);have z1:w1.cell? ⟨w.heap.size,1,none⟩=some (iV fuel):=(by rw [hW.cell lt0];exact x1)))
  all_goals
   go_wp2
   go_meet
   case rel=>exact⟨rfl,rfl,hW⟩
 case rest=>
  obtain ⟨rfl,rfl,hW⟩:=hcut;obtain ⟨wB,rfl⟩: ∃wB:World,wB=wc:=⟨_,rfl⟩;have hwB:=bT hw hW;obtain ⟨g0,hg0⟩: ∃g,g=genI ws 0:=⟨_,rfl⟩;obtain ⟨g1,hg1⟩: ∃g,g=genI ws 1:=⟨_,rfl⟩;rw [<-hg0,<-hg1]
  by_cases hlt:g0<g1
  {
  have hr:Hd (secN ws=1/\genN ws=g1):=by show _/\_;unfold secN genN;rw [show genS ws 0=g0 from hg0.symm,show genS ws 1=g1 from hg1.symm,KK hlt,KK hlt];exact⟨rfl,rfl⟩
  clear hg0 hg1;go_wp2;go_ret2;exact⟨ret_two (by rw [hr.o.1];rfl) hr.o.2.symm,hwB⟩ }
  {
  have hr:Hd (secN ws=0/\genN ws=g0):=by show _/\_;unfold secN genN;rw [show genS ws 0=g0 from hg0.symm,show genS ws 1=g1 from hg1.symm,KJ hlt,KJ hlt];exact⟨rfl,rfl⟩
  have hlt' :decide (g0<g1)=false:=by simpa using hlt
  clear hg0 hg1;go_wp2;go_ret2;exact⟨ret_two (by rw [hr.o.1];rfl) hr.o.2.symm,hwB⟩ }
theorem zd5 (a:oA) (n c:Nat) (ws:LI) (fuel:Int) (w:World) (h:zag w a ws) (hn:ws.length=n) (hm:n<=maxLen):
 Cq 106 #[.agg #[.slice a n c,iV fuel]] w fun e w' =>e=.returned (iV (lchk ws fuel))/\bZ w w' :=by
 have hw:bZ w (w.alloc (.cells #[.slice a n c,iV fuel] 28)):=bA1;have i0:=h.bl hw;have HS:=uH (fun W (h:zag W a ws)=>zfc a n c ws fuel W h hn hm);have HG:=uH (fun W (h:zag W a ws) (h64:64<=n)=>zfv a n c ws fuel W h hn hm h64);have B0:=uH (kP w (.cells #[.slice a n c,iV fuel] 28));have HN:=uH hn;clear hn;go_enter Tryz.func106,Tryz.ntmps106;go_wp2_with fail;generalize w.alloc (.cells #[.slice a n c,iV fuel] 28)=W at *;refine(zae HS _ i0).mono ?_;rintro e w1 ⟨rfl,hb1⟩;have hw1:=bT hw hb1
 by_cases e1:secS ws fuel=0
 rotate_left
 {
 have e1' : (secS ws fuel !=0)=true:=by simpa using e1
 have hr:Hd (lchk ws fuel=secS ws fuel):=by show _=_;unfold lchk;rw [KK e1]
 go_wp2;go_ret;exact⟨zao hr.o.symm,hw1⟩ }
 have e1' : (secS ws fuel !=0)=false:=by simpa using e1
 have E1:=uH e1;have h64:64<=n:=by
  rw [<-HN.o];unfold secS at e1
  split at e1
  { rename_i h;exact absurd e1 h }
  {
  split at e1
  { simp at e1 }
  { omega } }
 clear e1;have c00:=zaa (zab B0.o hb1) 0 _ rfl;have c01:=zaa (zab B0.o hb1) 1 _ rfl;go_wp2_with fail;refine(zae HG _ (i0.bl hb1) h64).mono ?_;rintro e w2 ⟨rfl,hb2⟩;have hw2:=bT hw1 hb2;obtain ⟨g,hg⟩: ∃g,g=genN ws:=⟨_,rfl⟩;rw [<-hg]
 by_cases g0:g=0
 {
 have hr:Hd (lchk ws fuel=5):=by show _=_;unfold lchk;rw [KJ (by simpa using E1.o),KK (by rw [<-hg];exact .inl g0)]
 subst g0;clear hg;go_wp2;go_ret;exact⟨zao hr.o.symm,hw2⟩ }
 have g0' : (g==0)=false:=by simpa using g0
 by_cases g1:60000<g
 {
 have hr:Hd (lchk ws fuel=5):=by show _=_;unfold lchk;rw [KJ (by simpa using E1.o),KK (by rw [<-hg];exact .inr g1)]
 clear hg;go_wp2;go_ret;exact⟨zao hr.o.symm,hw2⟩ }
 {
 have hr:Hd (lchk ws fuel=0):=by show _=_;unfold lchk;rw [KJ (by simpa using E1.o),KJ (by rw [<-hg];omega)]
 have g1' :decide (60000<g)=false:=by simpa using g1
 clear hg;go_wp2;go_ret;exact⟨zao hr.o.symm,hw2⟩ }
end
section
attribute [local go_sem ↓] kM kO
def longS (l:LI):Nat:=match l with
 | []=>0
 |x::r=>if 42241<=x/\x<=42244/\x - 42240<=r.length then(x - 42240).toNat else 0
theorem znb (h:l= []\/¬(42241<=l.getD 0 0/\l.getD 0 0<=42244/\l.getD 0 0 - 42240<l.length)):longS l=0:=by
 cases l with
 |nil=>rfl
 |cons x r=>
  rcases h with h|h
  { cases h }
  {
  simp at h
  simp only [longS];rw [KJ (by omega)] }
theorem longS_yes (h0:l≠ []) (h:42241<=l.getD 0 0/\l.getD 0 0<=42244/\l.getD 0 0 - 42240<l.length): (longS l:Int)=l.getD 0 0 - 42240:=by
 cases l with
 |nil=>exact absurd rfl h0
 |cons x r=>
  simp at h|-
  simp only [longS];rw [KK (by omega)];omega
theorem longS_le (l:LI):longS l<=4:=by
 unfold longS
 split
 { omega }
 {
 split<;>omega }
theorem zon (h:0<longS l):longS l<l.length:=by
 cases l with
 |nil=>simp [longS] at h
 |cons x r=>
  simp only [longS] at h|-
  split at h
  {
  rename_i hc
  rw [KK hc]
  simp
  omega }
  {
  omega }
theorem zjo (a:oA) (n c:Nat) (l:LI) (w:World) (h:zag w a l) (hn:l.length=n) (hm:n<=192) (hok:okL l=true):
 Cq 175 #[.slice a n c] w fun e w' =>e=.returned (iV (longS l))/\w' =w:=by
 have HN:=uH hn
 by_cases h0:n=0
 {
 subst h0;have hr:Hd (longS l=0):=znb (.inl (kn hn));clear hn;go_enter Tryz.func175,Tryz.ntmps175;go_wp2;go_ret;exact⟨zao (by rw [hr.o];rfl),rfl⟩ }
 have h0' : ((n:Int)==0)=false:=by simp;omega
 rcases h with rfl| ⟨b,off,rfl,hc⟩
 { simp at hn;omega }
 have e0:=hc 0 (by omega);rw [Nat.add_zero] at e0;have hw0:=zk3 hok 0 (by omega);have HL:Hd (l≠ []/\l.length=n):=⟨fun e=>by subst e;simp at hn;omega,hn⟩;have HNo:=uH (@znb l);have HYes:=uH (@longS_yes l);obtain ⟨x,hx⟩: ∃x,x=l.getD 0 0:=⟨_,rfl⟩;rw [<-hx] at e0 hw0;rw [<-hx] at HNo HYes
 simp [okW] at hw0
 clear hn hc hx hok;have hn0: (0:Int)< (n:Int):=by omega
 by_cases c1:x - 42240<1
 {
 have hr:Hd (longS l=0):=HNo.o (.inr (by omega));go_enter Tryz.func175,Tryz.ntmps175;go_wp2;go_ret;exact⟨zao (by rw [hr.o];rfl),rfl⟩ }
 have c1' :decide (x - 42240<1)=false:=by simpa using c1
 by_cases c2:4<x - 42240
 {
 have hr:Hd (longS l=0):=HNo.o (.inr (by omega));go_enter Tryz.func175,Tryz.ntmps175;go_wp2;go_ret;exact⟨zao (by rw [hr.o];rfl),rfl⟩ }
 have c2' :decide (4<x - 42240)=false:=by simpa using c2
 by_cases c3: (n:Int)<=x - 42240
 {
 have hr:Hd (longS l=0):=HNo.o (.inr (by rw [HL.o.2];omega));go_enter Tryz.func175,Tryz.ntmps175;go_wp2;go_ret;exact⟨zao (by rw [hr.o];rfl),rfl⟩ }
 {
 have c3' :decide ((n:Int)<=x - 42240)=false:=by simpa using c3
 have hr:Hd ((longS l:Int)=x - 42240):=HYes.o HL.o.1 (by rw [HL.o.2];omega);go_enter Tryz.func175,Tryz.ntmps175;go_wp2;go_ret;exact⟨zao hr.o.symm,rfl⟩ }
def headS (n:Nat):Int:=42240+n
theorem or_head (n:Nat) (h:n<=4):bits .or .i64 42240 (n:Int)=headS n:=by
 have:n=0\/n=1\/n=2\/n=3\/n=4:=by omega
 rcases this with rfl|rfl|rfl|rfl|rfl<;>decide+kernel
theorem zj9 (a:oA) (n c:Nat) (w:World) (hm:n<=4):
 Cq 288 #[.slice a n c] w fun e w' =>e=.returned (iV (headS n))/\w' =w:=by
 have ho:=or_head n hm;go_enter Tryz.func288,Tryz.ntmps288;go_wp2;go_ret;exact⟨rfl,rfl⟩
def zce (l:LI):Bool:=l.all (fun x=>x==65535)
theorem zpf (v:Int) (w:World):Cq 303 #[iV v] w fun e w' =>e=.returned (.bool (v !=65535))/\w' =w:=by
 go_enter Tryz.func303,Tryz.ntmps303;go_wp2;go_ret;exact⟨rfl,rfl⟩
theorem zps (hk:k<xs.length) (h:zce (xs.take k)=true) (hv: (xs[k] !=65535)=false):zce (xs.take (k+1))=true:=by
 unfold zce at h|-;rw [kl hk,List.all_append,h]
 simpa using hv
theorem zpa (hk:k<xs.length) (hv: (xs[k] !=65535)=true):zce xs=false:=by
 unfold zce;rw [List.all_eq_false];exact⟨xs[k],KH hk,by simpa using hv⟩
theorem zkc (a:oA) (n c:Nat) (xs:LI) (w:World) (h:zag w a xs) (hn:xs.length=n) (hm:n<=maxLen):
 Cq 259 #[.slice a n c,.func (.func 303) #[] #[]] w fun e w' =>(∃q:Int,e=.returned (iV q)/\decide (0<=q)=!zce xs)/\w' =w:=by
 have HP:=uH zpf;unfold maxLen at hm;have HN:Hd (xs.length=n):=hn;go_enter Tryz.func259,Tryz.ntmps259;go_wp2
 go_loop [8] (fun i=>∃k:Nat,k<=n/\i=iV k/\Hd (zce (xs.take k)=true)) (fun i=>n - (intOf i).toNat)
 case atStart=>exact⟨0,KG _,rfl,rfl⟩
 case round=>
  obtain ⟨k,hk,rfl,ht⟩:=hrel
  by_cases hlt:k<n
  {
  rcases h with rfl| ⟨b0,o0,rfl,hc0⟩
  { simp at hn;omega }
  have hkx:k<xs.length:=by omega
  have e0:=hc0 k hkx;clear hn hc0;go_wp2_with fail;refine(zae HP _ _).mono ?_;rintro e w' ⟨rfl,rfl⟩;cases hv: (xs[k] !=65535)
  {
  have HV:Hd ((xs[k] !=65535)=false):=hv;clear hv;go_wp2
  go_round
  case rel=>exact⟨k+1,by omega,by go_num,zps hkx ht.o HV.o⟩
  case measure=>simp [intOf];omega }
  {
  have HV:Hd ((xs[k] !=65535)=true):=hv;clear hv;go_wp2;go_ret;exact⟨⟨k,rfl,by rw [zpa hkx HV.o];simp⟩,rfl⟩ } }
  {
  go_wp2;go_ret;have hx:=ht.o;rw [kh (by omega)] at hx;exact⟨⟨-1,rfl,by rw [hx];rfl⟩,rfl⟩ }
theorem zhl (a:oA) (n c:Nat) (xs:LI) (w:World) (h:zag w a xs) (hn:xs.length=n) (hm:n<=maxLen):
 Cq 210 #[.slice a n c,.func (.func 303) #[] #[]] w fun e w' =>e=.returned (.bool (!zce xs))/\w' =w:=by
 have hc:=uH (zkc a n c xs w h hn hm);clear hn;go_enter Tryz.func210,Tryz.ntmps210;go_wp2_with fail;refine(zae hc).mono ?_;rintro e w' ⟨⟨q,rfl,hq⟩,rfl⟩;go_wp2;go_ret;exact⟨rfl,rfl⟩
theorem clean_any (a:oA) (n c:Nat) (xs:LI) (w:World) (h:zag w a xs) (hn:xs.length=n) (hm:n<=maxLen):
 Cq 287 #[.slice a n c] w fun e w' =>e=.returned (.bool (zce xs))/\w' =w:=by
 have hc:=uH (zhl a n c xs w h hn hm);clear hn;go_enter Tryz.func287,Tryz.ntmps287;go_wp2_with fail;refine(zae hc).mono ?_;rintro e w' ⟨rfl,rfl⟩;go_wp2;go_ret;exact⟨zan (by simp),rfl⟩
def recE (r:LI):Int:=if r.length<1\/4<r.length then 2 else if okL r=false then 3 else 0
theorem zf3 (a:oA) (n c:Nat) (r:LI) (w:World) (h:zag w a r) (hn:r.length=n) (hm:n<=maxLen):
 Cq 285 #[.slice a n c] w fun e w' =>e=.returned (iV (recE r))/\w' =w:=by
 have HA:=uH (zc8 a n c r w h hn hm);have HN:=uH hn;clear hn;unfold maxLen at hm
 by_cases c1:n<1
 {
 have hr:Hd (recE r=2):=by show _=_;unfold recE;rw [HN.o,KK (.inl c1)]
 have c1' : (n:Int)<1:=by omega
 go_enter Tryz.func285,Tryz.ntmps285;go_wp2;go_ret;exact⟨zao hr.o.symm,rfl⟩ }
 have c1' :decide ((n:Int)<1)=false:=by simp;omega
 by_cases c2:4<n
 {
 have hr:Hd (recE r=2):=by show _=_;unfold recE;rw [HN.o,KK (.inr c2)]
 go_enter Tryz.func285,Tryz.ntmps285;go_wp2;go_ret;exact⟨zao hr.o.symm,rfl⟩ }
 have c2' :decide (4< (n:Int))=false:=by simp;omega
 cases hok:okL r
 {
 have hr:Hd (recE r=3):=by show _=_;unfold recE;rw [HN.o,KJ (by omega),KK hok]
 have HO:=uH hok;clear hok;go_enter Tryz.func285,Tryz.ntmps285;go_wp2_with fail;refine(zae HA).mono ?_;rintro e w' ⟨rfl,rfl⟩;rw [HO.o];go_wp2;go_ret;exact⟨zao hr.o.symm,rfl⟩ }
 {
 have hr:Hd (recE r=0):=by show _=_;unfold recE;rw [HN.o,KJ (by omega),KJ (by simp [hok])]
 have HO:=uH hok;clear hok;go_enter Tryz.func285,Tryz.ntmps285;go_wp2_with fail;refine(zae HA).mono ?_;rintro e w' ⟨rfl,rfl⟩;rw [HO.o];go_wp2;go_ret;exact⟨zao hr.o.symm,rfl⟩ }
end
section
attribute [local go_sem ↓] kM kO
def za5 (w:World) (g:Nat) (xs:LI):Prop:=∃cur:Array Value,w.heap[g]?=some (.cells cur 3 (0,0))/\cur.toList.take xs.length=vals xs
theorem za5.get {cur:Array Value} (_h:w.heap[g]?=some (.cells cur 3 (0,0))) (h2:cur.toList.take xs.length=vals xs) (i:Nat) (hi:i<xs.length):cur[i]?=some (iV (xs.getD i 0)):=by
 have:=zc9 xs i hi;rw [<-h2] at this
 simpa [hi] using this
theorem za5.cell (h:za5 w g xs) (i:Nat) (hi:i<xs.length):w.cell? ⟨g,i,none⟩=some (iV (xs.getD i 0)):=by
 obtain ⟨cur,h1,h2⟩:=h;exact zaa h1 i _ (za5.get h1 h2 i hi)
theorem za5.free (h:za5 w g xs) (i:Nat):w.frozen? ⟨g,i,none⟩=false:=by
 obtain ⟨cur,h1,_⟩:=h;exact zad h1 i
theorem za5.isInts (h:za5 w g xs):zag w (some ⟨g,0,none⟩) xs:=
 .inr ⟨g,0,rfl,fun i hi=>by rw [Kl];exact h.cell i hi⟩
theorem za5.lt (h:za5 w g xs):g<w.heap.size:=by
 obtain ⟨cur,h1,_⟩:=h;exact zak h1
theorem za5.bl (h:za5 w g xs) (hb:Below B w w') (hg:g<B):za5 w' g xs:=by
 obtain ⟨cur,h1,h2⟩:=h;exact⟨cur,by rw [hb.block g hg];exact h1,h2⟩
theorem za5.other (h:za5 w g xs) (b i:Nat) (v:Value) (hb:g≠b):za5 (w.setCell ⟨b,i,none⟩ v) g xs:=by
 obtain ⟨cur,h1,h2⟩:=h;exact⟨cur,by rw [ki _ _ _ _ hb];exact h1,h2⟩
theorem za5.set (h:za5 w g xs) (i:Nat) (v:Int):za5 (w.setCell ⟨g,i,none⟩ (iV v)) g (xs.set i v):=by
 obtain ⟨cur,h1,h2⟩:=h;refine⟨cur.setIfInBounds i (iV v), ?_, ?_⟩
 {
 simp only [World.setCell,KP]
 simp [h1] }
 {
 simp only [List.length_set,Array.toList_setIfInBounds];rw [List.take_set,h2]
 simp [vals] }
end
theorem zm9 (t t' ty e e' :TypeId) (i:TypeInfo) (ht:Tryz.prog.underlying t=some (.slice e)) (ht' :Tryz.prog.underlying t' =some (.slice e')) (hi:Tryz.prog.info? e=some i) (v x:Value) (w:World):
 (Builtin.append_ #[t,t'] ty #[v,x]).run Tryz.prog w= (Builtin.append_ #[t,t] ty #[v,x]).run Tryz.prog w:=by
 unfold Builtin.append_;cases v<;>simp [run_underlying ht,run_underlying ht',sizeOf,typeInfo,hi]
theorem zf4 {ops:Array Oper} {o:Oper} {a:Act} {K:Act->World->Prop} {Q:Exit->Act->World->Prop} {E:Prop} (w:World) (hgd:o.guard=none) (s x:Operand) (t t' :TypeId)
 (ho:o.op=.call { callee:=.builtin .append,args:=#[s,x],argTypes:=#[t,t'] })
 (base:Nat) (e e' :TypeId) (i:TypeInfo) (z:Value) (size bytes:Nat) (ht:Tryz.prog.underlying t=some (.slice e)) (ht' :Tryz.prog.underlying t' =some (.slice e')) (hi:Tryz.prog.info? e=some i) (hz:i.zero=some z)
 (hsize:i.size=size) (hby:i.bytes=bytes) (hzs:z.cells.size=size) (hsz:0<size)
 (v:Value) (n:Nat) (xs:LV) (hs:a.eval s=v) (hown:w.ownsRow base e size v n xs)
 (ad:Addr) (m c:Nat) (news:LV) (hx:a.eval x=.slice (some ad) m c) (hl:news.length=m * size) (hnews: ∀j u,news[j]?=some u->w.cell? (ad.add j)=some u) (h1: ∀u∈news,u.oneCell' =true)
 (hm:0<m) (h63:n+m<=maxLen) (hbytes: (n+m)* bytes<=140737488355328) (hbase:base<=w.heap.size) (H:Nat) (hH:w.heap.size=H)
 (h: ∀g cap w',w'.ownsRow base e size (sV g (n+m) cap) (n+m) (xs++news)->w.grownBy w' v.ownBlock->(v.ownBlock=some g\/g=H)->g<w'.heap.size->K (a.put o.dst (sV g (n+m) cap)) w'):
 if Region.wanted o (yielded ops a.tmps)=true then Oper.wp Tryz.prog o a w K Q else E:=by
 have hw:Region.wanted o (yielded ops a.tmps)=true:=by simp [Region.wanted,hgd]
 rw [KK hw];obtain ⟨g,cap,w',hr,h2,h3,h4,h5⟩:=run_append_lies (P:=Tryz.prog) w t o.type base e i z size bytes ht hi hz hsize hby hzs hsz v n xs hown ad m c news hl hnews h1 hm h63 hbytes hbase H hH;unfold Oper.wp execOp;simp only [ho,resolve,invoke,builtin,Sem.run_bind,Sem.run_pure,Result.andThen_ok,List.map_toArray,List.map_cons,List.map_nil,hs,hx,zm9 t t' _ e e' i ht ht' hi,hr];exact h g cap w' h2 h3 h4 h5
theorem zl8 {b off:Nat} (h:zag w (some ⟨b,off,none⟩) ws): ∀j u,(vals ws)[j]?=some u->w.cell? ((⟨b,off,none⟩:Addr).add j)=some u:=by
 intro j v hv;have hj:j<ws.length:=by
  have:=(kY.1 hv).1
  simpa [vals] using this
 rcases h with rfl| ⟨b',off',e,hc⟩
 { simp at hj }
 cases e;rw [zc9 ws j hj] at hv;cases hv;have hcj:=hc j hj
 by_cases hj0:j=0
 { subst hj0;simpa [Addr.add] using hcj }
 {
 simpa [Addr.add,hj0] using hcj }
theorem zag.nonempty (h:zag w a ws) (hn:0<ws.length): ∃b off,a=some ⟨b,off,none⟩:=by
 rcases h with rfl| ⟨b,off,e,_⟩
 { simp at hn }
 {
 exact⟨b,off,e⟩ }
theorem zag.low {b off:Nat} (h:zag w (some ⟨b,off,none⟩) xs) (hb:Below B w w') (hlt:b<B):zag w' (some ⟨b,off,none⟩) xs:=by
 rcases h with h| ⟨b',off',e,hc⟩
 { exact .inl h }
 {
 cases e;exact .inr ⟨b,off,rfl,fun i hi=>by rw [hb.cell hlt];exact hc i hi⟩ }
def zck (w:World) (a:oA) (rs:LL):Prop:=
 rs= []\/∃b off,a=some ⟨b,off,none⟩/\∀(i:Nat) (r:LI),rs[i]?=some r->∃ai ci,w.cell? ⟨b,off+i,none⟩=some (Value.slice ai r.length ci)/\zag w ai r/\r.length<=ci/\ci<=maxLen
theorem zck.bl (h:zck w a rs) (hb:bZ w w'):zck w' a rs:=by
 rcases h with h| ⟨b,off,rfl,hc⟩
 { exact .inl h }
 {
 refine .inr ⟨b,off,rfl,fun i r hi=> ?_⟩;obtain ⟨ai,ci,h1,h2,h3⟩:=hc i r hi;exact⟨ai,ci,by rw [hb.cell (zah h1)];exact h1,h2.bl hb,h3⟩ }
structure zbp (w0 wr:World) (v:Value) (rs:LL):Prop where
 own: ∃vs:LV,wr.ownsRow w0.heap.size 208 1 v rs.length vs/\∀(i:Nat) (r:LI),rs[i]?=some r->∃g c,vs[i]?=some (sV g r.length c)/\za5 wr g r/\r.length<=c/\c<=maxLen
 bl:bZ w0 wr
theorem zpg {w0 wr:World} (h:bZ w0 wr):zbp w0 wr (nV) []:=⟨⟨[],KZ _ _ _ _,by simp⟩,h⟩
theorem zgb: (Tryz.prog.info? 208).map (fun i=>(i.zero,i.size,i.bytes))=some (some (nV),1,24):=by kernel_rfl
theorem zhi {wa w1:World} {base:Nat} {e:TypeId} {xs:LV} (h:za5 wa g r) (hown:wa.ownsRow base e 1 v n xs) (hne:e≠3) (hg:wa.grownBy w1 v.ownBlock):za5 w1 g r:=by
 obtain ⟨cur,h1,h2⟩:=h;refine⟨cur, ?_,h2⟩;rw [hg.block g (zak h1) ?_]
 { exact h1 }
 {
 intro e';obtain ⟨_,⟨hv,_⟩| ⟨g',cap,cur',hv,hg',hh,_⟩⟩:=hown
 { rw [hv] at e';cases e' }
 {
 rw [hv] at e';have:g=g' :=by simpa [Value.ownBlock] using e'
 subst this;rw [h1] at hh
 simp at hh
 exact hne hh.2.symm } }
theorem zbp.isRecs {w0:World} (h:zbp w0 w v rs): ∃a c,v=.slice a rs.length c/\rs.length<=c/\c<=maxLen/\zck w a rs:=by
 obtain ⟨vs,hown,hr⟩:=h.own;obtain ⟨_,⟨hv,hn⟩| ⟨g,cap,cur,hv,hg,hh,hc,hm,_,ht⟩⟩:=hown
 { exact⟨none,0,by rw [hv,hn],by omega,by unfold maxLen;omega,.inl (kn hn)⟩ }
 {
 refine⟨some ⟨g,0,none⟩,cap,hv,hc,hm,.inr ⟨g,0,rfl,fun i r hi=> ?_⟩⟩;obtain ⟨gi,ci,h1,h2,h3,h4⟩:=hr i r hi;have hlt:i<rs.length:=(kY.1 hi).1;refine⟨_,ci, ?_,h2.isInts,h3,h4⟩;rw [Kl];refine zaa hh i _ ?_;rw [<-ht] at h1
 simpa [hlt] using h1 }
theorem zbp.step {w0 wr wa w1:World} {v' :Value} {c:Nat} {vs:LV} (hbe:bZ w0 wr) (hown:wr.ownsRow w0.heap.size 208 1 v rs.length vs)
 (hr: ∀(i:Nat) (r:LI),rs[i]?=some r->∃g c,vs[i]?=some (sV g r.length c)/\za5 wr g r/\r.length<=c/\c<=maxLen)
 (hba:bZ wr wa) (hc:za5 wa g r) (hlc:r.length<=c) (hcm:c<=maxLen)
 (happ:w1.ownsRow w0.heap.size 208 1 v' (rs.length+1) (vs++ [sV g r.length c])) (hgrow:wa.grownBy w1 v.ownBlock):zbp w0 w1 v' (rs++ [r]):=by
 have hown' :=zba hown hba;have hbw:bZ w0 wa:=bT hbe hba;refine⟨⟨vs++ [sV g r.length c], ?_, ?_⟩, ?_⟩
 {
 rw [kj];exact happ }
 {
 have hvl:vs.length=rs.length:=by have:=hown.1;omega
 intro i q hi
 by_cases hlt:i<rs.length
 {
 rw [KD hlt] at hi;obtain ⟨gi,ci,h1,h2,h3⟩:=hr i q hi;refine⟨gi,ci,by rw [KD (by omega)];exact h1, ?_,h3⟩;obtain ⟨cur,hh,ht⟩:=h2;exact zhi ⟨cur,zab hh hba,ht⟩ hown' (by decide) hgrow }
 {
 have hlt2:i< (rs++ [r]).length:=(kY.1 hi).1
 simp at hlt2
 obtain rfl:i=rs.length:=by omega
 rw [KC (kQ _)] at hi
 simp at hi
 subst hi;refine⟨g,c,by rw [KC (by omega),hvl];simp,zhi hc hown' (by decide) hgrow,hlc,hcm⟩ } }
 {
 exact hbw.grown hgrow (kc hbe.size hba.size) (zc5 hown) }
theorem zjq {base cap:Nat} (h:w.ownsRow base 3 1 (sV g n cap) n (vals ws)) (hn:ws.length=n):za5 w g ws/\base<=g/\n<=cap/\cap<=maxLen:=by
 obtain ⟨_,⟨hv,_⟩| ⟨g',cap',cur,hv,hg,hh,hc,hm,_,ht⟩⟩:=h
 { cases hv }
 {
 cases hv;exact⟨⟨cur,hh,by rw [hn];simpa using ht⟩,hg,hc,hm⟩ }
theorem zos (h:za5 w g xs) (hb:bZ w w'):za5 w' g xs:=h.bl hb h.lt
section
attribute [local go_sem ↓] kM kO
abbrev Stp:=Sum Nat (Nat×LI)
abbrev Stp.era (s:Nat):Stp:=Sum.inl s
abbrev Stp.prg (p:Nat) (words:LI):Stp:=Sum.inr (p,words)
def doS:Stp->LI->Int->LI×Int×Int
 | .inl s,ws,fuel=>eraS ws fuel s
 | .inr (p,words),ws,fuel=>progS ws fuel p words
def turnS:List Stp->LI->Int->LI×Int×Int
 | [],ws,f=>(ws,f,0)
 |st::r,ws,f=>if(doS st ws f).2.2≠0 then doS st ws f else turnS r (doS st ws f).1 (doS st ws f).2.1
def zdg (w:World) (v:Value):Stp->Prop
 | .inl s=>∃b,v=.func (.func 249) #[] #[.pointer (some ⟨b,0,none⟩)]/\w.cell? ⟨b,0,none⟩=some (iV s)/\s<=100
 | .inr (p,words)=>∃b1 b2 a n c,v=.func (.func 251) #[] #[.pointer (some ⟨b1,0,none⟩),.pointer (some ⟨b2,0,none⟩)]/\w.cell? ⟨b1,0,none⟩=some (iV p)/\w.cell? ⟨b2,0,none⟩=some (.slice a n c)/\zag w a words/\words.length=n/\n<=100/\p<=1000
theorem zdg.bl {st:Stp} (h:zdg w v st) (hb:bZ w w'):zdg w' v st:=by
 cases st with
 |inl s=>
  obtain ⟨b,h1,h2,h3⟩:=h;exact⟨b,h1,by rw [hb.cell (zah h2)];exact h2,h3⟩
 |inr q=>
  obtain ⟨p,words⟩:=q;obtain ⟨b1,b2,a,n,c,h1,h2,h3,h4,h5⟩:=h;exact⟨b1,b2,a,n,c,h1,by rw [hb.cell (zah h2)];exact h2,by rw [hb.cell (zah h3)];exact h3,h4.bl hb,h5⟩
def zd0 (w:World) (a:oA) (sts:List Stp):Prop:=
 ∃b,a=some ⟨b,0,none⟩/\∀(i:Nat) (st:Stp),sts[i]?=some st->∃v,w.cell? ⟨b,i,none⟩=some v/\zdg w v st
theorem zd0.bl {sts:List Stp} (h:zd0 w a sts) (hb:bZ w w'):zd0 w' a sts:=by
 obtain ⟨b,rfl,hc⟩:=h;refine⟨b,rfl,fun i st hi=> ?_⟩;obtain ⟨v,h1,h2⟩:=hc i st hi;exact⟨v,by rw [hb.cell (zah h1)];exact h1,h2.bl hb⟩
theorem zpy (b:Nat) (s:Nat) (a:oA) (n c:Nat) (ws:LI) (fuel:Int) (w:World) (hc:w.cell? ⟨b,0,none⟩=some (iV s)) (h:zag w a ws) (hn:ws.length=n) (hm:n<=maxLen):
 Cq 249 #[.agg #[.slice a n c,iV fuel],.pointer (some ⟨b,0,none⟩)] w (zbf w (eraS ws fuel s)):=by
 have HE:=uH (fun W (h:zag W a ws)=>zl0 a n c ws fuel s W h hn hm);have hw:bZ w ((w.alloc (.cells #[.slice a n c,iV fuel] 28)).alloc (.cells #[nV,iV 0] 28)):=
  bA2
 have b1: ((w.alloc (.cells #[.slice a n c,iV fuel] 28)).alloc (.cells #[nV,iV 0] 28)).heap[w.heap.size+1]?=some (.cells #[nV,iV 0] 28 (0,0)):=
  by simpa using kP (w.alloc _) _
 have hc2:=(hw.cell (zah hc)).trans hc;have i0:=h.bl hw;have B1:=uH b1;clear b1 hn;go_enter Tryz.func249,Tryz.ntmps249;go_wp2_with fail;generalize (w.alloc (.cells #[.slice a n c,iV fuel] 28)).alloc (.cells #[nV,iV 0] 28)=W at *;refine(zae HE _ i0).mono ?_;rintro e w1 ⟨⟨a1,n1,c1,rfl,hi1,hn1,hc1,hf1⟩,hb1⟩;have q0:=zaa (zab B1.o hb1) 0 _ rfl;have q1:=zaa (zab B1.o hb1) 1 _ rfl;have q2:=zad (zab B1.o hb1) 0;have q3:=zad (zab B1.o hb1) 1;have ltB:=zak B1.o;have hw1:=bT hw hb1;have HN1:=uH hn1;clear hn1;go_wp2;refine kT (v:=.tuple #[.agg #[.slice a1 n1 c1,iV (eraS ws fuel s).2.1],iV (eraS ws fuel s).2.2]) (by simp [results,Tryz.results249,go_sem,q0,q1]) rfl ?_;exact⟨⟨a1,n1,c1,rfl,(hi1.other hf1 ltB 0 _).other hf1 ltB 1 _,HN1.o,hc1,zal.mono hf1 hw.size⟩,(hw1.setCell (by simp) _).setCell (by simp) _⟩
theorem zox (b1 b2:Nat) (p:Nat) (a2:oA) (n2 c2:Nat) (words:LI) (a:oA) (n c:Nat) (ws:LI) (fuel:Int) (w:World) (hc1:ce w b1 0=some (iV p)) (hc2:ce w b2 0=some (.slice a2 n2 c2))
 (h2:zag w a2 words) (hn2:words.length=n2) (hm2:n2<=100) (hp:p<=1000) (h:zag w a ws) (hn:ws.length=n) (hm:n<=maxLen):
 Cq 251 #[.agg #[.slice a n c,iV fuel],.pointer (some ⟨b1,0,none⟩),.pointer (some ⟨b2,0,none⟩)] w (zbf w (progS ws fuel p words)):=by
 have HE:=uH (fun W (h:zag W a ws) (h2:zag W a2 words)=>zf9 a n c ws fuel p a2 n2 c2 words W h hn hm h2 hn2 (by unfold maxLen;omega) (by omega));have hw:bZ w ((w.alloc (.cells #[.slice a n c,iV fuel] 28)).alloc (.cells #[nV,iV 0] 28)):=
  bA2
 have b1' : ((w.alloc (.cells #[.slice a n c,iV fuel] 28)).alloc (.cells #[nV,iV 0] 28)).heap[w.heap.size+1]?=some (.cells #[nV,iV 0] 28 (0,0)):=
  by simpa using kP (w.alloc _) _
 have k1:=(hw.cell (zah hc1)).trans hc1;have k2:=(hw.cell (zah hc2)).trans hc2;have i0:=h.bl hw;have i2:=h2.bl hw;have B1:=uH b1';clear b1' hn hn2;go_enter Tryz.func251,Tryz.ntmps251;go_wp2_with fail;generalize (w.alloc (.cells #[.slice a n c,iV fuel] 28)).alloc (.cells #[nV,iV 0] 28)=W at *;refine(zae HE _ i0 i2).mono ?_;rintro e w1 ⟨⟨a1,n1,c1,rfl,hi1,hn1,hc1',hf1⟩,hb1⟩;have q0:=zaa (zab B1.o hb1) 0 _ rfl;have q1:=zaa (zab B1.o hb1) 1 _ rfl;have q2:=zad (zab B1.o hb1) 0;have q3:=zad (zab B1.o hb1) 1;have ltB:=zak B1.o;have hw1:=bT hw hb1;have HN1:=uH hn1;clear hn1;go_wp2;refine kT (v:=.tuple #[.agg #[.slice a1 n1 c1,iV (progS ws fuel p words).2.1],iV (progS ws fuel p words).2.2]) (by simp [results,Tryz.results251,go_sem,q0,q1]) rfl ?_;exact⟨⟨a1,n1,c1,rfl,(hi1.other hf1 ltB 0 _).other hf1 ltB 1 _,HN1.o,hc1',zal.mono hf1 hw.size⟩,(hw1.setCell (by simp) _).setCell (by simp) _⟩
theorem zgx {st:Stp} {r:List Stp} (h: (doS st ws f).2.2≠0):turnS (st::r) ws f=doS st ws f:=by
 show(if _ then _ else _)=_;rw [KK h]
theorem zjb {st:Stp} {r:List Stp} (h: (doS st ws f).2.2=0):turnS (st::r) ws f=turnS r (doS st ws f).1 (doS st ws f).2.1:=by
 show(if _ then _ else _)=_;rw [KJ (by simpa using h)]
theorem doS_len {st:Stp} (h: (doS st ws f).2.2=0): (doS st ws f).1.length=ws.length:=by
 cases st with
 |inl s=>
  simp only [doS] at h|-;unfold eraS at h|-
  split at h
  { rename_i h1;exact absurd h h1 }
  {
  rename_i h1
  split at h
  { simp at h }
  {
  rename_i h2
  rw [KJ h1,KJ h2,zbw] } }
 |inr q=>
  obtain ⟨p,words⟩:=q;simp only [doS] at h|-;unfold progS at h|-
  split at h
  { rename_i h1;exact absurd h h1 }
  {
  rename_i h1
  split at h
  { simp at h }
  {
  rename_i h2
  split at h
  { simp at h }
  {
  rename_i h3
  rw [KJ h1,KJ h2,KJ h3,zbw] } } }
end
section
attribute [local go_sem ↓] kM kO
def zb6:Nat->LI->LL×LI
 |0,l=>([],l)
 |k+1,l=>if longS l=0 then([],l) else((l.drop 1).take (longS l)::(zb6 k (l.drop (1+longS l))).1,(zb6 k (l.drop (1+longS l))).2)
def za7 (l:LI):LL×LI:=zb6 l.length l
def secL (ws:LI) (s:Nat):LI:=(ws.drop (s * 32+1)).take 31
theorem zci (k:Nat) (l:LI):zb6 (k+1) l=if longS l=0 then([],l) else((l.drop 1).take (longS l)::(zb6 k (l.drop (1+longS l))).1,(zb6 k (l.drop (1+longS l))).2):=rfl
theorem zoz (k:Nat) (l:LI) (h:l.length<=k):zb6 (k+1) l=zb6 k l:=by
 induction k generalizing l with
 |zero=>
  have:l= []:=kn (by omega);subst this;rfl
 |succ k ih=>
  rw [zci (k+1) l,zci k l]
  split
  { rfl }
  {
  rw [ih _ (by simp;omega)] }
theorem zev (k:Nat) (l:LI) (h:l.length<=k):zb6 k l=za7 l:=by
 obtain ⟨d,rfl⟩: ∃d,k=l.length+d:=⟨k - l.length,by omega⟩
 induction d with
 |zero=>rfl
 |succ d ih=>rw [<-Nat.add_assoc,zoz _ _ (by omega),ih (by omega)]
theorem zov (h:longS l=0):za7 l= ([],l):=by
 rw [<-zev (l.length+1) l (by omega),zci,KK h]
theorem zpq (h:longS l≠0):za7 l= ((l.drop 1).take (longS l)::(za7 (l.drop (1+longS l))).1,(za7 (l.drop (1+longS l))).2):=by
 rw [<-zev (l.length+1) l (by omega),zci,KJ h,zev _ _ (by simp)]
theorem zq8 (k:Nat) (l:LI): (zb6 k l).1.length<=l.length:=by
 induction k generalizing l with
 |zero=>simp [zb6]
 |succ k ih=>
  rw [zci]
  split
  { simp }
  {
  rename_i h
  have:=ih (l.drop (1+longS l));have h2:=zon (l:=l) (by omega)
  simp at this|-
  omega }
theorem zkg (l:LI): (za7 l).1.length<=l.length:=zq8 _ _
theorem zc6 {s:Nat} (h:s * 32+32<=ws.length): (secL ws s).length=31:=by simp [secL];omega
def zoh:Value->Nat
 | .slice _ n _=>n
 |_=>0
def ParseAns (w:World) (l:LI) (e:Ending) (w' :World):Prop:=
 (∃v a m cc,e=.returned (.tuple #[v,.slice a m cc])/\zbp w w' v (za7 l).1/\zag w' a (za7 l).2/\(za7 l).2.length=m/\m<=31/\okL (za7 l).2=true)/\bZ w w'
theorem zo9 (k:Nat) (w:World) (h:k<=4):
 (Instr.makeSlice 208 (iV 0) (iV k)).run Tryz.prog w=.ok (sV w.heap.size 0 k) (w.alloc (.cells (vals (List.replicate k 0)).toArray 3)):=by
 obtain ⟨i0,hi,hz0,hz1,hz2⟩:=info_parts zef;have:=run_make (P:=Tryz.prog) w 208 3 i0 (iV 0) Tryz.underlying208 hi hz0 .i64 .i64 0 k (by omega) (by omega) (by rw [hz2];omega) (by omega);rw [hz1,kp,Ko,zmh] at this;exact this
theorem zkz (a:oA) (n c:Nat): ∀u∈ [Value.slice a n c],u.oneCell' =true:=by
 intro u hu;simp at hu;subst hu;rfl
theorem znk (k:Nat) (w w0:World) (hb:w0.heap.size<=w.heap.size) (hk:k<=4): (w.alloc (.cells (vals (List.replicate k 0)).toArray 3)).ownsRow w0.heap.size 3 1 (sV w.heap.size 0 k) 0 []:=
 ⟨rfl,.inr ⟨w.heap.size,k,(vals (List.replicate k 0)).toArray,rfl,hb,kP _ _,KG _,by unfold maxLen;omega,by simp [vals],by simp⟩⟩
theorem zmb (a:oA) (n c:Nat) (ws:LI) (fuel:Int) (s:Nat) (w:World) (h:zag w a ws) (hn:ws.length=n) (hc:n<=c) (hm:n<=192) (hok:okL ws=true) (hs:s=0\/s=1) (h64:64<=n):
 Cq 108 #[.agg #[.slice a n c,iV fuel],iV s] w (ParseAns w (secL ws s)):=by
 obtain ⟨ii,hii,iz0,iz1,iz2⟩:=info_parts zef;obtain ⟨irr,hir,rz0,rz1,rz2⟩:=info_parts zgb;have hw:bZ w (w.alloc (.cells #[.slice a n c,iV fuel] 28)):=bA1;have i0:=h.bl hw;have hl31: (secL ws s).length=31:=zc6 (by omega);have hokl:okL (secL ws s)=true:=zi6 _ (zfq _ hok);obtain ⟨b,off,rfl⟩:=h.nonempty (by omega);have il:zag (w.alloc (.cells #[.slice (some ⟨b,off,none⟩) n c,iV fuel] 28)) (some ⟨b,off+(s * 32+1),none⟩) (secL ws s):=(i0.drop _).take _;have il0:zag w (some ⟨b,off+(s * 32+1),none⟩) (secL ws s):=(h.drop _).take _;obtain ⟨l,hl⟩: ∃l,l=secL ws s:=⟨_,rfl⟩;rw [<-hl] at il il0 hl31 hokl|-;have HP:Hd (∀r,longS r=0->za7 r= ([],r)):=fun _=>zov
 have HP2:Hd (∀r,longS r≠0->za7 r= ((r.drop 1).take (longS r)::(za7 (r.drop (1+longS r))).1,(za7 (r.drop (1+longS r))).2)):=fun _=>zpq
 have HRS:Hd (∀(rs:LL) {q:LL} {p:LI},za7 l= (rs++q,p)->rs.length<=1000):=fun rs q p h=>by
  have:=zkg l;rw [h,kj,hl31] at this;omega
 clear h hn hl hok i0;have H31:=uH hl31;clear hl31;have hc64: (64:Int)<=(c:Int):=by omega
 rcases hs with rfl|rfl
 all_goals
  simp only [Nat.zero_mul,Nat.one_mul,Kl,Nat.reduceAdd] at il il0;go_enter Tryz.func108,Tryz.ntmps108;go_wp2_with fail;refine(zjo _ 31 _ l _ il H31.o (by omega) hokl).mono ?_;rintro e w1 ⟨rfl,rfl⟩;go_wp2_with fail
  go_loopw [4,5,7] (fun v4 v5 v7 wr=>∃(rs:LL) (rest:LI) (a:oA) (m cc:Nat),v5=.slice a m cc/\v7=iV (longS rest)/\zbp w wr v4 rs/\zag w a rest/\Hd (rest.length=m)/\m<=31/\m<=cc/\cc<=c/\okL rest=true/\Hd (za7 l= (rs++(za7 rest).1,(za7 rest).2))) (fun _ v _ _=>zoh v)
  case atStart=>exact⟨[],l,_,31,_,rfl,rfl,zpg hw,il0,H31.o,by omega,by omega,by omega,hokl,by show _=_;simp⟩
  case round=>
   obtain ⟨rs,rest,a,m,cc,rfl,rfl,hmk,hi,hlen,hm31,hcc,hcc2,hokr,hp⟩:=hrel;obtain ⟨k,hk⟩: ∃k,k=longS rest:=⟨_,rfl⟩;rw [<-hk]
   by_cases hk0:k=0
   {
   have hx:=HP.o rest (by omega);have hp' :Hd (za7 l= (rs,rest)):=by show _=_;rw [hp.o,hx];simp
   subst hk0;have HM:=uH hmk;have HI:=uH hi;have HO:=uH hokr;clear hmk hi hokr hx hp hk;go_wp2;go_ret2;refine⟨⟨_,_,m,cc,rfl, ?_, ?_, ?_,hm31, ?_⟩,HM.o.bl⟩
   { rw [hp'.o];exact HM.o }
   { rw [hp'.o];exact HI.o.bl HM.o.bl }
   { rw [hp'.o];exact hlen.o }
   { rw [hp'.o];exact HO.o } }
   {
   have hkl:k<m:=by have:=zon (l:=rest) (by omega);rw [hlen.o] at this;omega
   have hk4:k<=4:=by have:=longS_le rest;omega
   have hmk1:=fun W=>zo9 k W hk4
   obtain ⟨b',off',rfl⟩:=hi.nonempty (by rw [hlen.o];omega);obtain ⟨r,hr⟩: ∃r,r= (rest.drop 1).take k:=⟨_,rfl⟩;have hrl:r.length=k:=by rw [hr];simp [hlen.o];omega
   have ir:zag wr (some ⟨b',off' +1,none⟩) r:=by rw [hr];exact((hi.drop 1).take k).bl hmk.bl
   have i1: (k:Int)< (m:Int):=by omega
   have i2: (1:Int)+(k:Int)<=(cc:Int):=by omega
   have i3: (1:Int)<=1+(k:Int):=by omega
   have i4: ¬cc=1:=by omega
   have i5: ¬k=0:=hk0;have i6: (0:Int)< (k:Int):=by omega
   have i7: (0:Int)<=(k:Int):=by omega
   have i8:IntKind.i64.wrap (1+(k:Int))=1+(k:Int):=by rw [kD];omega
   have i9: (0:Int)<=1+(k:Int):=by omega
   have j1: (1+(k:Int)).toNat=1+k:=by omega
   have j2:1+k - 1=k:=by omega
   have j3: (1:Int)<=(cc:Int):=by omega
   have j4:1<cc:=by omega
   obtain ⟨vs,hvo,hvr⟩:=hmk.own;have HV:=uH hvr;have HM:=uH hmk;have HI:=uH hi;have HR:=uH hrl;have HK:=uH hk;have hsz:=hmk.bl.size;have hrs31:rs.length<=1000:=HRS.o rs hp.o;have hrow0: (wr.alloc (.cells (vals (List.replicate k 0)).toArray 3)).ownsRow wr.heap.size 3 1 (sV wr.heap.size 0 k) 0 []:=znk k wr wr (kQ _) hk4;have hnews0: ∀j u,(vals r)[j]?=some u->(wr.alloc (.cells (vals (List.replicate k 0)).toArray 3)).drew.cell? ((⟨b',off' +1,none⟩:Addr).add j)=some u:=zl8 ((ir.alloc _).bl (kS _ _).drew);clear hmk hi hk0 hk hvr hrl;go_wp2_with fail
   go_region_held3 (fun _=>True) (trivial)
    ((first
     | (refine zf4 _ (by rfl) _ _ 208 26 (by rfl) wr.heap.size 3 3 ii _ 1 8 Tryz.underlying208 Tryz.underlying26 hii iz0 iz1 iz2 rfl (by omega) (sV wr.heap.size 0 k) 0 [] (by rfl) hrow0.drew ⟨b',off' +1,none⟩ k (cc - 1) (vals r) (by rfl) (by rw [za3,HR.o,Ko]) hnews0 (zbu r) (by omega) (by unfold maxLen;omega) (by omega) (by simp) (wr.heap.size+1) (by simp) ?_;intro g cap w1 hown1 hgrow1 hat1 hlt1;have hB1:bZ wr w1:=(((kS _ wr).alloc (kQ _) _).drew.grown hgrow1 (by simp) (fun k hk=>by simp [Value.ownBlock] at hk;omega));rw [Kl] at hown1|-;have q1:=zjq (ws:=r) hown1 HR.o;have hB2:bZ wr (w1.alloc (.cells #[sV g k cap] 208)):=hB1.alloc hB1.size _)
     | (refine step_append_lies _ (by rfl) _ _ 75 (by rfl) w.heap.size 208 irr _ 1 24 Tryz.underlying75 hir rz0 rz1 rz2 rfl (by omega) u4 rs.length vs (by rfl) (zba hvo hB2) ⟨w1.heap.size,0,none⟩ 1 1 [sV g k cap] (by rfl) rfl (zg5 _ _ _) (zkz _ _ _) (by omega) (by unfold maxLen;omega) (by omega) (by have:=hB2.size;omega) (w1.heap.size+1) (by simp) ?_;intro g2 cap2 w2 hown2 hgrow2 hat2 hlt2)))
   have hM2:zbp w w2 (sV g2 (rs.length+1) cap2) (rs++ [r]):=
    zbp.step HM.o.bl hvo HV.o hB2 (zos q1.1 (bA1)) (by rw [HR.o];exact q1.2.2.1) q1.2.2.2 (by rw [HR.o];exact hown2) hgrow2
   have HM2:=uH hM2;clear hM2 hown1 hown2 hgrow1 hgrow2 hB1 hB2 q1 hvo hrow0 hnews0 hmk1 HV;have hm2:m - (1+k)<=31:=by omega
   have HD:Hd ((rest.drop (1+k)).length=m - (1+k)):=by show _=_;rw [List.length_drop,hlen.o]
   have HO2:Hd (okL (rest.drop (1+k))=true):=zfq _ hokr;have HP3:Hd (za7 l= ((rs++ [r])++(za7 (rest.drop (1+k))).1,(za7 (rest.drop (1+k))).2)):=by
    show _=_
    rw [hp.o,HP2.o rest (by rw [<-HK.o];exact i5),<-HK.o,hr]
    simp
   have HI1:Hd (zag w (some ⟨b',off' +(1+k),none⟩) (rest.drop (1+k))):=HI.o.drop (1+k);have HI2:Hd (1+k=cc->zag w (some ⟨b',off',none⟩) (rest.drop (1+k))):=fun e=>.inl (kn (by rw [HD.o];omega))
   clear hr hokr hp ir;go_wp2_with fail
   all_goals
    obtain ⟨rest',hrest'⟩: ∃q,q=rest.drop (1+k):=⟨_,rfl⟩;rw [<-hrest'] at HD HO2 HP3 HI1 HI2;clear hrest';refine(zjo _ (m - (1+k)) _ rest' _ (by first|exact HI1.o.bl HM2.o.bl|exact(HI2.o (by omega)).bl HM2.o.bl) HD.o (by omega) HO2.o).mono ?_;rintro e w3 ⟨rfl,rfl⟩;go_wp2
    go_roundw
    case rel=>exact⟨rs++ [r],rest',_,m - (1+k),_,rfl,rfl,HM2.o,by first|exact HI1.o|exact HI2.o (by omega),HD.o,hm2,by omega,by omega,HO2.o,HP3.o⟩
    case measure=>simp [zoh];omega }
end
end Go.Proofs.YthmekfcgdfckaaaGreatDoor
