/- Facts. -/
import Derived.Test.YthmekfcgdfckaaaGreatDoorWz17
import Derived.Test.YthmekfcgdfckaaaGreatDoorWz18
set_option maxRecDepth 1000000
set_option maxHeartbeats 0
namespace Go.Proofs.YthmekfcgdfckaaaGreatDoor
open Go.RowKit
variable {v:Vh} {ws r w w0:LI} {g:Gt} {m:Ms} {ss:LB} {l net:List Ms} {u:Un} {cs:List Cp} {k:Nat}
theorem zui {x:Hp} {P:Vh->Prop} (h: (doS' v x).2=0)
 (a1:vhE v=0->x.k=1->∀B,gBeg v.ss v.sg v.g x.o v.now=B->B.2.2=0->P (if B.2.1=0 then⟨v.ss,v.sg,B.1,v.us,v.cs,v.net,v.now⟩ else⟨v.ss,v.sg,B.1,v.us,v.cs.take (B.2.1 - 1).toNat++ [⟨B.2.1,x.o.v,x.o.u,x.o.ts,x.o.imgs⟩],v.net,v.now⟩))
 (a2:vhE v=0->x.k=2->isU v x.u=true->(lastC v).2=0->∀D,gDue v.g (lastC v).1.n (lastC v).1.ts (lastC v).1.ims x.u=D->D.2=0->P ⟨v.ss,v.sg,v.g,v.us,v.cs,sendS v.net D.1,v.now⟩)
 (a9:vhE v=0->x.k=9->isU v x.u=true->(v.us.getD x.u.toNat un9).up=true->inB (stOf (v.us.getD x.u.toNat un9).ws).rdy 1 8=true->P ⟨v.ss,v.sg,v.g,v.us,v.cs,sendS v.net [⟨7,x.u,(stOf (v.us.getD x.u.toNat un9).ws).rdy,0,0, [],false⟩],v.now⟩)
 (a3:vhE v=0->x.k=3->isM v x.j=true->∀m,v.net.getD x.j.toNat ms9=m->(m.k=3\/m.k=6\/m.k=7)->∀H,gHear v.g m=H->H.2.2=0->P ⟨v.ss,v.sg,H.1,v.us,v.cs,sendS (v.net.eraseIdx x.j.toNat) H.2.1,v.now⟩)
 (a0:vhE v=0->x.k=3->isM v x.j=true->∀m,v.net.getD x.j.toNat ms9=m->¬(m.k=3\/m.k=6\/m.k=7)->∀H,hearA v.ss (v.us.getD m.u.toNat un9) m=H->H.2.2=0->P ⟨v.ss,v.sg,v.g,v.us.set m.u.toNat H.1,v.cs,sendS (v.net.eraseIdx x.j.toNat) H.2.1,v.now⟩)
 (a4:vhE v=0->x.k=4->isM v x.j=true->P (takeM v x.j))
 (a5:vhE v=0->x.k=5->isM v x.j=true->v.net.length≠24->P ⟨v.ss,v.sg,v.g,v.us,v.cs,v.net++ [v.net.getD x.j.toNat ms9],v.now⟩)
 (a6:vhE v=0->x.k=6->x.u= -1->inB x.j 0 100000=true->P ⟨v.ss,v.sg,⟨v.g.ws,x.j,v.g.up,v.g.t,v.g.vo,v.g.di⟩,v.us,v.cs,v.net,v.now⟩)
 (b6:vhE v=0->x.k=6->isU v x.u=true->inB x.j 0 100000=true->P ⟨v.ss,v.sg,v.g,v.us.set x.u.toNat (cutU (v.us.getD x.u.toNat un9) x.j),v.cs,v.net,v.now⟩)
 (a7:vhE v=0->x.k=7->x.u= -1->P ⟨v.ss,v.sg,⟨v.g.ws,-1,true,v.g.t,zbj v.g.vo,zbj v.g.di⟩,v.us,v.cs,v.net,v.now⟩)
 (b7:vhE v=0->x.k=7->isU v x.u=true->unE (v.us.getD x.u.toNat un9)=0->P ⟨v.ss,v.sg,v.g,v.us.set x.u.toNat (btd (v.us.getD x.u.toNat un9)),v.cs,v.net,v.now⟩)
 (a8:vhE v=0->x.k=8->∀H,gvUp v.g=H->H.2=0->P ⟨v.ss,v.sg,H.1,v.us,v.cs,v.net,v.now⟩)
 (a10:vhE v=0->x.k=10->v.now≠100000->P ⟨v.ss,v.sg,v.g,v.us,v.cs,v.net,v.now+1⟩):P (doS' v x).1:=by
 have hv:vhE v=0:=by
  apply ky
  intro e;rw [do_e1 e] at h;exact e h
 have h2: (hapS v x).2=0:=by
  apply ky
  intro e;rw [do_e2 hv e] at h;exact e h
 rw [do_0 hv h2];clear h;obtain ⟨k,u,j,o⟩:=x;unfold hapS at h2|-;dsimp only at *
 by_cases k1:k=1
 {
 rw [KK k1] at h2|-;unfold propS at h2|-;have:=a1 hv k1 _ rfl;generalize gBeg v.ss v.sg v.g o v.now=B at *
 by_cases e:B.2.2=0
 {
 rw [KJ (by simpa using e)];have:=this e
 split
 { rename_i e2;rw [KK e2] at this;exact this }
 { rename_i e2;rw [KJ e2] at this;exact this } }
 { rw [KK e] at h2;exact absurd h2 e } }
 rw [KJ k1] at h2|-
 by_cases k2:k=2
 {
 rw [KK k2] at h2|-;unfold pokeS at h2|-;cases e1:isU v u
 { rw [KK e1] at h2;cases h2 }
 rw [KJ (by first|decide| (rw [e1];decide))] at h2|-
 by_cases e2: (lastC v).2=0
 {
 rw [KJ (by simpa using e2)] at h2|-;have:=a2 hv k2 e1 e2 _ rfl;generalize gDue v.g (lastC v).1.n (lastC v).1.ts (lastC v).1.ims u=D at *
 by_cases e:D.2=0
 { rw [KJ (by simpa using e)];exact this e }
 { rw [KK e] at h2;exact absurd h2 e } }
 { rw [KK e2] at h2;exact absurd h2 e2 } }
 rw [KJ k2] at h2|-
 by_cases k9:k=9
 {
 rw [KK k9] at h2|-;unfold qryS at h2|-;cases e1:isU v u
 { rw [KK e1] at h2;cases h2 }
 rw [KJ (by first|decide| (rw [e1];decide))] at h2|-;cases e2: (v.us.getD u.toNat un9).up
 { rw [KK e2] at h2;cases h2 }
 rw [KJ (by first|decide| (rw [e2];decide))] at h2|-;cases e3:inB (stOf (v.us.getD u.toNat un9).ws).rdy 1 8
 { rw [KK e3] at h2;cases h2 }
 rw [KJ (by first|decide| (rw [e3];decide))];exact a9 hv k9 e1 e2 e3 }
 rw [KJ k9] at h2|-
 by_cases k3:k=3
 {
 rw [KK k3] at h2|-;unfold arrS at h2|-;cases e1:isM v j
 { rw [KK e1] at h2;cases h2 }
 rw [KJ (by first|decide| (rw [e1];decide))] at h2|-;have b3:=a3 hv k3 e1 _ rfl;have b0:=a0 hv k3 e1 _ rfl;generalize v.net.getD j.toNat ms9=m at *;unfold comeS at h2|-
 by_cases e2:m.k=3\/m.k=6\/m.k=7
 {
 rw [KK e2] at h2|-;have:=b3 e2 _ rfl;unfold takeM at h2|-;dsimp only at h2|-;generalize gHear v.g m=H at *
 by_cases e:H.2.2=0
 { rw [KJ (by simpa using e)];exact this e }
 { rw [KK e] at h2;exact absurd h2 e } }
 {
 rw [KJ e2] at h2|-;have:=b0 e2 _ rfl;unfold takeM at h2|-;dsimp only at h2|-;generalize hearA v.ss (v.us.getD m.u.toNat un9) m=H at *
 by_cases e:H.2.2=0
 { rw [KJ (by simpa using e)];exact this e }
 { rw [KK e] at h2;exact absurd h2 e } } }
 rw [KJ k3] at h2|-
 by_cases k4:k=4
 {
 rw [KK k4] at h2|-;unfold losS at h2|-;cases e1:isM v j
 { rw [KK e1] at h2;cases h2 }
 rw [KJ (by first|decide| (rw [e1];decide))];exact a4 hv k4 e1 }
 rw [KJ k4] at h2|-
 by_cases k5:k=5
 {
 rw [KK k5] at h2|-;unfold dblS at h2|-;cases e1:isM v j
 { rw [KK e1] at h2;cases h2 }
 rw [KJ (by first|decide| (rw [e1];decide))] at h2|-
 by_cases e2:v.net.length=24
 { rw [KK e2] at h2;cases h2 }
 rw [KJ e2];exact a5 hv k5 e1 e2 }
 rw [KJ k5] at h2|-
 by_cases k6:k=6
 {
 rw [KK k6] at h2|-;unfold cutS at h2|-;cases e1: (decide (u= -1)||isU v u)
 { rw [KK e1] at h2;cases h2 }
 rw [KJ (by first|decide| (rw [e1];decide))] at h2|-;cases e2:inB j 0 100000
 { rw [KK e2] at h2;cases h2 }
 rw [KJ (by first|decide| (rw [e2];decide))]
 by_cases e3:u= -1
 { rw [KK e3];exact a6 hv k6 e3 e2 }
 { rw [KJ e3];exact b6 hv k6 (by simpa [e3] using e1) e2 } }
 rw [KJ k6] at h2|-
 by_cases k7:k=7
 {
 rw [KK k7] at h2|-;unfold bootV at h2|-;cases e1: (decide (u= -1)||isU v u)
 { rw [KK e1] at h2;cases h2 }
 rw [KJ (by first|decide| (rw [e1];decide))] at h2|-
 by_cases e3:u= -1
 {
 rw [KK e3] at h2|-;have e4:gtE v.g=0:=(zec hv).gt;have:zdb v.g= (⟨v.g.ws,-1,true,v.g.t,zbj v.g.vo,zbj v.g.di⟩,0):=by unfold zdb;rw [KJ (by simpa using e4)]
 rw [this];exact a7 hv k7 e3 }
 {
 rw [KJ e3] at h2|-;have e4:unE (v.us.getD u.toNat un9)=0:=by
  apply ky
  intro e;rw [bootS_e e] at h2;exact e h2
 rw [zxq e4];exact b7 hv k7 (by simpa [e3] using e1) e4 } }
 rw [KJ k7] at h2|-
 by_cases k8:k=8
 {
 rw [KK k8] at h2|-;unfold gupS at h2|-;have:=a8 hv k8 _ rfl;generalize gvUp v.g=H at *
 by_cases e:H.2=0
 { rw [KJ (by simpa using e)];exact this e }
 { rw [KK e] at h2;exact absurd h2 e } }
 rw [KJ k8] at h2|-
 by_cases k10:k=10
 {
 rw [KK k10] at h2|-;unfold tckS at h2|-
 by_cases e:v.now=100000
 { rw [KK e] at h2;cases h2 }
 rw [KJ e];exact a10 hv k10 e }
 rw [KJ k10] at h2;cases h2
def RK (ws:LI):Prop:=∀r∈logR ws,2<=r.length
theorem zv6 (k:Nat): ∀l:LI,(∀r∈(zb6 k l).1,2<=r.length)->3 *(zb6 k l).1.length<=l.length:=by
 induction k with
 |zero=>intro l _;simp [zb6]
 |succ k ih=>
  intro l h;rw [zci] at h|-
  split
  { simp }
  {
  rename_i e
  rw [KJ e] at h;have h0:=h _ (kG ..);have h1:=ih (l.drop (1+longS l)) fun r hr=>h r (kI _ hr)
  simp at h0 h1|-
  omega }
theorem RK.few (h:RK ws) (hl:64<=ws.length): (logR ws).length<=10:=by
 have:=zv6 _ _ h;have e:=zc6 (ws:=ws) (s:=secN ws) (by have:=zgk ws;omega);have e2:logR ws= (zb6 (secL ws (secN ws)).length (secL ws (secN ws))).1:=rfl;rw [<-e2] at this;omega
theorem kepG_two (s:Gs): ∀r∈kepG s,2<=r.length:=by
 unfold kepG
 split
 { simp }
 {
 intro r hr;simp only [kt,KS] at hr
 rcases hr with rfl|hr|hr|hr
 { simp }
 all_goals split at hr<;>simp at hr;subst hr;simp }
structure Lg (ws us:LI):Prop where
 rk:RK ws->RK us
 gen:genN us<=genN ws+1
theorem Lg.refl (ws:LI):Lg ws ws:=⟨id,by omega⟩
theorem app_gen {f:Int} {keep:LL} (h:zcp ws f r keep=0):genN (appS ws f r keep).1<=genN ws+1:=by
 rw [ztp h];have hle:=zr7 f (appC ws r keep).length
 show genN (zro ((appC ws r keep).take (cnt f (appC ws r keep).length)) ws)<=_
 by_cases c:cnt f (appC ws r keep).length< (appC ws r keep).length
 { rw [(zvq h _ c).2];omega }
 {
 rw [kh (by omega)];exact(app_new h).2.2.2 }
theorem zti {s:Gs} (hg:gtE g=0) (hr:2<=r.length):Lg g.ws (noteG g s r).1.ws:=by
 obtain ⟨hk,-⟩:=zrp hg;unfold noteG
 by_cases e:zcp g.ws g.fu r (kepG s)=0
 {
 have b:=zto e;have b2:=app_gen e;generalize appS g.ws g.fu r (kepG s)=R at *;have hR:RK g.ws->RK R.1:=by
  intro h q hq
  rcases b.2.2.2 with ⟨-,g4|g4⟩| ⟨-,g4⟩<;>rw [g4] at hq
  {
  rcases KS.1 hq with hq|hq
  { exact h q hq }
  { simp at hq;rw [hq];exact hr } }
  {
  rcases KS.1 hq with hq|hq
  { exact kepG_two s q hq }
  { simp at hq;rw [hq];exact hr } }
  { exact h q hq }
 unfold dnG
 split
 { exact⟨hR,b2⟩ }
 {
 split
 { exact⟨hR,b2⟩ }
 { exact .refl _ } } }
 {
 rw [zsv e];unfold dnG;rw [KJ (by exact zr3 _ _ _ _ hk),KJ (by exact e)];exact .refl _ }
theorem hear_lg (h: (gHear g m).2.2=0):Lg g.ws (gHear g m).1.ws:=by
 have z:=(zsc h).1;have hg:=(ztb z).1;unfold gHear;rw [KJ (by simpa using z)]
 split
 {
 show Lg g.ws (ghK g (gOf g.ws) m).1.ws
 unfold ghK
 split
 {
 dsimp only
 split
 {
 unfold voteG
 split
 { exact zti (g:=withV g m.u) (zsl hg m.u) (by simp) }
 { exact .refl _ } }
 { exact .refl _ } }
 {
 split
 {
 dsimp only
 split
 {
 unfold doneG
 split
 { exact zti (g:=withD g m.u) (zsn hg m.u) (by simp) }
 { exact .refl _ } }
 { exact .refl _ } }
 { split<;>exact .refl _ } } }
 {
 exact .refl _ }
theorem upE_ok (h:upE g=0):gtE g=0/\g.up=true:=by
 unfold upE at h
 split at h
 { rename_i h1;exact absurd h h1 }
 {
 rename_i h1
 split at h
 { rename_i h2;exact⟨by simpa using h1,h2⟩ }
 { cases h } }
structure Beg (ss:LB) (l:List S2) (g:Gt) (o:Of) (now:Int) (B:Gt×Int×Int):Prop where
 ok:gtE g=0
 up:g.up=true
 fr: (gOf g.ws).n=0\/(gOf g.ws).en=true
 n8: (gOf g.ws).n≠8
 tk:takeE ss l g.t o now g.vo.length=0
 okb:gtE B.1=0
 nvo:B.1.vo.length=g.vo.length
 lg:Lg g.ws B.1.ws
 or' : (B.2.1=0/\B.1.t=g.t/\gOf B.1.ws=gOf g.ws)\/(B.2.1= (gOf g.ws).n+1/\B.1.t= ⟨lastR g.t.r o.roots,o.v⟩/\gOf B.1.ws= ⟨(gOf g.ws).n+1,o.v,false,false,false⟩/\B.1.vo=zbj g.vo/\B.1.di=zbj g.di)
theorem ztd {l:List S2} {o:Of} {now:Int} (h: (gBeg ss l g o now).2.2=0):Beg ss l g o now (gBeg ss l g o now):=by
 by_cases e1:upE g=0
 {
 obtain ⟨hg,hu⟩:=upE_ok e1
 by_cases e2: (gOf g.ws).n=0\/(gOf g.ws).en=true
 {
 by_cases e3: (gOf g.ws).n=8
 { rw [gBeg_3 e1 e2 e3] at h;cases h }
 {
 by_cases e4:takeE ss l g.t o now g.vo.length=0
 {
 rw [zyp e1 e2 e3 e4];have st:=zrw [1,(gOf g.ws).n+1,o.v] hg;have lg:=zti (s:=gOf g.ws) (r:= [1,(gOf g.ws).n+1,o.v]) hg (by simp);have hn:=(zrr g.ws).n;obtain ⟨t1,-,-,t4⟩:=zsh e4;have hv:=(zty t4).1;generalize noteG g (gOf g.ws) [1,(gOf g.ws).n+1,o.v]=N at *;unfold begD
 split
 {
 rename_i hN
 obtain ⟨y1,y2,y3,y4⟩:=st.yes hN;obtain ⟨c1,c2,c3,c4⟩:=zrp st.ok;have hr:relE o.v o.u o.ts=0:=by
  obtain ⟨-,-,t3,-⟩:=zsh e4;unfold crE at t3
  split at t3
  { assumption }
  { rename_i q;exact absurd t3 q }
 refine⟨hg,hu,e2,e3,e4,gtE_0 c1 (by show 1<=(zbj N.1.vo).length/\(zbj N.1.vo).length<=4;rw [zru];exact c2) (by show(zbj N.1.di).length= (zbj N.1.vo).length;rw [zru,zru];exact c3) ?_,by show(zbj N.1.vo).length=_;rw [zru];exact st.nvo,lg,.inr ⟨rfl,rfl, ?_,by rw [y3],by rw [y4]⟩⟩
 {
 refine last_ok (ver:=o.v) e4 ⟨?_, ?_⟩
 { have:=(zk4 hr).1;omega }
 { have:=(zk4 hr).1;omega } }
 { rw [y1,gN_beg _ ⟨by omega,by omega⟩] } }
 {
 rename_i hN
 have y:=st.no (by simpa using hN);exact⟨hg,hu,e2,e3,e4,st.ok,st.nvo,lg,.inl ⟨rfl,st.t,y⟩⟩ } }
 { rw [gBeg_4 e1 e2 e3 e4] at h;exact absurd h e4 } } }
 {
 have f: (gOf g.ws).n≠0/\(gOf g.ws).en=false:=⟨fun e=>e2 (.inl e),by cases z: (gOf g.ws).en;rfl;exact absurd (.inr z) e2⟩;rw [gBeg_2 e1 f.1 f.2] at h;cases h } }
 {
 rw [gBeg_1 e1] at h;exact absurd h e1 }
structure GSt (v:Vh) (x:Hp) (y:Vh):Prop where
 ok0:gtE v.g=0
 ok:gtE y.g=0
 ss:y.ss=v.ss
 sg:y.sg=v.sg
 nvo:y.g.vo.length=v.g.vo.length
 lg:Lg v.g.ws y.g.ws
 or' : ((gOf y.g.ws).n= (gOf v.g.ws).n/\y.g.t=v.g.t)\/(x.k=1/\Beg v.ss v.sg v.g x.o v.now (y.g,(gOf v.g.ws).n+1,0)/\y.g.t= ⟨lastR v.g.t.r x.o.roots,x.o.v⟩/\gOf y.g.ws= ⟨(gOf v.g.ws).n+1,x.o.v,false,false,false⟩)
theorem zun {x:Hp} (h: (doS' v x).2=0):GSt v x (doS' v x).1:=by
 have same: ∀y:Vh,vhE v=0->y.g=v.g->y.ss=v.ss->y.sg=v.sg->GSt v x y:=fun y hv h1 h2 h3=>⟨(zec hv).gt,by rw [h1];exact(zec hv).gt,h2,h3,by rw [h1],by rw [h1];exact .refl _,.inl ⟨by rw [h1],by rw [h1]⟩⟩
 refine zui h ?_ ?_ ?_ ?_ ?_ ?_ ?_ ?_ ?_ ?_ ?_ ?_ ?_
 {
 intro hv k1 B hB h0;have b:=ztd (ss:=v.ss) (l:=v.sg) (g:=v.g) (o:=x.o) (now:=v.now) (by rw [hB];exact h0);rw [hB] at b;have hn:=(zrr v.g.ws).n
 split
 {
 rename_i e
 rcases b.or' with ⟨-,c2,c3⟩| ⟨c1,-⟩
 { exact⟨b.ok,b.okb,rfl,rfl,b.nvo,b.lg,.inl ⟨by show(gOf B.1.ws).n=_;rw [c3],c2⟩⟩ }
 { omega } }
 {
 rename_i e
 rcases b.or' with ⟨c1,-⟩| ⟨c1,c2,c3,-⟩
 { exact absurd c1 e }
 {
 obtain ⟨B1,B2,B3⟩:=B;dsimp only at c1 c2 c3 h0;subst c1 h0;exact⟨b.ok,b.okb,rfl,rfl,b.nvo,b.lg,.inr ⟨k1,b,c2,c3⟩⟩ } } }
 { intro hv _ _ _ D _ _;exact same _ hv rfl rfl rfl }
 { intro hv _ _ _ _;exact same _ hv rfl rfl rfl }
 {
 intro hv _ _ m _ _ H hH h0;obtain ⟨-,hh⟩:=zsc (g:=v.g) (m:=m) (by rw [hH];exact h0);have lg:=hear_lg (g:=v.g) (m:=m) (by rw [hH];exact h0);rw [hH] at hh lg;exact⟨(zec hv).gt,hh.onc.ok,rfl,rfl,hh.onc.nvo,lg,.inl ⟨hh.onc.n,hh.onc.tr⟩⟩ }
 { intro hv _ _ m _ _ H _ _;exact same _ hv rfl rfl rfl }
 { intro hv _ _;exact same _ hv rfl rfl rfl }
 { intro hv _ _ _;exact same _ hv rfl rfl rfl }
 {
 intro hv _ _ hj;obtain ⟨c1,c2,c3,c4⟩:=zrp (zec hv).gt;have hj2:0<=x.j/\x.j<=100000:=by unfold inB at hj;simpa using hj
 exact⟨(zec hv).gt,gtE_0 (zsr c1 (show(-1:Int)<=x.j by omega) hj2.2) c2 c3 c4,rfl,rfl,rfl,.refl _,.inl ⟨rfl,rfl⟩⟩ }
 { intro hv _ _ _;exact same _ hv rfl rfl rfl }
 { intro hv _ _;exact⟨(zec hv).gt,boot_ok (zec hv).gt,rfl,rfl,zru _,.refl _,.inl ⟨rfl,rfl⟩⟩ }
 { intro hv _ _ _;exact same _ hv rfl rfl rfl }
 {
 intro hv _ H hH h0;have o:=zu4 (g:=v.g) (by rw [hH];exact h0);have e:=zsj (g:=v.g) (by rw [hH];exact h0);have lg:Lg v.g.ws (gvUp v.g).1.ws:=by rw [e.2.2.2];exact zti e.1 (by simp)
 rw [hH] at o lg;exact⟨(zec hv).gt,o.1.ok,rfl,rfl,o.1.nvo,lg,.inl ⟨o.1.n,o.1.tr⟩⟩ }
 {
 intro hv _ _;exact same _ hv rfl rfl rfl }
def Bhd (u x:Un):Prop:=∀i:Nat,64<=i->x.ws.getD i 0=u.ws.getD i 0
def FarB (t:Int) (u x:Un):Prop:=∀i:Nat,64<=i->((i:Int)<64+64 * t\/128+64 * t<=(i:Int))->x.ws.getD i 0=u.ws.getD i 0
theorem Bhd.far {t:Int} {x:Un} (h:Bhd u x):FarB t u x:=fun i hi _=>h i hi
structure UW (ss:LB) (u:Un) (m:Ms) (x:Un) (l:List Ms):Prop where
 ok:unE x=0
 gen:genN x.ws<=genN u.ws+1
 far:FarB (oth (stOf u.ws)) u x
 st: (stOf x.ws=stOf u.ws/\((stOf u.ws).rdy≠0->Bhd u x))\/
  (m.k=2/\(stOf u.ws).rdy=0/\(stOf u.ws).by' <m.n/\stOf x.ws= ⟨(stOf u.ws).slot,(stOf u.ws).by',m.n⟩/\∃words,imgS x.ws (-1) (oth (stOf u.ws))= (words,m.im,0)/\inE ss words=0/\inN ss words=m.im/\m.im≠0)\/
  (m.k=4/\(stOf u.ws).rdy=m.n/\(stOf u.ws).by' ≠m.n/\stOf x.ws= ⟨oth (stOf u.ws),m.n,0⟩/\Bhd u x)\/
  (m.k=5/\(stOf u.ws).rdy=m.n/\(stOf u.ws).by' <m.n/\stOf x.ws= ⟨(stOf u.ws).slot,(stOf u.ws).by',0⟩/\Bhd u x)
 an:l= []\/(l= [voteM m true]/\m.k=2/\(stOf x.ws).rdy=m.n/\(stOf x.ws).by' <m.n)\/(l= [voteM m false]/\m.k=2)\/
  (l= [doneM m]/\((m.k=2/\m.n<=(stOf x.ws).by')\/(m.k=4/\(stOf x.ws).by' =m.n)\/(m.k=5/\(stOf x.ws).by' <m.n/\(stOf x.ws).rdy≠m.n)))
theorem UW.same (hu:unE u=0) (an:l= []\/(l= [voteM m true]/\m.k=2/\(stOf u.ws).rdy=m.n/\(stOf u.ws).by' <m.n)\/(l= [voteM m false]/\m.k=2)\/
 (l= [doneM m]/\((m.k=2/\m.n<=(stOf u.ws).by')\/(m.k=4/\(stOf u.ws).by' =m.n)\/(m.k=5/\(stOf u.ws).by' <m.n/\(stOf u.ws).rdy≠m.n)))):UW ss u m u l:=
 ⟨hu,by omega,fun _ _ _=>rfl,.inl ⟨rfl,fun _ _ _=>rfl⟩,an⟩
theorem zug (hu:unE u=0):genN (doV u (.not (stOf u.ws) r)).1.ws<=genN u.ws+1:=by
 have hk:=(zjw hu).1;unfold doV
 show genN (doU u (appS u.ws u.fu r (keepU (stOf u.ws)))).1.ws<=_
 by_cases e:zcp u.ws u.fu r (keepU (stOf u.ws))=0
 {
 have b:=app_gen e;generalize appS u.ws u.fu r (keepU (stOf u.ws))=R at *;unfold doU
 split
 { exact b }
 {
 split
 { exact b }
 { show genN u.ws<=_;omega } } }
 {
 rw [zsv e,doU_e (by exact zr3 _ _ _ _ hk) (by exact e)]
 show genN u.ws<=_
 omega }
theorem zuj {x:Un} {t:Int} (hu:unE u=0) (hx:unE x=0) (ht:0<=t) (h:Far t u.ws x.ws):genN x.ws=genN u.ws/\stOf x.ws=stOf u.ws/\FarB t u x:=by
 have hl:x.ws.length=u.ws.length:=by rw [(zjw hu).2.1,(zjw hx).2.1]
 exact⟨(zus hl fun i hi=>h i (.inl (by omega))).2.1,zxc ht h hl,fun i _ a=>h i a⟩
theorem piece_far (hu:unE u=0) (hm:msE m=0):unE (zda u (stOf u.ws) m)=0/\Far (oth (stOf u.ws)) u.ws (zda u (stOf u.ws) m).ws/\((stOf u.ws).rdy≠0->zda u (stOf u.ws) m=u):=by
 refine⟨(zvy hu hm).ok, ?_,fun h=>by unfold zda;rw [KK (.inl h)]⟩;have ho:=(oth_0 hu).1;unfold zda
 split
 { exact .refl _ _ }
 {
 have q:=msE_0 hm;have hA:Far (oth (stOf u.ws)) u.ws (zb8 u (stOf u.ws) m).1.ws/\unE (zb8 u (stOf u.ws) m).1=0:=by
  unfold zb8;have c:=slt_clr (t:=oth (stOf u.ws)) hu ho
  split
  {
  split
  { exact⟨c.far,((c.keeps hu).mind ⟨by omega,by omega⟩ (by decide)).ok⟩ }
  { exact⟨c.far,c.ok⟩ } }
  { exact⟨.refl _ _,hu⟩ }
 split
 {
 refine hA.1.trans ?_;have c:=slt_fil (u:=(zb8 u (stOf u.ws) m).1) (t:=oth (stOf u.ws)) (a:=m.at') (words:=m.ws) hA.2 ho;generalize (zb8 u (stOf u.ws) m).1=x at *;unfold zcj
 split
 { split<;>exact c.far }
 { exact .refl _ _ } }
 { exact hA.1 } }
theorem prep_uw (hu:unE u=0) (hk:m.k=2) (hm:msE m=0):UW ss u m (prepS ss u (stOf u.ws) m).1 (prepS ss u (stOf u.ws) m).2:=by
 have ho:=oth_0 hu;have q:=msE_0 hm;unfold prepS
 split
 { rename_i h1;exact .same hu (.inr (.inr (.inr ⟨rfl,.inl ⟨hk,h1⟩⟩))) }
 {
 rename_i h1
 split
 {
 rename_i h2
 cases z:decide ((stOf u.ws).rdy=m.n)
 { exact .same hu (.inr (.inr (.inl ⟨rfl,hk⟩))) }
 { exact .same hu (.inr (.inl ⟨rfl,hk,of_decide_eq_true z,by omega⟩)) } }
 {
 rename_i h2
 have h2: (stOf u.ws).rdy=0:=by simpa using h2
 split
 {
 rename_i hc
 have c:=slt_sea (t:=oth (stOf u.ws)) (l:=m.at') (n:=m.im) hu ho.1;unfold prepB
 split
 {
 have k:=(c.keeps hu).mind (n:=0) (v:=0) (by decide) (by decide);have f:=zuj (x:=mind (doV u (.sea (oth (stOf u.ws)) m.at' m.im)).1 0 0) hu k.ok ho.1 c.far;generalize mind (doV u (.sea (oth (stOf u.ws)) m.at' m.im)).1 0 0=x at *
 split
 {
 rename_i hw
 have nn:=zsi (r:= [2,m.n]) k.ok;have ng:=zug (r:= [2,m.n]) k.ok;rw [f.2.1] at nn ng;unfold prepC;have hfar:FarB (oth (stOf u.ws)) u (doV x (.not (stOf u.ws) [2,m.n])).1:=fun i hi a=>(nn.far i hi).trans (f.2.2 i hi a)
 split
 {
 rename_i hd
 have y:=(nn.yes hd).1;rw [f.2.1,st_rdy] at y;refine⟨nn.ok,by rw [<-f.1];exact ng,hfar,.inr (.inl ⟨hk,h2,by omega,y,zfm u (stOf u.ws) m, ?_, ?_⟩),.inr (.inl ⟨rfl,hk,by rw [y],by rw [y];show(stOf u.ws).by' <_;omega⟩)⟩
 {
 rw [zt0 k.ok nn.ok (.inl rfl) (.inr rfl) ho.1 ho.2 (fun i a _=>nn.far i (by omega))];unfold zj4 eqL at hw;simp only [kr,KF] at hw;generalize imgS x.ws x.fu (oth (stOf u.ws))=I at *;obtain ⟨i1,i2,i3⟩:=I
 simp at hw
 rw [hw.1,hw.2.1,hw.2.2] }
 {
 have hmt:=hc.2.2;unfold zh6 at hmt;simp only [kr,KF] at hmt;exact⟨hmt.2.1,hmt.2.2.2,fun e=>hmt.2.2.1 (hmt.2.2.2.trans e)⟩ } }
 {
 rename_i hd
 have y:=nn.no (by simpa using hd);exact⟨nn.ok,by rw [<-f.1];exact ng,hfar,.inl ⟨y.trans f.2.1,fun h=>absurd h2 h⟩,.inl rfl⟩ } }
 { exact⟨k.ok,by rw [f.1];omega,f.2.2,.inl ⟨f.2.1,fun h=>absurd h2 h⟩,.inr (.inr (.inl ⟨rfl,hk⟩))⟩ } }
 {
 have f:=zuj hu c.ok ho.1 c.far;exact⟨c.ok,by rw [f.1];omega,f.2.2,.inl ⟨f.2.1,fun h=>absurd h2 h⟩,.inl rfl⟩ } }
 { exact .same hu (.inr (.inr (.inl ⟨rfl,hk⟩))) } } }
theorem com_uw (hu:unE u=0) (hk:m.k=4):UW ss u m (comS u (stOf u.ws) m).1 (comS u (stOf u.ws) m).2:=by
 have ho:=oth_0 hu;unfold comS
 split
 { rename_i h1;exact .same hu (.inr (.inr (.inr ⟨rfl,.inr (.inl ⟨hk,h1⟩)⟩))) }
 {
 rename_i h1
 split
 { exact .same hu (.inl rfl) }
 {
 rename_i h2
 have nn:=zsi (r:= [1,oth (stOf u.ws),m.n]) hu;have ng:=zug (r:= [1,oth (stOf u.ws),m.n]) hu
 split
 {
 rename_i hd
 have y:=(nn.yes hd).1;rw [st_runs _ _ _ ho.2] at y;exact⟨nn.ok,ng,Bhd.far nn.far,.inr (.inr (.inl ⟨hk,by simpa using h2,h1,y,nn.far⟩)),.inr (.inr (.inr ⟨rfl,.inr (.inl ⟨hk,by rw [y]⟩)⟩))⟩ }
 {
 rename_i hd
 exact⟨nn.ok,ng,Bhd.far nn.far,.inl ⟨nn.no (by simpa using hd),fun _=>nn.far⟩,.inl rfl⟩ } } }
theorem abo_uw (hu:unE u=0) (hk:m.k=5) (hm:msE m=0):UW ss u m (aboS u (stOf u.ws) m).1 (aboS u (stOf u.ws) m).2:=by
 have q:=msE_0 hm;have hB: ∀x:Un,(aboB x m).1.ws=x.ws/\(unE x=0->unE (aboB x m).1=0):=by
  intro x;unfold aboB;dsimp only
  split
  { exact⟨rfl,fun h=>((Keeps.refl h).mind (n:=0) (v:=0) (by decide) (by decide)).ok⟩ }
  { exact⟨rfl,id⟩ }
 unfold aboS
 split
 { exact .same hu (.inl rfl) }
 {
 rename_i h1
 split
 {
 rename_i h2
 have nn:=zsi (r:= [3,m.n]) hu;have ng:=zug (r:= [3,m.n]) hu
 split
 {
 rename_i hd
 have y:=(nn.yes hd).1;rw [st_not] at y;obtain ⟨b1,b2⟩:=hB (doV u (.not (stOf u.ws) [3,m.n])).1;refine⟨b2 nn.ok,by rw [b1];exact ng, ?_,.inr (.inr (.inr ⟨hk,h2,by omega,by rw [b1];exact y, ?_⟩)),.inr (.inr (.inr ⟨rfl,.inr (.inr ⟨hk,by rw [b1,y];show(stOf u.ws).by' <_;omega,by rw [b1,y];show(0:Int)≠_;omega⟩)⟩))⟩
 { intro i hi _;rw [b1];exact nn.far i hi }
 { intro i hi;rw [b1];exact nn.far i hi } }
 {
 rename_i hd
 exact⟨nn.ok,ng,Bhd.far nn.far,.inl ⟨nn.no (by simpa using hd),fun _=>nn.far⟩,.inl rfl⟩ } }
 {
 rename_i h2
 obtain ⟨b1,b2⟩:=hB u;exact⟨b2 hu,by rw [b1];omega,fun i _ _=>by rw [b1],.inl ⟨by rw [b1],fun _ i _=>by rw [b1]⟩,.inr (.inr (.inr ⟨rfl,.inr (.inr ⟨hk,by rw [b1];omega,by rw [b1];exact h2⟩)⟩))⟩ } }
theorem zuk (hu:unE u=0) (hm:msE m=0):UW ss u m (hearS ss u m).1 (hearS ss u m).2:=by
 unfold hearS
 split
 {
 by_cases h1:m.k=1
 {
 rw [zwl h1];obtain ⟨p1,p2,p3⟩:=piece_far hu hm;have f:=zuj hu p1 (oth_0 hu).1 p2;exact⟨p1,by show genN (zda u (stOf u.ws) m).ws<=_;rw [f.1];omega,f.2.2,.inl ⟨f.2.1,fun h i _=>by show(zda u (stOf u.ws) m).ws.getD i 0=_;rw [p3 h]⟩,.inl rfl⟩ }
 {
 by_cases h2:m.k=2
 { rw [zw0 h2];exact prep_uw hu h2 hm }
 {
 by_cases h4:m.k=4
 { rw [zut h4];exact com_uw hu h4 }
 {
 by_cases h5:m.k=5
 { rw [zuo h5];exact abo_uw hu h5 hm }
 { rw [hearK_0 h1 h2 h4 h5];exact .same hu (.inl rfl) } } } } }
 {
 exact .same hu (.inl rfl) }
theorem zrv: ∀l:LI,za0 l=0↔∀e∈l,e=0
 | []=>by simp [za0]
 |x::r=>by
  unfold za0;have:=zrv r
  by_cases h:x=0
  { simp [h,this] }
  {
  rw [KK h]
  simp [h] }
theorem zxo {units i:Nat} {c:Cp}:cpE units i c=0↔c.n= (i:Int)+1/\c.ims.length=units/\c.ts.length=units/\(∀w∈c.ims,imgE w=0)/\relE c.v c.u c.ts=0:=by
 unfold cpE;have hf:=zrv (c.ims.map imgE);simp only [kL,forall_exists_index,and_imp,forall_apply_eq_imp_iff₂] at hf
 by_cases h:c.n≠(i:Int)+1\/c.ims.length≠units\/c.ts.length≠units
 {
 rw [KK h]
 constructor
 { intro e;cases e }
 { rintro ⟨h1,h2,h3,-⟩;rcases h with h|h|h<;>contradiction } }
 {
 rw [KJ h];have h' :c.n= (i:Int)+1/\c.ims.length=units/\c.ts.length=units:=by
  refine⟨?_, ?_, ?_⟩<;>apply ky<;>intro e<;>apply h
  { exact .inl e }
  { exact .inr (.inl e) }
  { exact .inr (.inr e) }
 by_cases h2:za0 (c.ims.map imgE)=0
 {
 rw [KJ (by simpa using h2)];exact⟨fun e=>⟨h'.1,h'.2.1,h'.2.2,hf.1 h2,e⟩,fun e=>e.2.2.2.2⟩ }
 {
 rw [KK h2];exact⟨fun e=>absurd e h2,fun e=>absurd (hf.2 e.2.2.2.1) h2⟩ } }
structure VG (v:Vh):Prop where
 bk:bookE v.ss=0
 sg:sigE v.sg=0
 gt:gtE v.g=0
 nu:v.us.length=v.g.vo.length
 us: ∀u∈v.us,unE u=0
 c8:v.cs.length<=8
 n24:v.net.length<=24
 cs: ∀i c,v.cs[i]?=some c->cpE v.us.length i c=0
 net: ∀m∈v.net,msE m=0/\m.u< (v.us.length:Int)
 now:0<=v.now/\v.now<=100000
theorem VG.u4 (h:VG v):1<=v.us.length/\v.us.length<=4:=by rw [h.nu];exact(zrp h.gt).2.1
theorem vg_of (h:vhE v=0):VG v:=by
 have f:=zec h;have hu:=f.us;unfold unsE at hu
 split at hu
 { cases hu }
 rename_i hl
 have hc:=(zrv _).1 f.cs;refine⟨f.bk,f.sg,f.gt,ky hl,fun u hm=>(zrv _).1 hu _ (List.mem_map_of_mem hm),f.many.1,f.many.2,fun i c hi=>hc _ ?_,fun m hm=>zhn f.net hm, ?_⟩
 {
 rw [List.mem_iff_getElem?];exact⟨i,by rw [List.getElem?_mapIdx,hi];rfl⟩ }
 {
 have:=f.now;unfold inB at this
 simpa using this }
theorem ntE_0 {units:Nat} (h:msE m=0) (h2:m.u< (units:Int)):ntE units m=0:=by unfold ntE;rw [KJ (by simpa using h),KJ (by omega)]
theorem VG.check (h:VG v):vhE v=0:=by
 unfold vhE;rw [zrv];intro e he;simp only [kt,KY,or_false] at he
 rcases he with rfl|rfl|rfl|rfl|rfl|rfl|rfl|rfl
 { exact h.bk }
 { exact h.sg }
 { exact h.gt }
 {
 unfold unsE;rw [KJ (by simpa using h.nu),zrv];intro e he;obtain ⟨u,hu,rfl⟩:=kL.1 he;exact h.us u hu }
 { rw [KK ⟨h.c8,h.n24⟩] }
 {
 unfold cpsE;rw [zrv];intro e he;obtain ⟨i,hi⟩:=List.mem_iff_getElem?.1 he;rw [List.getElem?_mapIdx] at hi;obtain ⟨c,hc,rfl⟩:=Option.map_eq_some_iff.1 hi;exact h.cs i c hc }
 {
 unfold netE;rw [zrv];intro e he;obtain ⟨m,hm,rfl⟩:=kL.1 he;exact ntE_0 (h.net m hm).1 (h.net m hm).2 }
 {
 rw [KK (by unfold inB;simpa using h.now)] }
theorem nameN_one {s t:ByteArray} (h:nameN ss s=nameN ss t) (h0:nameN ss s≠0):s=t:=by
 obtain ⟨p,hp⟩: ∃p,nameN ss s=p+1:=⟨nameN ss s - 1,by omega⟩;have h1:=zvo hp;have h2:=zvo (h.symm.trans hp);rw [h1] at h2;exact kJ h2
theorem zxi (h:inE ss w=0):imgE w=0/\bookE ss=0/\inN ss w= (nameN ss (bs (imgT w)):Int):=by
 unfold inE at h
 split at h
 {
 rename_i h1
 exact⟨h1,h,by unfold inN nameE;rw [KK h1,KK h]⟩ }
 { rename_i h1;exact absurd h h1 }
theorem inN_one {a b:LI} (ha:inE ss a=0) (hb:inE ss b=0) (h:inN ss a=inN ss b) (h0:inN ss a≠0):a=b:=by
 obtain ⟨a1,a2,a3⟩:=zxi ha;obtain ⟨b1,b2,b3⟩:=zxi hb;have ne: ∀{w:LI},imgE w=0->w≠ []:=fun {w} h e=>by rw [e] at h;exact absurd h (by decide)
 exact imgT_inj (ne a1) (ne b1) (ztm a1) (ztm b1) (bs_inj (nameN_one (ss:=ss) (by omega) (by omega)))
theorem zs7 {ss:LB}: ∀{ts:List T3} {ws:LL} {k:Nat},zb2 ss ts ws=true->ts.length=ws.length->k<ts.length->zcx ss (ts.getD k (0,0,0)) (ws.getD k [])=true
 | [],_,_,_,_,hk=>by simp at hk
 |_::_, [],_,_,hl,_=>by simp at hl
 |t::ts,w::ws,0,h,_,_=>by unfold zb2 at h;simp only [kr] at h;exact h.1
 |t::ts,w::ws,k+1,h,hl,hk=>by
  unfold zb2 at h;simp only [kr] at h
  simpa using zs7 (k:=k) h.2 (by simpa using hl) (by simpa using hk)
theorem zu1 {t:T3} (h:zcx ss t w=true):inE ss w=0/\inN ss w=t.2.1/\(w.length:Int)=t.2.2:=by
 unfold zcx at h
 simpa using h
def MsI (C:Int->Prop) (cs:List Cp) (m:Ms):Prop:=
 (m.k=2->1<=m.n/\∃c,cs[(m.n - 1).toNat]?=some c/\(c.ts.getD m.u.toNat (0,0,0)).2.1=m.im)/\(m.k=4->C m.n)
structure UnI (w0:LI) (C:Int->Prop) (cs:List Cp) (k:Nat) (u:Un):Prop where
 by0:0<=(stOf u.ws).by'
 run: ∃nm w,runsS (btd u)= (w,nm,0)/\((stOf u.ws).by' =0/\w=w0\/1<=(stOf u.ws).by' /\C (stOf u.ws).by' /\∃c,cs[((stOf u.ws).by' - 1).toNat]?=some c/\w=c.ims.getD k [])
 rdy: (stOf u.ws).rdy=0\/((stOf u.ws).by' < (stOf u.ws).rdy/\∃c nm,cs[((stOf u.ws).rdy - 1).toNat]?=some c/\imgS u.ws (-1) (oth (stOf u.ws))= (c.ims.getD k [],nm,0))
theorem MsI.mono {C C' :Int->Prop} {cs' :List Cp} (h:MsI C cs m) (hC: ∀n,C n->C' n) (hcs: ∀(i:Nat) c,cs[i]?=some c->cs'[i]?=some c):MsI C' cs' m:=
 ⟨fun e=>⟨(h.1 e).1,by obtain ⟨c,h1,h2⟩:=(h.1 e).2;exact⟨c,hcs _ _ h1,h2⟩⟩,fun e=>hC _ (h.2 e)⟩
theorem UnI.mono {C C' :Int->Prop} {cs' :List Cp} (h:UnI w0 C cs k u) (hC: ∀n,C n->C' n) (hcs: ∀(i:Nat) c,cs[i]?=some c->cs'[i]?=some c):UnI w0 C' cs' k u:=by
 obtain ⟨h0,⟨nm,w,h1,h2⟩,h3⟩:=h;refine⟨h0,⟨nm,w,h1,h2.imp id fun ⟨a,b,c,d,e⟩=>⟨a,hC _ b,c,hcs _ _ d,e⟩⟩,h3.imp id fun ⟨a,c,nm,d,e⟩=>⟨a,c,nm,hcs _ _ d,e⟩⟩
theorem UnI.of {C:Int->Prop} {x:Un} (h:UnI w0 C cs k u) (he:x.ws=u.ws):UnI w0 C cs k x:=by
 obtain ⟨h0,h1,h2⟩:=h;have hb:btd x=btd u:=by unfold btd;rw [he]
 exact⟨by rw [he];exact h0,by rw [hb,he];exact h1,by rw [he];exact h2⟩
theorem uni_hear {C:Int->Prop} (h:UnI w0 C cs k u) (hu:unE u=0) (hm:msE m=0) (hM:MsI C cs m) (hk:m.u= (k:Int)) (hcs: ∀c∈cs,zb2 ss c.ts c.ims=true/\c.ts.length=c.ims.length/\k<c.ts.length):
 UnI w0 C cs k (hearS ss u m).1/\(stOf u.ws).by' <=(stOf (hearS ss u m).1.ws).by' :=by
 have W:=zuk (ss:=ss) hu hm;generalize (hearS ss u m).1=x at *;have ho:=oth_0 hu;have hs:=zr1 (zjw hu).1;have q:=msE_0 hm;obtain ⟨h0,⟨nm,w,h1,h2⟩,h3⟩:=h;have run: (stOf x.ws).slot= (stOf u.ws).slot->runsS (btd x)= (w,nm,0):=by
  intro e;rw [<-h1,ztq (zue W.ok),ztq (zue hu)]
  show imgS x.ws (-1) (stOf x.ws).slot=imgS u.ws (-1) (stOf u.ws).slot
  rw [e];exact zt0 hu W.ok (.inr rfl) (.inr rfl) hs.1 hs.2 fun i a b=>W.far i (by omega) (by unfold oth;omega)
 have oths:Bhd u x->imgS x.ws (-1) (oth (stOf u.ws))=imgS u.ws (-1) (oth (stOf u.ws)):=fun hb=>zt0 hu W.ok (.inr rfl) (.inr rfl) ho.1 ho.2 fun i a _=>hb i (by omega)
 rcases W.st with ⟨e,hb⟩| ⟨k2,r0,bn,e,words,i1,i2,i3,i4⟩| ⟨k4,r0,bn,e,hb⟩| ⟨k5,r0,bn,e,hb⟩
 {
 refine⟨⟨by rw [e];exact h0,⟨nm,w,run (by rw [e]),by rw [e];exact h2⟩, ?_⟩,by rw [e];exact Int.le_refl _⟩;rw [e]
 rcases h3 with h3| ⟨a,c,nm',d,f⟩
 { exact .inl h3 }
 { exact .inr ⟨a,c,nm',d,by rw [oths (hb (by omega))];exact f⟩ } }
 {
 refine⟨⟨by rw [e];exact h0,⟨nm,w,run (by rw [e]),by rw [e];exact h2⟩, ?_⟩,by rw [e];exact Int.le_refl _⟩;obtain ⟨-,c,c1,c2⟩:=hM.1 k2;obtain ⟨d1,d2,d3⟩:=hcs c (Kp c1);have mt:=zu1 (zs7 d1 d2 d3);rw [hk] at c2;have ew:words=c.ims.getD k []:=inN_one i2 mt.1 (by rw [i3,mt.2.1];exact c2.symm) (by rw [i3];exact i4);rw [e];exact .inr ⟨bn,c,m.im,c1,by rw [show oth (⟨(stOf u.ws).slot,(stOf u.ws).by',m.n⟩:Us)=oth (stOf u.ws) from rfl,i1,ew]⟩ }
 {
 rcases h3 with h3| ⟨a,c,nm',d,f⟩
 { omega }
 {
 rw [r0] at a d;refine⟨⟨by rw [e];show 0<=m.n;omega,⟨nm',c.ims.getD k [], ?_,.inr ⟨by rw [e];exact q.2.2.1.1,by rw [e];exact hM.2 k4,c,by rw [e];exact d,rfl⟩⟩,by rw [e];exact .inl rfl⟩,by rw [e];show _<=m.n;omega⟩;rw [ztq (zue W.ok),<-f,<-oths hb]
 show imgS x.ws (-1) (stOf x.ws).slot=_
 rw [e] } }
 {
 exact⟨⟨by rw [e];exact h0,⟨nm,w,run (by rw [e]),by rw [e];exact h2⟩,by rw [e];exact .inl rfl⟩,by rw [e];exact Int.le_refl _⟩ }
theorem zsw {k u n a i:Int} {y:Bool} (h1:1<=k/\k<=7) (h2:0<=u/\u<=3) (h3:1<=n/\n<=8) (h4:0<=a/\a<=40) (h5:0<=i/\i<=60) (h6:ws.length<=8) (h7:okL ws=true):msE ⟨k,u,n,a,i,ws,y⟩=0:=by
 unfold msE msB inB;rw [KK]
 simp [h1,h2,h3,h4,h5,h6,h7]
theorem zr5 (h:m∈sendS net l):m∈net\/m∈l:=by
 unfold sendS at h
 rcases KS.1 h with h|h
 { exact .inl h }
 { exact .inr (List.mem_of_mem_take h) }
theorem zs3 (l:List Ms) (h:net.length<=24): (sendS net l).length<=24:=by
 unfold sendS;rw [kj,KQ];omega
theorem zuc {u n:Int} {image:LI} {m:Ms}: ∀(f p:Nat),m∈zgh u n image f p->∃q:Nat,q<image.length/\m= ⟨1,u,n,q,0,(image.drop q).take 8,false⟩
 |0,p,h=>by cases h
 |f+1,p,h=>by
  unfold zgh at h
  split at h
  {
  rename_i hp
  rcases kt.1 h with h|h
  { exact⟨p,hp,h⟩ }
  { exact zuc f _ h } }
  { cases h }
theorem zum {s:Gs} {u n:Int} (h2:0<=u/\u<=3) (h3:1<=n/\n<=8):msE (verd s u n)=0:=by
 unfold verd;exact zsw (by split<;>decide) h2 h3 (by decide) (by decide) (by decide) rfl
theorem zs9 {s:Gs} {u n:Int}: ((verd s u n).k=4/\s.n=n/\s.co=true)\/((verd s u n).k=5/\¬(s.n=n/\s.co=true)):=by
 unfold verd;cases z: (decide (s.n=n)&&s.co)
 { exact .inr ⟨rfl,fun h=>by rw [h.2] at z;simp [h.1] at z⟩ }
 { exact .inl ⟨rfl,by simpa using z⟩ }
structure DueI (g:Gt) (cn:Int) (ts:List T3) (u:Int) (m:Ms):Prop where
 ok:msE m=0
 mu:m.u=u
 n:m.n= (gOf g.ws).n
 un:m.k<=3->decG (gOf g.ws)=false
 k:m.k=1\/(m.k=2/\m.im= (ts.getD u.toNat (0,0,0)).2.1)\/(m.k=4/\(gOf g.ws).co=true)\/(m.k=5/\(gOf g.ws).ab=true)
theorem ztf {cn:Int} {ts:List T3} {ims:LL} {u:Int} (h: (gDue g cn ts ims u).2=0) (hi: ∀w∈ims,imgE w=0) (ht: ∀t∈ts,1<=t.2.1/\t.2.1<=60):
 upE g=0/\(gOf g.ws).n≠0/\(gOf g.ws).en=false/\cn= (gOf g.ws).n/\(0<=u/\u<g.vo.length)/\∀m∈(gDue g cn ts ims u).1,DueI g cn ts u m:=by
 unfold gDue at h|-;have hE:dueE g cn ts ims u=0:=by
  apply ky
  intro e;rw [KK e] at h;exact e h
 rw [KJ (by simpa using hE)] at h|-;unfold dueE at hE
 split at hE
 { rename_i h1;exact absurd hE h1 }
 rename_i h1
 have h1:upE g=0:=by simpa using h1
 split at hE
 { cases hE }
 rename_i h2
 split at hE
 {
 rename_i h3
 simp only [Bool.or_eq_true,KF,not_or,Bool.not_eq_true] at h2;unfold inB at h3;simp only [kr,KF] at h3;obtain ⟨u1,u2,u3,u4⟩:=h3;have hg:=zrp (upE_ok h1).1;have hn:=zrr g.ws;have hn8:=hn.n;have hul:0<=u/\u<=3:=by omega
 have hnl:1<=(gOf g.ws).n/\(gOf g.ws).n<=8:=by omega
 refine⟨h1,h2.1,h2.2,u2,by omega, ?_⟩;intro m hm
 split at hm
 {
 rename_i hd
 dsimp only at hm
 split at hm
 { cases hm }
 {
 simp only [kt,KY,or_false] at hm;rw [hm];refine⟨zum hul hnl,rfl,rfl,fun e=> ?_, ?_⟩
 { rcases zs9 (s:=gOf g.ws) (u:=u) (n:=(gOf g.ws).n) with k|k<;>omega }
 {
 rcases zs9 (s:=gOf g.ws) (u:=u) (n:=(gOf g.ws).n) with k|k
 { exact .inr (.inr (.inl ⟨k.1,k.2.2⟩)) }
 {
 refine .inr (.inr (.inr ⟨k.1, ?_⟩));unfold decG at hd;cases z: (gOf g.ws).co
 { rw [z] at hd;simpa using hd }
 { exact absurd ⟨rfl,z⟩ k.2 } } } } }
 {
 rename_i hd
 have hd:decG (gOf g.ws)=false:=by simpa using hd
 rw [KJ (by simp [hd])] at h
 split at hm
 { cases hm }
 {
 rename_i hv
 rw [KJ hv] at h
 split at hm
 { rename_i h4;rw [KK h4] at h;cases h }
 {
 dsimp only at hm;have hk:u.toNat<ims.length:=by omega
 have hkt:u.toNat<ts.length:=by omega
 have him:imgE (ims.getD u.toNat [])=0:=by
  have:=hi _ (KH hk)
  simpa [hk] using this
 have htm:1<=(ts.getD u.toNat (0,0,0)).2.1/\(ts.getD u.toNat (0,0,0)).2.1<=60:=by
  have:=ht _ (KH hkt)
  simpa [hkt] using this
 have hw:=zlv him;generalize ims.getD u.toNat []=image at *;unfold delG at hm
 rcases KS.1 hm with hm|hm
 {
 obtain ⟨q,hq,rfl⟩:=zuc _ _ hm;refine⟨zsw (by decide) hul (by rw [u2];exact hnl) (by omega) (by decide) (by rw [KQ];omega) (zwr ?_ q 8),rfl,u2,fun _=>hd,.inl rfl⟩;unfold okL;rw [kH];intro z hz;have:=hw.2 z hz;unfold okW
 simp
 omega }
 {
 simp only [kt,KY,or_false] at hm;rw [hm];exact⟨zsw (by decide) hul (by rw [u2];exact hnl) (by omega) (by omega) (by decide) rfl,rfl,u2,fun _=>hd,.inr (.inl ⟨rfl,rfl⟩)⟩ } } } } }
 { cases hE }
theorem zvc (h: (gHear g m).2.2=0): ∀a∈(gHear g m).2.1,m.k=7/\g.up=true/\a=verd (gOf g.ws) m.u m.n/\(pend (gOf g.ws) m&&!decG (gOf g.ws))=false/\msE a=0/\a.u=m.u:=by
 have z:=(zsc h).1;have hz:=ztb z;have hg:=zrp hz.1;intro a ha;unfold gHear at ha;rw [KJ (by simpa using z)] at ha
 split at ha
 {
 rename_i hup
 dsimp only at ha;unfold ghK at ha
 split at ha
 { cases ha }
 {
 split at ha
 { cases ha }
 {
 split at ha
 {
 rename_i h7
 dsimp only at ha
 split at ha
 { cases ha }
 {
 rename_i hp
 simp only [kt,KY,or_false] at ha;exact⟨h7,hup,ha,by simpa using hp,by rw [ha];exact zum (by omega) hz.2.2,by rw [ha];rfl⟩ } }
 { cases ha } } } }
 { cases ha }
theorem ans_unit {x:Un} {a:Ms} (h:UW ss u m x l) (hm:msE m=0) (ha:a∈l):msE a=0/\a.u=m.u/\a.n=m.n/\(a.k=3\/a.k=6):=by
 have q:=msE_0 hm;have hv: ∀y,msE (voteM m y)=0:=fun y=>zsw (by decide) q.2.1 q.2.2.1 (by decide) (by decide) (by decide) rfl
 have hd:msE (doneM m)=0:=zsw (by decide) q.2.1 q.2.2.1 (by decide) (by decide) (by decide) rfl
 rcases h.an with e| ⟨e,-⟩| ⟨e,-⟩| ⟨e,-⟩<;>rw [e] at ha<;>simp only [kt,KY,or_false] at ha
 { rw [ha];exact⟨hv _,rfl,rfl,.inl rfl⟩ }
 { rw [ha];exact⟨hv _,rfl,rfl,.inl rfl⟩ }
 {
 rw [ha];exact⟨hd,rfl,rfl,.inr rfl⟩ }
structure HI (F:LL) (C:Int->Prop) (v:Vh):Prop where
 vg:VG v
 nf:v.us.length=F.length
 ncs: (v.cs.length:Int)= (gOf v.g.ws).n
 cim: ∀c∈v.cs,zb2 v.ss c.ts c.ims=true
 co: (gOf v.g.ws).co=true->C (gOf v.g.ws).n
 ms: ∀m∈v.net,MsI C v.cs m
 un: ∀k u,v.us[k]?=some u->UnI (F.getD k []) C v.cs k u
section
variable {F:LL} {C C' :Int->Prop} {v:Vh}
theorem HI.step (hI:HI F C v) (hC: ∀n,C n->C' n) {us:List Un} {now:Int} (hg:gtE g=0) (hv:g.vo.length=v.g.vo.length) (hn: (gOf g.ws).n= (gOf v.g.ws).n) (hco: (gOf g.ws).co=true->C' (gOf g.ws).n)
 (hl:us.length=v.us.length) (hu: ∀k u,us[k]?=some u->unE u=0/\UnI (F.getD k []) C v.cs k u) (hnl:net.length<=24) (hm: ∀m∈net,m∈v.net\/(msE m=0/\m.u< (v.us.length:Int)/\MsI C v.cs m)) (hw:0<=now/\now<=100000):
 HI F C' ⟨v.ss,v.sg,g,us,v.cs,net,now⟩:=by
 have q:=hI.vg;refine⟨⟨q.bk,q.sg,hg,by show us.length=g.vo.length;rw [hl,hv];exact q.nu,fun u h=> ?_,q.c8,hnl,by show∀i c,v.cs[i]?=some c->cpE us.length i c=0;rw [hl];exact q.cs,fun m h=> ?_,hw⟩,hl.trans hI.nf,by show _= (gOf g.ws).n;rw [hn];exact hI.ncs,hI.cim,hco,fun m h=> ?_,fun k u h=>(hu k u h).2.mono hC fun _ _ h=>h⟩
 {
 obtain ⟨k,hk⟩:=List.mem_iff_getElem?.1 h;exact(hu k u hk).1 }
 {
 show msE m=0/\m.u< (us.length:Int)
 rw [hl]
 rcases hm m h with h|h
 { exact q.net m h }
 { exact⟨h.1,h.2.1⟩ } }
 {
 rcases hm m h with h|h
 { exact(hI.ms m h).mono hC fun _ _ h=>h }
 { exact h.2.2.mono hC fun _ _ h=>h } }
theorem HI.all (hI:HI F C v): ∀k u,v.us[k]?=some u->unE u=0/\UnI (F.getD k []) C v.cs k u:=fun k u h=>⟨hI.vg.us u (Kp h),hI.un k u h⟩
theorem HI.one (hI:HI F C v) {x:Un} (h1:unE x=0) (h2:UnI (F.getD k []) C v.cs k x): ∀j u,(v.us.set k x)[j]?=some u->unE u=0/\UnI (F.getD j []) C v.cs j u:=by
 intro j u hj;rw [Ka] at hj
 split at hj
 {
 rename_i e
 split at hj
 { cases hj;subst e;exact⟨h1,h2⟩ }
 { cases hj } }
 { exact hI.all j u hj }
theorem HI.camp (hI:HI F C v) {c:Cp} (hc:c∈v.cs):c.ts.length=v.us.length/\c.ims.length=v.us.length/\(∀w∈c.ims,imgE w=0)/\∀t∈c.ts,1<=t.2.1/\t.2.1<=60:=by
 obtain ⟨i,hi⟩:=List.mem_iff_getElem?.1 hc;obtain ⟨-,h2,h3,h4,h5⟩:=zxo.1 (hI.vg.cs i c hi);refine⟨h3,h2,h4, ?_⟩;have key: ∀(ts:List T3) (i:Nat),tgtsE i ts=0->∀t∈ts,1<=t.2.1/\t.2.1<=60:=by
  intro ts
  induction ts with
  |nil=>intro i _ t ht;cases ht
  |cons y r ih=>
   intro i h t ht;unfold tgtsE at h
   split at h
   {
   rename_i ho
   rcases kt.1 ht with rfl|ht
   {
   unfold tOK inR at ho
   simp at ho
   omega }
   { exact ih _ h t ht } }
   { cases h }
 exact key _ _ (zk4 h5).2.2.2
theorem zsk {k:Int} (h:isU v k=true): ∃j:Nat,k= (j:Int)/\∃hj:j<v.us.length,v.us.getD k.toNat un9=v.us[j]/\v.us[j]?=some v.us[j]:=by
 unfold isU inB at h;simp only [KF] at h;refine⟨k.toNat,by omega,by omega, ?_,by simp⟩;rw [ka,kX (by omega)];rfl
theorem zsu {k:Int} (h:isM v k=true):k.toNat<v.net.length/\v.net.getD k.toNat ms9∈v.net:=by
 unfold isM inB at h;simp only [KF] at h;have hk:k.toNat<v.net.length:=by omega
 exact⟨hk,by rw [ka,kX hk];exact KH hk⟩
theorem zr9 (h:m∈l.eraseIdx k):m∈l:=List.mem_of_mem_eraseIdx h
theorem hi_step {x:Hp} (hI:HI F C v) (h: (doS' v x).2=0) (hC: ∀n,C n->C' n) (hC' : (gOf (doS' v x).1.g.ws).co=true->C' (gOf (doS' v x).1.g.ws).n):
 HI F C' (doS' v x).1/\∀(k:Nat) a b,v.us[k]?=some a->(doS' v x).1.us[k]?=some b->(stOf a.ws).by' <=(stOf b.ws).by' :=by
 have q:=hI.vg;have same: ∀(k:Nat) a b,v.us[k]?=some a->v.us[k]?=some b->(stOf a.ws).by' <=(stOf b.ws).by' :=fun k a b h1 h2=>by rw [h1] at h2;cases h2;exact Int.le_refl _
 have one: ∀(j:Nat) (hj:j<v.us.length) (z:Un),(stOf v.us[j].ws).by' <=(stOf z.ws).by' ->∀(k:Nat) a b,v.us[k]?=some a->(v.us.set j z)[k]?=some b->(stOf a.ws).by' <=(stOf b.ws).by' :=by
  intro j hj z hz k a b h1 h2;rw [Ka] at h2
  split at h2
  {
  rename_i e
  subst e
  first|rw [KK hj] at h2|skip
  cases h2;rw [kX hj] at h1;cases h1;exact hz }
  { exact same k a b h1 h2 }
 refine(zui (P:=fun y=>GSt v x y->((gOf y.g.ws).co=true->C' (gOf y.g.ws).n)->HI F C' y/\∀(k:Nat) a b,v.us[k]?=some a->y.us[k]?=some b->(stOf a.ws).by' <=(stOf b.ws).by') h ?_ ?_ ?_ ?_ ?_ ?_ ?_ ?_ ?_ ?_ ?_ ?_ ?_) (zun h) hC'
 {
 intro hv k1 B hB h0;have b:=ztd (ss:=v.ss) (l:=v.sg) (g:=v.g) (o:=x.o) (now:=v.now) (by rw [hB];exact h0);rw [hB] at b;have hn:=(zrr v.g.ws).n
 split
 {
 rename_i e
 intro G hc;refine⟨hI.step hC G.ok G.nvo ?_ hc rfl hI.all q.n24 (fun m h=>.inl h) q.now,same⟩
 rcases b.or' with ⟨-,-,c3⟩| ⟨c1,-⟩
 { rw [c3] }
 { omega } }
 {
 rename_i e
 intro G hc;refine⟨?_,same⟩
 rcases b.or' with ⟨c1,-⟩| ⟨c1,c2,c3,-⟩
 { exact absurd c1 e }
 have ncs:=hI.ncs;have et:v.cs.take (B.2.1 - 1).toNat=v.cs:=kh (by omega);rw [et] at hc|-;obtain ⟨t1,t2,t3,t4⟩:=zsh b.tk;obtain ⟨r1,r2,r3,r4,r5⟩:=zty t4;have hr:relE x.o.v x.o.u x.o.ts=0:=by
  unfold crE at t3
  split at t3
  { assumption }
  { rename_i q;exact absurd t3 q }
 have hnu:=q.nu;have hcs: ∀(i:Nat) c,v.cs[i]?=some c->(v.cs++ [⟨B.2.1,x.o.v,x.o.u,x.o.ts,x.o.imgs⟩])[i]?=some c:=fun i c hi=>by
  rw [KD (kY.1 hi).1];exact hi
 have n8:=b.n8;refine⟨⟨q.bk,q.sg,G.ok,by show v.us.length=_;rw [G.nvo];exact hnu,q.us,by show(v.cs++ [_]).length<=8;rw [kj];show v.cs.length+1<=8;omega,q.n24,fun i c hi=> ?_,q.net,q.now⟩,hI.nf, ?_,fun c hc=> ?_,hc,fun m h=>(hI.ms m h).mono hC hcs,fun k u h=>(hI.un k u h).mono hC hcs⟩
 {
 show cpE v.us.length i c=0
 have hi: (v.cs++ [⟨B.2.1,x.o.v,x.o.u,x.o.ts,x.o.imgs⟩])[i]?=some c:=hi
 by_cases e:i<v.cs.length
 { rw [KD e] at hi;exact q.cs i c hi }
 {
 rw [KC (by omega)] at hi;obtain ⟨rfl⟩:i=v.cs.length:=by have:=(kY.1 hi).1;simp at this;omega
 rw [Nat.sub_self] at hi;cases hi;refine zxo.2 ⟨by show B.2.1=_;omega,by show x.o.imgs.length=_;omega,by show x.o.ts.length=_;omega,fun w hw=> ?_,hr⟩;obtain ⟨k,hk,rfl⟩:=List.mem_iff_getElem.1 hw;have:=(zu1 (zs7 (k:=k) r5 (by omega) (by have:k<x.o.imgs.length:=hk;omega))).1;have:=(zxi this).1;rw [ka,kX hk] at this;exact this } }
 {
 show((v.cs++ [_]).length:Int)= (gOf B.1.ws).n
 rw [c3,kj]
 show((v.cs.length+1:Nat):Int)= (gOf v.g.ws).n+1
 omega }
 {
 rcases KS.1 hc with hc|hc
 { exact hI.cim c hc }
 {
 simp only [kt,KY,or_false] at hc;rw [hc];exact r5 } } } }
 {
 intro hv k2 hU hl D hD h0 G hc;refine⟨hI.step hC G.ok G.nvo rfl hc rfl hI.all (zs3 _ q.n24) (fun m h=> ?_) q.now,same⟩
 rcases zr5 h with h|h
 { exact .inl h }
 {
 refine .inr ?_;obtain ⟨j,e,hj,-,-⟩:=zsk hU;have hlast: (lastC v).1=cp9/\(gOf v.g.ws).n=0\/∃c,(lastC v).1=c/\v.cs[((gOf v.g.ws).n - 1).toNat]?=some c:=by
  have ncs:=hI.ncs;have hn:=(zrr v.g.ws).n;unfold lastC
  split
  { rename_i e;exact .inl ⟨rfl,e⟩ }
  {
  split
  { omega }
  {
  refine .inr ⟨_,rfl, ?_⟩;have: ((gOf v.g.ws).n - 1).toNat<v.cs.length:=by omega
  rw [ka,kX this];rfl } }
 rcases hlast with ⟨e9,en⟩| ⟨c,ec,hcs⟩
 {
 exfalso
 have:=ztf (g:=v.g) (cn:=(lastC v).1.n) (ts:=(lastC v).1.ts) (ims:=(lastC v).1.ims) (u:=x.u) (by rw [hD];exact h0) (by rw [e9];intro w hw;cases hw) (by rw [e9];intro w hw;cases hw);exact this.2.1 en }
 {
 rw [ec] at hD;obtain ⟨i1,i2,i3,i4⟩:=hI.camp (Kp hcs);obtain ⟨d1,d2,d3,d4,d5,d6⟩:=ztf (by rw [hD];exact h0) i3 i4;rw [hD] at d6;have d:=d6 m h;have hn:=(zrr v.g.ws).n;refine⟨d.ok,by rw [d.mu,e];omega,fun k=>⟨by rw [d.n];omega,c,by rw [d.n];exact hcs, ?_⟩,fun k=> ?_⟩
 {
 rcases d.k with k1| ⟨-,k1⟩| ⟨k1,-⟩| ⟨k1,-⟩
 { omega }
 { rw [d.mu];exact k1.symm }
 { omega }
 { omega } }
 {
 rcases d.k with k1| ⟨k1,-⟩| ⟨-,k1⟩| ⟨k1,-⟩
 { omega }
 { omega }
 { rw [d.n];exact hI.co k1 }
 { omega } } } } }
 {
 intro hv k9 hU hup hr G hc;refine⟨hI.step hC G.ok G.nvo rfl hc rfl hI.all (zs3 _ q.n24) (fun m h=> ?_) q.now,same⟩
 rcases zr5 h with h|h
 { exact .inl h }
 {
 simp only [kt,KY,or_false] at h;obtain ⟨j,e,hj,-,-⟩:=zsk hU;have:=q.u4;unfold inB at hr;simp only [KF] at hr;rw [h];exact .inr ⟨zsw (by decide) (by omega) hr (by decide) (by decide) (by decide) rfl,by show x.u<_;omega,⟨fun k=>absurd (show(7:Int)=2 from k) (by decide),fun k=>absurd (show(7:Int)=4 from k) (by decide)⟩⟩ } }
 {
 intro hv k3 hM m hm hk H hH h0 G hc;have hg: (gHear v.g m).2.2=0:=by rw [hH];exact h0
 have hh:=(zsc hg).2;have ha:=zvc hg;rw [hH] at hh ha;obtain ⟨m1,m2⟩:=zsu hM;rw [hm] at m2;refine⟨hI.step hC G.ok G.nvo hh.onc.n hc rfl hI.all (zs3 _ (by have:=List.length_eraseIdx_le v.net x.j.toNat;have:=q.n24;omega)) (fun a h=> ?_) q.now,same⟩
 rcases zr5 h with h|h
 { exact .inl (zr9 h) }
 {
 obtain ⟨a1,-,a2,a3,a4,a5⟩:=ha a h;refine .inr ⟨a4,by rw [a5];exact(q.net m m2).2,fun k=> ?_,fun k=> ?_⟩
 {
 rw [a2] at k
 rcases zs9 (s:=gOf v.g.ws) (u:=m.u) (n:=m.n) with e|e<;>omega }
 {
 rw [a2] at k|-
 rcases zs9 (s:=gOf v.g.ws) (u:=m.u) (n:=m.n) with e|e
 { show C m.n;rw [<-e.2.1];exact hI.co e.2.2 }
 { omega } } } }
 {
 intro hv k3 hM m hm hk H hH h0 G hc;obtain ⟨m1,m2⟩:=zsu hM;rw [hm] at m2;obtain ⟨n1,n2⟩:=q.net m m2;have qm:=msE_0 n1;have hj:m.u.toNat<v.us.length:=by omega
 have eu:v.us.getD m.u.toNat un9=v.us[m.u.toNat]:=by rw [ka,kX hj];rfl
 rw [eu] at hH;have hu:=hI.all _ _ (kX hj);have he:heE v.ss v.us[m.u.toNat] m=0:=by rw [heE_3 q.bk hu.1];exact n1
 have eH:hearA v.ss v.us[m.u.toNat] m= ((hearS v.ss v.us[m.u.toNat] m).1,(hearS v.ss v.us[m.u.toNat] m).2,0):=by unfold hearA;rw [KJ (by simpa using he)]
 rw [eH] at hH;have W:=zuk (ss:=v.ss) hu.1 n1;have U:=uni_hear (ss:=v.ss) hu.2 hu.1 n1 (hI.ms m m2) (by omega) fun c hc=>⟨hI.cim c hc,by rw [(hI.camp hc).1,(hI.camp hc).2.1],by rw [(hI.camp hc).1];exact hj⟩
 subst hH;dsimp only;refine⟨hI.step hC G.ok G.nvo rfl hc (List.length_set ..) (hI.one W.ok U.1) (zs3 _ (by have:=List.length_eraseIdx_le v.net x.j.toNat;have:=q.n24;omega)) (fun a h=> ?_) q.now,one _ hj _ U.2⟩
 rcases zr5 h with h|h
 { exact .inl (zr9 h) }
 {
 obtain ⟨a1,a2,a3,a4⟩:=ans_unit W n1 h;exact .inr ⟨a1,by rw [a2];exact n2,fun k=>by omega,fun k=>by omega⟩ } }
 {
 intro hv k4 hM G hc;exact⟨hI.step hC G.ok G.nvo rfl hc rfl hI.all (by have:=List.length_eraseIdx_le v.net x.j.toNat;have:=q.n24;omega) (fun a h=>.inl (zr9 h)) q.now,same⟩ }
 {
 intro hv k5 hM h24 G hc;refine⟨hI.step hC G.ok G.nvo rfl hc rfl hI.all (by have:=q.n24;rw [kj];show v.net.length+1<=24;omega) (fun a h=>.inl ?_) q.now,same⟩
 rcases KS.1 h with h|h
 { exact h }
 {
 simp only [kt,KY,or_false] at h;rw [h];exact(zsu hM).2 } }
 {
 intro hv k6 hu hj G hc;exact⟨hI.step hC G.ok G.nvo rfl hc rfl hI.all q.n24 (fun a h=>.inl h) q.now,same⟩ }
 {
 intro hv k6 hU hjj G hc;obtain ⟨j,e,hj,e1,e2⟩:=zsk hU;rw [e1] at hc|-;have hu:=hI.all _ _ e2;have hjj:0<=x.j/\x.j<=100000:=by unfold inB at hjj;simpa using hjj
 obtain ⟨c1,c2,c3,c4⟩:=zjw hu.1;have ej:x.u.toNat=j:=by omega
 rw [ej] at hc|-;exact⟨hI.step hC G.ok G.nvo rfl hc (List.length_set ..) (hI.one (unE_0 (u:=cutU v.us[j] x.j) (zsr c1 (show(-1:Int)<=x.j by omega) hjj.2) c2 (by show(inB v.us[j].n 0 8&&inB v.us[j].hv 0 40)=true;rw [inB_t c3.1 c3.2,inB_t c4.1 c4.2];rfl)) (hu.2.of rfl)) q.n24 (fun a h=>.inl h) q.now,one _ hj _ (Int.le_refl _)⟩ }
 {
 intro hv k7 hu G hc;exact⟨hI.step hC G.ok G.nvo rfl hc rfl hI.all q.n24 (fun a h=>.inl h) q.now,same⟩ }
 {
 intro hv k7 hU hb G hc;obtain ⟨j,e,hj,e1,e2⟩:=zsk hU;rw [e1] at hc|-;have hu:=hI.all _ _ e2;have ej:x.u.toNat=j:=by omega
 rw [ej] at hc|-;exact⟨hI.step hC G.ok G.nvo rfl hc (List.length_set ..) (hI.one (zue hu.1) (hu.2.of rfl)) q.n24 (fun a h=>.inl h) q.now,one _ hj _ (Int.le_refl _)⟩ }
 {
 intro hv k8 H hH h0 G hc;have o:=zu4 (g:=v.g) (by rw [hH];exact h0);rw [hH] at o;exact⟨hI.step hC G.ok G.nvo o.1.n hc rfl hI.all q.n24 (fun a h=>.inl h) q.now,same⟩ }
 {
 intro hv k10 hn G hc;exact⟨hI.step hC G.ok G.nvo rfl hc rfl hI.all q.n24 (fun a h=>.inl h) (by have:=q.now;omega),same⟩ }
end
section
open Go.ChangeShapes Go.WideShapes Go.ChangeAt Go.RowKit Go.Joins
theorem zgp {H:Type} {enc:TypeId×Value->H} {W:World} {α:Type} {S E:TypeId} {R:α->LV->Prop} (hU:Tryz.prog.underlying S=some (.slice E)) (hk:Tryz.prog.cellsOf E=k)
 (hR: ∀{n:Nat} {cs:LV} {x:DataW H×List MemPlace},cs.length=k->DataW.trod enc Tryz.prog W 0 (fun _=>true) true n E cs=some x->∃u,R u cs)
 {fuel:Nat} {v:Value} {x:DataW H×List MemPlace} (h:DataW.trod enc Tryz.prog W 0 (fun _=>true) true fuel S [v]=some x):
 ∃a n c l vs,v=.slice a n c/\IsRow W a vs/\Vs R l vs/\l.length=n/\n<=c/\c<=maxLen:=by
 rcases Go.Deep.open_slice hU h with ⟨hcs,hx⟩| ⟨ad,len,cap,m,n,D,Pl,hcs,_,hl,hm,hmm,hx,hV⟩
 {
 simp at hcs
 subst hcs;exact⟨none,0,0, [], [],rfl,.inl rfl,rfl,rfl,kQ _,by decide⟩ }
 {
 simp at hcs hmm
 subst hcs hmm;rw [hk] at hV;have key: ∀j,j<=len->∃l vs,Vs R l vs/\l.length=j/\vs.length=j * k/\∀i u,vs[i]?=some u->W.cell? (ad.add i)=some u:=by
  intro j
  induction j with
  |zero=>exact fun _=>⟨[], [],rfl,rfl,by simp,fun i u hi=>by simp at hi⟩
  |succ j ih=>
   intro hj;obtain ⟨l,vs,h1,h2,h3,h4⟩:=ih (by omega);obtain ⟨cs',g1,g2⟩:=hV j (by omega);obtain ⟨_,hlen,hcell⟩:=World.cells?_some g1;obtain ⟨u,hu⟩:=hR hlen g2;refine⟨l++ [u],vs++cs',h1.app ⟨cs', [],by simp,hu,rfl⟩,by simp [h2],by simp [h3,hlen,Nat.add_mul],fun i x hi=> ?_⟩
   by_cases hik:i<vs.length
   {
   rw [KD hik] at hi;exact h4 i x hi }
   {
   rw [KC (by omega)] at hi;have hb:i - vs.length<k:=by have:=(kY.1 hi).1;omega
   have hc:=hcell _ hb;rw [hi] at hc;have e: (ad.add (j * k)).add (i - vs.length)=ad.add i:=by
    rw [Addr.add_add,<-h3];exact congrArg ad.add (by omega)
   rwa [e] at hc }
 obtain ⟨l,vs,h1,h2,h3,h4⟩:=key len (kQ _);refine⟨some ad,len,m,l,vs,rfl, ?_,h1,h2,hl,hm⟩;cases vs with
 |nil=>exact .inl rfl
 |cons y r=>
  obtain ⟨b,off,spot⟩:=ad;obtain rfl:spot=none:=by simpa [Addr.add] using World.cell?_spot (h4 0 y rfl)
  exact .inr ⟨b,off,rfl,fun i u hi=>zeb (h4 i u hi)⟩ }
theorem zby {α:Type} (xs:List α) (a:oA):Ao xs (fun _=>False) a:=.inr fun _ _ h=>h
end
end Go.Proofs.YthmekfcgdfckaaaGreatDoor
