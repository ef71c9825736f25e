/- Plain facts of stage 8: what a happening that is done leaves, kind by kind; what it does to the gateway. No program in this text. -/
import Derived.Test.YthmekfcgdfckaaaGreatDoorWt35
import Derived.Test.YthmekfcgdfckaaaGreatDoorWtXGPl2
import Derived.Test.YthmekfcgdfckaaaGreatDoorWt27
import Derived.Test.YthmekfcgdfckaaaGreatDoorWtXUPl3
set_option maxRecDepth 1000000
set_option maxHeartbeats 0
namespace Go.Proofs.YthmekfcgdfckaaaGreatDoor
variable {ws r:List Int} {g:Gt}
section
open Go.RowKit
theorem zui {v:Vh} {x:Hp} {P:Vh→Prop} (h: (doS' v x).2=0)
    (a1:vhE v=0→x.k=1→∀B,gBeg v.ss v.sg v.g x.o v.now=B→B.2.2=0→P (if B.2.1=0 then⟨v.ss,v.sg,B.1,v.us,v.cs,v.net,v.now⟩ else⟨v.ss,v.sg,B.1,v.us,v.cs.take (B.2.1 - 1).toNat++ [⟨B.2.1,x.o.v,x.o.u,x.o.ts,x.o.imgs⟩],v.net,v.now⟩))
    (a2:vhE v=0→x.k=2→isU v x.u=true→(lastC v).2=0→∀D,gDue v.g (lastC v).1.n (lastC v).1.ts (lastC v).1.ims x.u=D→D.2=0→P ⟨v.ss,v.sg,v.g,v.us,v.cs,sendS v.net D.1,v.now⟩)
    (a9:vhE v=0→x.k=9→isU v x.u=true→(v.us.getD x.u.toNat un9).up=true→inB (stOf (v.us.getD x.u.toNat un9).ws).rdy 1 8=true→P ⟨v.ss,v.sg,v.g,v.us,v.cs,sendS v.net [⟨7,x.u,(stOf (v.us.getD x.u.toNat un9).ws).rdy,0,0, [],false⟩],v.now⟩)
    (a3:vhE v=0→x.k=3→isM v x.j=true→∀m,v.net.getD x.j.toNat ms9=m→(m.k=3∨m.k=6∨m.k=7)→∀H,gHear v.g m=H→H.2.2=0→P ⟨v.ss,v.sg,H.1,v.us,v.cs,sendS (v.net.eraseIdx x.j.toNat) H.2.1,v.now⟩)
    (a0:vhE v=0→x.k=3→isM v x.j=true→∀m,v.net.getD x.j.toNat ms9=m→¬(m.k=3∨m.k=6∨m.k=7)→∀H,hearA v.ss (v.us.getD m.u.toNat un9) m=H→H.2.2=0→P ⟨v.ss,v.sg,v.g,v.us.set m.u.toNat H.1,v.cs,sendS (v.net.eraseIdx x.j.toNat) H.2.1,v.now⟩)
    (a4:vhE v=0→x.k=4→isM v x.j=true→P (takeM v x.j))
    (a5:vhE v=0→x.k=5→isM v x.j=true→v.net.length≠24→P ⟨v.ss,v.sg,v.g,v.us,v.cs,v.net++ [v.net.getD x.j.toNat ms9],v.now⟩)
    (a6:vhE v=0→x.k=6→x.u= -1→inB x.j 0 100000=true→P ⟨v.ss,v.sg,⟨v.g.ws,x.j,v.g.up,v.g.t,v.g.vo,v.g.di⟩,v.us,v.cs,v.net,v.now⟩)
    (b6:vhE v=0→x.k=6→isU v x.u=true→inB x.j 0 100000=true→P ⟨v.ss,v.sg,v.g,v.us.set x.u.toNat (cutU (v.us.getD x.u.toNat un9) x.j),v.cs,v.net,v.now⟩)
    (a7:vhE v=0→x.k=7→x.u= -1→P ⟨v.ss,v.sg,⟨v.g.ws,-1,true,v.g.t,zbj v.g.vo,zbj v.g.di⟩,v.us,v.cs,v.net,v.now⟩)
    (b7:vhE v=0→x.k=7→isU v x.u=true→unE (v.us.getD x.u.toNat un9)=0→P ⟨v.ss,v.sg,v.g,v.us.set x.u.toNat (btd (v.us.getD x.u.toNat un9)),v.cs,v.net,v.now⟩)
    (a8:vhE v=0→x.k=8→∀H,gvUp v.g=H→H.2=0→P ⟨v.ss,v.sg,H.1,v.us,v.cs,v.net,v.now⟩)
    (a10:vhE v=0→x.k=10→v.now≠100000→P ⟨v.ss,v.sg,v.g,v.us,v.cs,v.net,v.now+1⟩):P (doS' v x).1:=by
  have hv:vhE v=0:=by
    apply Classical.byContradiction
    intro e;rw [do_e1 e] at h;exact e h
  have h2: (hapS v x).2=0:=by
    apply Classical.byContradiction
    intro e;rw [do_e2 hv e] at h;exact e h
  rw [do_0 hv h2];clear h;obtain ⟨k,u,j,o⟩:=x;unfold hapS at h2⊢;dsimp only at *
  by_cases k1:k=1
  {
  rw [if_pos k1] at h2⊢;unfold propS at h2⊢;have:=a1 hv k1 _ rfl;generalize gBeg v.ss v.sg v.g o v.now=B at *
  by_cases e:B.2.2=0
  {
  rw [if_neg (by simpa using e)];have:=this e
  split
  { rename_i e2;rw [if_pos e2] at this;exact this }
  { rename_i e2;rw [if_neg e2] at this;exact this }
  }
  { rw [if_pos e] at h2;exact absurd h2 e }
  }
  rw [if_neg k1] at h2⊢
  by_cases k2:k=2
  {
  rw [if_pos k2] at h2⊢;unfold pokeS at h2⊢;cases e1:isU v u
  { rw [if_pos e1] at h2;cases h2 }
  rw [if_neg (by first|decide| (rw [e1];decide))] at h2⊢
  by_cases e2: (lastC v).2=0
  {
  rw [if_neg (by simpa using e2)] at h2⊢;have:=a2 hv k2 e1 e2 _ rfl;generalize gDue v.g (lastC v).1.n (lastC v).1.ts (lastC v).1.ims u=D at *
  by_cases e:D.2=0
  { rw [if_neg (by simpa using e)];exact this e }
  { rw [if_pos e] at h2;exact absurd h2 e }
  }
  { rw [if_pos e2] at h2;exact absurd h2 e2 }
  }
  rw [if_neg k2] at h2⊢
  by_cases k9:k=9
  {
  rw [if_pos k9] at h2⊢;unfold qryS at h2⊢;cases e1:isU v u
  { rw [if_pos e1] at h2;cases h2 }
  rw [if_neg (by first|decide| (rw [e1];decide))] at h2⊢;cases e2: (v.us.getD u.toNat un9).up
  { rw [if_pos e2] at h2;cases h2 }
  rw [if_neg (by first|decide| (rw [e2];decide))] at h2⊢;cases e3:inB (stOf (v.us.getD u.toNat un9).ws).rdy 1 8
  { rw [if_pos e3] at h2;cases h2 }
  rw [if_neg (by first|decide| (rw [e3];decide))];exact a9 hv k9 e1 e2 e3
  }
  rw [if_neg k9] at h2⊢
  by_cases k3:k=3
  {
  rw [if_pos k3] at h2⊢;unfold arrS at h2⊢;cases e1:isM v j
  { rw [if_pos e1] at h2;cases h2 }
  rw [if_neg (by first|decide| (rw [e1];decide))] at h2⊢;have b3:=a3 hv k3 e1 _ rfl;have b0:=a0 hv k3 e1 _ rfl;generalize v.net.getD j.toNat ms9=m at *;unfold comeS at h2⊢
  by_cases e2:m.k=3∨m.k=6∨m.k=7
  {
  rw [if_pos e2] at h2⊢;have:=b3 e2 _ rfl;unfold takeM at h2⊢;dsimp only at h2⊢;generalize gHear v.g m=H at *
  by_cases e:H.2.2=0
  { rw [if_neg (by simpa using e)];exact this e }
  { rw [if_pos e] at h2;exact absurd h2 e }
  }
  {
  rw [if_neg e2] at h2⊢;have:=b0 e2 _ rfl;unfold takeM at h2⊢;dsimp only at h2⊢;generalize hearA v.ss (v.us.getD m.u.toNat un9) m=H at *
  by_cases e:H.2.2=0
  { rw [if_neg (by simpa using e)];exact this e }
  { rw [if_pos e] at h2;exact absurd h2 e }
  }
  }
  rw [if_neg k3] at h2⊢
  by_cases k4:k=4
  {
  rw [if_pos k4] at h2⊢;unfold losS at h2⊢;cases e1:isM v j
  { rw [if_pos e1] at h2;cases h2 }
  rw [if_neg (by first|decide| (rw [e1];decide))];exact a4 hv k4 e1
  }
  rw [if_neg k4] at h2⊢
  by_cases k5:k=5
  {
  rw [if_pos k5] at h2⊢;unfold dblS at h2⊢;cases e1:isM v j
  { rw [if_pos e1] at h2;cases h2 }
  rw [if_neg (by first|decide| (rw [e1];decide))] at h2⊢
  by_cases e2:v.net.length=24
  { rw [if_pos e2] at h2;cases h2 }
  rw [if_neg e2];exact a5 hv k5 e1 e2
  }
  rw [if_neg k5] at h2⊢
  by_cases k6:k=6
  {
  rw [if_pos k6] at h2⊢;unfold cutS at h2⊢;cases e1: (decide (u= -1)||isU v u)
  { rw [if_pos e1] at h2;cases h2 }
  rw [if_neg (by first|decide| (rw [e1];decide))] at h2⊢;cases e2:inB j 0 100000
  { rw [if_pos e2] at h2;cases h2 }
  rw [if_neg (by first|decide| (rw [e2];decide))]
  by_cases e3:u= -1
  { rw [if_pos e3];exact a6 hv k6 e3 e2 }
  { rw [if_neg e3];exact b6 hv k6 (by simpa [e3] using e1) e2 }
  }
  rw [if_neg k6] at h2⊢
  by_cases k7:k=7
  {
  rw [if_pos k7] at h2⊢;unfold bootV at h2⊢;cases e1: (decide (u= -1)||isU v u)
  { rw [if_pos e1] at h2;cases h2 }
  rw [if_neg (by first|decide| (rw [e1];decide))] at h2⊢
  by_cases e3:u= -1
  {
  rw [if_pos e3] at h2⊢;have e4:gtE v.g=0:=(zec hv).gt;have:zdb v.g= (⟨v.g.ws,-1,true,v.g.t,zbj v.g.vo,zbj v.g.di⟩,0):=by unfold zdb;rw [if_neg (by simpa using e4)]
  rw [this];exact a7 hv k7 e3
  }
  {
  rw [if_neg e3] at h2⊢;have e4:unE (v.us.getD u.toNat un9)=0:=by
    apply Classical.byContradiction
    intro e;rw [bootS_e e] at h2;exact e h2
  rw [bootS_0 e4];exact b7 hv k7 (by simpa [e3] using e1) e4
  }
  }
  rw [if_neg k7] at h2⊢
  by_cases k8:k=8
  {
  rw [if_pos k8] at h2⊢;unfold gupS at h2⊢;have:=a8 hv k8 _ rfl;generalize gvUp v.g=H at *
  by_cases e:H.2=0
  { rw [if_neg (by simpa using e)];exact this e }
  { rw [if_pos e] at h2;exact absurd h2 e }
  }
  rw [if_neg k8] at h2⊢
  by_cases k10:k=10
  {
  rw [if_pos k10] at h2⊢;unfold tckS at h2⊢
  by_cases e:v.now=100000
  { rw [if_pos e] at h2;cases h2 }
  rw [if_neg e];exact a10 hv k10 e
  }
  rw [if_neg k10] at h2;cases h2
def RK (ws:List Int):Prop:=∀r∈logR ws,2≤r.length
theorem zv6 (k:Nat): ∀l:List Int,(∀r∈(zb6 k l).1,2≤r.length)→3 *(zb6 k l).1.length≤l.length:=by
  induction k with
  |zero=>intro l _;simp [zb6]
  |succ k ih=>
    intro l h;rw [zci] at h⊢
    split
    { simp }
    {
    rename_i e
    rw [if_neg e] at h;have h0:=h _ (List.mem_cons_self ..);have h1:=ih (l.drop (1+longS l)) fun r hr=>h r (List.mem_cons_of_mem _ hr)
    simp at h0 h1⊢
    omega
    }
theorem RK.few (h:RK ws) (hl:64≤ws.length): (logR ws).length≤10:=by
  have:=zv6 _ _ h;have e:=zc6 (ws:=ws) (s:=secN ws) (by have:=zgk ws;omega);have e2:logR ws= (zb6 (secL ws (secN ws)).length (secL ws (secN ws))).1:=rfl;rw [←e2] at this;omega
theorem kepG_two (s:Gs): ∀r∈kepG s,2≤r.length:=by
  unfold kepG
  split
  { simp }
  {
  intro r hr;simp only [List.mem_cons,List.mem_append] at hr
  rcases hr with rfl|hr|hr|hr
  { simp }
  all_goals split at hr<;>simp at hr;subst hr;simp
  }
structure Lg (ws us:List Int):Prop where
  rk:RK ws→RK us
  gen:genN us≤genN ws+1
theorem Lg.refl (ws:List Int):Lg ws ws:=⟨id,by omega⟩
theorem app_gen {f:Int} {keep:List (List Int)} (h:zcp ws f r keep=0):genN (appS ws f r keep).1≤genN ws+1:=by
  rw [ztp h];have hle:=zr7 f (appC ws r keep).length
  show genN (zro ((appC ws r keep).take (cnt f (appC ws r keep).length)) ws)≤_
  by_cases c:cnt f (appC ws r keep).length< (appC ws r keep).length
  { rw [(zvq h _ c).2];omega }
  {
  rw [List.take_of_length_le (by omega)];exact(app_new h).2.2.2
  }
theorem zti {s:Gs} (hg:gtE g=0) (hr:2≤r.length):Lg g.ws (noteG g s r).1.ws:=by
  obtain ⟨hk,-⟩:=zrp hg;unfold noteG
  by_cases e:zcp g.ws g.fu r (kepG s)=0
  {
  have b:=zto e;have b2:=app_gen e;generalize appS g.ws g.fu r (kepG s)=R at *;have hR:RK g.ws→RK R.1:=by
    intro h q hq
    rcases b.2.2.2 with ⟨-,g4|g4⟩| ⟨-,g4⟩<;>rw [g4] at hq
    {
    rcases List.mem_append.1 hq with hq|hq
    { exact h q hq }
    { simp at hq;rw [hq];exact hr }
    }
    {
    rcases List.mem_append.1 hq with hq|hq
    { exact kepG_two s q hq }
    { simp at hq;rw [hq];exact hr }
    }
    { exact h q hq }
  unfold dnG
  split
  { exact⟨hR,b2⟩ }
  {
  split
  { exact⟨hR,b2⟩ }
  { exact .refl _ }
  }
  }
  {
  rw [zsv e];unfold dnG;rw [if_neg (by exact zr3 _ _ _ _ hk),if_neg (by exact e)];exact .refl _
  }
theorem hear_lg {m:Ms} (h: (gHear g m).2.2=0):Lg g.ws (gHear g m).1.ws:=by
  have z:=(zsc h).1;have hg:=(ztb z).1;unfold gHear;rw [if_neg (by simpa using z)]
  split
  {
  show Lg g.ws (ghK g (gOf g.ws) m).1.ws
  unfold ghK
  split
  {
  dsimp only
  split
  {
  unfold voteG
  split
  { exact zti (g:=withV g m.u) (zsl hg m.u) (by simp) }
  { exact .refl _ }
  }
  { exact .refl _ }
  }
  {
  split
  {
  dsimp only
  split
  {
  unfold doneG
  split
  { exact zti (g:=withD g m.u) (zsn hg m.u) (by simp) }
  { exact .refl _ }
  }
  { exact .refl _ }
  }
  { split<;>exact .refl _ }
  }
  }
  {
  exact .refl _
  }
theorem upE_ok (h:upE g=0):gtE g=0∧g.up=true:=by
  unfold upE at h
  split at h
  { rename_i h1;exact absurd h h1 }
  {
  rename_i h1
  split at h
  { rename_i h2;exact⟨by simpa using h1,h2⟩ }
  { cases h }
  }
structure Beg (ss:List ByteArray) (l:List S2) (g:Gt) (o:Of) (now:Int) (B:Gt×Int×Int):Prop where
  ok:gtE g=0
  up:g.up=true
  fr: (gOf g.ws).n=0∨(gOf g.ws).en=true
  n8: (gOf g.ws).n≠8
  tk:takeE ss l g.t o now g.vo.length=0
  okb:gtE B.1=0
  nvo:B.1.vo.length=g.vo.length
  lg:Lg g.ws B.1.ws
  or' : (B.2.1=0∧B.1.t=g.t∧gOf B.1.ws=gOf g.ws)∨(B.2.1= (gOf g.ws).n+1∧B.1.t= ⟨lastR g.t.r o.roots,o.v⟩∧gOf B.1.ws= ⟨(gOf g.ws).n+1,o.v,false,false,false⟩∧B.1.vo=zbj g.vo∧B.1.di=zbj g.di)
theorem ztd {ss:List ByteArray} {l:List S2} {o:Of} {now:Int} (h: (gBeg ss l g o now).2.2=0):Beg ss l g o now (gBeg ss l g o now):=by
  by_cases e1:upE g=0
  {
  obtain ⟨hg,hu⟩:=upE_ok e1
  by_cases e2: (gOf g.ws).n=0∨(gOf g.ws).en=true
  {
  by_cases e3: (gOf g.ws).n=8
  { rw [gBeg_3 e1 e2 e3] at h;cases h }
  {
  by_cases e4:takeE ss l g.t o now g.vo.length=0
  {
  rw [gBeg_0 e1 e2 e3 e4];have st:=zrw [1,(gOf g.ws).n+1,o.v] hg;have lg:=zti (s:=gOf g.ws) (r:= [1,(gOf g.ws).n+1,o.v]) hg (by simp);have hn:=(zrr g.ws).n;obtain ⟨t1,-,-,t4⟩:=zsh e4;have hv:=(zty t4).1;generalize noteG g (gOf g.ws) [1,(gOf g.ws).n+1,o.v]=N at *;unfold begD
  split
  {
  rename_i hN
  obtain ⟨y1,y2,y3,y4⟩:=st.yes hN;obtain ⟨c1,c2,c3,c4⟩:=zrp st.ok;have hr:relE o.v o.u o.ts=0:=by
    obtain ⟨-,-,t3,-⟩:=zsh e4;unfold crE at t3
    split at t3
    { assumption }
    { rename_i q;exact absurd t3 q }
  refine⟨hg,hu,e2,e3,e4,gtE_0 c1 (by show 1≤(zbj N.1.vo).length∧(zbj N.1.vo).length≤4;rw [zru];exact c2) (by show(zbj N.1.di).length= (zbj N.1.vo).length;rw [zru,zru];exact c3) ?_,by show(zbj N.1.vo).length=_;rw [zru];exact st.nvo,lg,.inr ⟨rfl,rfl, ?_,by rw [y3],by rw [y4]⟩⟩
  {
  refine last_ok (ver:=o.v) e4 ⟨?_, ?_⟩
  { have:=(zk4 hr).1;omega }
  { have:=(zk4 hr).1;omega }
  }
  { rw [y1,gN_beg _ ⟨by omega,by omega⟩] }
  }
  {
  rename_i hN
  have y:=st.no (by simpa using hN);exact⟨hg,hu,e2,e3,e4,st.ok,st.nvo,lg,.inl ⟨rfl,st.t,y⟩⟩
  }
  }
  { rw [gBeg_4 e1 e2 e3 e4] at h;exact absurd h e4 }
  }
  }
  {
  have f: (gOf g.ws).n≠0∧(gOf g.ws).en=false:=⟨fun e=>e2 (.inl e),by cases z: (gOf g.ws).en;rfl;exact absurd (.inr z) e2⟩;rw [gBeg_2 e1 f.1 f.2] at h;cases h
  }
  }
  {
  rw [gBeg_1 e1] at h;exact absurd h e1
  }
structure GSt (v:Vh) (x:Hp) (y:Vh):Prop where
  ok0:gtE v.g=0
  ok:gtE y.g=0
  ss:y.ss=v.ss
  sg:y.sg=v.sg
  nvo:y.g.vo.length=v.g.vo.length
  lg:Lg v.g.ws y.g.ws
  or' : ((gOf y.g.ws).n= (gOf v.g.ws).n∧y.g.t=v.g.t)∨(x.k=1∧Beg v.ss v.sg v.g x.o v.now (y.g,(gOf v.g.ws).n+1,0)∧y.g.t= ⟨lastR v.g.t.r x.o.roots,x.o.v⟩∧gOf y.g.ws= ⟨(gOf v.g.ws).n+1,x.o.v,false,false,false⟩)
theorem zun {v:Vh} {x:Hp} (h: (doS' v x).2=0):GSt v x (doS' v x).1:=by
  have same: ∀y:Vh,vhE v=0→y.g=v.g→y.ss=v.ss→y.sg=v.sg→GSt v x y:=fun y hv h1 h2 h3=>⟨(zec hv).gt,by rw [h1];exact(zec hv).gt,h2,h3,by rw [h1],by rw [h1];exact .refl _,.inl ⟨by rw [h1],by rw [h1]⟩⟩
  refine zui h ?_ ?_ ?_ ?_ ?_ ?_ ?_ ?_ ?_ ?_ ?_ ?_ ?_
  {
  intro hv k1 B hB h0;have b:=ztd (ss:=v.ss) (l:=v.sg) (g:=v.g) (o:=x.o) (now:=v.now) (by rw [hB];exact h0);rw [hB] at b;have hn:=(zrr v.g.ws).n
  split
  {
  rename_i e
  rcases b.or' with ⟨-,c2,c3⟩| ⟨c1,-⟩
  { exact⟨b.ok,b.okb,rfl,rfl,b.nvo,b.lg,.inl ⟨by show(gOf B.1.ws).n=_;rw [c3],c2⟩⟩ }
  { omega }
  }
  {
  rename_i e
  rcases b.or' with ⟨c1,-⟩| ⟨c1,c2,c3,-⟩
  { exact absurd c1 e }
  {
  obtain ⟨B1,B2,B3⟩:=B;dsimp only at c1 c2 c3 h0;subst c1 h0;exact⟨b.ok,b.okb,rfl,rfl,b.nvo,b.lg,.inr ⟨k1,b,c2,c3⟩⟩
  }
  }
  }
  { intro hv _ _ _ D _ _;exact same _ hv rfl rfl rfl }
  { intro hv _ _ _ _;exact same _ hv rfl rfl rfl }
  {
  intro hv _ _ m _ _ H hH h0;obtain ⟨-,hh⟩:=zsc (g:=v.g) (m:=m) (by rw [hH];exact h0);have lg:=hear_lg (g:=v.g) (m:=m) (by rw [hH];exact h0);rw [hH] at hh lg;exact⟨(zec hv).gt,hh.onc.ok,rfl,rfl,hh.onc.nvo,lg,.inl ⟨hh.onc.n,hh.onc.tr⟩⟩
  }
  { intro hv _ _ m _ _ H _ _;exact same _ hv rfl rfl rfl }
  { intro hv _ _;exact same _ hv rfl rfl rfl }
  { intro hv _ _ _;exact same _ hv rfl rfl rfl }
  {
  intro hv _ _ hj;obtain ⟨c1,c2,c3,c4⟩:=zrp (zec hv).gt;have hj2:0≤x.j∧x.j≤100000:=by unfold inB at hj;simpa using hj
  exact⟨(zec hv).gt,gtE_0 (zsr c1 (show(-1:Int)≤x.j by omega) hj2.2) c2 c3 c4,rfl,rfl,rfl,.refl _,.inl ⟨rfl,rfl⟩⟩
  }
  { intro hv _ _ _;exact same _ hv rfl rfl rfl }
  { intro hv _ _;exact⟨(zec hv).gt,boot_ok (zec hv).gt,rfl,rfl,zru _,.refl _,.inl ⟨rfl,rfl⟩⟩ }
  { intro hv _ _ _;exact same _ hv rfl rfl rfl }
  {
  intro hv _ H hH h0;have o:=zu4 (g:=v.g) (by rw [hH];exact h0);have e:=zsj (g:=v.g) (by rw [hH];exact h0);have lg:Lg v.g.ws (gvUp v.g).1.ws:=by rw [e.2.2.2];exact zti e.1 (by simp)
  rw [hH] at o lg;exact⟨(zec hv).gt,o.1.ok,rfl,rfl,o.1.nvo,lg,.inl ⟨o.1.n,o.1.tr⟩⟩
  }
  {
  intro hv _ _;exact same _ hv rfl rfl rfl
  }
end
end Go.Proofs.YthmekfcgdfckaaaGreatDoor
