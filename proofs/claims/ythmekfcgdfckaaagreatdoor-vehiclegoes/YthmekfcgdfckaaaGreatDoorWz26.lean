/- Facts. -/
import Derived.Test.YthmekfcgdfckaaaGreatDoorWz23
set_option maxRecDepth 1000000
set_option maxHeartbeats 0
namespace Go.Proofs.YthmekfcgdfckaaaGreatDoor
open Go.RowKit
variable {x u:Un} {l:List Bool} {k j:Nat} {g:Gt} {m:Ms} {ss:LB} {s:Gs} {us:List Un} {G n:Int} {r ws:LI} {v:Vh} {F:LL}
theorem zsd (l:List Bool) (k:Nat): (zbj l).getD k false=false:=by
 unfold zbj;rw [ka,List.getElem?_map];cases l[k]?<;>rfl
theorem ztn (g:Gt) (s:Gs) (r:LI): ((noteG g s r).1.vo=g.vo\/(noteG g s r).1.vo=zbj g.vo)/\((noteG g s r).1.di=g.di\/(noteG g s r).1.di=zbj g.di):=by
 unfold noteG dnG
 split
 { exact⟨.inr rfl,.inr rfl⟩ }
 { split<;>exact⟨.inl rfl,.inl rfl⟩ }
theorem or_at {x:List Bool} (h:x=l\/x=zbj l) (hk:x.getD k false=true):l.getD k false=true:=by
 rcases h with h|h
 { rw [<-h];exact hk }
 { rw [h,zsd] at hk;cases hk }
theorem ztk {u:Int} (h: (setB l u).getD k false=true):l.getD k false=true\/k=u.toNat:=by
 unfold setB at h;rw [ka,Ka] at h
 split at h
 { rename_i e;exact .inr e.symm }
 { exact .inl (by rw [ka];exact h) }
theorem zxl (h:allB l=true) (hk:k<l.length):l.getD k false=true:=by
 unfold allB at h;simp only [Bool.not_eq_true',List.any_eq_false] at h;have:=h _ (KH hk);rw [ka,kX hk]
 simpa using this
structure HG (g:Gt) (m:Ms) (x:Gt):Prop where
 vo: ∀k:Nat,x.vo.getD k false=true->g.vo.getD k false=true\/(m.k=3/\m.y=true/\m.n= (gOf g.ws).n/\decG (gOf g.ws)=false/\k=m.u.toNat)
 di: ∀k:Nat,x.di.getD k false=true->g.di.getD k false=true\/(m.k=6/\m.n= (gOf g.ws).n/\decG (gOf g.ws)=true/\k=m.u.toNat)
 st:gOf x.ws=gOf g.ws\/
  (gOf x.ws= ⟨(gOf g.ws).n,(gOf g.ws).v,true,false,false⟩/\decG (gOf g.ws)=false/\m.k=3/\m.y=true/\m.n= (gOf g.ws).n/\∀k,k<g.vo.length->g.vo.getD k false=true\/k=m.u.toNat)\/
  (gOf x.ws= ⟨(gOf g.ws).n,(gOf g.ws).v,(gOf g.ws).co,(gOf g.ws).ab,true⟩/\decG (gOf g.ws)=true/\m.k=6/\m.n= (gOf g.ws).n/\∀k,k<g.di.length->g.di.getD k false=true\/k=m.u.toNat)
theorem hear_hg (h: (gHear g m).2.2=0):HG g m (gHear g m).1:=by
 have z:=(zsc h).1;obtain ⟨hg,hu,hn⟩:=ztb z;have self:HG g m g:=⟨fun _ h=>.inl h,fun _ h=>.inl h,.inl rfl⟩;unfold gHear;rw [KJ (by simpa using z)]
 split
 {
 show HG g m (ghK g (gOf g.ws) m).1
 unfold ghK
 split
 {
 rename_i h3
 dsimp only
 split
 {
 rename_i hp
 unfold pend at hp;simp only [kr,KF,Bool.not_eq_true'] at hp;obtain ⟨⟨p1,p2⟩,p3,p4⟩:=hp;have hvo: ∀k:Nat,(setB g.vo m.u).getD k false=true->g.vo.getD k false=true\/(m.k=3/\m.y=true/\m.n= (gOf g.ws).n/\decG (gOf g.ws)=false/\k=m.u.toNat):=fun k hk=>(ztk hk).imp id fun e=>⟨h3,p4,p1.symm,p3,e⟩
 unfold voteG
 split
 {
 rename_i ha
 have vd:=ztn (withV g m.u) (gOf g.ws) [2,(gOf g.ws).n];have st:=zrw [2,(gOf g.ws).n] (zsl hg m.u);have e0:gOf (withV g m.u).ws=gOf g.ws:=rfl;rw [e0] at st;refine⟨fun k hk=>hvo k (or_at vd.1 hk),fun k hk=>.inl (or_at vd.2 hk), ?_⟩
 show gOf (noteG (withV g m.u) (gOf g.ws) [2,(gOf g.ws).n]).1.ws=_\/gOf (noteG (withV g m.u) (gOf g.ws) [2,(gOf g.ws).n]).1.ws=_/\_\/_
 generalize noteG (withV g m.u) (gOf g.ws) [2,(gOf g.ws).n]=N at *;cases zz:N.2
 { exact .inl ((st.no zz).trans e0) }
 {
 obtain ⟨y,-⟩:=st.yes zz;rw [e0,gN_of (by omega)] at y;refine .inr (.inl ⟨?_,p3,h3,p4,p1.symm,fun k hk=> ?_⟩)
 {
 rw [y];have hab: (gOf g.ws).ab=false:=by unfold decG at p3;revert p3;cases (gOf g.ws).ab<;>simp
 show(⟨(gOf g.ws).n,(gOf g.ws).v,!(gOf g.ws).ab,(gOf g.ws).ab,(gOf g.ws).en⟩:Gs)=_
 rw [hab,p2];rfl }
 { exact ztk (zxl ha (by rw [zso];exact hk)) } } }
 { exact⟨hvo,fun _ h=>.inl h,.inl rfl⟩ } }
 { exact self } }
 {
 split
 {
 rename_i _ h6
 dsimp only
 split
 {
 rename_i hp
 unfold pend at hp;simp only [kr,KF,Bool.not_eq_true'] at hp;obtain ⟨⟨p1,p2⟩,p3⟩:=hp;have hdi: ∀k:Nat,(setB g.di m.u).getD k false=true->g.di.getD k false=true\/(m.k=6/\m.n= (gOf g.ws).n/\decG (gOf g.ws)=true/\k=m.u.toNat):=fun k hk=>(ztk hk).imp id fun e=>⟨h6,p1.symm,p3,e⟩
 unfold doneG
 split
 {
 rename_i ha
 have vd:=ztn (withD g m.u) (gOf g.ws) [4,(gOf g.ws).n];have st:=zrw [4,(gOf g.ws).n] (zsn hg m.u);have e0:gOf (withD g m.u).ws=gOf g.ws:=rfl;rw [e0] at st;refine⟨fun k hk=>.inl (or_at vd.1 hk),fun k hk=>hdi k (or_at vd.2 hk), ?_⟩
 show gOf (noteG (withD g m.u) (gOf g.ws) [4,(gOf g.ws).n]).1.ws=_\/_\/gOf (noteG (withD g m.u) (gOf g.ws) [4,(gOf g.ws).n]).1.ws=_/\_
 generalize noteG (withD g m.u) (gOf g.ws) [4,(gOf g.ws).n]=N at *;cases zz:N.2
 { exact .inl ((st.no zz).trans e0) }
 {
 obtain ⟨y,-⟩:=st.yes zz;rw [e0,gN_of (by omega)] at y;refine .inr (.inr ⟨?_,p3,h6,p1.symm,fun k hk=>ztk (zxl ha (by rw [zso];exact hk))⟩);rw [y]
 show(⟨(gOf g.ws).n,(gOf g.ws).v,(gOf g.ws).co,(gOf g.ws).ab,decG (gOf g.ws)⟩:Gs)=_
 rw [p3] } }
 { exact⟨fun _ h=>.inl h,hdi,.inl rfl⟩ } }
 { exact self } }
 { split<;>exact self } } }
 {
 exact self }
def byU (u:Un):Int:=(stOf u.ws).by'
def rdU (u:Un):Int:=(stOf u.ws).rdy
structure EM (P:Int) (s:Gs) (us:List Un) (m:Ms):Prop where
 n:m.n<=s.n
 k3:m.k=3->m.y=true->m.n=s.n->decG s=false->∀u,us[m.u.toNat]?=some u->rdU u=s.n
 k4:m.k=4->m.n<=P\/(m.n=s.n/\s.co=true)
 k5:m.k=5->m.n<s.n\/(m.n=s.n/\s.ab=true)
 k6:m.k=6->m.n=s.n->s.ab=true\/(s.co=true/\∀u,us[m.u.toNat]?=some u->byU u=s.n)
structure EJ (P:Int) (s:Gs) (vo di:List Bool) (us:List Un) (net:List Ms):Prop where
 p:0<=P/\(P<s.n\/(P=0/\s.n=0))
 b: ∀(k:Nat) u,us[k]?=some u->byU u=P\/(s.co=true/\byU u=s.n)
 co:s.co=true->∀(k:Nat) u,us[k]?=some u->rdU u=s.n\/byU u=s.n
 en:s.co=true->s.en=true->∀(k:Nat) u,us[k]?=some u->byU u=s.n
 fv:decG s=false->∀(k:Nat) u,us[k]?=some u->vo.getD k false=true->rdU u=s.n
 fd:s.co=true->∀(k:Nat) u,us[k]?=some u->di.getD k false=true->byU u=s.n
 d0:decG s=false->∀k:Nat,di.getD k false=false
 ms: ∀m∈net,EM P s us m
section
variable {P:Int} {s:Gs} {vo di vo' di' :List Bool} {us:List Un} {net net' :List Ms}
theorem EJ.sent (h:EJ P s vo di us net) (hn: ∀m∈net',m∈net\/EM P s us m):EJ P s vo di us net' :=⟨h.p,h.b,h.co,h.en,h.fv,h.fd,h.d0,fun m hm=>(hn m hm).elim (h.ms m) id⟩
theorem EJ.bools (h:EJ P s vo di us net) (h1: ∀k:Nat,vo'.getD k false=true->vo.getD k false=true) (h2: ∀k:Nat,di'.getD k false=true->di.getD k false=true):EJ P s vo' di' us net:=
 ⟨h.p,h.b,h.co,h.en,fun a k u b c=>h.fv a k u b (h1 k c),fun a k u b c=>h.fd a k u b (h2 k c),fun a k=>by cases z:di'.getD k false;rfl;exact absurd (h2 k z) (by rw [h.d0 a k];decide),h.ms⟩
theorem EJ.gate {x:Gt} (h:EJ P (gOf g.ws) g.vo g.di us net) (hx:HG g m x) (hm:m∈net) (hl:us.length=g.vo.length) (hd:g.di.length=g.vo.length) (hs:GsOk (gOf g.ws)):EJ P (gOf x.ws) x.vo x.di us net:=by
 have q:=h.ms m hm;have hvo:decG (gOf g.ws)=false->∀(k:Nat) u,us[k]?=some u->x.vo.getD k false=true->rdU u= (gOf g.ws).n:=by
  intro a k u b c
  rcases hx.vo k c with e| ⟨k3,y,en,ed,e⟩
  { exact h.fv a k u b e }
  { exact q.k3 k3 y en ed u (by rw [<-e];exact b) }
 have hdi: (gOf g.ws).co=true->∀(k:Nat) u,us[k]?=some u->x.di.getD k false=true->byU u= (gOf g.ws).n:=by
  intro a k u b c
  rcases hx.di k c with e| ⟨k6,en,ed,e⟩
  { exact h.fd a k u b e }
  {
  rcases q.k6 k6 en with e1| ⟨-,e1⟩
  { rw [hs.one a] at e1;cases e1 }
  { exact e1 u (by rw [<-e];exact b) } }
 have hd0:decG (gOf g.ws)=false->∀k:Nat,x.di.getD k false=false:=by
  intro a k;cases z:x.di.getD k false
  { rfl }
  {
  rcases hx.di k z with e| ⟨-,-,ed,-⟩
  { rw [h.d0 a k] at e;cases e }
  { rw [a] at ed;cases ed } }
 rcases hx.st with e| ⟨e,ed,k3,y,en,ea⟩| ⟨e,ed,k6,en,ea⟩
 { rw [e];exact⟨h.p,h.b,h.co,h.en,hvo,hdi,hd0,h.ms⟩ }
 {
 have hnc: (gOf g.ws).co=false:=by unfold decG at ed;revert ed;cases (gOf g.ws).co<;>simp
 have hna: (gOf g.ws).ab=false:=by unfold decG at ed;revert ed;cases (gOf g.ws).ab<;>simp
 rw [e];refine⟨h.p,fun k u hk=>.inl ?_,fun _ k u hk=>.inl ?_,fun _ a=>(by cases a),fun a=>(by cases a),fun _ k u hk c=> ?_,fun a=>(by cases a),fun a ha=> ?_⟩
 {
 rcases h.b k u hk with b| ⟨b,-⟩
 { exact b }
 { rw [hnc] at b;cases b } }
 {
 rcases ea k (by rw [<-hl];exact(kY.1 hk).1) with b|b
 { exact h.fv ed k u hk b }
 { exact q.k3 k3 y en ed u (by rw [<-b];exact hk) } }
 { rw [hd0 ed k] at c;cases c }
 {
 have r:=h.ms a ha;refine⟨r.n,fun _ _ _ a=>(by cases a),fun k=>(r.k4 k).imp id fun b=> ?_,fun k=>.inl ?_,fun k hn=> ?_⟩
 { rw [hnc] at b;exact⟨b.1,rfl⟩ }
 {
 rcases r.k5 k with b| ⟨-,b⟩
 { exact b }
 { rw [hna] at b;cases b } }
 {
 rcases r.k6 k hn with b| ⟨b,-⟩
 { rw [hna] at b;cases b }
 { rw [hnc] at b;cases b } } } }
 {
 rw [e];have hdd:decG (⟨(gOf g.ws).n,(gOf g.ws).v,(gOf g.ws).co,(gOf g.ws).ab,true⟩:Gs)=true:=ed;refine⟨h.p,h.b,h.co,fun a _ k u hk=> ?_,fun a=>(by rw [hdd] at a;cases a),hdi,fun a=>(by rw [hdd] at a;cases a),fun a ha=> ?_⟩
 {
 rcases ea k (by rw [hd,<-hl];exact(kY.1 hk).1) with b|b
 { exact h.fd a k u hk b }
 {
 rcases q.k6 k6 en with c| ⟨-,c⟩
 { rw [hs.one a] at c;cases c }
 { exact c u (by rw [<-b];exact hk) } } }
 {
 have r:=h.ms a ha;exact⟨r.n,r.k3,r.k4,r.k5,r.k6⟩ } }
theorem EJ.unit {l:List Ms} (h:EJ P s vo di us net) (hs:GsOk s) (hW:UW ss u m x l) (hm:m∈net) (hq:msE m=0) (hj:m.u= (j:Int)) (hu:us[j]?=some u) (hr:rdU u=0\/(byU u<rdU u/\rdU u<=s.n)):EJ P s vo di (us.set j x) net/\∀a∈l,EM P s (us.set j x) a:=by
 have q:=h.ms m hm;have qm:=msE_0 hq;have hp:=h.p;have hb:=h.b j u hu;have hjl:j<us.length:=(kY.1 hu).1;unfold byU rdU at *;have key: ((stOf x.ws).by' = (stOf u.ws).by' /\((stOf x.ws).rdy= (stOf u.ws).rdy\/((stOf u.ws).rdy=0/\(stOf u.ws).by' <m.n/\(stOf x.ws).rdy=m.n)\/(m.n<s.n\/s.ab=true)/\(stOf u.ws).rdy=m.n/\(stOf x.ws).rdy=0))\/((stOf x.ws).by' =s.n/\s.co=true/\(stOf x.ws).rdy=0):=by
  rcases hW.st with ⟨e,-⟩| ⟨k2,r0,bn,e,-⟩| ⟨k4,r0,bn,e,-⟩| ⟨k5,r0,bn,e,-⟩
  { rw [e];exact .inl ⟨rfl,.inl rfl⟩ }
  { rw [e];exact .inl ⟨rfl,.inr (.inl ⟨r0,bn,rfl⟩)⟩ }
  {
  rw [e]
  rcases q.k4 k4 with c| ⟨c1,c2⟩
  {
  rcases hr with hr|hr
  { omega }
  { rcases hb with hb|hb<;>omega } }
  { exact .inr ⟨c1,c2,rfl⟩ } }
  {
  rw [e];exact .inl ⟨rfl,.inr (.inr ⟨(q.k5 k5).imp id And.right,r0,rfl⟩)⟩ }
 have hnc:s.ab=true->s.co=false:=fun a=>by cases z:s.co;rfl;have:=hs.one z;rw [a] at this;exact this
 have hdc:decG s=false->s.co=false/\s.ab=false:=fun a=>by unfold decG at a;revert a;cases s.co<;>cases s.ab<;>simp
 have at_: ∀(k:Nat) z,(us.set j x)[k]?=some z->(k=j/\z=x)\/us[k]?=some z:=by
  intro k z hk;rw [Ka] at hk
  split at hk
  { rename_i e;cases hk;exact .inl ⟨e.symm,rfl⟩ }
  { exact .inr hk }
 have xb: (stOf x.ws).by' =P\/(s.co=true/\(stOf x.ws).by' =s.n):=by
  rcases key with ⟨e,-⟩| ⟨e,c,-⟩
  { rw [e];exact hb }
  { exact .inr ⟨c,e⟩ }
 have xby:s.co=true->(stOf u.ws).by' =s.n->(stOf x.ws).by' =s.n:=fun c e=>by
  rcases key with ⟨e1,-⟩| ⟨e1,-,-⟩<;>omega
 have xrd:decG s=false->(stOf u.ws).rdy=s.n->(stOf x.ws).rdy=s.n:=fun c e=>by
  obtain ⟨c1,c2⟩:=hdc c;have qn:=q.n
  rcases key with ⟨-,e1| ⟨e1,-,e2⟩| ⟨e1|e1,e2,-⟩⟩| ⟨-,e1,-⟩
  { rw [e1];exact e }
  { omega }
  { omega }
  { rw [c2] at e1;cases e1 }
  { rw [c1] at e1;cases e1 }
 refine⟨⟨hp,fun k z hk=> ?_,fun c k z hk=> ?_,fun c c2 k z hk=> ?_,fun c k z hk hv=> ?_,fun c k z hk hv=> ?_,h.d0,fun a ha=> ?_⟩,fun a ha=> ?_⟩
 {
 rcases at_ k z hk with ⟨-,rfl⟩|hk
 { exact xb }
 { exact h.b k z hk } }
 {
 rcases at_ k z hk with ⟨-,rfl⟩|hk
 {
 rcases h.co c j u hu with e|e
 {
 rcases key with ⟨e1,e2| ⟨e2,e3,e4⟩| ⟨e2|e2,e3,-⟩⟩| ⟨e1,-,-⟩
 { exact .inl (e2.trans e) }
 { exact .inl (by show(stOf z.ws).rdy=_;have:=q.n;unfold rdU at e;omega) }
 { unfold rdU at e;omega }
 { rw [hnc e2] at c;cases c }
 { exact .inr e1 } }
 { exact .inr (xby c e) } }
 { exact h.co c k z hk } }
 {
 rcases at_ k z hk with ⟨-,rfl⟩|hk
 { exact xby c (h.en c c2 j u hu) }
 { exact h.en c c2 k z hk } }
 {
 rcases at_ k z hk with ⟨rfl,rfl⟩|hk
 { exact xrd c (h.fv c _ u hu hv) }
 { exact h.fv c k z hk hv } }
 {
 rcases at_ k z hk with ⟨rfl,rfl⟩|hk
 { exact xby c (h.fd c _ u hu hv) }
 { exact h.fd c k z hk hv } }
 {
 have r:=h.ms a ha;refine⟨r.n,fun k y n d z hz=> ?_,r.k4,r.k5,fun k n=> ?_⟩
 {
 rcases at_ _ z hz with ⟨e,rfl⟩|hz
 { exact xrd d (r.k3 k y n d u (by rw [e];exact hu)) }
 { exact r.k3 k y n d z hz } }
 {
 rcases r.k6 k n with b| ⟨b,c⟩
 { exact .inl b }
 {
 refine .inr ⟨b,fun z hz=> ?_⟩
 rcases at_ _ z hz with ⟨e,rfl⟩|hz
 { exact xby b (c u (by rw [e];exact hu)) }
 { exact c z hz } } } }
 {
 have hx: (us.set j x)[m.u.toNat]?=some x:=by rw [hj,kp,Ka,KK rfl,KK hjl]
 have only: ∀z,(us.set j x)[m.u.toNat]?=some z->z=x:=fun z hz=>by rw [hx] at hz;cases hz;rfl
 rcases hW.an with e| ⟨e,k2,r1,r2⟩| ⟨e,k2⟩| ⟨e,r1⟩<;>rw [e] at ha<;>simp only [kt,KY,or_false] at ha
 {
 rw [ha];exact⟨q.n,fun _ _ n _ z hz=>by rw [only z hz];exact r1.trans n,fun k=>absurd (show(3:Int)=4 from k) (by decide),fun k=>absurd (show(3:Int)=5 from k) (by decide),fun k=>absurd (show(3:Int)=6 from k) (by decide)⟩ }
 {
 rw [ha];exact⟨q.n,fun _ y=>(by cases y),fun k=>absurd (show(3:Int)=4 from k) (by decide),fun k=>absurd (show(3:Int)=5 from k) (by decide),fun k=>absurd (show(3:Int)=6 from k) (by decide)⟩ }
 {
 rw [ha];refine⟨q.n,fun k=>absurd (show(6:Int)=3 from k) (by decide),fun k=>absurd (show(6:Int)=4 from k) (by decide),fun k=>absurd (show(6:Int)=5 from k) (by decide),fun _ n=> ?_⟩;have n:m.n=s.n:=n
 rcases r1 with ⟨-,r2⟩| ⟨-,r2⟩| ⟨k5,r2,r3⟩
 {
 rcases xb with b| ⟨b,c⟩
 { omega }
 { exact .inr ⟨b,fun z hz=>by rw [only z hz];exact c⟩ } }
 {
 rcases xb with b| ⟨b,c⟩
 { omega }
 { exact .inr ⟨b,fun z hz=>by rw [only z hz];exact c⟩ } }
 {
 rcases q.k5 k5 with b|b
 { omega }
 { exact .inl b.2 } } } }
end
structure EI (P G:Int) (v:Vh):Prop where
 ej:EJ P (gOf v.g.ws) v.g.vo v.g.di v.us v.net
 gg:genN v.g.ws<=G
 gu: ∀(k:Nat) u,v.us[k]?=some u->genN u.ws<=G
section
variable {F:LL} {C:Int->Prop} {v:Vh}
theorem HI.rdy (hI:HI F C v) (hu:v.us[k]?=some u):0<=byU u/\(rdU u=0\/(byU u<rdU u/\rdU u<=(gOf v.g.ws).n)):=by
 have q:=hI.un k u hu;refine⟨q.by0,q.rdy.imp id fun ⟨a,c,nm,d,_⟩=>⟨a, ?_⟩⟩;have:=(kY.1 d).1;have:=hI.ncs;have:=q.by0;unfold rdU;omega
theorem EM.stay {P P' :Int} {s' :Gs} (h:EM P s us m) (hn:s.n<s'.n) (h4:m.n<=P\/(m.n=s.n/\s.co=true)->m.n<=P'):EM P' s' us m:=by
 have:=h.n;exact⟨by omega,fun _ _ e=>absurd e (by omega),fun k=>.inl (h4 (h.k4 k)),fun _=>.inl (by omega),fun _ e=>absurd e (by omega)⟩
theorem EJ.like {P:Int} {vo di:List Bool} {us' :List Un} {net:List Ms} (h:EJ P s vo di us net) (hu: ∀(k:Nat) u,us'[k]?=some u->∃z,us[k]?=some z/\z.ws=u.ws):EJ P s vo di us' net:=by
 have b: ∀{z u:Un},z.ws=u.ws->byU z=byU u/\rdU z=rdU u:=fun e=>by unfold byU rdU;rw [e];exact⟨rfl,rfl⟩
 refine⟨h.p,fun k u hk=> ?_,fun c k u hk=> ?_,fun c c2 k u hk=> ?_,fun c k u hk hv=> ?_,fun c k u hk hv=> ?_,h.d0,fun m hm=> ?_⟩
 { obtain ⟨z,h1,h2⟩:=hu k u hk;rw [<-(b h2).1];exact h.b k z h1 }
 { obtain ⟨z,h1,h2⟩:=hu k u hk;rw [<-(b h2).1,<-(b h2).2];exact h.co c k z h1 }
 { obtain ⟨z,h1,h2⟩:=hu k u hk;rw [<-(b h2).1];exact h.en c c2 k z h1 }
 { obtain ⟨z,h1,h2⟩:=hu k u hk;rw [<-(b h2).2];exact h.fv c k z h1 hv }
 { obtain ⟨z,h1,h2⟩:=hu k u hk;rw [<-(b h2).1];exact h.fd c k z h1 hv }
 {
 have r:=h.ms m hm;refine⟨r.n,fun k y n d u hk=> ?_,r.k4,r.k5,fun k n=>(r.k6 k n).imp id fun d=>⟨d.1,fun u hk=> ?_⟩⟩
 { obtain ⟨z,h1,h2⟩:=hu _ u hk;rw [<-(b h2).2];exact r.k3 k y n d z h1 }
 { obtain ⟨z,h1,h2⟩:=hu _ u hk;rw [<-(b h2).1];exact d.2 z h1 } }
theorem zvb {i:Nat} {hj:j<us.length} (e1:us.getD i un9=us[j]) (e:i=j) (hx:x.ws= (us.getD i un9).ws): ∀(k:Nat) u,(us.set i x)[k]?=some u->∃z,us[k]?=some z/\z.ws=u.ws:=by
 intro k u hk;rw [Ka] at hk
 split at hk
 {
 rename_i e2
 split at hk
 {
 cases hk;subst e2 e;exact⟨_,kX hj,by rw [hx,e1]⟩ }
 { cases hk } }
 { exact⟨u,hk,rfl⟩ }
theorem ei_step {P:Int} {x:Hp} (hI:HI F C v) (hE:EI P G v) (h: (doS' v x).2=0): ∃P',EI P' (G+1) (doS' v x).1:=by
 have q:=hI.vg;have hs:=zrr v.g.ws;have J:=hE.ej;have same: ∀(k:Nat) u,v.us[k]?=some u->genN u.ws<=G+1:=fun k u hk=>by have:=hE.gu k u hk;omega
 have one: ∀(j:Nat) (z:Un),genN z.ws<=G+1->∀(k:Nat) u,(v.us.set j z)[k]?=some u->genN u.ws<=G+1:=by
  intro j z hz k u hk;rw [Ka] at hk
  split at hk
  {
  split at hk
  { cases hk;exact hz }
  { cases hk } }
  { exact same k u hk }
 have GG:=zun h;have gg:genN (doS' v x).1.g.ws<=G+1:=by have:=GG.lg.gen;have:=hE.gg;omega
 suffices hh: ∃P',EJ P' (gOf (doS' v x).1.g.ws) (doS' v x).1.g.vo (doS' v x).1.g.di (doS' v x).1.us (doS' v x).1.net/\∀(k:Nat) u,(doS' v x).1.us[k]?=some u->genN u.ws<=G+1 by
  obtain ⟨P',h1,h2⟩:=hh;exact⟨P',h1,gg,h2⟩
 clear gg GG;refine zui (P:=fun y=>∃P',EJ P' (gOf y.g.ws) y.g.vo y.g.di y.us y.net/\∀(k:Nat) u,y.us[k]?=some u->genN u.ws<=G+1) h ?_ ?_ ?_ ?_ ?_ ?_ ?_ ?_ ?_ ?_ ?_ ?_ ?_
 {
 intro hv k1 B hB h0;have vd:=ztn v.g (gOf v.g.ws) [1,(gOf v.g.ws).n+1,x.o.v];have b:=ztd (ss:=v.ss) (l:=v.sg) (g:=v.g) (o:=x.o) (now:=v.now) (by rw [hB];exact h0);have eb:gBeg v.ss v.sg v.g x.o v.now=begD ((gOf v.g.ws).n+1) (takeT 0 v.g.t x.o) (noteG v.g (gOf v.g.ws) [1,(gOf v.g.ws).n+1,x.o.v]):=zyp (by unfold upE;rw [KJ (by simpa using b.ok),KK b.up]) b.fr b.n8 b.tk;rw [hB] at b eb;have hn:=hs.n
 split
 {
 rename_i e
 rcases b.or' with ⟨-,-,c3⟩| ⟨c1,-⟩
 {
 refine⟨P, ?_,same⟩
 show EJ P (gOf B.1.ws) B.1.vo B.1.di v.us v.net
 rw [c3];have hbd:B.1= (noteG v.g (gOf v.g.ws) [1,(gOf v.g.ws).n+1,x.o.v]).1:=by
  rw [eb] at e|-;unfold begD at e|-
  split
  { rename_i e2;rw [KK e2] at e;have e: (gOf v.g.ws).n+1=0:=e;omega }
  { rfl }
 rw [hbd];exact J.bools (fun k hk=>or_at vd.1 hk) (fun k hk=>or_at vd.2 hk) }
 { omega } }
 {
 rename_i e
 rcases b.or' with ⟨c1,-⟩| ⟨c1,c2,c3,c4,c5⟩
 { exact absurd c1 e }
 refine⟨if(gOf v.g.ws).co=true then(gOf v.g.ws).n else P, ?_,same⟩
 show EJ _ (gOf B.1.ws) B.1.vo B.1.di v.us v.net
 rw [c3,c4,c5];have hp:=J.p;have hen: (gOf v.g.ws).co=true->(gOf v.g.ws).en=true:=fun c=>by
  rcases b.fr with z|z
  { rw [hs.none z] at c;cases c }
  { exact z }
 refine⟨?_,fun k u hk=>.inl ?_,fun c=>(by cases c),fun c=>(by cases c),fun _ k u _ c=>(by rw [zsd] at c;cases c),fun c=>(by cases c),fun _ k=>zsd _ k,fun m hm=>(J.ms m hm).stay (by show(gOf v.g.ws).n< (gOf v.g.ws).n+1;omega) fun c=> ?_⟩
 {
 show 0<=_/\(_< (gOf v.g.ws).n+1\/_)
 split<;>omega }
 {
 split
 { rename_i c;exact J.en c (hen c) k u hk }
 {
 rename_i c
 rcases J.b k u hk with d| ⟨d,-⟩
 { exact d }
 { exact absurd d c } } }
 {
 split
 { rename_i d;have:=(J.ms m hm).n;omega }
 {
 rename_i d
 rcases c with c|c
 { exact c }
 { exact absurd c.2 d } } } } }
 {
 intro hv k2 hU hl D hD h0;refine⟨P,J.sent fun m h=> ?_,same⟩
 rcases zr5 h with h|h
 { exact .inl h }
 {
 refine .inr ?_;have ncs:=hI.ncs;have hn:=hs.n;have hlast: (lastC v).1=cp9\/(lastC v).1∈v.cs:=by
  unfold lastC
  split
  { exact .inl rfl }
  {
  split
  { exact .inl rfl }
  {
  right
  have: ((gOf v.g.ws).n - 1).toNat<v.cs.length:=by omega
  show v.cs.getD _ _∈_
  rw [ka,kX this];exact KH this } }
 have hc: (∀w∈(lastC v).1.ims,imgE w=0)/\∀t∈(lastC v).1.ts,1<=t.2.1/\t.2.1<=60:=by
  rcases hlast with e|e
  { rw [e];exact⟨fun w hw=>(by cases hw),fun w hw=>(by cases hw)⟩ }
  { exact(hI.camp e).2.2 }
 obtain ⟨d1,d2,d3,d4,d5,d6⟩:=ztf (g:=v.g) (cn:=(lastC v).1.n) (ts:=(lastC v).1.ts) (ims:=(lastC v).1.ims) (u:=x.u) (by rw [hD];exact h0) hc.1 hc.2;rw [hD] at d6;have d:=d6 m h;have dn:=d.n;refine⟨by omega,fun k=> ?_,fun k=> ?_,fun k=> ?_,fun k=> ?_⟩<;>rcases d.k with e| ⟨e,-⟩| ⟨e,e2⟩| ⟨e,e2⟩<;>first
  |exact absurd (e.symm.trans k) (by decide)
  |exact .inr ⟨dn,e2⟩ } }
 {
 intro hv k9 hU hup hr;refine⟨P,J.sent fun m h=> ?_,same⟩
 rcases zr5 h with h|h
 { exact .inl h }
 {
 simp only [kt,KY,or_false] at h;obtain ⟨j,e,hj,e1,e2⟩:=zsk hU;have r:=(hI.rdy e2).2;rw [e1] at h;have hn:=hs.n;rw [h];refine .inr ⟨?_,fun k=>absurd (show(7:Int)=3 from k) (by decide),fun k=>absurd (show(7:Int)=4 from k) (by decide),fun k=>absurd (show(7:Int)=5 from k) (by decide),fun k=>absurd (show(7:Int)=6 from k) (by decide)⟩
 show rdU v.us[j]<=_
 omega } }
 {
 intro hv k3 hM m hm hk H hH h0;have hg: (gHear v.g m).2.2=0:=by rw [hH];exact h0
 have hh:=hear_hg hg;have ha:=zvc hg;have ho:=(zsc hg).2;rw [hH] at hh ha ho;obtain ⟨m1,m2⟩:=zsu hM;rw [hm] at m2;have gp:=zrp q.gt;refine⟨P,(J.gate hh m2 q.nu gp.2.2.1 hs).sent fun a h=> ?_,same⟩
 rcases zr5 h with h|h
 { exact .inl (zr9 h) }
 {
 obtain ⟨a1,-,a2,a3,a4,a5⟩:=ha a h;have qn:=(J.ms m m2).n;have en:=ho.onc.n;have ev: (gOf H.1.ws).co= (gOf v.g.ws).co/\(gOf H.1.ws).ab= (gOf v.g.ws).ab:=by
  rcases hh.st with e| ⟨-,-,e,-⟩| ⟨-,-,e,-⟩
  { rw [e];exact⟨rfl,rfl⟩ }
  { omega }
  { omega }
 have hab: ¬((gOf v.g.ws).n=m.n/\(gOf v.g.ws).co=true)->(gOf v.g.ws).n=m.n->(gOf v.g.ws).ab=true:=by
  intro n1 n2;have hen:=hs.en;unfold pend at a3;rw [n2] at a3;have c1: (gOf v.g.ws).co=false:=by cases z: (gOf v.g.ws).co;rfl;exact absurd ⟨n2,z⟩ n1
  unfold decG at a3 hen;rw [c1] at a3 hen;cases z: (gOf v.g.ws).ab
  {
  rw [z] at a3 hen;cases z2: (gOf v.g.ws).en
  { rw [z2] at a3;simp at a3 }
  { exact absurd (hen z2) (by decide) } }
  { rfl }
 rw [a2];refine .inr ⟨by rw [en];exact qn,fun k=> ?_,fun k=> ?_,fun k=> ?_,fun k=> ?_⟩<;>rcases zs9 (s:=gOf v.g.ws) (u:=m.u) (n:=m.n) with ⟨e,e2,e3⟩| ⟨e,e2⟩<;>first
  |exact absurd (e.symm.trans k) (by decide)
  |skip
 { exact .inr ⟨by rw [en];exact e2.symm,by rw [ev.1];exact e3⟩ }
 {
 by_cases c: (gOf v.g.ws).n=m.n
 { exact .inr ⟨by rw [en];exact c.symm,by rw [ev.2];exact hab e2 c⟩ }
 { exact .inl (by rw [en];show m.n<_;omega) } } } }
 {
 intro hv k3 hM m hm hk H hH h0;obtain ⟨m1,m2⟩:=zsu hM;rw [hm] at m2;obtain ⟨n1,n2⟩:=q.net m m2;have qm:=msE_0 n1;have hj:m.u.toNat<v.us.length:=by omega
 have hu:=kX hj;have eu:v.us.getD m.u.toNat un9=v.us[m.u.toNat]:=by rw [ka,hu];rfl
 rw [eu] at hH;have ok:=(hI.all _ _ hu).1;have eH:hearA v.ss v.us[m.u.toNat] m= ((hearS v.ss v.us[m.u.toNat] m).1,(hearS v.ss v.us[m.u.toNat] m).2,0):=by unfold hearA;rw [KJ (by rw [heE_3 q.bk ok];simpa using n1)]
 rw [eH] at hH;subst hH;have W:=zuk (ss:=v.ss) ok n1;have E:=J.unit hs W m2 n1 (j:=m.u.toNat) (by omega) hu (hI.rdy hu).2;have g:=W.gen;have gu:=hE.gu _ _ hu;dsimp only;refine⟨P,E.1.sent fun a h=> ?_,one _ _ (by omega)⟩
 rcases zr5 h with h|h
 { exact .inl (zr9 h) }
 { exact .inr (E.2 a h) } }
 { intro hv k4 hM;exact⟨P,J.sent fun a h=>.inl (zr9 h),same⟩ }
 {
 intro hv k5 hM h24;refine⟨P,J.sent fun a h=>.inl ?_,same⟩
 rcases KS.1 h with h|h
 { exact h }
 {
 simp only [kt,KY,or_false] at h;rw [h];exact(zsu hM).2 } }
 { intro hv _ _ _;exact⟨P,J,same⟩ }
 {
 intro hv k6 hU hjj;obtain ⟨j,e,hj,e1,e2⟩:=zsk hU;refine⟨P,J.like (fun k u hk=> ?_),one _ _ ?_⟩
 { exact zvb (x:=cutU (v.us.getD x.u.toNat un9) x.j) e1 (by omega) rfl k u hk }
 { show genN (v.us.getD x.u.toNat un9).ws<=_;rw [e1];exact same _ _ e2 } }
 { intro hv _ _;exact⟨P,J.bools (fun k hk=>(by rw [zsd] at hk;cases hk)) (fun k hk=>(by rw [zsd] at hk;cases hk)),same⟩ }
 {
 intro hv k7 hU hb;obtain ⟨j,e,hj,e1,e2⟩:=zsk hU;refine⟨P,J.like (fun k u hk=> ?_),one _ _ ?_⟩
 { exact zvb (x:=btd (v.us.getD x.u.toNat un9)) e1 (by omega) rfl k u hk }
 { show genN (v.us.getD x.u.toNat un9).ws<=_;rw [e1];exact same _ _ e2 } }
 {
 intro hv k8 H hH h0;obtain ⟨g1,g2,g3,g4⟩:=zsj (g:=v.g) (by rw [hH];exact h0);have vd:=ztn v.g (gOf v.g.ws) [3,(gOf v.g.ws).n];have st:=zrw [3,(gOf v.g.ws).n] q.gt;rw [hH] at g4;refine⟨P, ?_,same⟩
 show EJ P (gOf H.1.ws) H.1.vo H.1.di v.us v.net
 rw [g4];generalize noteG v.g (gOf v.g.ws) [3,(gOf v.g.ws).n]=N at *;have J2:=J.bools (vo' :=N.1.vo) (di' :=N.1.di) (fun k hk=>or_at vd.1 hk) (fun k hk=>or_at vd.2 hk);have hnc: (gOf v.g.ws).co=false:=by unfold decG at g3;revert g3;cases (gOf v.g.ws).co<;>simp
 cases z:N.2
 { rw [st.no z];exact J2 }
 {
 obtain ⟨y,-⟩:=st.yes z;rw [gN_of g2] at y;have y:gOf N.1.ws= ⟨(gOf v.g.ws).n,(gOf v.g.ws).v,false,true,(gOf v.g.ws).en⟩:=by
  rw [y]
  show(⟨(gOf v.g.ws).n,(gOf v.g.ws).v,(gOf v.g.ws).co,!(gOf v.g.ws).co,(gOf v.g.ws).en⟩:Gs)=_
  rw [hnc];rfl
 rw [y];refine⟨J2.p,fun k u hk=>.inl ?_,fun c=>(by cases c),fun c=>(by cases c),fun c=>(by cases c),fun c=>(by cases c),fun c=>(by cases c),fun m hm=> ?_⟩
 {
 rcases J2.b k u hk with d| ⟨d,-⟩
 { exact d }
 { rw [hnc] at d;cases d } }
 {
 have r:=J2.ms m hm;refine⟨r.n,fun _ _ _ d=>(by cases d),fun k=>(r.k4 k).imp id fun d=>(by rw [hnc] at d;cases d.2),fun k=>(r.k5 k).imp id fun d=>⟨d.1,rfl⟩,fun _ _=>.inl rfl⟩ } } }
 { intro hv _ _;exact⟨P,J,same⟩ }
end
theorem zsq: ∀(rs:LL) (xs:LI),(∀r∈rs,recE r=0/\r.length<=3)->xs.length+4 * rs.length<=31->(laidS rs xs).2=0
 | [],_,_,_=>rfl
 |r::rs,xs,h,hl=>by
  obtain ⟨h1,h2⟩:=h r (kG ..);simp only [KX] at hl;have hA: (addL xs r).length=xs.length+r.length+1:=by unfold addL;simp;omega
  have e:addE xs r=0:=by unfold addE;rw [KJ (by simpa using h1),KJ (by omega)]
  rw [zex e];exact zsq rs _ (fun q hq=>h q (kI _ hq)) (by omega)
theorem rec2 {a b:Int} (ha:0<=a/\a<=65535) (hb:0<=b/\b<=65535):recE [a,b]=0:=by
 unfold recE okL okW
 simp [ha,hb]
theorem rec3 {a b c:Int} (ha:0<=a/\a<=65535) (hb:0<=b/\b<=65535) (hc:0<=c/\c<=65535):recE [a,b,c]=0:=by
 unfold recE okL okW
 simp [ha,hb,hc]
theorem okL_at (h:okL r=true) (i:Nat):0<=r.getD i 0/\r.getD i 0<=65535:=by
 by_cases c:i<r.length
 {
 have:=zk3 h i c;unfold okW at this
 simpa using this }
 {
 rw [ka,List.getElem?_eq_none (by omega)];decide }
theorem gR_v: ∀(rs:LL) (s:Gs),(∀r∈rs,okL r=true)->0<=s.v/\s.v<=65535->0<=(rs.foldl gNext s).v/\(rs.foldl gNext s).v<=65535
 | [],_,_,h=>h
 |r::rs,s,h,h0=>by
  refine gR_v rs _ (fun x hx=>h x (kI _ hx)) ?_;unfold gNext
  split
  { exact okL_at (h r (kG ..)) 2 }
  {
  split
  {
  unfold trnG
  split
  { exact h0 }
  {
  split
  { exact h0 }
  { split<;>exact h0 } } }
  { exact h0 } }
theorem gOf_v {f:Int} (h:lchk ws f=0):0<=(gOf ws).v/\(gOf ws).v<=65535:=
 gR_v _ _ (zu6 _ _ (zi6 _ (zfq _ (zdm h).2.2.2.1))) (by decide)
theorem zyx (hg:gtE g=0) (hr:recE r=0) (hl3:r.length<=3): (laidA r (kepG (gOf g.ws))).2=0:=by
 have hn:=(zrr g.ws).n;have hv:=gOf_v (zrp hg).1;have r2: ∀a:Int,0<=a/\a<=10->recE [a,(gOf g.ws).n]=0/\([a,(gOf g.ws).n]:LI).length<=3:=fun a ha=>⟨rec2 (by omega) (by omega),by simp⟩
 have r3:recE [1,(gOf g.ws).n,(gOf g.ws).v]=0:=rec3 (by decide) (by omega) hv;have key: ∀r∈kepG (gOf g.ws),recE r=0/\r.length<=3:=by
  unfold kepG
  split
  { intro r hr;cases hr }
  {
  intro r hr;simp only [kt,KS] at hr
  rcases hr with rfl|hr|hr|hr
  { exact⟨r3,by simp⟩ }
  all_goals split at hr<;>simp at hr;subst hr;exact r2 _ (by decide) }
 have hl: (kepG (gOf g.ws)).length<=4:=by
  unfold kepG
  split
  { simp }
  { cases (gOf g.ws).co<;>cases (gOf g.ws).ab<;>cases (gOf g.ws).en<;>simp }
 unfold laidA;refine zsq _ _ (fun x hx=> ?_) (by rw [kj];show 0+4 *((kepG (gOf g.ws)).length+1)<=31;omega)
 rcases KS.1 hx with hx|hx
 { exact key x hx }
 {
 simp only [kt,KY,or_false] at hx;rw [hx];exact⟨hr,hl3⟩ }
theorem kepG_laid (hg:gtE g=0) {k:Int} (hk:0<=k/\k<=10): (laidA [k,(gOf g.ws).n] (kepG (gOf g.ws))).2=0:=zyx hg (by have:=(zrr g.ws).n;exact rec2 (by omega) (by omega)) (by simp)
theorem zu2 {f:Int} {keep:LL} (h:lchk ws f=0) (hr:recE r=0) (hl: (laidA r keep).2=0) (hg:genN ws<60000):zcp ws f r keep=0:=by
 unfold zcp;rw [KJ (by simpa using h),KJ (by simpa using hr),KJ (by simpa using hl),KJ (by omega)]
theorem zvf {k:Int} (hg:gtE g=0) (hf:g.fu= -1) (hk:0<=k/\k<=10) (hgen:genN g.ws<60000): (noteG g (gOf g.ws) [k,(gOf g.ws).n]).2=true/\(noteG g (gOf g.ws) [k,(gOf g.ws).n]).1.fu= -1:=by
 have hn:=(zrr g.ws).n;refine⟨?_,(noteG_neg hg hf).2⟩;have c:=(zrp hg).1;rw [hf] at c;obtain ⟨us,e,-⟩:=ztt (zu2 c (rec2 (a:=k) (by omega) (by omega)) (kepG_laid hg hk) hgen);unfold noteG;rw [hf,e];rfl
theorem zv8 {s:Us} (h0:0<=s.slot/\s.slot<=1) (h1:0<=s.by' /\s.by' <=8) (h2:0<=s.rdy/\s.rdy<=8) (hr:recE r=0) (hl:r.length<=3): (laidA r (keepU s)).2=0:=by
 have a1:recE [1,s.slot,s.by']=0:=rec3 (by decide) (by omega) (by omega);have a2:recE [2,s.rdy]=0:=rec2 (by decide) (by omega);unfold laidA keepU
 split
 {
 refine zsq _ _ (fun q hq=> ?_) (by simp);simp only [KS,kt,KY,or_false] at hq
 rcases hq with rfl|rfl
 { exact⟨a1,by simp⟩ }
 { exact⟨hr,hl⟩ } }
 {
 refine zsq _ _ (fun q hq=> ?_) (by simp);simp only [KS,kt,KY,or_false] at hq
 rcases hq with (rfl|rfl)|rfl
 { exact⟨a1,by simp⟩ }
 { exact⟨a2,by simp⟩ }
 { exact⟨hr,hl⟩ } }
theorem zxk (hu:unE u=0) (hf:u.fu= -1) (h1:0<=byU u/\byU u<=8) (h2:0<=rdU u/\rdU u<=8) (hr:recE r=0) (hl:r.length<=3) (hgen:genN u.ws<60000):
 (doV u (.not (stOf u.ws) r)).2=true/\(doV u (.not (stOf u.ws) r)).1.fu= -1:=by
 have c:=(zjw hu).1;have hs:=zr1 c;rw [hf] at c;obtain ⟨us,e,-⟩:=ztt (zu2 c hr (zv8 hs h1 h2 hr hl) hgen);have d:doV u (.not (stOf u.ws) r)=doU u (appS u.ws u.fu r (keepU (stOf u.ws))):=rfl;rw [d,hf,e];exact⟨rfl,rfl⟩
def hpO (k u:Int):Hp:=⟨k,u,0,⟨[], [],0,0, [], [], []⟩⟩
def stp (v:Vh) (x:Hp):Vh:=if(doS' v x).2=0 then(doS' v x).1 else v
def drn:Nat->Vh->Vh
 |0,v=>v
 |f+1,v=>if v.net.length=0 then v else drn f (stp v (hpO 3 0))
def Inv (F:LL) (G:Int) (v:Vh):Prop:=∃C P,HI F C v/\EI P G v
theorem EI.more {P G' :Int} (h:EI P G v) (hg:G<=G'):EI P G' v:=⟨h.ej,Int.le_trans h.gg hg,fun k u hk=>Int.le_trans (h.gu k u hk) hg⟩
theorem Inv.more {G' :Int} (h:Inv F G v) (hg:G<=G'):Inv F G' v:=by
 obtain ⟨C,P,h1,h2⟩:=h;exact⟨C,P,h1,h2.more hg⟩
theorem Inv.stp (h:Inv F G v) (x:Hp):Inv F (G+1) (stp v x):=by
 unfold Go.Proofs.YthmekfcgdfckaaaGreatDoor.stp;obtain ⟨C,P,hI,hE⟩:=h
 split
 {
 rename_i h0
 obtain ⟨P',e⟩:=ei_step hI hE h0;exact⟨fun n=>C n\/n= (gOf (doS' v x).1.g.ws).n,P',(hi_step hI h0 (fun n h=>.inl h) (fun _=>.inr rfl)).1,e⟩ }
 { exact⟨C,P,hI,hE.more (by omega)⟩ }
theorem Inv.vg (h:Inv F G v):VG v:=by obtain ⟨C,P,h1,-⟩:=h;exact h1.vg
theorem Inv.ok (h:Inv F G v):vhE v=0:=h.vg.check
theorem zwj (h:v.net= []) (f:Nat):drn f v=v:=by
 cases f
 { rfl }
 { unfold drn;rw [KK (by rw [h];rfl)] }
theorem zwk {r:List Ms} (h:v.net=m::r) (f:Nat):drn (f+1) v=drn f (stp v (hpO 3 0)):=by
 show(if _ then _ else _)=_
 rw [KJ (by rw [h];simp)]
theorem zwn {y:Vh} {x:Hp} (hv:vhE v=0) (h:hapS v x= (y,0)):stp v x=y:=by
 unfold stp;rw [do_0 hv (by rw [h]),h];rfl
theorem stp_no {x:Hp} (hv:vhE v=0) (h: (hapS v x).2≠0):stp v x=v:=by
 unfold stp;rw [do_e2 hv h,KJ h]
theorem arr_is {r:List Ms} (h:v.net=m::r):hapS v (hpO 3 0)=comeS ⟨v.ss,v.sg,v.g,v.us,v.cs,r,v.now⟩ m:=by
 show arrS v 0=_
 unfold arrS;rw [KJ (by unfold isM inB;rw [h];simp)];unfold takeM;rw [h];rfl
theorem zw8 {r l:List Ms} (hv:vhE v=0) (h:v.net=m::r) (hk:m.k=3\/m.k=6\/m.k=7) (hg:gHear v.g m= (g,l,0)):stp v (hpO 3 0)= ⟨v.ss,v.sg,g,v.us,v.cs,sendS r l,v.now⟩:=by
 refine zwn hv ?_;rw [arr_is h];unfold comeS;rw [KK hk];dsimp only;rw [hg,KJ (by simp)]
theorem zw5 {r l:List Ms} (hv:vhE v=0) (h:v.net=m::r) (hk: ¬(m.k=3\/m.k=6\/m.k=7)) (hj:m.u= (j:Int)) (hu:v.us[j]?=some u) (hh:hearA v.ss u m= (x,l,0)):stp v (hpO 3 0)= ⟨v.ss,v.sg,v.g,v.us.set j x,v.cs,sendS r l,v.now⟩:=by
 refine zwn hv ?_;rw [arr_is h];unfold comeS;rw [KJ hk];dsimp only;rw [hj,kp,ka,hu]
 show(if(hearA v.ss u m).2.2≠0 then _ else _)=_
 rw [hh,KJ (by simp)]
 show(({ ss:=v.ss,sg:=v.sg,g:=v.g,us:=v.us.set j (hearA v.ss u m).1,cs:=v.cs,net:=sendS r (hearA v.ss u m).2.1,now:=v.now }:Vh),(0:Int))=_
 rw [hh]
structure TS (F:LL) (G:Int) (v:Vh):Prop where
 inv:Inv F G v
 up:v.g.up=true
 fu:v.g.fu= -1
 us: ∀(k:Nat) u,v.us[k]?=some u->u=btd u
section
variable {F:LL} {G:Int} {v:Vh}
theorem TS.more {G' :Int} (h:TS F G v) (hg:G<=G'):TS F G' v:=⟨h.inv.more hg,h.up,h.fu,h.us⟩
theorem set_at (hx:x=btd x) (h: ∀(j:Nat) u,us[j]?=some u->u=btd u): ∀(j:Nat) u,(us.set k x)[j]?=some u->u=btd u:=by
 intro j u hj;rw [Ka] at hj
 split at hj
 {
 split at hj
 { cases hj;exact hx }
 { cases hj } }
 { exact h j u hj }
theorem zwh (h:us[k]?=some u):us.set k u=us:=by
 apply List.ext_getElem?
 intro j;rw [Ka]
 split
 {
 rename_i e
 subst e;rw [KK (kY.1 h).1,h] }
 { rfl }
structure UK (G:Int) (v:Vh) (u:Un):Prop where
 ok:unE u=0
 by0:0<=byU u/\byU u<=8
 rd0:0<=rdU u/\rdU u<=8/\rdU u<=(gOf v.g.ws).n
 lt:rdU u≠0->byU u<rdU u
 gen:genN u.ws<=G
theorem Inv.unit (h:Inv F G v) (hu:v.us[k]?=some u):UK G v u:=by
 obtain ⟨C,P,hI,hE⟩:=h;have hn:=(zrr v.g.ws).n;obtain ⟨a,b⟩:=hI.rdy hu;have hb:=hE.ej.b k u hu;have hp:=hE.ej.p;exact⟨(hI.all k u hu).1,by omega,by omega,fun h=>by omega,hE.gu k u hu⟩
theorem btd_up (h:u=btd u):u.up=true/\u.fu= -1/\u.n=0/\u.hv=0:=by rw [h];exact⟨rfl,rfl,rfl,rfl⟩
theorem btd_mk (h1:u.up=true) (h2:u.fu= -1) (h3:u.n=0) (h4:u.hv=0):u=btd u:=by obtain ⟨a,b,c,d,e⟩:=u;simp only at h1 h2 h3 h4;subst h1 h2 h3 h4;rfl
theorem told (hk:k<=3) (hb:bookE ss=0) (K:UK G v u) (hG:G<60000) (hu:u=btd u) (hn:1<=n/\n<=8) (hc: ((s.n=n/\s.co=true)/\(byU u=n\/rdU u=n))\/(¬(s.n=n/\s.co=true)/\byU u<n/\(rdU u=0\/rdU u=n))):
 ∃x,hearA ss u (verd s k n)= (x, [doneM (verd s k n)],0)/\x=btd x/\rdU x= (if byU u=n then rdU u else 0)/\byU x=if s.n=n/\s.co=true then n else byU u:=by
 obtain ⟨u1,u2,u3,u4⟩:=btd_up hu;have he:heE ss u (verd s k n)=0:=by rw [heE_3 hb K.ok];exact zum (by omega) hn
 have hg:=K.gen;have ho:=oth_0 K.ok;have hkeep: ∀{r:LI} {X:Un},Ntd r u X true->X.fu= -1->X=btd X:=fun {r X} nn hf=>by
  obtain ⟨-,y1,y2,y3⟩:=nn.yes rfl;exact btd_mk (y1.trans u1) hf (y2.trans u3) (y3.trans u4)
 rw [zu7 he u1];have vn: (verd s k n).n=n:=rfl
 rcases hc with ⟨hco,hr⟩| ⟨hco,hr⟩
 {
 have k4: (verd s k n).k=4:=by unfold verd;rw [KK (by simp [hco])]
 rw [zut k4,KK hco]
 by_cases hby:byU u=n
 {
 rw [comS_1 (by rw [vn];exact hby),KK hby];exact⟨u,rfl,hu,rfl,hby⟩ }
 {
 have hrd:rdU u=n:=hr.resolve_left hby
 have ny:=zxk (r:= [1,oth (stOf u.ws),n]) K.ok u2 K.by0 ⟨K.rd0.1,K.rd0.2.1⟩ (rec3 (by decide) (by omega) (by omega)) (by simp) (by omega);have nn:=zsi (r:= [1,oth (stOf u.ws),n]) K.ok;rw [comS_3 (by rw [vn];exact hby) (by rw [vn];exact hrd) (by rw [vn];exact ny.1),KJ hby,vn];rw [ny.1] at nn;have y:=(nn.yes rfl).1;rw [st_runs _ _ _ ho.2] at y;exact⟨_,rfl,hkeep nn ny.2,by unfold rdU;rw [y],by unfold byU;rw [y]⟩ } }
 {
 have k5: (verd s k n).k=5:=by unfold verd;rw [KJ (by simpa using hco)]
 obtain ⟨hlt,hr⟩:=hr;rw [zuo k5,KJ hco,KJ (by omega)];have hB: ∀x:Un,x.n=0->aboB x (verd s k n)= (x, [doneM (verd s k n)]):=fun x hx=>by unfold aboB;rw [KJ (by rw [vn];omega)]
 by_cases hrd:rdU u=n
 {
 have ny:=zxk (r:= [3,n]) K.ok u2 K.by0 ⟨K.rd0.1,K.rd0.2.1⟩ (rec2 (by decide) (by omega)) (by simp) (by omega);have nn:=zsi (r:= [3,n]) K.ok;rw [aboS_3 (by rw [vn];unfold byU at hlt;omega) (by rw [vn];exact hrd) (by rw [vn];exact ny.1),vn];rw [ny.1] at nn;have y:=nn.yes rfl;rw [hB _ (y.2.2.1.trans u3)];have y1:=y.1;rw [st_not] at y1;exact⟨_,rfl,hkeep nn ny.2,by unfold rdU;rw [y1],by unfold byU;rw [y1]⟩ }
 {
 rw [aboS_2 (by rw [vn];unfold byU at hlt;omega) (by rw [vn];exact hrd),hB u u3];exact⟨u,rfl,hu,hr.resolve_right hrd,rfl⟩ } }
end
section
variable {F:LL} {G:Int} {v:Vh}
structure GK (G:Int) (g:Gt):Prop where
 ok:gtE g=0
 up:g.up=true
 fu:g.fu= -1
 gen:genN g.ws<=G
theorem TS.gk (h:TS F G v):GK G v.g:=by
 obtain ⟨C,P,hI,hE⟩:=h.inv;exact⟨hI.vg.gt,h.up,h.fu,hE.gg⟩
theorem zw6 (hg:GK G g) (hu:0<=m.u/\m.u<g.vo.length) (hn:1<=m.n/\m.n<=8):gHear g m= ((ghK g (gOf g.ws) m).1,(ghK g (gOf g.ws) m).2,0):=by
 have z:ghE g m=0:=by unfold ghE;rw [KJ (by simpa using hg.ok),KK];rw [inB_t (by omega) (by omega),inB_t (by omega) (by omega)];rfl
 unfold gHear;rw [KJ (by simpa using z),KK hg.up]
structure Cnt (g x:Gt) (l l' :List Bool) (s' :Gs) (u:Int):Prop where
 up:x.up=true
 fu:x.fu= -1
 or' : (allB (setB l u)=false/\gOf x.ws=gOf g.ws/\l' =setB l u)\/gOf x.ws=s'
theorem zxw (hg:GK G g) (hG:G<60000) (hd:decG (gOf g.ws)=false) (hn: (gOf g.ws).n≠0):Cnt g (voteG g (gOf g.ws) m) g.vo (voteG g (gOf g.ws) m).vo ⟨(gOf g.ws).n,(gOf g.ws).v,true,false,(gOf g.ws).en⟩ m.u:=by
 unfold voteG;have hgen:=hg.gen
 split
 {
 have e0:gOf (withV g m.u).ws=gOf g.ws:=rfl;have ny:=zvf (g:=withV g m.u) (k:=2) (zsl hg.ok m.u) hg.fu (by decide) (by show genN g.ws<_;omega);have st:=zrw [2,(gOf g.ws).n] (zsl hg.ok m.u);rw [e0] at ny st;have y:=st.yes ny.1;rw [e0,gN_of hn] at y;refine⟨y.2.1.trans hg.up,ny.2,.inr (y.1.trans ?_)⟩;have hab: (gOf g.ws).ab=false:=by unfold decG at hd;revert hd;cases (gOf g.ws).ab<;>simp
 show(⟨(gOf g.ws).n,(gOf g.ws).v,!(gOf g.ws).ab,(gOf g.ws).ab,(gOf g.ws).en⟩:Gs)=_
 rw [hab];rfl }
 {
 rename_i ha
 exact⟨hg.up,hg.fu,.inl ⟨by simpa using ha,rfl,rfl⟩⟩ }
theorem zw3 (hg:GK G g) (hG:G<60000) (hd:decG (gOf g.ws)=true) (hn: (gOf g.ws).n≠0):Cnt g (doneG g (gOf g.ws) m) g.di (doneG g (gOf g.ws) m).di ⟨(gOf g.ws).n,(gOf g.ws).v,(gOf g.ws).co,(gOf g.ws).ab,true⟩ m.u:=by
 unfold doneG;have hgen:=hg.gen
 split
 {
 have e0:gOf (withD g m.u).ws=gOf g.ws:=rfl;have ny:=zvf (g:=withD g m.u) (k:=4) (zsn hg.ok m.u) hg.fu (by decide) (by show genN g.ws<_;omega);have st:=zrw [4,(gOf g.ws).n] (zsn hg.ok m.u);rw [e0] at ny st;have y:=st.yes ny.1;rw [e0,gN_of hn] at y;refine⟨y.2.1.trans hg.up,ny.2,.inr (y.1.trans ?_)⟩
 show(⟨(gOf g.ws).n,(gOf g.ws).v,(gOf g.ws).co,(gOf g.ws).ab,decG (gOf g.ws)⟩:Gs)=_
 rw [hd] }
 {
 rename_i ha
 exact⟨hg.up,hg.fu,.inl ⟨by simpa using ha,rfl,rfl⟩⟩ }
end
theorem zwt (r:List Ms):sendS r []=r:=by unfold sendS;simp
theorem zxu (a:Ms):sendS [] [a]= [a]:=rfl
section
variable {F:LL} {G:Int} {v:Vh}
def vW (v:Vh) (g:Gt) (us:List Un) (net:List Ms):Vh:=⟨v.ss,v.sg,g,us,v.cs,net,v.now⟩
theorem zxd (hk:k<v.us.length):isU v k=true:=by unfold isU inB;simp;omega
theorem pend_t (h1:s.n=m.n) (h2:s.en=false):pend s m=true:=by unfold pend;simp [h1,h2]
theorem hear_done (hg:GK G g) (hk:k<g.vo.length) (hn:1<=n/\n<=8):gHear g (doneM (verd (gOf g.ws) k n))= (if(pend (gOf g.ws) (doneM (verd (gOf g.ws) k n))&&decG (gOf g.ws))=true then doneG g (gOf g.ws) (doneM (verd (gOf g.ws) k n)) else g, [],0):=by
 rw [zw6 hg (by show 0<=(k:Int)/\(k:Int)<_;omega) hn];unfold ghK;rw [KJ (by show¬(6:Int)=3;decide),KK (show(doneM (verd (gOf g.ws) k n)).k=6 from rfl)]
theorem zxr {f:Nat} (T:TS F G v) (hG:G+5<60000) (hu:v.us[k]?=some u) (hnet:v.net= [verd (gOf v.g.ws) k n]) (hn:1<=n/\n<=8)
 (hc: (((gOf v.g.ws).n=n/\(gOf v.g.ws).co=true)/\(byU u=n\/rdU u=n))\/(¬((gOf v.g.ws).n=n/\(gOf v.g.ws).co=true)/\byU u<n/\(rdU u=0\/rdU u=n))):
 ∃g x,drn (f+2) v=vW v g (v.us.set k x) []/\TS F (G+2) (vW v g (v.us.set k x) [])/\rdU x= (if byU u=n then rdU u else 0)/\
  g= (if(pend (gOf v.g.ws) (doneM (verd (gOf v.g.ws) k n))&&decG (gOf v.g.ws))=true then doneG v.g (gOf v.g.ws) (doneM (verd (gOf v.g.ws) k n)) else v.g):=by
 have q:=T.inv.vg;have u4:=q.u4;have hk:=(kY.1 hu).1;have K:=T.inv.unit hu;obtain ⟨x,h1,h2,h3,-⟩:=told (G:=G) (v:=v) (ss:=v.ss) (s:=gOf v.g.ws) (k:=k) (by omega) q.bk K (by omega) (T.us k u hu) hn hc;have hv:=T.inv.ok;have e1:stp v (hpO 3 0)=vW v v.g (v.us.set k x) [doneM (verd (gOf v.g.ws) k n)]:=by
  rw [zw5 hv hnet (by rcases zs9 (s:=gOf v.g.ws) (u:=k) (n:=n) with e|e<;>omega) rfl hu h1];rfl
 have I1:=T.inv.stp (hpO 3 0);rw [e1] at I1;have hd:=hear_done (n:=n) T.gk (k:=k) (by rw [<-q.nu];exact hk) hn;have e2:=zw8 (v:=vW v v.g (v.us.set k x) [doneM (verd (gOf v.g.ws) k n)]) I1.ok rfl (.inr (.inl rfl)) hd;rw [zwt] at e2;have I2:=I1.stp (hpO 3 0);rw [e2] at I2;refine⟨_,x, ?_,⟨I2.more (by omega), ?_, ?_,set_at h2 T.us⟩,h3,rfl⟩
 {
 rw [zwk hnet,e1,zwk (v:=vW v v.g (v.us.set k x) [doneM (verd (gOf v.g.ws) k n)]) rfl,e2];exact zwj rfl f }
 {
 show(ite _ _ _:Gt).up=true
 split
 {
 rename_i hp
 simp only [kr] at hp;exact(zw3 T.gk (by omega) hp.2 (by have:=hp.1;unfold pend at this;simp only [kr,KF] at this;have e: (gOf v.g.ws).n=n:=this.1;omega)).up }
 { exact T.up } }
 {
 show(ite _ _ _:Gt).fu= -1
 split
 {
 rename_i hp
 simp only [kr] at hp;exact(zw3 T.gk (by omega) hp.2 (by have:=hp.1;unfold pend at this;simp only [kr,KF] at this;have e: (gOf v.g.ws).n=n:=this.1;omega)).fu }
 { exact T.fu } }
structure Qd (v:Vh) (k:Nat) (u:Un) (g:Gt) (x:Un):Prop where
 or' : (x=u/\g=v.g/\(rdU u=0\/(rdU u= (gOf v.g.ws).n/\decG (gOf v.g.ws)=false/\(gOf v.g.ws).en=false)))\/
  (rdU x=0/\(g=v.g\/(decG (gOf v.g.ws)=true/\(gOf v.g.ws).en=false/\(gOf v.g.ws).n≠0/\∃m:Ms,m.u= (k:Int)/\g=doneG v.g (gOf v.g.ws) m)))
theorem zx7 (T:TS F G v) (hG:G+9<60000) (hu:v.us[k]?=some u) (hnet:v.net= []):
 ∃g x,drn 40 (stp v (hpO 9 k))=vW v g (v.us.set k x) []/\TS F (G+4) (vW v g (v.us.set k x) [])/\Qd v k u g x:=by
 have q:=T.inv.vg;have u4:=q.u4;have hk:=(kY.1 hu).1;have K:=T.inv.unit hu;have hv:=T.inv.ok;have hs:=zrr v.g.ws;have eu:v.us.getD (k:Int).toNat un9=u:=by rw [kp,ka,hu];rfl
 have bu:=btd_up (T.us k u hu);have hself:vW v v.g (v.us.set k u) []=v:=by rw [zwh hu];unfold vW;rw [<-hnet]
 have hq:hapS v (hpO 9 k)=if inB (rdU u) 1 8=false then(vh0,12) else(vW v v.g v.us (sendS v.net [⟨7,k,rdU u,0,0, [],false⟩]),0):=by
  show qryS v k=_
  unfold qryS;rw [KJ (by rw [zxd hk];decide),eu,KJ (by rw [bu.1];decide)];rfl
 by_cases hr:rdU u=0
 · have e:stp v (hpO 9 k)=v:=stp_no hv (by rw [hq,hr,KK (by decide)];show(12:Int)≠0;decide)
   rw [e,zwj hnet];exact⟨v.g,u,hself.symm,by rw [hself];exact T.more (by omega),⟨.inl ⟨rfl,rfl,.inl hr⟩⟩⟩
 · have hr1:1<=rdU u/\rdU u<=8:=by have:=K.rd0;omega
   have e1:stp v (hpO 9 k)=vW v v.g v.us [⟨7,k,rdU u,0,0, [],false⟩]:=by
    refine zwn hv ?_;rw [hq,KJ (by rw [inB_t hr1.1 hr1.2];decide),hnet,zxu]
   have I1:=T.inv.stp (hpO 9 k);rw [e1] at I1|-;have hh:gHear v.g ⟨7,k,rdU u,0,0, [],false⟩= (v.g,if(pend (gOf v.g.ws) ⟨7,k,rdU u,0,0, [],false⟩&&!decG (gOf v.g.ws))=true then [] else [verd (gOf v.g.ws) k (rdU u)],0):=by
    rw [zw6 T.gk (by show 0<=(k:Int)/\(k:Int)<_;rw [<-q.nu];omega) hr1];unfold ghK;rw [KJ (by show¬(7:Int)=3;decide),KJ (by show¬(7:Int)=6;decide),KK (show(⟨7,k,rdU u,0,0, [],false⟩:Ms).k=7 from rfl)]
   have e2:=zw8 (v:=vW v v.g v.us [⟨7,k,rdU u,0,0, [],false⟩]) I1.ok rfl (.inr (.inr rfl)) hh;have I2:=I1.stp (hpO 3 0);rw [zwk (v:=vW v v.g v.us [⟨7,k,rdU u,0,0, [],false⟩]) rfl];rw [e2] at I2|-;cases hp: (pend (gOf v.g.ws) ⟨7,k,rdU u,0,0, [],false⟩&&!decG (gOf v.g.ws))
   · rw [hp] at I2
     simp only [Bool.false_eq_true,if_false,zxu] at I2|-;have T2:TS F (G+1+1) (vW v v.g v.us [verd (gOf v.g.ws) k (rdU u)]):=⟨I2,T.up,T.fu,T.us⟩;have hlt:=K.lt hr;obtain ⟨g,x,d1,d2,d3,d4⟩:=zxr (f:=37) T2 (by omega) hu rfl hr1 (by
      by_cases c: (gOf v.g.ws).n=rdU u/\(gOf v.g.ws).co=true
      · exact .inl ⟨c,.inr rfl⟩
      · exact .inr ⟨c,hlt,.inr rfl⟩)
     refine⟨g,x,d1,d2.more (by omega),⟨.inr ⟨by rw [d3,KJ (by omega)], ?_⟩⟩⟩;have d4:g= (if(pend (gOf v.g.ws) (doneM (verd (gOf v.g.ws) k (rdU u)))&&decG (gOf v.g.ws))=true then doneG v.g (gOf v.g.ws) (doneM (verd (gOf v.g.ws) k (rdU u))) else v.g):=d4
     split at d4
     · rename_i hp2
       simp only [kr] at hp2;have hpn:=hp2.1;unfold pend at hpn;simp only [kr,KF,Bool.not_eq_true'] at hpn;have e: (gOf v.g.ws).n=rdU u:=hpn.1;exact .inr ⟨hp2.2,hpn.2,by omega,_,rfl,d4⟩
     · exact .inl d4
   · rw [hp] at I2
     simp only [if_true,zwt] at I2|-;rw [zwj rfl];simp only [kr,Bool.not_eq_true'] at hp;have hpn:=hp.1;unfold pend at hpn;simp only [kr,KF,Bool.not_eq_true'] at hpn;have hse: (⟨v.ss,v.sg,v.g,v.us,v.cs, [],v.now⟩:Vh)=vW v v.g (v.us.set k u) []:=by rw [zwh hu];rfl
     refine⟨v.g,u,hse,by rw [hself];exact T.more (by omega),⟨.inl ⟨rfl,rfl,.inr ⟨hpn.1.symm,hp.2,hpn.2⟩⟩⟩⟩
end
section
variable {F:LL} {G:Int} {v:Vh}
theorem zxn {C:Int->Prop} (hI:HI F C v) (hn: (gOf v.g.ws).n≠0): ∃c,v.cs[((gOf v.g.ws).n - 1).toNat]?=some c/\lastC v= (c,0)/\c.n= (gOf v.g.ws).n/\c.ts.length=v.us.length/\c.ims.length=v.us.length:=by
 have hs:=(zrr v.g.ws).n;have ncs:=hI.ncs;have hl: ((gOf v.g.ws).n - 1).toNat<v.cs.length:=by omega
 have e:=kX hl;refine⟨_,e, ?_, ?_⟩
 {
 unfold lastC;rw [KJ hn,KJ (by omega),ka,e];rfl }
 {
 obtain ⟨h1,h2,h3,-⟩:=zxo.1 (hI.vg.cs _ _ e);exact⟨by omega,h3,h2⟩ }
theorem upE_0' (T:TS F G v):upE v.g=0:=by unfold upE;rw [KJ (by simpa using T.gk.ok),KK T.up]
theorem poke_err (T:TS F G v) (hk:k<v.us.length) (h: (gOf v.g.ws).n=0\/(gOf v.g.ws).en=true):stp v (hpO 2 k)=v:=by
 refine stp_no T.inv.ok ?_
 show(pokeS v k).2≠0
 obtain ⟨C,P,hI,-⟩:=T.inv;have hl: (lastC v).2=0:=by
  by_cases hn: (gOf v.g.ws).n=0
  { unfold lastC;rw [KK hn] }
  {
  obtain ⟨c,-,e,-⟩:=zxn hI hn;rw [e] }
 have hd: (gDue v.g (lastC v).1.n (lastC v).1.ts (lastC v).1.ims k).2=12:=by
  have e:dueE v.g (lastC v).1.n (lastC v).1.ts (lastC v).1.ims k=12:=by
   unfold dueE;rw [KJ (by rw [upE_0' T];decide),KK (by simpa using h)]
  unfold gDue;rw [KK (by rw [e];decide),e]
 unfold pokeS;rw [KJ (by rw [zxd hk];decide),KJ (by simpa using hl),KK (by rw [hd];decide),hd];decide
theorem zw1 {l:List Ms} (T:TS F G v) (hk:k<v.us.length) (hnet:v.net= []) (hn: (gOf v.g.ws).n≠0) (he: (gOf v.g.ws).en=false) (hl24:l.length<=24)
 (hd: ∀c:Cp,c.n= (gOf v.g.ws).n->v.cs[((gOf v.g.ws).n - 1).toNat]?=some c->dueE v.g c.n c.ts c.ims k=0->gDue v.g c.n c.ts c.ims k= (l,0)):stp v (hpO 2 k)=vW v v.g v.us l:=by
 refine zwn T.inv.ok ?_
 show pokeS v k=_
 have q:=T.inv.vg;obtain ⟨C,P,hI,-⟩:=T.inv;obtain ⟨c,c1,c2,c3,c4,c5⟩:=zxn hI hn;have e:dueE v.g c.n c.ts c.ims k=0:=by
  unfold dueE;rw [KJ (by rw [upE_0' T];decide),KJ (by simp [hn,he]),KK];rw [inB_t (by omega) (by have:=q.nu;omega),c3,c4,c5]
  simp [hk]
 have d:=hd c c3 c1 e;unfold pokeS;rw [c2];dsimp only;rw [KJ (by rw [zxd hk];decide),KJ (by simp),d,KJ (by simp),hnet];unfold vW sendS;simp only [List.nil_append,List.length_nil];rw [kh (by omega)]
theorem poke_dec (T:TS F G v) (hG:G+9<60000) (hu:v.us[k]?=some u) (hnet:v.net= []) (hn: (gOf v.g.ws).n≠0) (he: (gOf v.g.ws).en=false) (hd:decG (gOf v.g.ws)=true) (hr:rdU u=0):
 ∃g x,drn 40 (stp v (hpO 2 k))=vW v g (v.us.set k x) []/\TS F (G+4) (vW v g (v.us.set k x) [])/\rdU x=0/\((g=v.g/\v.g.di.getD k false=true)\/∃m:Ms,m.u= (k:Int)/\g=doneG v.g (gOf v.g.ws) m):=by
 have hk:=(kY.1 hu).1;have hs:=zrr v.g.ws;have hself:vW v v.g (v.us.set k u) []=v:=by rw [zwh hu];unfold vW;rw [<-hnet]
 have due: ∀c:Cp,dueE v.g c.n c.ts c.ims k=0->gDue v.g c.n c.ts c.ims k= (if v.g.di.getD k false=true then [] else [verd (gOf v.g.ws) k (gOf v.g.ws).n],0):=fun c e=>by
  unfold gDue;rw [KJ (by simpa using e),KK hd,kp]
 cases hdi:v.g.di.getD k false
 · rw [hdi] at due
   simp only [Bool.false_eq_true,if_false] at due;have e1:=zw1 T hk hnet hn he (l:= [verd (gOf v.g.ws) k (gOf v.g.ws).n]) (by simp) (fun c _ _ e=>due c e);have I1:=T.inv.stp (hpO 2 k);rw [e1] at I1|-;have T1:TS F (G+1) (vW v v.g v.us [verd (gOf v.g.ws) k (gOf v.g.ws).n]):=⟨I1,T.up,T.fu,T.us⟩;obtain ⟨g,x,d1,d2,d3,d4⟩:=zxr (f:=38) (n:=(gOf v.g.ws).n) T1 (by omega) hu rfl (by have:=hs.n;omega) (by
    obtain ⟨C,P,hI,hE⟩:=T.inv
    by_cases c: (gOf v.g.ws).co=true
    · exact .inl ⟨⟨rfl,c⟩,(hE.ej.co c k u hu).symm⟩
    · refine .inr ⟨fun h=>c h.2, ?_,.inl hr⟩
      have hp:=hE.ej.p
      rcases hE.ej.b k u hu with b|b
      · show byU u< (gOf v.g.ws).n;omega
      · exact absurd b.1 c)
   refine⟨g,x,d1,d2.more (by omega),(by rw [d3];split;exact hr;rfl),.inr ⟨doneM (verd (gOf v.g.ws) k (gOf v.g.ws).n),rfl, ?_⟩⟩;have d4:g= (if(pend (gOf v.g.ws) (doneM (verd (gOf v.g.ws) k (gOf v.g.ws).n))&&decG (gOf v.g.ws))=true then doneG v.g (gOf v.g.ws) (doneM (verd (gOf v.g.ws) k (gOf v.g.ws).n)) else v.g):=d4;rw [d4,KK];rw [hd,pend_t rfl he];rfl
 · rw [hdi] at due
   simp only [if_true] at due;have e1:=zw1 T hk hnet hn he (l:= []) (by simp) (fun c _ _ e=>due c e);have e2:vW v v.g v.us []=v:=by unfold vW;rw [<-hnet]
   rw [e1,e2,zwj hnet];exact⟨v.g,u,hself.symm,by rw [hself];exact T.more (by omega),hr,.inl ⟨rfl,rfl⟩⟩
end
section
variable {F:LL} {v:Vh}
theorem zwz {y:Un} (h:us[k]?=some x): (us.set k y)[k]?=some y:=by rw [Ka,KK rfl,KK (kY.1 h).1]
theorem zwi (us:List Un) (k:Nat) (x y:Un): (us.set k x).set k y=us.set k y:=List.set_set ..
def pieK (k:Nat) (n:Int) (image:LI) (p:Nat):Ms:=⟨1,k,n,p,0,(image.drop p).take 8,false⟩
theorem feed {Q:Nat->Un->Prop} {k:Nat} {n:Int} {image:LI} {tail:List Ms} (hQ: ∀p x,p<image.length->Q p x->∃y,hearA v.ss x (pieK k n image p)= (y, [],0)/\Q (p+8) y):
 ∀(f p:Nat) (us:List Un) (x:Un) (G:Int) (N:Nat),Inv F G (vW v v.g us (zgh k n image f p++tail))->us[k]?=some x->Q p x->f<=N->image.length<=p+8 * f->
  ∃y p' j,j<=f/\drn N (vW v v.g us (zgh k n image f p++tail))=drn (N - j) (vW v v.g (us.set k y) tail)/\Inv F (G+j) (vW v v.g (us.set k y) tail)/\Q p' y/\image.length<=p'
 |0,p,us,x,G,N,I,hx,hq,_,hl=>⟨x,p,0,kQ _,by rw [zwh hx];rfl,by rw [zwh hx];exact I.more (by omega),hq,by omega⟩
 |f+1,p,us,x,G,N,I,hx,hq,hN,hl=>by
  by_cases hp:p<image.length
  {
  have e:zgh k n image (f+1) p=pieK k n image p::zgh k n image f (p+8):=by
   show(if p<image.length then _ else _)=_
   rw [KK hp];rfl
  rw [e] at I|-;obtain ⟨y,h1,h2⟩:=hQ p x hp hq;have e1:stp (vW v v.g us (pieK k n image p::zgh k n image f (p+8)++tail)) (hpO 3 0)=vW v v.g (us.set k y) (zgh k n image f (p+8)++tail):=by
   rw [zw5 (v:=vW v v.g us (pieK k n image p::zgh k n image f (p+8)++tail)) (r:=zgh k n image f (p+8)++tail) I.ok rfl (by show¬((1:Int)=3\/(1:Int)=6\/(1:Int)=7);decide) rfl hx h1,zwt];rfl
  have I1:=I.stp (hpO 3 0);rw [e1] at I1;obtain ⟨y',p',j,j1,j2,j3,j4,j5⟩:=feed hQ f (p+8) (us.set k y) y (G+1) (N - 1) I1 (zwz hx) h2 (by omega) (by omega);rw [zwi] at j2 j3;refine⟨y',p',j+1,by omega, ?_,j3.more (by omega),j4,j5⟩;have eN:N= (N - 1)+1:=by omega
  rw [eN,zwk (v:=vW v v.g us (pieK k n image p::zgh k n image f (p+8)++tail)) rfl,e1,j2]
  congr 1
  omega }
  {
  have e:zgh k n image (f+1) p= []:=by
   show(if p<image.length then _ else _)=_
   rw [KJ hp]
  rw [e] at I|-;exact⟨x,p,0,by omega,by rw [zwh hx];rfl,by rw [zwh hx];exact I.more (by omega),hq,by omega⟩ }
theorem zxa (u n:Int) (image:LI): ∀f p,(zgh u n image f p).length<=f
 |0,_=>kQ _
 |f+1,p=>by
  show(if p<image.length then _ else _:List Ms).length<=_
  split
  { have:=zxa u n image f (p+8);simp;omega }
  { simp }
theorem zxm {k:Int} (h:heE ss x m=0) (hk:m.k=1) (hk3:0<=k/\k<=3):hearA ss x ⟨m.k,k,m.n,m.at',m.im,m.ws,m.y⟩=hearA ss x m:=by
 obtain ⟨h1,h2,h3⟩:=heE_ok h;have q:=msE_0 h3;have he:heE ss x ⟨m.k,k,m.n,m.at',m.im,m.ws,m.y⟩=0:=by rw [heE_3 h1 h2];exact zsw q.1 hk3 q.2.2.1 q.2.2.2.1 q.2.2.2.2.1 q.2.2.2.2.2.1 q.2.2.2.2.2.2
 unfold hearA;rw [KJ (by simpa using he),KJ (by simpa using h)];unfold hearS
 split
 { rw [zwl hk,zwl (m:=⟨m.k,k,m.n,m.at',m.im,m.ws,m.y⟩) hk];rfl }
 { rfl }
theorem got_ready {image:LI} {name:Int} (T:TS F G (vW v v.g v.us (delG n k name image))) (hG:G+9<60000) (hu:v.us[k]?=some u) (hk3:k<=3) (hn:1<=n/\n<=8) (hby:byU u<n) (him:imgE image=0) (hnm:inN v.ss image=name) (hn0:name≠0) (hr:rdU u=0\/rdU u=n):
 ∃x j,j<=7/\drn 40 (vW v v.g v.us (delG n k name image))=drn (40 - j) (vW v v.g (v.us.set k x) [⟨3,k,n,0,0, [],true⟩])/\Inv F (G+7) (vW v v.g (v.us.set k x) [⟨3,k,n,0,0, [],true⟩])/\x=btd x:=by
 have q:=T.inv.vg;have K:=T.inv.unit (k:=k) hu;have bu:=T.us k u hu;obtain ⟨b1,b2,b3,b4⟩:=btd_up bu;have hw:=zlv him;have hbk:bookE v.ss=0:=q.bk;have hlen:image.length<=40:=hw.1.2;have hok:okL image=true:=zwv fun i hi=>by have:=hw.2 image[i] (KH hi);unfold okW;simp [hi];exact this
 have hmp: ∀(x:Un) p,unE x=0->p<image.length->heE v.ss x ⟨1,0,n,p,0,(image.drop p).take 8,false⟩=0:=fun x p hx hp=>by
  rw [heE_3 hbk hx];exact zsw (by decide) (by decide) hn (by omega) (by decide) (by rw [KQ];omega) (zwr hok p 8)
 have fin: ∀(x y:Un) (j:Nat),j<=6->hearA v.ss x ⟨2,k,n,image.length,name, [],false⟩= (y, [⟨3,k,n,0,0, [],true⟩],0)->y=btd y->v.us.length=v.us.length->
  drn 40 (vW v v.g v.us (delG n k name image))=drn (40 - j) (vW v v.g (v.us.set k x) [⟨2,k,n,image.length,name, [],false⟩])->Inv F (G+j) (vW v v.g (v.us.set k x) [⟨2,k,n,image.length,name, [],false⟩])->
  ∃x j,j<=7/\drn 40 (vW v v.g v.us (delG n k name image))=drn (40 - j) (vW v v.g (v.us.set k x) [⟨3,k,n,0,0, [],true⟩])/\Inv F (G+7) (vW v v.g (v.us.set k x) [⟨3,k,n,0,0, [],true⟩])/\x=btd x:=by
  intro x y j hj h1 h2 _ h3 I;have e1:stp (vW v v.g (v.us.set k x) [⟨2,k,n,image.length,name, [],false⟩]) (hpO 3 0)=vW v v.g (v.us.set k y) [⟨3,k,n,0,0, [],true⟩]:=by
   rw [zw5 (v:=vW v v.g (v.us.set k x) [⟨2,k,n,image.length,name, [],false⟩]) I.ok rfl (by show¬((2:Int)=3\/(2:Int)=6\/(2:Int)=7);decide) rfl (zwz hu) h1]
   show vW v v.g ((v.us.set k x).set k y) [⟨3,k,n,0,0, [],true⟩]=_
   rw [zwi]
  have I1:=I.stp (hpO 3 0);rw [e1] at I1;refine⟨y,j+1,by omega, ?_,I1.more (by omega),h2⟩;rw [h3,show 40 - j= (39 - j)+1 by omega,zwk (v:=vW v v.g (v.us.set k x) [⟨2,k,n,image.length,name, [],false⟩]) rfl,e1]
  congr 1
  omega
 rcases hr with hr|hr
 ·
  have hs:=zr1 (zjw K.ok).1;have ho:=oth_0 K.ok;have hA:Ahead v.ss u.ws image (oth (stOf u.ws)).toNat n name:=⟨hbk,by rw [<-b2];exact(zjw K.ok).1,(zjw K.ok).2.1,Int.toNat_of_nonneg ho.1,him,hr,hby,hn.1,hn.2,hnm,hn0⟩;have hub:u= ⟨u.ws,-1,true,0,0⟩:=bu;have tk: ∀p,p<image.length->(image.drop p).take 8= (image.drop p).take (min (p+8) image.length - p):=fun p hp=>by
   by_cases c:p+8<=image.length
   · rw [show min (p+8) image.length - p=8 by omega]
   · rw [kh (by rw [List.length_drop];omega),kh (by rw [List.length_drop];omega)]
  obtain ⟨x,p',j,j1,j2,j3,j4,j5⟩:=feed (F:=F) (v:=v) (Q:=fun p x=>(p=0/\x=u)\/(0<p/\Has u.ws image (oth (stOf u.ws)).toNat n (min p image.length) x)) (k:=k) (n:=n) (image:=image) (tail:= [⟨2,k,n,image.length,name, [],false⟩]) (by
   intro p x hp hq
   rcases hq with ⟨rfl,rfl⟩| ⟨hp0,hx⟩
   · obtain ⟨y,y1,y2⟩:=zx3 hA (q:=min (0+8) image.length) (by omega) (by omega) (by omega)
     refine⟨y, ?_,.inr ⟨by omega,y2⟩⟩;have e:=zxm (k:=k) (hmp x 0 K.ok hp) rfl (by omega);rw [<-hub] at y1;have em: (⟨1,0,n,(0:Nat),0,(image.drop 0).take 8,false⟩:Ms)=pieM n image 0 (min (0+8) image.length):=by unfold pieM;rw [tk 0 hp]
     rw [em] at e;rw [<-y1,<-e];unfold pieM pieK;rw [<-tk 0 hp]
   · rw [kK (by omega)] at hx
     obtain ⟨y,y1,y2⟩:=zx6 hA hx hp0 (q:=min (p+8) image.length) (by omega) (by omega) (by omega);refine⟨y, ?_,.inr ⟨by omega,y2⟩⟩;have e:=zxm (k:=k) (hmp x p (hx.ok hA (by omega)).1 hp) rfl (by omega);have em: (⟨1,0,n,p,0,(image.drop p).take 8,false⟩:Ms)=pieM n image p (min (p+8) image.length):=by unfold pieM;rw [tk p hp]
     rw [em] at e;rw [<-y1,<-e];unfold pieM pieK;rw [<-tk p hp]) 6 0 v.us u G 40 T.inv hu (.inl ⟨rfl,rfl⟩) (by omega) (by omega)
  have hx:Has u.ws image (oth (stOf u.ws)).toNat n image.length x:=by
   rcases j4 with ⟨h0,-⟩| ⟨-,h⟩
   · have:=hw.1.1;omega
   · rw [Nat.min_eq_right j5] at h;exact h
  obtain ⟨X,X1,⟨X2,X3,X4,X5⟩,X6,X7,-,X8⟩:=zx2 hA hx (k:=k) (by omega);have kg:=K.gen;have kb:=K.by0;have hbX:byU X=byU u/\rdU X=0:=by unfold byU rdU;rw [X6];exact⟨rfl,hr⟩
  have ny:=zxk (r:= [2,n]) X1 X2 (by rw [hbX.1];exact kb) (by rw [hbX.2];decide) (rec2 (by decide) (by omega)) (by simp) (by omega);have nn:=zsi (r:= [2,n]) X1;rw [X6] at ny nn;rw [ny.1] at nn;obtain ⟨-,z2,z3,z4⟩:=nn.yes rfl;refine fin x _ j j1 ?_ (btd_mk (z2.trans X3) ny.2 (z3.trans X4) (z4.trans X5)) rfl j2 j3;rw [show(⟨2,k,n,image.length,name, [],false⟩:Ms)=preK k n image name from rfl,X8,prepC_1 (m:=preK k n image name) ny.1];rfl
 ·
  have hlt: ¬n<=(stOf u.ws).by' :=by unfold byU at hby;omega
  have hrn: (stOf u.ws).rdy≠0:=by unfold rdU at hr;omega
  obtain ⟨x,p',j,j1,j2,j3,j4,-⟩:=feed (F:=F) (v:=v) (Q:=fun _ x=>x=u) (k:=k) (n:=n) (image:=image) (tail:= [⟨2,k,n,image.length,name, [],false⟩]) (by
   intro p x hp hx;subst hx;refine⟨x, ?_,rfl⟩;rw [show pieK k n image p= ⟨1,k,n,p,0,(image.drop p).take 8,false⟩ from rfl];rw [zxm (m:=⟨1,0,n,p,0,(image.drop p).take 8,false⟩) (k:=k) (hmp x p K.ok hp) rfl (by omega),zu7 (hmp x p K.ok hp) b1,zwl rfl];unfold zda;rw [KK (.inl hrn)]) 6 0 v.us u G 40 T.inv hu rfl (by omega) (by omega)
  subst j4;refine fin x x j j1 ?_ bu rfl j2 j3;have nm60:0<=name/\name<=60:=by
   have hm:=(msE_0 ((q.net ⟨2,k,n,image.length,name, [],false⟩ (by show _∈delG n k name image;unfold delG;simp)).1)).2.2.2.2.1;exact hm
  have he:heE v.ss x ⟨2,k,n,image.length,name, [],false⟩=0:=by rw [heE_3 hbk K.ok];exact zsw (by decide) (by omega) hn (by omega) nm60 (by decide) rfl
  rw [zu7 he b1,zw0 rfl];unfold prepS;rw [KJ hlt,KK hrn]
  show(x, [voteM _ (decide ((stOf x.ws).rdy=n))],(0:Int))=_
  rw [decide_eq_true (show(stOf x.ws).rdy=n from hr)];rfl
end
theorem zxp (h0:0<l.length) (h: ∀k:Nat,l.getD k false=false):allB l=false:=by
 cases z:allB l
 { rfl }
 { have:=zxl z h0;rw [h 0] at this;cases this }
theorem zxy (h: ∀k,k<l.length->l.getD k false=true):allB l=true:=by
 unfold allB;simp only [Bool.not_eq_true',List.any_eq_false];intro x hx;obtain ⟨k,hk,rfl⟩:=List.mem_iff_getElem.1 hx;have:=h k hk;rw [ka,kX hk] at this
 simpa using this
theorem zx0 (hk:k<l.length): (setB l k).getD k false=true:=by
 unfold setB;rw [kp,ka,Ka,KK rfl,KK hk];rfl
theorem zxt (h:l.getD j false=true): (setB l k).getD j false=true:=by
 unfold setB;rw [kp,ka,Ka]
 split
 {
 rename_i e
 split
 { rfl }
 {
 rename_i hl
 rw [ka,List.getElem?_eq_none (by omega)] at h;cases h } }
 { rw [<-ka];exact h }
section
variable {F:LL} {G:Int} {v:Vh}
theorem TS.nvo (T:TS F G v):v.us.length=v.g.vo.length/\v.g.di.length=v.g.vo.length/\1<=v.us.length/\v.us.length<=4:=⟨T.inv.vg.nu,(zrp T.inv.vg.gt).2.2.1,T.inv.vg.u4.1,T.inv.vg.u4.2⟩
theorem poke_und (T:TS F G v) (hG:G+20<60000) (hu:v.us[k]?=some u) (hnet:v.net= []) (hn: (gOf v.g.ws).n≠0) (hd:decG (gOf v.g.ws)=false) (hr:rdU u=0\/rdU u= (gOf v.g.ws).n):
 ∃g x,drn 40 (stp v (hpO 2 k))=vW v g (v.us.set k x) []/\TS F (G+12) (vW v g (v.us.set k x) [])/\((g=v.g/\v.g.vo.getD k false=true)\/∃m:Ms,m.u= (k:Int)/\g=voteG v.g (gOf v.g.ws) m):=by
 have hk:=(kY.1 hu).1;have hs:=zrr v.g.ws;have hn8:=hs.n;have hl:=T.nvo;have he: (gOf v.g.ws).en=false:=by cases z: (gOf v.g.ws).en;rfl;have:=hs.en z;rw [hd] at this;cases this
 have hself:vW v v.g (v.us.set k u) []=v:=by rw [zwh hu];unfold vW;rw [<-hnet]
 obtain ⟨C,P,hI,hE⟩:=T.inv;obtain ⟨c,c1,c2,c3,c4,c5⟩:=zxn hI hn;have hc:=hI.camp (Kp c1);have hki:k<c.ims.length:=by omega
 have hkt:k<c.ts.length:=by omega
 have mt:=zu1 (zs7 (k:=k) (hI.cim c (Kp c1)) (by omega) hkt);have him:imgE (c.ims.getD k [])=0:=(zxi mt.1).1;have hlen:=(zlv him).1.2;have hnm0: (c.ts.getD k (0,0,0)).2.1≠0:=by
  have:=hc.2.2.2 _ (KH hkt);rw [ka,kX hkt]
  show(c.ts[k]).2.1≠0
  omega
 cases hvo:v.g.vo.getD k false
 {
 have e1:=zw1 T hk hnet hn he (l:=delG (gOf v.g.ws).n k (c.ts.getD k (0,0,0)).2.1 (c.ims.getD k [])) (by unfold delG;rw [kj];have:=zxa k (gOf v.g.ws).n (c.ims.getD k []) 6 0;show _+1<=24;omega) (fun c' _ h2 e=>by
  rw [c1] at h2;cases h2;unfold gDue;rw [KJ (by simpa using e),KJ (by rw [hd];decide),kp,KJ (by rw [hvo];decide),KJ (by omega),c3])
 have I1:=T.inv.stp (hpO 2 k);rw [e1] at I1|-;have hb:byU u< (gOf v.g.ws).n:=by
  have hp:=hE.ej.p
  rcases hE.ej.b k u hu with b| ⟨b,-⟩
  { omega }
  { unfold decG at hd;rw [b] at hd;cases hd }
 obtain ⟨x,j,j1,j2,j3,j4⟩:=got_ready (F:=F) (v:=v) ⟨I1,T.up,T.fu,T.us⟩ (by omega) hu (by omega) (by omega) hb him mt.2.1 hnm0 hr;have hh:gHear v.g ⟨3,k,(gOf v.g.ws).n,0,0, [],true⟩= (voteG v.g (gOf v.g.ws) ⟨3,k,(gOf v.g.ws).n,0,0, [],true⟩, [],0):=by
  rw [zw6 T.gk (by show 0<=(k:Int)/\(k:Int)<_;omega) (by show 1<=(gOf v.g.ws).n/\(gOf v.g.ws).n<=8;omega)];unfold ghK;rw [KK (show(⟨3,k,(gOf v.g.ws).n,0,0, [],true⟩:Ms).k=3 from rfl),KK (by rw [pend_t rfl he,hd];rfl)]
 have e2:=zw8 (v:=vW v v.g (v.us.set k x) [⟨3,k,(gOf v.g.ws).n,0,0, [],true⟩]) j3.ok rfl (.inl rfl) hh;rw [zwt] at e2;have I2:=j3.stp (hpO 3 0);rw [e2] at I2;have cn:=zxw (m:=⟨3,k,(gOf v.g.ws).n,0,0, [],true⟩) T.gk (by omega) hd hn;refine⟨_,x, ?_,⟨I2.more (by omega),cn.up,cn.fu,set_at j4 T.us⟩,.inr ⟨⟨3,k,(gOf v.g.ws).n,0,0, [],true⟩,rfl,rfl⟩⟩;rw [j2,show 40 - j= (39 - j)+1 by omega,zwk (v:=vW v v.g (v.us.set k x) [⟨3,k,(gOf v.g.ws).n,0,0, [],true⟩]) rfl,e2];exact zwj rfl _ }
 {
 have e1:=zw1 T hk hnet hn he (l:= []) (by simp) (fun c' _ _ e=>by
  unfold gDue;rw [KJ (by simpa using e),KJ (by rw [hd];decide),kp,KK hvo])
 have e2:vW v v.g v.us []=v:=by unfold vW;rw [<-hnet]
 rw [e1,e2,zwj hnet];exact⟨v.g,u,hself.symm,by rw [hself];exact T.more (by omega),.inl ⟨rfl,rfl⟩⟩ }
def vis (v:Vh) (k:Nat):Vh:=drn 40 (stp (drn 40 (stp v (hpO 9 k))) (hpO 2 k))
structure TR (F:LL) (G:Int) (v:Vh):Prop where
 ts:TS F G v
 net:v.net= []
 vo:decG (gOf v.g.ws)=false->(gOf v.g.ws).n≠0->allB v.g.vo=false
 di:decG (gOf v.g.ws)=true->(gOf v.g.ws).en=false->allB v.g.di=false
theorem zxg (h:s.co=true):decG s=true:=by unfold decG;rw [h];rfl
def DD (g g' :Gt):Prop:=decG (gOf g'.ws)=true/\(gOf g'.ws).n= (gOf g.ws).n/\((gOf g'.ws).co= (gOf g.ws).co/\(gOf g'.ws).ab= (gOf g.ws).ab)/\((gOf g'.ws).en=true\/(allB g'.di=false/\∀j:Nat,g.di.getD j false=true->g'.di.getD j false=true))
theorem dd_done (hg:GK G g) (hG:G<60000) (hd:decG (gOf g.ws)=true) (hn: (gOf g.ws).n≠0) (hm:m.u= (k:Int)) (hk:k<g.di.length):DD g (doneG g (gOf g.ws) m)/\((gOf (doneG g (gOf g.ws) m).ws).en=true\/(doneG g (gOf g.ws) m).di.getD k false=true):=by
 have c:=zw3 (m:=m) hg hG hd hn
 rcases c.or' with ⟨a,b,d⟩|b
 {
 rw [hm] at a d;refine⟨⟨by rw [b];exact hd,by rw [b],by rw [b];exact⟨rfl,rfl⟩,.inr ⟨by rw [d];exact a,fun j hj=>by rw [d];exact zxt hj⟩⟩,.inr (by rw [d];exact zx0 hk)⟩ }
 { exact⟨⟨by rw [b];exact hd,by rw [b],by rw [b];exact⟨rfl,rfl⟩,.inl (by rw [b])⟩,.inl (by rw [b])⟩ }
structure VR (F:LL) (G:Int) (v:Vh) (k:Nat) (y:Vh):Prop where
 tr:TR F G y
 cs:y.cs=v.cs/\y.ss=v.ss/\y.sg=v.sg/\y.now=v.now/\y.g.t=v.g.t
 nu:y.us.length=v.us.length
 oth: ∀j,j≠k->y.us[j]?=v.us[j]?
 n: (gOf y.g.ws).n= (gOf v.g.ws).n
 dec:decG (gOf v.g.ws)=true->decG (gOf y.g.ws)=true
 co: (gOf v.g.ws).co=true->(gOf y.g.ws).co=true
 ab: (gOf y.g.ws).ab= (gOf v.g.ws).ab
 e: (gOf v.g.ws).en=true->(gOf y.g.ws).en=true/\∀x,y.us[k]?=some x->rdU x=0
 u: (gOf v.g.ws).n≠0->decG (gOf v.g.ws)=false->(gOf y.g.ws).co=true\/(y.g.vo.getD k false=true/\∀j:Nat,v.g.vo.getD j false=true->y.g.vo.getD j false=true)
 d:decG (gOf v.g.ws)=true->(gOf y.g.ws).en=true\/(y.g.di.getD k false=true/\∀j:Nat,v.g.di.getD j false=true->y.g.di.getD j false=true)
theorem voteG_t (hg:gtE g=0): (voteG g (gOf g.ws) m).t=g.t/\((voteG g (gOf g.ws) m).di=g.di\/(voteG g (gOf g.ws) m).di=zbj g.di):=by
 unfold voteG
 split
 { exact⟨(zrw (g:=withV g m.u) [2,(gOf g.ws).n] (zsl hg m.u)).t,(ztn (withV g m.u) (gOf g.ws) [2,(gOf g.ws).n]).2⟩ }
 { exact⟨rfl,.inl rfl⟩ }
theorem doneG_t (hg:gtE g=0): (doneG g (gOf g.ws) m).t=g.t:=by
 unfold doneG
 split
 { exact(zrw (g:=withD g m.u) [4,(gOf g.ws).n] (zsn hg m.u)).t }
 { rfl }
theorem visit (T:TR F G v) (hG:G+40<60000) (hk:k<v.us.length):VR F (G+16) v k (vis v k):=by
 have hu:=kX hk;have hs:=zrr v.g.ws;have hl:=T.ts.nvo;obtain ⟨g1,x1,q1,q2,q3⟩:=zx7 T.ts (by omega) hu T.net;unfold vis;rw [q1];have hx1: (v.us.set k x1)[k]?=some x1:=zwz hu;have oth1: ∀(x:Un) j,j≠k->(v.us.set k x)[j]?=v.us[j]?:=fun x j hj=>by rw [Ka,KJ (Ne.symm hj)]
 have gq:g1=v.g\/(decG (gOf v.g.ws)=true/\(gOf v.g.ws).en=false/\(gOf v.g.ws).n≠0/\∃m:Ms,m.u= (k:Int)/\g1=doneG v.g (gOf v.g.ws) m):=by
  rcases q3.or' with ⟨-,a,-⟩| ⟨-,a⟩
  · exact .inl a
  · exact a
 have gt1:g1.t=v.g.t:=by
  rcases gq with a| ⟨-,-,-,m,-,a⟩
  · rw [a]
  · rw [a];exact doneG_t T.ts.gk.ok
 have hrd: (rdU x1=0)\/(rdU x1= (gOf v.g.ws).n/\decG (gOf v.g.ws)=false/\g1=v.g):=by
  rcases q3.or' with ⟨a,b,c⟩| ⟨a,-⟩
  · rw [a]
    rcases c with c|c
    · exact .inl c
    · exact .inr ⟨c.1,c.2.1,b⟩
  · exact .inl a
 have dd1:decG (gOf v.g.ws)=true->DD v.g g1:=fun hd=>by
  rcases gq with a| ⟨a,b,c,m,hm,e⟩
  · rw [a]
    refine⟨hd,rfl,⟨rfl,rfl⟩, ?_⟩;cases z: (gOf v.g.ws).en
    · exact .inr ⟨T.di hd z,fun _ h=>h⟩
    · exact .inl rfl
  · rw [e];exact(dd_done T.ts.gk (by omega) hd c hm (by omega)).1
 have nu1: (v.us.set k x1).length=v.us.length:=List.length_set ..
 by_cases c1: (gOf g1.ws).n=0\/(gOf g1.ws).en=true
 ·
  rw [poke_err q2 (by show k< (v.us.set k x1).length;omega) c1,zwj rfl];have hdz:decG (gOf v.g.ws)=false->(gOf v.g.ws).n=0:=fun hd=>by
   rcases gq with a| ⟨a,-⟩
   · rw [a] at c1
     rcases c1 with c1|c1
     · exact c1
     · have:=hs.en c1;rw [hd] at this;cases this
   · rw [hd] at a;cases a
  have hn: (gOf g1.ws).n= (gOf v.g.ws).n:=by
   cases z:decG (gOf v.g.ws)
   · rcases gq with a| ⟨a,-⟩
     · rw [a]
     · rw [z] at a;cases a
   · exact(dd1 z).2.1
  have hen:decG (gOf v.g.ws)=true->(gOf g1.ws).en=true:=fun hd=>by
   rcases c1 with c1|c1
   · have: (gOf v.g.ws).n=0:=by omega
     rw [hs.none this] at hd;cases hd
   · exact c1
  have hab: (gOf g1.ws).ab= (gOf v.g.ws).ab:=by
   cases z:decG (gOf v.g.ws)
   · rcases gq with a| ⟨a,-⟩
     · rw [a]
     · rw [z] at a;cases a
   · exact(dd1 z).2.2.1.2
  refine⟨⟨q2.more (by omega),rfl,fun hd hn' => ?_,fun hd he=> ?_⟩,⟨rfl,rfl,rfl,rfl,gt1⟩,nu1,oth1 x1,hn,fun hd=>(dd1 hd).1,fun h=>(dd1 (zxg h)).2.2.1.1.trans h,hab,fun he=>⟨hen (hs.en he),fun x hx=> ?_⟩,fun h1 h2=>absurd (hdz h2) h1,fun hd=>.inl (hen hd)⟩
  · exfalso
    have hd' :decG (gOf v.g.ws)=false:=by
     cases z:decG (gOf v.g.ws)
     · rfl
     · have:=(dd1 z).1;have hd:decG (gOf g1.ws)=false:=hd;rw [hd] at this;cases this
    exact hn' (hn.trans (hdz hd'))
  · exfalso
    have he: (gOf g1.ws).en=false:=he
    rcases c1 with c1|c1
    · have hd:decG (gOf g1.ws)=true:=hd
      rw [(zrr g1.ws).none c1] at hd;cases hd
    · rw [c1] at he;cases he
  · have hx: (v.us.set k x1)[k]?=some x:=hx
    rw [hx1] at hx;cases hx
    rcases hrd with a| ⟨-,a,-⟩
    · exact a
    · have:=hs.en he;rw [a] at this;cases this
 · have c1' : (gOf g1.ws).n≠0/\(gOf g1.ws).en=false:=⟨fun h=>c1 (.inl h),by cases z: (gOf g1.ws).en;rfl;exact absurd (.inr z) c1⟩
   cases hd:decG (gOf v.g.ws)
   ·
    have eg:g1=v.g:=by
     rcases gq with a| ⟨a,-⟩
     · exact a
     · rw [hd] at a;cases a
    subst eg;have hne: (gOf v.g.ws).en=false:=c1'.2;obtain ⟨g2,x2,p1,p2,p3⟩:=poke_und (v:=vW v v.g (v.us.set k x1) []) q2 (by omega) hx1 rfl c1'.1 hd (by
     rcases hrd with a| ⟨a,-⟩
     · exact .inl a
     · exact .inr a)
    have p1:drn 40 (stp (vW v v.g (v.us.set k x1) []) (hpO 2 k))=vW v g2 (v.us.set k x2) []:=by rw [p1];show vW v g2 ((v.us.set k x1).set k x2) []=_;rw [zwi]
    have p2:TS F (G+4+12) (vW v g2 (v.us.set k x2) []):=by have:=p2;unfold vW at this|-;rw [zwi] at this;exact this
    rw [p1];have d0: ∀j:Nat,v.g.di.getD j false=false:=by obtain ⟨C,P,hI,hE⟩:=T.ts.inv;exact hE.ej.d0 hd
    have key: ((gOf g2.ws)=gOf v.g.ws/\allB g2.vo=false/\g2.vo.getD k false=true/\∀j:Nat,v.g.vo.getD j false=true->g2.vo.getD j false=true)\/((gOf g2.ws).co=true/\(gOf g2.ws).n= (gOf v.g.ws).n/\(gOf g2.ws).en=false/\allB g2.di=false/\(gOf g2.ws).ab=false):=by
     rcases p3 with ⟨a,b⟩| ⟨m,hm,a⟩
     · have a:g2=v.g:=a
       rw [a];exact .inl ⟨rfl,T.vo hd c1'.1,b,fun _ h=>h⟩
     · have a:g2=voteG v.g (gOf v.g.ws) m:=a
       have cn:=zxw (m:=m) T.ts.gk (by omega) hd c1'.1;rw [<-a] at cn
       rcases cn.or' with ⟨z1,z2,z3⟩|z
       · rw [hm] at z1 z3
         exact .inl ⟨z2,by rw [z3];exact z1,by rw [z3];exact zx0 (by omega),fun j hj=>by rw [z3];exact zxt hj⟩
       · refine .inr ⟨by rw [z],by rw [z],by rw [z];exact hne, ?_,by rw [z]⟩
         have vt:=(voteG_t (m:=m) T.ts.gk.ok).2;rw [<-a] at vt;refine zxp ?_ fun j=> ?_
         · rcases vt with e|e
           · rw [e];omega
           · rw [e,zru];omega
         · cases z:g2.di.getD j false
           · rfl
           · have:=or_at vt z;rw [d0 j] at this;cases this
    have gt2:g2.t=v.g.t:=by
     rcases p3 with ⟨a,-⟩| ⟨m,-,a⟩
     · have a:g2=v.g:=a;rw [a]
     · have a:g2=voteG v.g (gOf v.g.ws) m:=a;rw [a];exact(voteG_t T.ts.gk.ok).1
    refine⟨⟨p2.more (by omega),rfl,fun h1 h2=> ?_,fun h1 h2=> ?_⟩,⟨rfl,rfl,rfl,rfl,gt2⟩,List.length_set ..,oth1 x2, ?_,fun h=>(by rw [hd] at h;cases h),fun h=>(by have:=zxg h;rw [hd] at this;cases this), ?_,fun h=>(by have:=hs.en h;rw [hd] at this;cases this),fun _ _=> ?_,fun h=>(by rw [hd] at h;cases h)⟩
    · rcases key with z|z
      · exact z.2.1
      · have h1:decG (gOf g2.ws)=false:=h1;rw [zxg z.1] at h1;cases h1
    · rcases key with z|z
      · have h1:decG (gOf g2.ws)=true:=h1;rw [z.1,hd] at h1;cases h1
      · exact z.2.2.2.1
    · rcases key with z|z
      · show(gOf g2.ws).n=_;rw [z.1]
      · exact z.2.1
    · have hva: (gOf v.g.ws).ab=false:=by unfold decG at hd;revert hd;cases (gOf v.g.ws).ab<;>simp
      rcases key with z|z
      · show(gOf g2.ws).ab=_;rw [z.1]
      · rw [hva];exact z.2.2.2.2
    · rcases key with z|z
      · exact .inr ⟨z.2.2.1,z.2.2.2⟩
      · exact .inl z.1
   ·
    have D1:=dd1 hd;obtain ⟨g2,x2,p1,p2,p3,p4⟩:=poke_dec (v:=vW v g1 (v.us.set k x1) []) q2 (by omega) hx1 rfl c1'.1 c1'.2 D1.1 (by
     rcases hrd with a| ⟨-,a,-⟩
     · exact a
     · rw [hd] at a;cases a)
    have p1:drn 40 (stp (vW v g1 (v.us.set k x1) []) (hpO 2 k))=vW v g2 (v.us.set k x2) []:=by rw [p1];show vW v g2 ((v.us.set k x1).set k x2) []=_;rw [zwi]
    have p2:TS F (G+4+4) (vW v g2 (v.us.set k x2) []):=by have:=p2;unfold vW at this|-;rw [zwi] at this;exact this
    rw [p1];have gk1:GK (G+4) g1:=q2.gk;have hdl:k<g1.di.length:=by have h:=q2.nvo;have h1: (v.us.set k x1).length=g1.vo.length:=h.1;have h2:g1.di.length=g1.vo.length:=h.2.1;omega
    have al1:allB g1.di=false/\∀j:Nat,v.g.di.getD j false=true->g1.di.getD j false=true:=by
     rcases D1.2.2.2 with z|z
     · rw [c1'.2] at z;cases z
     · exact z
    have D2:DD g1 g2/\((gOf g2.ws).en=true\/g2.di.getD k false=true)/\g2.t=g1.t:=by
     rcases p4 with ⟨a,b⟩| ⟨m,hm,a⟩
     · have a:g2=g1:=a
       rw [a];exact⟨⟨D1.1,rfl,⟨rfl,rfl⟩,.inr ⟨al1.1,fun _ h=>h⟩⟩,.inr b,rfl⟩
     · have a:g2=doneG g1 (gOf g1.ws) m:=a
       rw [a];have:=dd_done gk1 (by omega) D1.1 c1'.1 hm hdl;exact⟨this.1,this.2,doneG_t gk1.ok⟩
    have hne: (gOf v.g.ws).en=true->(gOf g2.ws).en=true:=fun h=>by
     rcases gq with a| ⟨-,a,-⟩
     · rw [a,h] at c1';cases c1'.2
     · rw [h] at a;cases a
    refine⟨⟨p2.more (by omega),rfl,fun h=> ?_,fun _ h=> ?_⟩,⟨rfl,rfl,rfl,rfl,D2.2.2.trans gt1⟩,List.length_set ..,oth1 x2,D2.1.2.1.trans D1.2.1,fun _=>D2.1.1,fun h=>(D2.1.2.2.1.1.trans D1.2.2.1.1).trans h,D2.1.2.2.1.2.trans D1.2.2.1.2,fun h=>⟨hne h,fun x hx=> ?_⟩,fun _ h=>(by rw [hd] at h;cases h),fun _=> ?_⟩
    · have h:decG (gOf g2.ws)=false:=h
      rw [D2.1.1] at h;cases h
    · have h: (gOf g2.ws).en=false:=h
      rcases D2.1.2.2.2 with z|z
      · rw [z] at h;cases h
      · exact z.1
    · have hx: (v.us.set k x2)[k]?=some x:=hx
      rw [zwz hu] at hx;cases hx;exact p3
    · rcases D2.2.1 with z|z
      · exact .inl z
      · rcases D2.1.2.2.2 with y|y
        · exact .inl y
        · exact .inr ⟨z,fun j hj=>y.2 j (al1.2 j hj)⟩
end
def rnd:Nat->Vh->Vh
 |0,v=>v
 |k+1,v=>vis (rnd k v) k
def rnds (U:Nat):Nat->Vh->Vh
 |0,v=>v
 |t+1,v=>rnd U (rnds U t v)
section
variable {F:LL} {G:Int} {v:Vh}
structure RR (F:LL) (G:Int) (v:Vh) (k:Nat) (y:Vh):Prop where
 tr:TR F G y
 cs:y.cs=v.cs/\y.ss=v.ss/\y.sg=v.sg/\y.now=v.now/\y.g.t=v.g.t
 nu:y.us.length=v.us.length
 n: (gOf y.g.ws).n= (gOf v.g.ws).n
 dec:decG (gOf v.g.ws)=true->decG (gOf y.g.ws)=true
 co: (gOf v.g.ws).co=true->(gOf y.g.ws).co=true
 ab: (gOf y.g.ws).ab= (gOf v.g.ws).ab
 e: (gOf v.g.ws).en=true->(gOf y.g.ws).en=true/\∀(j:Nat) x,j<k->y.us[j]?=some x->rdU x=0
 u: (gOf v.g.ws).n≠0->decG (gOf v.g.ws)=false->(gOf y.g.ws).co=true\/∀j:Nat,j<k->y.g.vo.getD j false=true
 d:decG (gOf v.g.ws)=true->(gOf y.g.ws).en=true\/∀j:Nat,j<k->y.g.di.getD j false=true
theorem round_k: ∀(k:Nat),TR F G v->k<=v.us.length->k<=4->G+110<60000->RR F (G+16 * k) v k (rnd k v)
 |0,T,_,_,_=>⟨⟨T.ts.more (by omega),T.net,T.vo,T.di⟩,⟨rfl,rfl,rfl,rfl,rfl⟩,rfl,rfl,id,id,rfl,fun h=>⟨h,fun j _ hj=>by omega⟩,fun _ _=>.inr fun j hj=>by omega,fun _=>.inr fun j hj=>by omega⟩
 |k+1,T,hk,h4,hG=>by
  have R:=round_k k T (by omega) (by omega) hG;have V:=visit (k:=k) R.tr (by omega) (by rw [R.nu];omega)
  show RR F _ v (k+1) (vis (rnd k v) k)
  generalize rnd k v=y at *;generalize vis y k=z at *;obtain ⟨c1,c2,c3,c4,c5⟩:=V.cs;obtain ⟨d1,d2,d3,d4,d5⟩:=R.cs;have hs:=zrr y.g.ws;refine⟨⟨V.tr.ts.more (by omega),V.tr.net,V.tr.vo,V.tr.di⟩,⟨c1.trans d1,c2.trans d2,c3.trans d3,c4.trans d4,c5.trans d5⟩,V.nu.trans R.nu,V.n.trans R.n,fun h=>V.dec (R.dec h),fun h=>V.co (R.co h),V.ab.trans R.ab,fun h=> ?_,fun h1 h2=> ?_,fun h=> ?_⟩
  {
  obtain ⟨a,b⟩:=R.e h;obtain ⟨p,q⟩:=V.e a;refine⟨p,fun j x hj hx=> ?_⟩
  by_cases e:j=k
  { subst e;exact q x hx }
  { rw [V.oth j e] at hx;exact b j x (by omega) hx } }
  {
  rcases R.u h1 h2 with a|a
  { exact .inl (V.co a) }
  {
  cases z1:decG (gOf y.g.ws)
  {
  rcases V.u (by rw [R.n];exact h1) z1 with b| ⟨b,c⟩
  { exact .inl b }
  {
  refine .inr fun j hj=> ?_
  by_cases e:j=k
  { subst e;exact b }
  { exact c j (a j (by omega)) } } }
  {
  cases z2: (gOf y.g.ws).co
  {
  exfalso
  have ha: (gOf v.g.ws).ab=false:=by unfold decG at h2;revert h2;cases (gOf v.g.ws).ab<;>simp
  unfold decG at z1;rw [z2,R.ab,ha] at z1;cases z1 }
  { exact .inl (V.co z2) } } } }
  {
  have z1:=R.dec h;cases z2: (gOf y.g.ws).en
  {
  rcases R.d h with a|a
  { rw [z2] at a;cases a }
  {
  rcases V.d z1 with b| ⟨b,c⟩
  { exact .inl b }
  {
  refine .inr fun j hj=> ?_
  by_cases e:j=k
  { subst e;exact b }
  { exact c j (a j (by omega)) } } } }
  { exact .inl (V.e z2).1 } }
structure RD (F:LL) (G:Int) (v y:Vh):Prop where
 tr:TR F G y
 cs:y.cs=v.cs/\y.ss=v.ss/\y.sg=v.sg/\y.now=v.now/\y.g.t=v.g.t
 nu:y.us.length=v.us.length
 n: (gOf y.g.ws).n= (gOf v.g.ws).n
 u: (gOf v.g.ws).n≠0->decG (gOf y.g.ws)=true
 c: (gOf v.g.ws).n≠0->(gOf v.g.ws).ab=false->(gOf y.g.ws).co=true/\(gOf y.g.ws).ab=false
 d:decG (gOf v.g.ws)=true->(gOf y.g.ws).en=true
 e: (gOf v.g.ws).en=true->∀(j:Nat) x,y.us[j]?=some x->rdU x=0
theorem zwp (T:TR F G v) (hG:G+110<60000):RD F (G+64) v (rnd v.us.length v):=by
 have hl:=T.ts.nvo;have R:=round_k v.us.length T (kQ _) (by omega) hG;generalize rnd v.us.length v=y at *;have hy:=R.tr.ts.nvo;have nu:=R.nu;have ud: (gOf v.g.ws).n≠0->decG (gOf y.g.ws)=true:=fun hn=>by
  cases z:decG (gOf v.g.ws)
  {
  rcases R.u hn z with a|a
  { exact zxg a }
  {
  cases z1:decG (gOf y.g.ws)
  {
  have:=R.tr.vo z1 (by rw [R.n];exact hn);rw [zxy (fun j hj=>a j (by omega))] at this;cases this }
  { rfl } } }
  { exact R.dec z }
 refine⟨⟨R.tr.ts.more (by omega),R.tr.net,R.tr.vo,R.tr.di⟩,R.cs,nu,R.n,ud,fun hn ha=>⟨?_,R.ab.trans ha⟩,fun hd=> ?_,fun he j x hx=>(R.e he).2 j x (by have:=(kY.1 hx).1;omega) hx⟩
 {
 have:=ud hn;unfold decG at this;rw [R.ab,ha] at this
 simpa using this }
 rcases R.d hd with a|a
 { exact a }
 {
 cases z1: (gOf y.g.ws).en
 {
 have:=R.tr.di (R.dec hd) z1;rw [zxy (fun j hj=>a j (by omega))] at this;cases this }
 { rfl } }
theorem rounds_4 (T:TR F G v) (hG:G+400<60000):TR F (G+256) (rnds v.us.length 4 v)/\((rnds v.us.length 4 v).cs=v.cs/\(rnds v.us.length 4 v).ss=v.ss/\(rnds v.us.length 4 v).sg=v.sg/\(rnds v.us.length 4 v).now=v.now/\(rnds v.us.length 4 v).g.t=v.g.t)/\(rnds v.us.length 4 v).us.length=v.us.length/\(gOf (rnds v.us.length 4 v).g.ws).n= (gOf v.g.ws).n/\
 ((gOf v.g.ws).n=0\/(gOf (rnds v.us.length 4 v).g.ws).en=true)/\((gOf v.g.ws).n≠0->(gOf v.g.ws).ab=false->(gOf (rnds v.us.length 4 v).g.ws).co=true)/\∀(j:Nat) x,(rnds v.us.length 4 v).us[j]?=some x->rdU x=0:=by
 have R1:=zwp T (by omega);have R2:=zwp R1.tr (by omega);rw [R1.nu] at R2;have R3:=zwp R2.tr (by omega);rw [R2.nu,R1.nu] at R3;have R4:=zwp R3.tr (by omega);rw [R3.nu,R2.nu,R1.nu] at R4
 show TR F _ (rnd v.us.length (rnd v.us.length (rnd v.us.length (rnd v.us.length v))))/\_
 have e:rnds v.us.length 4 v=rnd v.us.length (rnd v.us.length (rnd v.us.length (rnd v.us.length v))):=rfl;rw [e];generalize rnd v.us.length v=y1 at *;generalize rnd v.us.length y1=y2 at *;generalize rnd v.us.length y2=y3 at *;generalize rnd v.us.length y3=y4 at *;have nn: (gOf y4.g.ws).n= (gOf v.g.ws).n:=by rw [R4.n,R3.n,R2.n,R1.n]
 have cs:y4.cs=v.cs/\y4.ss=v.ss/\y4.sg=v.sg/\y4.now=v.now/\y4.g.t=v.g.t:=by
  obtain ⟨a1,a2,a3,a4,a5⟩:=R1.cs;obtain ⟨b1,b2,b3,b4,b5⟩:=R2.cs;obtain ⟨c1,c2,c3,c4,c5⟩:=R3.cs;obtain ⟨d1,d2,d3,d4,d5⟩:=R4.cs;exact⟨by rw [d1,c1,b1,a1],by rw [d2,c2,b2,a2],by rw [d3,c3,b3,a3],by rw [d4,c4,b4,a4],by rw [d5,c5,b5,a5]⟩
 refine⟨⟨R4.tr.ts.more (by omega),R4.tr.net,R4.tr.vo,R4.tr.di⟩,cs,by rw [R4.nu,R3.nu,R2.nu,R1.nu],nn, ?_⟩
 by_cases h0: (gOf v.g.ws).n=0
 {
 refine⟨.inl h0,fun h=>absurd h0 h,fun j x hx=> ?_⟩;have:=(R4.tr.ts.inv.unit hx).rd0;omega }
 {
 have h1:=R1.u h0;have h2:=R2.d h1;have h3: (gOf y3.g.ws).en=true:=R3.d ((zrr y2.g.ws).en h2);have h4: (gOf y4.g.ws).en=true:=R4.d ((zrr y3.g.ws).en h3);refine⟨.inr h4,fun _ ha=> ?_,R4.e h3⟩;have c1:=R1.c h0 ha;have c2:=R2.c (by rw [R1.n];exact h0) c1.2;have c3:=R3.c (by rw [R2.n,R1.n];exact h0) c2.2;exact(R4.c (by rw [R3.n,R2.n,R1.n];exact h0) c3.2).1 }
theorem ended (T:TS F G v) (h: (gOf v.g.ws).n=0\/(gOf v.g.ws).en=true): ∃B,(∀(j:Nat) x,v.us[j]?=some x->byU x=B)/\((gOf v.g.ws).co=true->B= (gOf v.g.ws).n):=by
 obtain ⟨C,P,hI,hE⟩:=T.inv;have hs:=zrr v.g.ws;cases z: (gOf v.g.ws).co
 {
 refine⟨P,fun j x hx=> ?_,fun h=>by cases h⟩
 rcases hE.ej.b j x hx with b| ⟨b,-⟩
 { exact b }
 { rw [z] at b;cases b } }
 {
 have he: (gOf v.g.ws).en=true:=by
  rcases h with h|h
  { rw [hs.none h] at z;cases z }
  { exact h }
 exact⟨(gOf v.g.ws).n,fun j x hx=>hE.ej.en z he j x hx,fun _=>rfl⟩ }
def losN:Nat->Vh->Vh
 |0,v=>v
 |f+1,v=>losN f (stp v (hpO 4 0))
theorem los_one {r:List Ms} (hv:vhE v=0) (h:v.net=m::r):stp v (hpO 4 0)=vW v v.g v.us r:=by
 refine zwn hv ?_
 show losS v 0=_
 unfold losS;rw [KJ (by unfold isM inB;rw [h];simp)];unfold takeM vW;rw [h];rfl
theorem los_all: ∀(l:List Ms) (G:Int) (u:Vh),Inv F G u->u.net=l->losN l.length u=vW u u.g u.us []/\Inv F (G+l.length) (vW u u.g u.us [])
 | [],G,u,I,h=>⟨by show u=_;unfold vW;rw [<-h],by rw [show vW u u.g u.us []=u by unfold vW;rw [<-h]];exact I.more (by omega)⟩
 |m::r,G,u,I,h=>by
  have e:=los_one I.ok h;have I1:=I.stp (hpO 4 0);rw [e] at I1;obtain ⟨a,b⟩:=los_all r (G+1) (vW u u.g u.us r) I1 rfl;refine⟨?_,b.more (by simp;omega)⟩
  show losN r.length (stp u (hpO 4 0))=_
  rw [e,a];rfl
def booN:Nat->Vh->Vh
 |0,v=>stp v (hpO 7 (-1))
 |k+1,v=>stp (booN k v) (hpO 7 k)
theorem boo_gate (I:Inv F G v):stp v (hpO 7 (-1))=vW v ⟨v.g.ws,-1,true,v.g.t,zbj v.g.vo,zbj v.g.di⟩ v.us v.net:=by
 refine zwn I.ok ?_
 show bootV v (-1)=_
 unfold bootV;rw [KJ (by simp),KK rfl];unfold zdb;rw [KJ (by simpa using I.vg.gt)];rfl
theorem boo_unit (I:Inv F G v) (hu:v.us[k]?=some u):stp v (hpO 7 k)=vW v v.g (v.us.set k (btd u)) v.net:=by
 have hk:=(kY.1 hu).1;refine zwn I.ok ?_
 show bootV v k=_
 unfold bootV;rw [KJ (by rw [zxd hk];simp),KJ (by omega),kp,ka,hu]
 show(({ ss:=v.ss,sg:=v.sg,g:=v.g,us:=v.us.set k (bootS u).1,cs:=v.cs,net:=v.net,now:=v.now }:Vh),(bootS u).2)=_
 rw [zxq (I.unit hu).ok];rfl
theorem boo_all: ∀k,Inv F G v->v.net= []->k<=v.us.length->Inv F (G+1+k) (booN k v)/\(booN k v).net= []/\(booN k v).us.length=v.us.length/\(booN k v).g= ⟨v.g.ws,-1,true,v.g.t,zbj v.g.vo,zbj v.g.di⟩/\((booN k v).cs=v.cs/\(booN k v).ss=v.ss/\(booN k v).sg=v.sg/\(booN k v).now=v.now)/\∀(j:Nat) x,j<k->(booN k v).us[j]?=some x->x=btd x
 |0,I,h,_=>by
  have e:=boo_gate I;have I1:=I.stp (hpO 7 (-1))
  show Inv F _ (stp v (hpO 7 (-1)))/\(stp v (hpO 7 (-1))).net= []/\(stp v (hpO 7 (-1))).us.length=_/\(stp v (hpO 7 (-1))).g=_/\((stp v (hpO 7 (-1))).cs=_/\(stp v (hpO 7 (-1))).ss=_/\(stp v (hpO 7 (-1))).sg=_/\(stp v (hpO 7 (-1))).now=_)/\∀(j:Nat) x,j<0->(stp v (hpO 7 (-1))).us[j]?=some x->x=btd x
  rw [e] at I1|-;exact⟨I1.more (by omega),h,rfl,rfl,⟨rfl,rfl,rfl,rfl⟩,fun j x hj=>by omega⟩
 |k+1,I,h,hk=>by
  obtain ⟨a1,a2,a3,a4,⟨a5,a6,a7,a8⟩,a9⟩:=boo_all k I h (by omega);have hu: (booN k v).us[k]?=some ((booN k v).us[k]'(by omega)):=kX _;have e:=boo_unit a1 hu;have I1:=a1.stp (hpO 7 k)
  show Inv F _ (stp (booN k v) (hpO 7 k))/\(stp (booN k v) (hpO 7 k)).net= []/\(stp (booN k v) (hpO 7 k)).us.length=_/\(stp (booN k v) (hpO 7 k)).g=_/\((stp (booN k v) (hpO 7 k)).cs=_/\(stp (booN k v) (hpO 7 k)).ss=_/\(stp (booN k v) (hpO 7 k)).sg=_/\(stp (booN k v) (hpO 7 k)).now=_)/\∀(j:Nat) x,j<k+1->(stp (booN k v) (hpO 7 k)).us[j]?=some x->x=btd x
  rw [e] at I1|-;refine⟨I1.more (by omega),a2,by show(List.set _ _ _).length=_;rw [List.length_set];exact a3,a4,⟨a5,a6,a7,a8⟩,fun j x hj hx=> ?_⟩;have hx: ((booN k v).us.set k (btd ((booN k v).us[k]'(by omega))))[j]?=some x:=hx;rw [Ka] at hx
  split at hx
  {
  split at hx
  { cases hx;rfl }
  { cases hx } }
  { exact a9 j x (by omega) hx }
def tourS (v:Vh):Vh:=rnds v.us.length 4 (booN v.us.length (losN v.net.length v))
structure TO (F:LL) (G:Int) (v y:Vh):Prop where
 tr:TR F G y
 cs:y.cs=v.cs/\y.ss=v.ss/\y.sg=v.sg/\y.now=v.now/\y.g.t=v.g.t
 nu:y.us.length=v.us.length
 n: (gOf y.g.ws).n= (gOf v.g.ws).n
 en: (gOf v.g.ws).n=0\/(gOf y.g.ws).en=true
 co: (gOf v.g.ws).n≠0->(gOf v.g.ws).ab=false->(gOf y.g.ws).co=true
 rd: ∀(j:Nat) x,y.us[j]?=some x->rdU x=0
theorem zw7 (I:Inv F G v) (hG:G+500<60000):TO F (G+300) v (tourS v):=by
 have n24:=I.vg.n24;have u4:=I.vg.u4;obtain ⟨l1,l2⟩:=los_all v.net G v I rfl;unfold tourS;rw [l1];obtain ⟨b1,b2,b3,b4,⟨b5,b6,b7,b8⟩,b9⟩:=boo_all (v:=vW v v.g v.us []) v.us.length l2 rfl (kQ _);generalize booN v.us.length (vW v v.g v.us [])=w at *;have hl:w.us.length=v.us.length:=b3;have hg:gOf w.g.ws=gOf v.g.ws:=by rw [b4];rfl
 have vo: ∀k:Nat,w.g.vo.getD k false=false:=fun k=>by rw [b4];exact zsd _ k
 have di: ∀k:Nat,w.g.di.getD k false=false:=fun k=>by rw [b4];exact zsd _ k
 have T:TR F (G+40) w:=by
  have T1:TS F (G+40) w:=⟨b1.more (by omega),by rw [b4],by rw [b4],fun j x hx=>b9 j x (by have:=(kY.1 hx).1;omega) hx⟩;have nv:=T1.nvo;exact⟨T1,b2,fun _ _=>zxp (by omega) vo,fun _ _=>zxp (by omega) di⟩
 have R:=rounds_4 T (by omega);rw [hl] at R;generalize rnds v.us.length 4 w=y at *;obtain ⟨r1,⟨r2,r3,r4,r5,r6⟩,r7,r8,r9,r11,r10⟩:=R;refine⟨⟨r1.ts.more (by omega),r1.net,r1.vo,r1.di⟩,⟨r2.trans b5,r3.trans b6,r4.trans b7,r5.trans b8,by rw [r6,b4];rfl⟩,r7,by rw [r8,hg],by rw [hg] at r9;exact r9,by rw [hg] at r11;exact r11,r10⟩
end
end Go.Proofs.YthmekfcgdfckaaaGreatDoor
