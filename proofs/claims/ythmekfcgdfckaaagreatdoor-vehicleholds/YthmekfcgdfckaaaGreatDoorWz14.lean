/- Facts. -/
import Derived.Test.YthmekfcgdfckaaaGreatDoorWz13
import Derived.Test.YthmekfcgdfckaaaGreatDoorWz12
import Derived.Laws.OwnMore
import Derived.Laws.CopyRow
import Derived.Laws.MakeOwn
set_option maxRecDepth 1000000
set_option maxHeartbeats 0
namespace Go.Proofs.YthmekfcgdfckaaaGreatDoor
open Go.RowKit
variable {ss:LB} {l:List S2} {g:Gt} {o:Of} {now:Int} {B n c F k b i:Nat} {m:Ms} {t:TypeId} {a:oA} {w w' w1:World} {xs:LI} {s:Gs} {K K' Z:Nat->Prop} {vs:LV} {u:Un} {cur:Array Value}
section
attribute [local go_sem ↓] kM kO
def begD (n:Int) (t:Tr) (N:Gt×Bool):Gt×Int×Int:=if N.2=true then(⟨N.1.ws,N.1.fu,N.1.up,t,zbj N.1.vo,zbj N.1.di⟩,n,0) else(N.1,0,0)
def gBeg (ss:LB) (l:List S2) (g:Gt) (o:Of) (now:Int):Gt×Int×Int:=
 if upE g≠0 then(gt0,0,upE g) else if(decide ((gOf g.ws).n≠0)&&!(gOf g.ws).en)=true then(gt0,0,12) else if(gOf g.ws).n=8 then(gt0,0,8)
 else if takeE ss l g.t o now g.vo.length≠0 then(gt0,0,takeE ss l g.t o now g.vo.length)
 else begD ((gOf g.ws).n+1) (takeT 0 g.t o) (noteG g (gOf g.ws) [1,(gOf g.ws).n+1,o.v])
theorem gBeg_1 (h:upE g≠0):gBeg ss l g o now= (gt0,0,upE g):=by unfold gBeg;rw [KK h]
theorem gBeg_2 (h:upE g=0) (h2: (gOf g.ws).n≠0) (h3: (gOf g.ws).en=false):gBeg ss l g o now= (gt0,0,12):=by unfold gBeg;rw [KJ (by simpa using h),KK (by simp [h2,h3])]
theorem gBeg_3 (h:upE g=0) (h2: (gOf g.ws).n=0\/(gOf g.ws).en=true) (h3: (gOf g.ws).n=8):gBeg ss l g o now= (gt0,0,8):=by unfold gBeg;rw [KJ (by simpa using h),KJ (by rcases h2 with h2|h2<;>simp [h2]),KK h3]
theorem gBeg_4 (h:upE g=0) (h2: (gOf g.ws).n=0\/(gOf g.ws).en=true) (h3: (gOf g.ws).n≠8) (h4:takeE ss l g.t o now g.vo.length≠0):gBeg ss l g o now= (gt0,0,takeE ss l g.t o now g.vo.length):=by unfold gBeg;rw [KJ (by simpa using h),KJ (by rcases h2 with h2|h2<;>simp [h2]),KJ h3,KK h4]
theorem zyp (h:upE g=0) (h2: (gOf g.ws).n=0\/(gOf g.ws).en=true) (h3: (gOf g.ws).n≠8) (h4:takeE ss l g.t o now g.vo.length=0):gBeg ss l g o now=begD ((gOf g.ws).n+1) (takeT 0 g.t o) (noteG g (gOf g.ws) [1,(gOf g.ws).n+1,o.v]):=by unfold gBeg;rw [KJ (by simpa using h),KJ (by rcases h2 with h2|h2<;>simp [h2]),KJ h3,KJ (by simpa using h4)]
def GBAns (w:World) (r:Gt×Int×Int) (e:Ending) (w' :World):Prop:=(∃m,e=.returned (.tuple #[gtv r.1 m,iV r.2.1,iV r.2.2])/\GIn w' m r.1/\GFr w.heap.size m)/\bZ w w'
theorem gi_made3 (w:World) (x y z:Int) (t:TypeId):BI (w.alloc (.cells #[iV x,iV y,iV z] t)) (some ⟨w.heap.size,0,none⟩) 3 [x,y,z]:=
 ⟨zd2 _ _ _ _ _ rfl rfl,rfl,by decide⟩
theorem gt_set4 {W:World} {m:GA} {t:Tr} (h:W.heap[B]?=some (gtO g m)):
 ((((W.setCell ⟨B,3,none⟩ (iV t.r.v)).setCell ⟨B,4,none⟩ (.slice a n c)).setCell ⟨B,5,none⟩ (iV t.r.t)).setCell ⟨B,6,none⟩ (iV t.ver)).heap[B]?=some (gtO ⟨g.ws,g.fu,g.up,t,g.vo,g.di⟩ ⟨m.a,m.n,m.c,a,n,c,m.av,m.nv,m.cv,m.ad,m.nd,m.cd⟩):=by
 unfold gtO at *;simp only [World.setCell,KP]
 simp [h]
theorem GBox.trust {m:GA} {bv bd:Nat} {t:Tr} (h:GBox w F B m g bv bd) (hk:BI w a n t.r.ks) (ha:zal F a) (hB:Off B a) (hv:Off bv a) (hd:Off bd a):
 GBox ((((w.setCell ⟨B,3,none⟩ (iV t.r.v)).setCell ⟨B,4,none⟩ (.slice a n c)).setCell ⟨B,5,none⟩ (iV t.r.t)).setCell ⟨B,6,none⟩ (iV t.ver)) F B ⟨m.a,m.n,m.c,a,n,c,m.av,m.nv,m.cv,m.ad,m.nd,m.cd⟩ ⟨g.ws,g.fu,g.up,t,g.vo,g.di⟩ bv bd:=by
 have hT:w.grownBy ((((w.setCell ⟨B,3,none⟩ (iV t.r.v)).setCell ⟨B,4,none⟩ (.slice a n c)).setCell ⟨B,5,none⟩ (iV t.r.t)).setCell ⟨B,6,none⟩ (iV t.ver)) (some B):=zac (zac (zac (zac (kf _ _) _ _) _ _) _ _) _ _;have o:=h.own;exact⟨gt_set4 h.box,⟨o.ws.turns hT h.oa,hk.turns hT hB,o.av,o.ad,o.vo.turns hT (Ne.symm h.nv),o.di.turns hT (Ne.symm h.nd),o.nv,o.nd,o.fv,o.fd,o.ne,o.wv,o.wd,hv,hd,o.fa,ha⟩,h.fB,h.nv,h.nd,h.oa,hB⟩
theorem GOwn.lower {F' :Nat} {m:GA} {bv bd:Nat} (h:GOwn w F m g bv bd) (hF:F' <=F):GOwn w F' m g bv bd:=
 ⟨h.ws,h.ks,h.av,h.ad,h.vo,h.di,h.nv,h.nd,kc hF h.fv,kc hF h.fd,h.ne,h.wv,h.wd,h.kv,h.kd,h.fa.lower hF,h.fk.lower hF⟩
theorem GBox.lower {F' :Nat} {m:GA} {bv bd:Nat} (h:GBox w F B m g bv bd) (hF:F' <=F):GBox w F' B m g bv bd:=⟨h.box,h.own.lower hF,kc hF h.fB,h.nv,h.nd,h.oa,h.ok⟩
theorem tr_keys {t:Tr} (h:trE t=0):t.r.ks≠ []:=by
 have a2:t.r.e=0:=by
  cases z:inR t.ver 0 1000
  { rw [zla z] at h;cases h }
  { rw [zkd z] at h;exact h }
 cases z1:inR t.r.v 1 1000
 { unfold Rt.e at a2;rw [zlw z1] at a2;cases a2 }
 cases z2:inR t.r.ks.length 1 6
 { unfold Rt.e at a2;rw [zle z1 z2] at a2;cases a2 }
 simp [inR] at z2
 intro e;rw [e] at z2
 simp at z2
theorem g3_bi {b1 b2:Nat} (h:BI w a n xs) (hg:G3 w w' B b1 b2) (h0:Off B a) (h1:Off b1 a) (h2:Off b2 a):BI w' a n xs:=by
 refine⟨?_,h.len,h.max⟩
 rcases h.at_ with h| ⟨b,off,rfl,hc⟩
 { exact .inl h }
 { exact .inr ⟨b,off,rfl,fun i hi=>by rw [World.cell?_of_block (hg.block b (zah (hc i hi)) (h0 _ rfl) (h1 _ rfl) (h2 _ rfl))];exact hc i hi⟩ }
theorem begS {W W' :World} {S R:Nat} {k:GA} (hB:W.heap[B]?=some (gtO g k)) (hS:W.heap[S]?=some (gsO s)) (nB:B≠R) (nS:S≠R) (h:W.grownBy W' (some R)):
 (ce W' B 0=some (.slice k.a k.n k.c)/\ce W' B 1=some (iV g.fu)/\ce W' B 2=some (.bool g.up)/\ce W' B 3=some (iV g.t.r.v)/\ce W' B 4=some (.slice k.ak k.nk k.ck)/\ce W' B 5=some (iV g.t.r.t)/\ce W' B 6=some (iV g.t.ver)/\ce W' B 7=some (.slice k.av k.nv k.cv)/\ce W' B 8=some (.slice k.ad k.nd k.cd))/\ce W' S 0=some (iV s.n)/\W.grownBy W' (some R):=by
 have b:=zar hB h nB;have x:=zar hS h nS;unfold gtO at b;unfold gsO at x;exact⟨⟨zaa b 0 _ rfl,zaa b 1 _ rfl,zaa b 2 _ rfl,zaa b 3 _ rfl,zaa b 4 _ rfl,zaa b 5 _ rfl,zaa b 6 _ rfl,zaa b 7 _ rfl,zaa b 8 _ rfl⟩,zaa x 0 _ rfl,h⟩
theorem zml (ab:oA) (nb cb:Nat) (ss:LB) (a1:oA) (n1 c1:Nat) (l:List S2) (g:Gt) (k0:GA) (o:Of) (m:OA) (now:Int) (w:World)
 (h0:BB w ab nb cb ss) (h1:BG w a1 n1 l) (h:GIn w k0 g) (h3:BO w m o) (hT:Tab w):
 Cq 189 #[bookv ab nb cb,.slice a1 n1 c1,gtv g k0,offv o.v o.u m,iV now] w (GBAns w (gBeg ss l g o now)):=by
 have hw:bZ w ((((w.alloc (.cells #[.slice ab nb cb] 24)).alloc (.cells (aG k0 g) 35)).alloc (.cells (aO m o) 47)).alloc (.cells aY 35)):=((bA2).alloc (by simp;omega) _).alloc (by simp;omega) _;have b0:Hd (((((w.alloc (.cells #[.slice ab nb cb] 24)).alloc (.cells (aG k0 g) 35)).alloc (.cells (aO m o) 47)).alloc (.cells aY 35)).heap[w.heap.size]?=some (.cells #[.slice ab nb cb] 24 (0,0))):=zai (zai (zai (kP _ _) _) _) _;have b1:Hd (((((w.alloc (.cells #[.slice ab nb cb] 24)).alloc (.cells (aG k0 g) 35)).alloc (.cells (aO m o) 47)).alloc (.cells aY 35)).heap[w.heap.size+1]?=some (.cells (aG k0 g) 35 (0,0))):=zai (zai (zau _ _ _) _) _;have b2:Hd (((((w.alloc (.cells #[.slice ab nb cb] 24)).alloc (.cells (aG k0 g) 35)).alloc (.cells (aO m o) 47)).alloc (.cells aY 35)).heap[w.heap.size+1+1]?=some (.cells (aO m o) 47 (0,0))):=zai (zb9 _ _ _ _) _;have b3:Hd (((((w.alloc (.cells #[.slice ab nb cb] 24)).alloc (.cells (aG k0 g) 35)).alloc (.cells (aO m o) 47)).alloc (.cells aY 35)).heap[w.heap.size+1+1+1]?=some (.cells aY 35 (0,0))):=zj3 _ _ _ _ _;have HU:=uH (fun W (hW:bZ w W)=>zf8 g k0 W (h.bl hW));have HK:=uH (fun W (hW:bZ w W)=>take_any ab nb cb ss a1 n1 c1 l g.t k0.ak k0.nk k0.ck o m now k0.nv W (h0.bl hW) (h1.bl hW) (h.ks.bl hW) (h3.bl hW) (hT.bl hW));have hnv:=h.vo.len;rw [<-hnv] at HK;have HP:=uH h;have hx:w.heap.size<=w.heap.size+1+1+1:=by omega
 clear h h0 h1 h3 hT;unfold gtv at HU;unfold bookv trv offv TAns trv at HK;unfold bookv gtv offv;rw [hnv] at HK;have HNV:=uH hnv;clear hnv;go_enter Tryz.func189,Tryz.ntmps189;go_wp2_with fail;generalize ((((w.alloc (.cells #[.slice ab nb cb] 24)).alloc (.cells (aG k0 g) 35)).alloc (.cells (aO m o) 47)).alloc (.cells aY 35))=W at *;refine(zae HU _ hw).mono ?_;rintro e w1 ⟨rfl,hb⟩;replace b0:=uH (zab b0.o hb);replace b1:=uH (zab b1.o hb);replace b2:=uH (zab b2.o hb);replace b3:=uH (zab b3.o hb);replace hw:=bT hw hb;clear hb HU
 by_cases z1:upE g=0
 rotate_left
 {
 have HE:=uH (gBeg_1 (ss:=ss) (l:=l) (o:=o) (now:=now) z1);have d1: (upE g !=0)=true:=by simpa using z1
 rw [zlf z1];unfold gsv gs0;replace b3:=uH (zab b3.o (zaf (kS w1.heap.size w1) (.cells aX 72)));replace hw:bZ w (w1.alloc (.cells aX 72)):=hw.alloc hw.size _;clear z1 HK HP;generalize upE g=q at *;go_upto_region 2 with fail
 generalize w1.alloc (.cells aX 72)=W1 at *;obtain ⟨y0,y1,y2,y3,y4,y5,y6,y7,y8⟩:=cl9 b3.o;obtain ⟨f0,f1,f2,f3,f4,f5,f6,f7,f8⟩:=fr9 b3.o;go_wp2_with fail;refine kT (v:=.tuple #[gtv gt0 ga0,iV 0,iV q]) (by simp [results,Tryz.results189,go_sem,gtv,gt0,ga0,y0,y1,y2,y3,y4,y5,y6,y7,y8]) rfl ?_;rw [HE.o];exact⟨⟨ga0,rfl,gin0 _,gfr0 _⟩,zam hw (zac (zac (zac (zac (zac (zac (zac (zac (zac (kf W1 (some (w.heap.size+1+1+1))) 0 (nV)) 1 (iV 0)) 2 (.bool false)) 3 (iV 0)) 4 (nV)) 5 (iV 0)) 6 (iV 0)) 7 (nV)) 8 (nV)) hx hw.size⟩ }
 rw [zld z1];have Z1:=uH z1;obtain ⟨hlw,hlk,hlv,hld⟩:=HP.o.sizes (zko z1);have HT:=uH (fun W (hW:bZ w W)=>zdc g k0 W (HP.o.bl hW) hlw hlk hlv hld);unfold gtv at HT;clear z1 hlw hlk hlv hld HP;have EA:=uH (fun h2 h3=>gBeg_2 (ss:=ss) (l:=l) (o:=o) (now:=now) Z1.o h2 h3);have EB:=uH (fun h2 h3=>gBeg_3 (ss:=ss) (l:=l) (o:=o) (now:=now) Z1.o h2 h3);have EC:=uH (fun h2 h3 h4=>gBeg_4 (ss:=ss) (l:=l) (o:=o) (now:=now) Z1.o h2 h3 h4);have ED:=uH (fun h2 h3 h4=>zyp (ss:=ss) (l:=l) (o:=o) (now:=now) Z1.o h2 h3 h4);clear Z1;have hsN:=(zrr g.ws).n;generalize gOf g.ws=s at *;unfold gsv;obtain ⟨hs0,hs8⟩:=hsN;have bS:=uH (kP w1 (.cells (aS s) 72));have hb7:bZ w1 (w1.alloc (.cells (aS s) 72)):=zaf (kS _ _) _;have hS0:=hw.size;have hSR:=zak b3.o;replace b0:=uH (zab b0.o hb7);replace b1:=uH (zab b1.o hb7);replace b2:=uH (zab b2.o hb7);replace b3:=uH (zab b3.o hb7);replace hw:=bT hw hb7;clear hb7;go_upto_region 4 with fail
 generalize (w1.alloc (.cells (aS s) 72))=W1 at *;generalize w1.heap.size=S at *;have hSW:=zak bS.o;obtain ⟨s0,s1,s2,s3,s4⟩:=cl5 bS.o
 go_cut [32] (fun v32 wx=>v32=.bool (decide (s.n≠0)&&!s.en)/\wx=W1)
 case first=>
  by_cases p1:s.n=0
  {
  have d1: (s.n !=0)=false:=by simpa using p1
  go_wp2_with fail
  go_meet
  case rel=>exact⟨congrArg Value.bool (by simp [p1]),rfl⟩ }
  have d1: (s.n !=0)=true:=by simpa using p1
  cases p2:s.en
  {
  (try dsimp only [aS] at s4);rw [p2] at s4
  go_wp2_with fail
  go_meet
  case rel=>exact⟨congrArg Value.bool (by simp [p1,p2]),rfl⟩ }
  {
  (try dsimp only [aS] at s4);rw [p2] at s4
  go_wp2_with fail
  go_meet
  case rel=>exact⟨congrArg Value.bool (by simp [p2]),rfl⟩ }
 obtain ⟨rfl,hW⟩:=hcut;replace hW:=hW.symm;subst hW;cases z2: (decide (s.n≠0)&&!s.en);rotate_left
 {
 have z3:s.n≠0/\s.en=false:=by simpa using z2
 have HE:=uH (EA.o z3.1 z3.2);clear z2 z3 EA EB EC ED HK HT;obtain ⟨y0,y1,y2,y3,y4,y5,y6,y7,y8⟩:=cl9 b3.o;obtain ⟨f0,f1,f2,f3,f4,f5,f6,f7,f8⟩:=fr9 b3.o;go_wp2_with fail;refine kT (v:=.tuple #[gtv gt0 ga0,iV 0,iV 12]) (by simp [results,Tryz.results189,go_sem,gtv,gt0,ga0,y0,y1,y2,y3,y4,y5,y6,y7,y8]) rfl ?_;rw [HE.o];exact⟨⟨ga0,rfl,gin0 _,gfr0 _⟩,zam hw (zac (zac (zac (zac (zac (zac (zac (zac (zac (kf W1 (some (w.heap.size+1+1+1))) 0 (nV)) 1 (iV 0)) 2 (.bool false)) 3 (iV 0)) 4 (nV)) 5 (iV 0)) 6 (iV 0)) 7 (nV)) 8 (nV)) hx hw.size⟩ }
 have z3:s.n=0\/s.en=true:=by by_cases e:s.n=0;exact .inl e;exact .inr (by simpa [e] using z2)
 have Z3:=uH z3;clear z2 z3 EA
 by_cases z4:s.n=8
 {
 have HE:=uH (EB.o Z3.o z4)
 (try dsimp only [aS] at s0);rw [z4] at s0
 clear z4 EB EC ED HK HT;obtain ⟨y0,y1,y2,y3,y4,y5,y6,y7,y8⟩:=cl9 b3.o;obtain ⟨f0,f1,f2,f3,f4,f5,f6,f7,f8⟩:=fr9 b3.o;go_wp2_with fail;refine kT (v:=.tuple #[gtv gt0 ga0,iV 0,iV 8]) (by simp [results,Tryz.results189,go_sem,gtv,gt0,ga0,y0,y1,y2,y3,y4,y5,y6,y7,y8]) rfl ?_;rw [HE.o];exact⟨⟨ga0,rfl,gin0 _,gfr0 _⟩,zam hw (zac (zac (zac (zac (zac (zac (zac (zac (zac (kf W1 (some (w.heap.size+1+1+1))) 0 (nV)) 1 (iV 0)) 2 (.bool false)) 3 (iV 0)) 4 (nV)) 5 (iV 0)) 6 (iV 0)) 7 (nV)) 8 (nV)) hx hw.size⟩ }
 have d4: (s.n==8)=false:=by simpa using z4
 replace EC:=uH (fun h4=>EC.o Z3.o z4 h4);replace ED:=uH (fun h4=>ED.o Z3.o z4 h4);clear z4 Z3 EB;have k0' :=zaa b0.o 0 _ rfl;have x3:=zaa b1.o 3 _ rfl;have x4:=zaa b1.o 4 _ rfl;have x5:=zaa b1.o 5 _ rfl;have x6:=zaa b1.o 6 _ rfl;have x7:=zaa b1.o 7 _ rfl;obtain ⟨o0,o1,o2,o3,o4,o5,o6⟩:=cl7 b2.o;go_wp2_with fail;refine(zae HK _ hw).mono ?_;rintro e w2 ⟨⟨a5,n5,c5,rfl,hk5,hf5⟩,hb⟩;have hF2:=hw.size;have h12:=hb.size;replace b0:=uH (zab b0.o hb);replace b1:=uH (zab b1.o hb);replace b2:=uH (zab b2.o hb);replace b3:=uH (zab b3.o hb);replace bS:=uH (zab bS.o hb);replace hw:=bT hw hb;clear hb HK d4 k0' x3 x4 x5 x6 x7 o0 o1 o2 o3 o4 o5 o6 s0 s1 s2 s3 s4;rw [HNV.o] at EC ED;have HTK:Hd (takeE ss l g.t o now k0.nv=0->(takeT 0 g.t o).r.ks≠ []):=fun h=>tr_keys (t:=⟨lastR g.t.r o.roots,0⟩) (last_ok h (by decide))
 generalize takeE ss l g.t o now k0.nv=q at *;have ET:Hd (q=0->takeT q g.t o=takeT 0 g.t o):=fun h=>by rw [h]
 generalize takeT q g.t o=t at *
 by_cases zq:q=0
 rotate_left
 {
 have HE:=uH (EC.o zq);have dq: (q !=0)=true:=by simpa using zq
 replace b3:=uH (zab b3.o (zaf (kS w2.heap.size w2) (.cells #[iV t.r.v,.slice a5 n5 c5,iV t.r.t,iV t.ver] 32)));replace hw:bZ w (w2.alloc (.cells #[iV t.r.v,.slice a5 n5 c5,iV t.r.t,iV t.ver] 32)):=hw.alloc hw.size _;clear zq EC ED HT ET HTK;go_upto_region 9 with fail
 generalize w2.alloc (.cells #[iV t.r.v,.slice a5 n5 c5,iV t.r.t,iV t.ver] 32)=W2 at *;obtain ⟨y0,y1,y2,y3,y4,y5,y6,y7,y8⟩:=cl9 b3.o;obtain ⟨f0,f1,f2,f3,f4,f5,f6,f7,f8⟩:=fr9 b3.o;go_wp2_with fail;refine kT (v:=.tuple #[gtv gt0 ga0,iV 0,iV q]) (by simp [results,Tryz.results189,go_sem,gtv,gt0,ga0,y0,y1,y2,y3,y4,y5,y6,y7,y8]) rfl ?_;rw [HE.o];exact⟨⟨ga0,rfl,gin0 _,gfr0 _⟩,zam hw (zac (zac (zac (zac (zac (zac (zac (zac (zac (kf W2 (some (w.heap.size+1+1+1))) 0 (nV)) 1 (iV 0)) 2 (.bool false)) 3 (iV 0)) 4 (nV)) 5 (iV 0)) 6 (iV 0)) 7 (nV)) 8 (nV)) hx hw.size⟩ }
 subst zq;replace ED:=uH (ED.o rfl);have hks:t.r.ks≠ []:=by rw [ET.o rfl];exact HTK.o rfl
 rw [<-ET.o rfl] at ED;clear EC ET HTK;have HOA:=uH (fun B (hB:w2.heap.size<=B)=>(zcu hk5.at_ B hB).resolve_left hks);have HK5:=uH hk5;have HF5:Hd (zal W1.heap.size a5):=hf5;clear hk5 hf5 hks;have bTk:=uH (kP w2 (.cells #[iV t.r.v,.slice a5 n5 c5,iV t.r.t,iV t.ver] 32));have hb7:bZ w2 (w2.alloc (.cells #[iV t.r.v,.slice a5 n5 c5,iV t.r.t,iV t.ver] 32)):=zaf (kS _ _) _;replace HK5:=uH (HK5.o.bl hb7);replace b1:=uH (zab b1.o hb7);replace b2:=uH (zab b2.o hb7);replace b3:=uH (zab b3.o hb7);replace bS:=uH (zab bS.o hb7);replace hw:=bT hw hb7;have hS7:=hb7.size;clear hb7 b0;go_upto_region 11 with fail
 generalize w2.alloc (.cells #[iV t.r.v,.slice a5 n5 c5,iV t.r.t,iV t.ver] 32)=W2 at *;obtain ⟨T,hT2⟩: ∃T,T=w2.heap.size:=⟨_,rfl⟩;rw [<-hT2] at bTk HOA hS7 h12|-;clear hT2;obtain ⟨x0,x1,x2,x3,x4,x5,x6,x7,x8⟩:=cl9 b1.o;go_wp2_with fail;have hF0:=hw.size;refine(zae HT _ hw).mono ?_;rintro e w5 ⟨⟨k,bv,bd,rfl,ho,hoff⟩,hb5⟩;have hlt:=zak b3.o;have hltT:=zak bTk.o;have hltS:=zak bS.o;replace b2:=uH (zab (zab b2.o hb5) (zaf (kS w5.heap.size w5) (.cells (aG k g) 35)));replace b3:=uH (zab (zab b3.o hb5) (zaf (kS w5.heap.size w5) (.cells (aG k g) 35)));replace bS:=uH (zab (zab bS.o hb5) (zaf (kS w5.heap.size w5) (.cells (aG k g) 35)));replace bTk:=uH (zab (zab bTk.o hb5) (zaf (kS w5.heap.size w5) (.cells (aG k g) 35)));have hbx:=uH (ho.boxed hb5.size (hoff _ (.inr (kQ _))));have hw5:bZ W2 (w5.alloc (.cells (aG k g) 35)):=zaf hb5 _;have hB:=hb5.size;replace HK5:=uH (HK5.o.bl hw5);clear HT ho hoff hb5 b1 x0 x1 x2 x3 x4 x5 x6 x7 x8;unfold gtv;go_upto_region 12 with fail
 generalize (w5.alloc (.cells (aG k g) 35))=W5 at *;generalize w5.heap.size=B at *;obtain ⟨s0,s1,s2,s3,s4⟩:=cl5 bS.o;have o2:=zaa b2.o 2 _ rfl;have hb3:=uH ((kS W5.heap.size W5).alloc (kQ _) (.cells #[iV 1,iV (s.n+1),iV o.v] 3));have HN:=uH (zgr _ _ _ _ _ _ s (some ⟨W5.heap.size,0,none⟩) 3 3 [1,s.n+1,o.v] _ (hbx.o.bl hb3.o) (gi_made3 W5 1 (s.n+1) o.v 3));unfold gsv at HN;go_wp2_with fail;refine(zae HN).mono ?_;rintro e w6 ⟨rfl,⟨k2,hb7⟩,hg7⟩;have g7:=(zcw (B:=B) (b1:=bv) (b2:=bd) hb3.o).trans hg7;have hb8:=g7.bel hw5 hB hb7.own.fv hb7.own.fd hw5.size;replace b3:=uH (g7.blk b3.o (by omega) (by have:=hb7.own.fv;omega) (by have:=hb7.own.fd;omega));replace bS:=uH (g7.blk bS.o (by omega) (by have:=hb7.own.fv;omega) (by have:=hb7.own.fd;omega));replace bTk:=uH (g7.blk bTk.o (by omega) (by have:=hb7.own.fv;omega) (by have:=hb7.own.fd;omega));have fv7:=hb7.own.fv;have fd7:=hb7.own.fd;replace HK5:Hd (BI w6 a5 n5 t.r.ks):=g3_bi HK5.o g7 (HOA.o B (by omega)) (HOA.o bv (by omega)) (HOA.o bd (by omega));replace hw:=bT hw hb8;replace hbx:=uH hb7;clear hg7 g7 hb7 HN hb3 b2 o2 s0 s1 s2 s3 s4;generalize hN:noteG g s [1,s.n+1,o.v]=NN at *;have HN:=uH hN;clear hN;obtain ⟨N,d⟩:=NN;dsimp only at hbx|-;cases d
 {
 have HE:Hd (gBeg ss l g o now= (N,0,0)):=by show _=_;have e:=ED.o;unfold begD at e;simpa using e
 clear ED;have bC:=uH hbx.o.box;unfold gtO at bC;obtain ⟨x0,x1,x2,x3,x4,x5,x6,x7,x8⟩:=cl9 bC.o;obtain ⟨y0,y1,y2,y3,y4,y5,y6,y7,y8⟩:=cl9 b3.o;obtain ⟨f0,f1,f2,f3,f4,f5,f6,f7,f8⟩:=fr9 b3.o;go_wp2_with fail;refine kT (v:=.tuple #[gtv N k2,iV 0,iV 0]) (by simp [results,Tryz.results189,go_sem,gtv,y0,y1,y2,y3,y4,y5,y6,y7,y8]) rfl ?_;rw [HE.o];have hT:=zac (zac (zac (zac (zac (zac (zac (zac (zac (kf w6 (some (w.heap.size+1+1+1))) 0 (.slice k2.a k2.n k2.c)) 1 (iV N.fu)) 2 (.bool N.up)) 3 (iV N.t.r.v)) 4 (.slice k2.ak k2.nk k2.ck)) 5 (iV N.t.r.t)) 6 (iV N.t.ver)) 7 (.slice k2.av k2.nv k2.cv)) 8 (.slice k2.ad k2.nd k2.cd);exact⟨⟨k2,rfl,(hbx.o.own.low hT hlt).gin,hbx.o.own.fr hF0⟩,zam hw hT hx hw.size⟩ }
 have HE:Hd (gBeg ss l g o now= (forgG ⟨N.ws,N.fu,N.up,t,N.vo,N.di⟩,s.n+1,0)):=by show _=_;have e:=ED.o;unfold begD at e;simpa [forgG] using e
 clear ED;have bC:=uH hbx.o.box;unfold gtO at bC;have x3:=zaa bC.o 3 _ rfl;have x4:=zaa bC.o 4 _ rfl;have x5:=zaa bC.o 5 _ rfl;have x6:=zaa bC.o 6 _ rfl;have f3:=zad bC.o 3;have f4:=zad bC.o 4;have f5:=zad bC.o 5;have f6:=zad bC.o 6;have t0:=zaa bTk.o 0 _ rfl;have t1:=zaa bTk.o 1 _ rfl;have t2:=zaa bTk.o 2 _ rfl;have t3:=zaa bTk.o 3 _ rfl;go_upto_region 15 with fail
 have hbt:=uH ((hbx.o.lower (F' :=W1.heap.size) (by omega)).trust (t:=t) (n:=n5) (c:=c5) HK5.o HF5.o (HOA.o B (by omega)) (HOA.o bv (by omega)) (HOA.o bd (by omega)));have hT:w6.grownBy ((((w6.setCell ⟨B,3,none⟩ (iV t.r.v)).setCell ⟨B,4,none⟩ (.slice a5 n5 c5)).setCell ⟨B,5,none⟩ (iV t.r.t)).setCell ⟨B,6,none⟩ (iV t.ver)) (some B):=zac (zac (zac (zac (kf _ _) _ _) _ _) _ _) _ _;replace b3:=uH (zar b3.o hT (by omega));replace bS:=uH (zar bS.o hT (by omega));replace hw:=zam hw hT (by omega) hw.size;have hwB:=hw5.size;clear bTk bC hT x3 x4 x5 x6 f3 f4 f5 f6 t0 t1 t2 t3 hbx HK5;generalize ((((w6.setCell ⟨B,3,none⟩ (iV t.r.v)).setCell ⟨B,4,none⟩ (.slice a5 n5 c5)).setCell ⟨B,5,none⟩ (iV t.r.t)).setCell ⟨B,6,none⟩ (iV t.ver))=W6 at *;have HF:=uH (zgq _ _ _ _ _ _ _ hbt.o);go_wp2_with fail;refine(zae HF).mono ?_;rintro e w7 ⟨rfl,hb7,hg7⟩;replace b3:=uH (hg7.blk b3.o (by omega) (by omega) (by omega));replace bS:=uH (hg7.blk bS.o (by omega) (by omega) (by omega));replace hw:=hg7.bel hw (by omega) (by omega) (by omega) hw.size;have HB:=uH hb7;clear hb7 hg7 HF hbt;generalize forgG ⟨N.ws,N.fu,N.up,t,N.vo,N.di⟩=g4 at *;obtain ⟨k4,hk4⟩: ∃k:GA,k= ⟨k2.a,k2.n,k2.c,a5,n5,c5,k2.av,k2.nv,k2.cv,k2.ad,k2.nd,k2.cd⟩:=⟨_,rfl⟩;rw [<-hk4] at HB;clear hk4;go_upto_region 16 with fail
 have hR6:=zak b3.o;refine km (S:=fun W' =>(ce W' B 0=some (.slice k4.a k4.n k4.c)/\ce W' B 1=some (iV g4.fu)/\ce W' B 2=some (.bool g4.up)/\ce W' B 3=some (iV g4.t.r.v)/\ce W' B 4=some (.slice k4.ak k4.nk k4.ck)/\ce W' B 5=some (iV g4.t.r.t)/\ce W' B 6=some (iV g4.t.ver)/\ce W' B 7=some (.slice k4.av k4.nv k4.cv)/\ce W' B 8=some (.slice k4.ad k4.nd k4.cd))/\ce W' S 0=some (iV s.n)/\w7.grownBy W' (some (w.heap.size+1+1+1))) (by kernel_rfl) (begS HB.o.box bS.o (by omega) (by omega) (zaj (kS _ _).drew _)) ?_;intro hHeld;refine Htk 0 ?_
 refine Htk 1 ?_
 refine Htk 2 ?_
 refine Htk 3 ?_
 try simp only [sq]
 obtain ⟨y0,y1,y2,y3,y4,y5,y6,y7,y8⟩:=cl9 b3.o;obtain ⟨f0,f1,f2,f3,f4,f5,f6,f7,f8⟩:=fr9 b3.o;have hT:=zac (zac (zac (zac (zac (zac (zac (zac (zac (kf w7 (some (w.heap.size+1+1+1))) 0 (.slice k4.a k4.n k4.c)) 1 (iV g4.fu)) 2 (.bool g4.up)) 3 (iV g4.t.r.v)) 4 (.slice k4.ak k4.nk k4.ck)) 5 (iV g4.t.r.t)) 6 (iV g4.t.ver)) 7 (.slice k4.av k4.nv k4.cv)) 8 (.slice k4.ad k4.nd k4.cd);have hG:=hT.trans (zaj (kS _ _).drew (w.heap.size+1+1+1));have hwr:IntKind.i64.wrap (s.n+1)=s.n+1:=by rw [kD];omega
 refine wr1 4 (fun K hK=> ?_);go_simp;refine hK.out _ _ (begS HB.o.box bS.o (by omega) (by omega) hG) (fun hHeld=> ?_);clear hK K
 refine Htk 5 ?_
 refine Htk 6 ?_
 try simp only [sq]
 refine KE (by kernel_rfl) ?_ _;go_wp2_with fail;refine kT (v:=.tuple #[gtv g4 k4,iV (s.n+1),iV 0]) (by simp [results,Tryz.results189,go_sem,gtv,y0,y1,y2,y3,y4,y5,y6,y7,y8]) rfl ?_;rw [HE.o];exact⟨⟨k4,rfl,(HB.o.own.low hG (by omega)).gin,HB.o.own.fr (by omega)⟩,zam hw hG hx hw.size⟩
end
structure Cp where
 n:Int
 v:Int
 u:Int
 ts:List T3
 ims:LL
structure Vh where
 ss:LB
 sg:List S2
 g:Gt
 us:List Un
 cs:List Cp
 net:List Ms
 now:Int
structure Hp where
 k:Int
 u:Int
 j:Int
 o:Of
def vh0:Vh:=⟨[], [],gt0, [], [], [],0⟩
def za0:LI->Int
 | []=>0
 |e::r=>if e≠0 then e else za0 r
def unsE (us:List Un) (n:Nat):Int:=if us.length≠n then 4 else za0 (us.map unE)
def cpE (units:Nat) (i:Nat) (c:Cp):Int:=
 if c.n≠(i:Int)+1\/c.ims.length≠units\/c.ts.length≠units then 4 else if za0 (c.ims.map imgE)≠0 then za0 (c.ims.map imgE) else relE c.v c.u c.ts
def cpsE (units:Nat) (cs:List Cp):Int:=za0 (cs.mapIdx (cpE units))
def ntE (units:Nat) (m:Ms):Int:=if msE m≠0 then msE m else if(units:Int)<=m.u then 5 else 0
def netE (units:Nat) (l:List Ms):Int:=za0 (l.map (ntE units))
def vhE (v:Vh):Int:=za0 [bookE v.ss,sigE v.sg,gtE v.g,unsE v.us v.g.vo.length,if v.cs.length<=8/\v.net.length<=24 then 0 else 2,cpsE v.us.length v.cs,netE v.us.length v.net,if inB v.now 0 100000=true then 0 else 3]
def sendS (net l:List Ms):List Ms:=net++l.take (24 - net.length)
def isU (v:Vh) (k:Int):Bool:=inB k 0 ((v.us.length:Int)- 1)
def isM (v:Vh) (k:Int):Bool:=inB k 0 ((v.net.length:Int)- 1)
def un9:Un:=⟨[],0,false,0,0⟩
def ms9:Ms:=⟨0,0,0,0,0, [],false⟩
def cp9:Cp:=⟨0,0,0, [], []⟩
def propS (v:Vh) (o:Of):Vh×Int:=
 if(gBeg v.ss v.sg v.g o v.now).2.2≠0 then(vh0,(gBeg v.ss v.sg v.g o v.now).2.2)
 else if(gBeg v.ss v.sg v.g o v.now).2.1=0 then(⟨v.ss,v.sg,(gBeg v.ss v.sg v.g o v.now).1,v.us,v.cs,v.net,v.now⟩,0)
 else(⟨v.ss,v.sg,(gBeg v.ss v.sg v.g o v.now).1,v.us,v.cs.take ((gBeg v.ss v.sg v.g o v.now).2.1 - 1).toNat++ [⟨(gBeg v.ss v.sg v.g o v.now).2.1,o.v,o.u,o.ts,o.imgs⟩],v.net,v.now⟩,0)
def lastC (v:Vh):Cp×Int:=
 if(gOf v.g.ws).n=0 then(cp9,0) else if(v.cs.length:Int)< (gOf v.g.ws).n then(cp9,5) else(v.cs.getD ((gOf v.g.ws).n - 1).toNat cp9,0)
def pokeS (v:Vh) (k:Int):Vh×Int:=
 if isU v k=false then(vh0,5) else if(lastC v).2≠0 then(vh0,(lastC v).2)
 else if(gDue v.g (lastC v).1.n (lastC v).1.ts (lastC v).1.ims k).2≠0 then(vh0,(gDue v.g (lastC v).1.n (lastC v).1.ts (lastC v).1.ims k).2)
 else(⟨v.ss,v.sg,v.g,v.us,v.cs,sendS v.net (gDue v.g (lastC v).1.n (lastC v).1.ts (lastC v).1.ims k).1,v.now⟩,0)
def qryS (v:Vh) (k:Int):Vh×Int:=
 if isU v k=false then(vh0,5) else if(v.us.getD k.toNat un9).up=false then(vh0,7)
 else if inB (stOf (v.us.getD k.toNat un9).ws).rdy 1 8=false then(vh0,12)
 else(⟨v.ss,v.sg,v.g,v.us,v.cs,sendS v.net [⟨7,k,(stOf (v.us.getD k.toNat un9).ws).rdy,0,0, [],false⟩],v.now⟩,0)
def takeM (v:Vh) (k:Int):Vh:=⟨v.ss,v.sg,v.g,v.us,v.cs,v.net.eraseIdx k.toNat,v.now⟩
def comeS (v:Vh) (m:Ms):Vh×Int:=
 if m.k=3\/m.k=6\/m.k=7 then
  (if(gHear v.g m).2.2≠0 then(vh0,(gHear v.g m).2.2) else(⟨v.ss,v.sg,(gHear v.g m).1,v.us,v.cs,sendS v.net (gHear v.g m).2.1,v.now⟩,0))
 else if(hearA v.ss (v.us.getD m.u.toNat un9) m).2.2≠0 then(vh0,(hearA v.ss (v.us.getD m.u.toNat un9) m).2.2)
 else(⟨v.ss,v.sg,v.g,v.us.set m.u.toNat (hearA v.ss (v.us.getD m.u.toNat un9) m).1,v.cs,sendS v.net (hearA v.ss (v.us.getD m.u.toNat un9) m).2.1,v.now⟩,0)
def arrS (v:Vh) (k:Int):Vh×Int:=if isM v k=false then(vh0,5) else comeS (takeM v k) (v.net.getD k.toNat ms9)
def losS (v:Vh) (k:Int):Vh×Int:=if isM v k=false then(vh0,5) else(takeM v k,0)
def dblS (v:Vh) (k:Int):Vh×Int:=
 if isM v k=false then(vh0,5) else if v.net.length=24 then(vh0,8) else(⟨v.ss,v.sg,v.g,v.us,v.cs,v.net++ [v.net.getD k.toNat ms9],v.now⟩,0)
def cutU (u:Un) (f:Int):Un:=⟨u.ws,f,u.up,u.n,u.hv⟩
def cutS (v:Vh) (k f:Int):Vh×Int:=
 if(decide (k= -1)||isU v k)=false then(vh0,5) else if inB f 0 100000=false then(vh0,3)
 else if k= -1 then(⟨v.ss,v.sg,⟨v.g.ws,f,v.g.up,v.g.t,v.g.vo,v.g.di⟩,v.us,v.cs,v.net,v.now⟩,0)
 else(⟨v.ss,v.sg,v.g,v.us.set k.toNat (cutU (v.us.getD k.toNat un9) f),v.cs,v.net,v.now⟩,0)
def bootV (v:Vh) (k:Int):Vh×Int:=
 if(decide (k= -1)||isU v k)=false then(vh0,5)
 else if k= -1 then(⟨v.ss,v.sg,(zdb v.g).1,v.us,v.cs,v.net,v.now⟩,(zdb v.g).2)
 else(⟨v.ss,v.sg,v.g,v.us.set k.toNat (bootS (v.us.getD k.toNat un9)).1,v.cs,v.net,v.now⟩,(bootS (v.us.getD k.toNat un9)).2)
def gupS (v:Vh):Vh×Int:=if(gvUp v.g).2≠0 then(vh0,(gvUp v.g).2) else(⟨v.ss,v.sg,(gvUp v.g).1,v.us,v.cs,v.net,v.now⟩,0)
def tckS (v:Vh):Vh×Int:=if v.now=100000 then(vh0,8) else(⟨v.ss,v.sg,v.g,v.us,v.cs,v.net,v.now+1⟩,0)
def hapS (v:Vh) (x:Hp):Vh×Int:=
 if x.k=1 then propS v x.o else if x.k=2 then pokeS v x.u else if x.k=9 then qryS v x.u else if x.k=3 then arrS v x.j else if x.k=4 then losS v x.j
 else if x.k=5 then dblS v x.j else if x.k=6 then cutS v x.u x.j else if x.k=7 then bootV v x.u else if x.k=8 then gupS v else if x.k=10 then tckS v else(vh0,4)
def doS' (v:Vh) (x:Hp):Vh×Int:=if vhE v≠0 then(vh0,vhE v) else if(hapS v x).2≠0 then(vh0,(hapS v x).2) else hapS v x
def runL:Vh->List Hp->Vh×LI
 |v, []=>(v, [])
 |v,x::r=>if(doS' v x).2=0 then((runL (doS' v x).1 r).1,0::(runL (doS' v x).1 r).2) else((runL v r).1,(doS' v x).2::(runL v r).2)
section
attribute [local go_sem ↓] kM kO
def GHAns (w:World) (r:Gt×List Ms×Int) (e:Ending) (w' :World):Prop:=(∃k a n c,e=.returned (.tuple #[gtv r.1 k,.slice a n c,iV r.2.2])/\GIn w' k r.1/\GFr w.heap.size k/\za9 w' a r.2.1/\r.2.1.length=n/\n<=c/\zal w.heap.size a)/\bZ w w'
theorem ghE_1 (h:gtE g≠0):ghE g m=gtE g:=by unfold ghE;rw [KK h]
theorem ghE_3 (h:gtE g=0) (h2:inB m.u 0 ((g.vo.length:Int)- 1)=false\/inB m.n 1 8=false):ghE g m=3:=by
 unfold ghE;rw [KJ (by simpa using h),KJ]
 rcases h2 with h2|h2<;>rw [h2]<;>simp
theorem ghE_0 (h:gtE g=0) (h2:inB m.u 0 ((g.vo.length:Int)- 1)=true) (h3:inB m.n 1 8=true):ghE g m=0:=by
 unfold ghE;rw [KJ (by simpa using h),KK (by rw [h2,h3];rfl)]
theorem zlt {q:Int} (h:ghE g m=q) (hq:q≠0):gHear g m= (gt0, [],q):=by unfold gHear;rw [h,KK hq]
theorem gHear_d (h:ghE g m=0) (h2:g.up=false):gHear g m= (g, [],0):=by unfold gHear;rw [h,KJ (by decide),KJ (by rw [h2];decide)]
theorem gHear_u (h:ghE g m=0) (h2:g.up=true):gHear g m= ((ghK g (gOf g.ws) m).1,(ghK g (gOf g.ws) m).2,0):=by unfold gHear;rw [h,KJ (by decide),KK h2]
theorem ghK_3n (h:m.k=3) (h2: (pend s m&&(!decG s&&m.y))=false):ghK g s m= (g, []):=by unfold ghK;rw [KK h,h2];rfl
theorem ghK_3y (h:m.k=3) (h2: (pend s m&&(!decG s&&m.y))=true):ghK g s m= (ctgV g s m.u 2, []):=by unfold ghK;rw [KK h,h2];rfl
theorem ghK_6n (h:m.k=6) (h2: (pend s m&&decG s)=false):ghK g s m= (g, []):=by unfold ghK;rw [KJ (by omega),KK h,h2];rfl
theorem ghK_6y (h:m.k=6) (h2: (pend s m&&decG s)=true):ghK g s m= (ctgD g s m.u 4, []):=by unfold ghK;rw [KJ (by omega),KK h,h2];rfl
theorem ghK_7 (h:m.k=7):ghK g s m= (g,if(pend s m&&!decG s)=true then [] else [verd s m.u m.n]):=by unfold ghK;rw [KJ (by omega),KJ (by omega),KK h]
theorem ghK_0 (h3:m.k≠3) (h6:m.k≠6) (h7:m.k≠7):ghK g s m= (g, []):=by unfold ghK;rw [KJ h3,KJ h6,KJ h7]
theorem za9.turns {l:List Ms} (h:za9 w a l) (hg:w.grownBy w' (some B)) (ho:Off B a):za9 w' a l:=by
 rcases h with h| ⟨b,rfl,hc⟩
 { exact .inl h }
 {
 refine .inr ⟨b,rfl,fun i m hi=> ?_⟩;obtain ⟨h0,h1,h2,h3,h4,h5,h6,h7⟩:=hc i m hi;have ne: ∀j,(some (⟨b,j,none⟩:Addr).block)≠some B:=fun j e=>ho _ rfl (by cases e;rfl)
 exact⟨h0,hg.cell h1 (ne _),hg.cell h2 (ne _),hg.cell h3 (ne _),hg.cell h4 (ne _),hg.cell h5 (ne _),hg.cell h6 (ne _),hg.cell h7 (ne _)⟩ }
theorem hearR {W W' :World} {S M:Nat} {k:GA} {am:oA} {nm cm:Nat} (hB:W.heap[B]?=some (gtO g k)) (hS:W.heap[S]?=some (gsO s)) (hM:W.heap[M]?=some (msO m am nm cm)) {R:Nat} (nB:B≠R) (nS:S≠R) (nM:M≠R) (h:W.grownBy W' (some R)):
 (ce W' B 0=some (.slice k.a k.n k.c)/\ce W' B 1=some (iV g.fu)/\ce W' B 2=some (.bool g.up)/\ce W' B 3=some (iV g.t.r.v)/\ce W' B 4=some (.slice k.ak k.nk k.ck)/\ce W' B 5=some (iV g.t.r.t)/\ce W' B 6=some (iV g.t.ver)/\ce W' B 7=some (.slice k.av k.nv k.cv)/\ce W' B 8=some (.slice k.ad k.nd k.cd))/\
 (ce W' S 0=some (iV s.n)/\ce W' S 1=some (iV s.v)/\ce W' S 2=some (.bool s.co)/\ce W' S 3=some (.bool s.ab)/\ce W' S 4=some (.bool s.en))/\ce W' M 1=some (iV m.u)/\ce W' M 2=some (iV m.n)/\W.grownBy W' (some R):=by
 have b:=zar hB h nB;have x:=zar hS h nS;have z:=zar hM h nM;unfold gtO at b;unfold gsO at x;unfold msO at z;exact⟨⟨zaa b 0 _ rfl,zaa b 1 _ rfl,zaa b 2 _ rfl,zaa b 3 _ rfl,zaa b 4 _ rfl,zaa b 5 _ rfl,zaa b 6 _ rfl,zaa b 7 _ rfl,zaa b 8 _ rfl⟩,⟨zaa x 0 _ rfl,zaa x 1 _ rfl,zaa x 2 _ rfl,zaa x 3 _ rfl,zaa x 4 _ rfl⟩,zaa z 1 _ rfl,zaa z 2 _ rfl,h⟩
theorem zoo (g:Gt) (k0:GA) (m:Ms) (am:oA) (nm cm:Nat) (w:World) (h:GIn w k0 g):
 Cq 247 #[gtv g k0,msv m am nm cm] w (GHAns w (gHear g m)):=by
 have hw:bZ w (((w.alloc (.cells (aG k0 g) 35)).alloc (.cells (aM m am nm cm) 99)).alloc (.cells aY 35)):=(bA2).alloc (by simp;omega) _;have b0:Hd ((((w.alloc (.cells (aG k0 g) 35)).alloc (.cells (aM m am nm cm) 99)).alloc (.cells aY 35)).heap[w.heap.size]?=some (.cells (aG k0 g) 35 (0,0))):=zai (zai (kP _ _) _) _;have b1:Hd ((((w.alloc (.cells (aG k0 g) 35)).alloc (.cells (aM m am nm cm) 99)).alloc (.cells aY 35)).heap[w.heap.size+1]?=some (.cells (aM m am nm cm) 99 (0,0))):=zai (zau _ _ _) _;have b2:Hd ((((w.alloc (.cells (aG k0 g) 35)).alloc (.cells (aM m am nm cm) 99)).alloc (.cells aY 35)).heap[w.heap.size+1+1]?=some (.cells aY 35 (0,0))):=zb9 _ _ _ _;have HC:=uH (fun W (hW:bZ w W)=>zca g k0 W (h.bl hW));have HU:=uH (fun W (hW:bZ w W)=>zjj g k0 m.u W (h.bl hW));have HP:=uH h;have hx:w.heap.size<=w.heap.size+1+1:=by omega
 clear h;unfold gtv at HC HU;unfold gtv msv;go_enter Tryz.func247,Tryz.ntmps247;go_wp2_with fail;generalize (((w.alloc (.cells (aG k0 g) 35)).alloc (.cells (aM m am nm cm) 99)).alloc (.cells aY 35))=W at *;refine(zae HC _ hw).mono ?_;rintro e w1 ⟨rfl,hb⟩;replace b0:=uH (zab b0.o hb);replace b1:=uH (zab b1.o hb);replace b2:=uH (zab b2.o hb);replace hw:=bT hw hb;clear hb HC
 by_cases z1:gtE g=0
 rotate_left
 {
 have HE:=uH (zlt (m:=m) (ghE_1 z1) z1);have d1: (gtE g !=0)=true:=by simpa using z1
 clear z1 HU HP;generalize gtE g=q at *;obtain ⟨y0,y1,y2,y3,y4,y5,y6,y7,y8⟩:=cl9 b2.o;obtain ⟨f0,f1,f2,f3,f4,f5,f6,f7,f8⟩:=fr9 b2.o;go_wp2_with fail;refine kT (v:=.tuple #[gtv gt0 ga0,nV,iV q]) (by simp [results,Tryz.results247,go_sem,gtv,gt0,ga0,y0,y1,y2,y3,y4,y5,y6,y7,y8]) rfl ?_;rw [HE.o];exact⟨⟨ga0,none,0,0,rfl,gin0 _,gfr0 _,.inl rfl,rfl,kQ _,zal.nil _⟩,zam hw (zac (zac (zac (zac (zac (zac (zac (zac (zac (kf w1 (some (w.heap.size+1+1))) 0 (nV)) 1 (iV 0)) 2 (.bool false)) 3 (iV 0)) 4 (nV)) 5 (iV 0)) 6 (iV 0)) 7 (nV)) 8 (nV)) hx hw.size⟩ }
 rw [z1];obtain ⟨x0,x1,x2,x3,x4,x5,x6,x7,x8⟩:=cl9 b0.o;have u1:=zaa b1.o 1 _ rfl;have u2:=zaa b1.o 2 _ rfl;go_wp2_with fail;refine(zae HU _ hw).mono ?_;rintro e w2 ⟨rfl,hb⟩;replace b0:=uH (zab b0.o hb);replace b1:=uH (zab b1.o hb);replace b2:=uH (zab b2.o hb);replace hw:=bT hw hb;clear hb HU x0 x1 x2 x3 x4 x5 x6 x7 x8 u1 u2;cases z2:inB m.u 0 ((g.vo.length:Int)- 1)
 {
 have HE:=uH (zlt (ghE_3 z1 (.inl z2)) (by decide));clear z1 z2 HP;obtain ⟨y0,y1,y2,y3,y4,y5,y6,y7,y8⟩:=cl9 b2.o;obtain ⟨f0,f1,f2,f3,f4,f5,f6,f7,f8⟩:=fr9 b2.o;go_wp2_with fail;refine kT (v:=.tuple #[gtv gt0 ga0,nV,iV 3]) (by simp [results,Tryz.results247,go_sem,gtv,gt0,ga0,y0,y1,y2,y3,y4,y5,y6,y7,y8]) rfl ?_;rw [HE.o];exact⟨⟨ga0,none,0,0,rfl,gin0 _,gfr0 _,.inl rfl,rfl,kQ _,zal.nil _⟩,zam hw (zac (zac (zac (zac (zac (zac (zac (zac (zac (kf w2 (some (w.heap.size+1+1))) 0 (nV)) 1 (iV 0)) 2 (.bool false)) 3 (iV 0)) 4 (nV)) 5 (iV 0)) 6 (iV 0)) 7 (nV)) 8 (nV)) hx hw.size⟩ }
 have u2:=zaa b1.o 2 _ rfl;go_wp2_with fail;refine(zbc _ _ _ _).mono ?_;rintro e w3 ⟨rfl,hb⟩;subst hb;clear u2;cases z3:inB m.n 1 8
 {
 have HE:=uH (zlt (ghE_3 z1 (.inr z3)) (by decide));clear z1 z2 z3 HP;obtain ⟨y0,y1,y2,y3,y4,y5,y6,y7,y8⟩:=cl9 b2.o;obtain ⟨f0,f1,f2,f3,f4,f5,f6,f7,f8⟩:=fr9 b2.o;go_wp2_with fail;refine kT (v:=.tuple #[gtv gt0 ga0,nV,iV 3]) (by simp [results,Tryz.results247,go_sem,gtv,gt0,ga0,y0,y1,y2,y3,y4,y5,y6,y7,y8]) rfl ?_;rw [HE.o];exact⟨⟨ga0,none,0,0,rfl,gin0 _,gfr0 _,.inl rfl,rfl,kQ _,zal.nil _⟩,zam hw (zac (zac (zac (zac (zac (zac (zac (zac (zac (kf w3 (some (w.heap.size+1+1))) 0 (nV)) 1 (iV 0)) 2 (.bool false)) 3 (iV 0)) 4 (nV)) 5 (iV 0)) 6 (iV 0)) 7 (nV)) 8 (nV)) hx hw.size⟩ }
 have HZ:=uH (ghE_0 z1 z2 z3);obtain ⟨hlw,hlk,hlv,hld⟩:=HP.o.sizes z1;have HL:=uH (zen z1).1;have hnd:=(zen z1).2.2.1;have HT:=uH (fun W (hW:bZ w W)=>zdc g k0 W (HP.o.bl hW) hlw hlk hlv hld);unfold gtv at HT;obtain ⟨u,hu⟩: ∃u:Nat,m.u= (u:Int):=⟨m.u.toNat,by unfold inB at z2;simp at z2;omega⟩;have hul:u<g.vo.length:=by unfold inB at z2;simp at z2;omega
 have HUN:=uH hu;clear z1 z2 z3 hlw hlk hlv hld hu HP;obtain ⟨x0,x1,x2,x3,x4,x5,x6,x7,x8⟩:=cl9 b0.o;go_wp2_with fail;have hF0:=hw.size;refine(zae HT _ hw).mono ?_;rintro e w5 ⟨⟨k,bv,bd,rfl,ho,hoff⟩,hb5⟩;have hlt:=zak b2.o;have hlm:=zak b1.o;replace b1:=uH (zab (zab b1.o hb5) (zaf (kS w5.heap.size w5) (.cells (aG k g) 35)));replace b2:=uH (zab (zab b2.o hb5) (zaf (kS w5.heap.size w5) (.cells (aG k g) 35)));have hbx:=uH (ho.boxed hb5.size (hoff _ (.inr (kQ _))));have hw5:bZ w3 (w5.alloc (.cells (aG k g) 35)):=zaf hb5 _;have hB:=hb5.size;replace hw:=bT hw hw5;clear HT ho hoff hb5 b0 x0 x1 x2 x3 x4 x5 x6 x7 x8;unfold gtv;go_upto_region 7 with fail
 generalize (w5.alloc (.cells (aG k g) 35))=W5 at *;generalize w5.heap.size=B at *;cases zu:g.up
 {
 have HE:=uH (gHear_d HZ.o zu);have HB:=hbx;clear HZ HL HUN;have bC:=uH HB.o.box;unfold gtO at bC;obtain ⟨x0,x1,x2,x3,x4,x5,x6,x7,x8⟩:=cl9 bC.o
 (try dsimp only [aG] at x2);rw [zu] at x2
 obtain ⟨y0,y1,y2,y3,y4,y5,y6,y7,y8⟩:=cl9 b2.o;obtain ⟨f0,f1,f2,f3,f4,f5,f6,f7,f8⟩:=fr9 b2.o;go_wp2_with fail;refine kT (v:=.tuple #[gtv g k,nV,iV 0]) (by simp [results,Tryz.results247,go_sem,gtv,zu,y0,y1,y2,y3,y4,y5,y6,y7,y8]) rfl ?_;rw [HE.o];have hT:=zac (zac (zac (zac (zac (zac (zac (zac (zac (kf W5 (some (w.heap.size+1+1))) 0 (.slice k.a k.n k.c)) 1 (iV g.fu)) 2 (.bool false)) 3 (iV g.t.r.v)) 4 (.slice k.ak k.nk k.ck)) 5 (iV g.t.r.t)) 6 (iV g.t.ver)) 7 (.slice k.av k.nv k.cv)) 8 (.slice k.ad k.nd k.cd);exact⟨⟨k,none,0,0,rfl,(HB.o.own.low hT hlt).gin,HB.o.own.fr hF0,.inl rfl,rfl,kQ _,zal.nil _⟩,zam hw hT hx hw.size⟩ }
 have HE0:=uH (gHear_u HZ.o zu);clear HZ;have bC:=uH hbx.o.box;unfold gtO at bC;have x0:=zaa bC.o 0 _ rfl;have x1:=zaa bC.o 1 _ rfl;have x2:=zaa bC.o 2 _ rfl
 (try dsimp only [aG] at x2);rw [zu] at x2
 clear zu;have HS:=uH (zfu k.a k.n k.c g.ws g.fu W5 hbx.o.own.ws HL.o);go_wp2_with fail;refine(zae HS).mono ?_;rintro e w6 ⟨rfl,hb6⟩;clear HS x0 x1 x2 bC HL;generalize gOf g.ws=s at *;unfold gsv;have bS:=uH (kP w6 (.cells (aS s) 72));have hb7:bZ W5 (w6.alloc (.cells (aS s) 72)):=zaf hb6 _;replace b1:=uH (zab b1.o hb7);replace b2:=uH (zab b2.o hb7);replace hbx:=uH (hbx.o.bl hb7);replace hw:=bT hw hb7;have hw5' :=bT hw5 hb7;have hSl:w3.heap.size<=w6.heap.size:=kc hw5.size hb6.size;clear hb6 hb7 hw5;go_upto_region 10 with fail
 generalize (w6.alloc (.cells (aS s) 72))=W6 at *;generalize w6.heap.size=S at *;obtain ⟨s0,s1,s2,s3,s4⟩:=cl5 bS.o;have u2:=zaa b1.o 2 _ rfl
 go_cut [10] (fun v10 wx=>v10=.bool (pend s m)/\wx=W6)
 case first=>
  by_cases p1:s.n=m.n
  {
  have d1: (s.n==m.n)=true:=by simpa using p1
  cases p2:s.en
  {
  (try dsimp only [aS] at s4);rw [p2] at s4
  go_wp2_with fail
  go_meet
  case rel=>exact⟨congrArg Value.bool (by unfold pend;simp [p1,p2]),rfl⟩ }
  {
  (try dsimp only [aS] at s4);rw [p2] at s4
  go_wp2_with fail
  go_meet
  case rel=>exact⟨congrArg Value.bool (by unfold pend;simp [p1,p2]),rfl⟩ } }
  {
  have d1: (s.n==m.n)=false:=by simpa using p1
  go_wp2_with fail
  go_meet
  case rel=>exact⟨congrArg Value.bool (by unfold pend;simp [p1]),rfl⟩ }
 obtain ⟨rfl,hW⟩:=hcut;replace hW:=hW.symm;subst hW;clear u2 s0 s1 s2 s3 s4;have u0:=zaa b1.o 0 _ rfl;have HD:=uH (fun W=>zej s W);unfold gsv at HD
 by_cases q3:m.k=3
 {
 (try dsimp only [aM] at u0);rw [q3] at u0
 have Q3:=uH q3;clear q3;cases pd:pend s m
 {
 have HE:=HE0.o;rw [ghK_3n Q3.o (by rw [pd];rfl)] at HE;replace HE:=uH HE;clear HE0 HD pd Q3;have HB:=hbx;have bC:=uH HB.o.box;unfold gtO at bC;obtain ⟨x0,x1,x2,x3,x4,x5,x6,x7,x8⟩:=cl9 bC.o;obtain ⟨y0,y1,y2,y3,y4,y5,y6,y7,y8⟩:=cl9 b2.o;obtain ⟨f0,f1,f2,f3,f4,f5,f6,f7,f8⟩:=fr9 b2.o;go_wp2_with fail;refine kT (v:=.tuple #[gtv g k,nV,iV 0]) (by simp [results,Tryz.results247,go_sem,gtv,y0,y1,y2,y3,y4,y5,y6,y7,y8]) rfl ?_;rw [HE.o];have hT:=zac (zac (zac (zac (zac (zac (zac (zac (zac (kf W6 (some (w.heap.size+1+1))) 0 (.slice k.a k.n k.c)) 1 (iV g.fu)) 2 (.bool g.up)) 3 (iV g.t.r.v)) 4 (.slice k.ak k.nk k.ck)) 5 (iV g.t.r.t)) 6 (iV g.t.ver)) 7 (.slice k.av k.nv k.cv)) 8 (.slice k.ad k.nd k.cd);exact⟨⟨k,none,0,0,rfl,(HB.o.own.low hT hlt).gin,HB.o.own.fr hF0,.inl rfl,rfl,kQ _,zal.nil _⟩,zam hw hT hx hw.size⟩ }
 have PD:=uH pd;clear pd;obtain ⟨s0,s1,s2,s3,s4⟩:=cl5 bS.o;go_wp2_with fail;refine(zae HD _).mono ?_;rintro e w7 ⟨rfl,hb7⟩;replace b1:=uH (zab b1.o hb7);replace b2:=uH (zab b2.o hb7);replace bS:=uH (zab bS.o hb7);replace hbx:=uH (hbx.o.bl hb7);replace hw:=bT hw hb7;replace hw5' :=bT hw5' hb7;clear hb7 HD s0 s1 s2 s3 s4;cases dd:decG s;rotate_left
 {
 have HE:=HE0.o;rw [ghK_3n Q3.o (by rw [dd];simp)] at HE;replace HE:=uH HE;clear HE0 dd Q3 PD;have HB:=hbx;have bC:=uH HB.o.box;unfold gtO at bC;obtain ⟨x0,x1,x2,x3,x4,x5,x6,x7,x8⟩:=cl9 bC.o;obtain ⟨y0,y1,y2,y3,y4,y5,y6,y7,y8⟩:=cl9 b2.o;obtain ⟨f0,f1,f2,f3,f4,f5,f6,f7,f8⟩:=fr9 b2.o;go_wp2_with fail;refine kT (v:=.tuple #[gtv g k,nV,iV 0]) (by simp [results,Tryz.results247,go_sem,gtv,y0,y1,y2,y3,y4,y5,y6,y7,y8]) rfl ?_;rw [HE.o];have hT:=zac (zac (zac (zac (zac (zac (zac (zac (zac (kf w7 (some (w.heap.size+1+1))) 0 (.slice k.a k.n k.c)) 1 (iV g.fu)) 2 (.bool g.up)) 3 (iV g.t.r.v)) 4 (.slice k.ak k.nk k.ck)) 5 (iV g.t.r.t)) 6 (iV g.t.ver)) 7 (.slice k.av k.nv k.cv)) 8 (.slice k.ad k.nd k.cd);exact⟨⟨k,none,0,0,rfl,(HB.o.own.low hT hlt).gin,HB.o.own.fr hF0,.inl rfl,rfl,kQ _,zal.nil _⟩,zam hw hT hx hw.size⟩ }
 have DD:=uH dd;clear dd;have u6:=zaa b1.o 6 _ rfl;cases yy:m.y
 {
 (try dsimp only [aM] at u6);rw [yy] at u6
 have HE:=HE0.o;rw [ghK_3n Q3.o (by rw [yy];simp)] at HE;replace HE:=uH HE;clear HE0 yy Q3 PD DD;have HB:=hbx;have bC:=uH HB.o.box;unfold gtO at bC;obtain ⟨x0,x1,x2,x3,x4,x5,x6,x7,x8⟩:=cl9 bC.o;obtain ⟨y0,y1,y2,y3,y4,y5,y6,y7,y8⟩:=cl9 b2.o;obtain ⟨f0,f1,f2,f3,f4,f5,f6,f7,f8⟩:=fr9 b2.o;go_wp2_with fail;refine kT (v:=.tuple #[gtv g k,nV,iV 0]) (by simp [results,Tryz.results247,go_sem,gtv,y0,y1,y2,y3,y4,y5,y6,y7,y8]) rfl ?_;rw [HE.o];have hT:=zac (zac (zac (zac (zac (zac (zac (zac (zac (kf w7 (some (w.heap.size+1+1))) 0 (.slice k.a k.n k.c)) 1 (iV g.fu)) 2 (.bool g.up)) 3 (iV g.t.r.v)) 4 (.slice k.ak k.nk k.ck)) 5 (iV g.t.r.t)) 6 (iV g.t.ver)) 7 (.slice k.av k.nv k.cv)) 8 (.slice k.ad k.nd k.cd);exact⟨⟨k,none,0,0,rfl,(HB.o.own.low hT hlt).gin,HB.o.own.fr hF0,.inl rfl,rfl,kQ _,zal.nil _⟩,zam hw hT hx hw.size⟩ }
 (try dsimp only [aM] at u6);rw [yy] at u6
 have HE:=HE0.o;rw [ghK_3y Q3.o (by rw [PD.o,DD.o,yy];rfl)] at HE;replace HE:=uH HE;clear HE0 yy Q3 PD DD;have bC:=uH hbx.o.box;unfold gtO at bC;have x7:=zaa bC.o 7 _ rfl;have u1:=zaa b1.o 1 _ rfl;obtain ⟨s0,s1,s2,s3,s4⟩:=cl5 bS.o
 (try dsimp only [aG] at x7);rw [hbx.o.own.av] at x7
 (try dsimp only [aM] at u1);rw [HUN.o] at u1
 have HN:=uH (zq1 _ B k g bv bd s u 2 w7 hbx.o (by have:=hbx.o.own.nv.1;omega));unfold gsv at HN;go_wp2_with fail;refine(zae HN).mono ?_;rintro e w8 ⟨rfl,⟨k2,hb8⟩,hg8⟩;have hb9:=hg8.bel hw5' hB hb8.own.fv hb8.own.fd hw5'.size;replace b2:=uH (hg8.blk b2.o (by omega) (by have:=hb8.own.fv;omega) (by have:=hb8.own.fd;omega));replace hw:=hg8.bel hw (by omega) (by have:=hb8.own.fv;omega) (by have:=hb8.own.fd;omega) hw.size;have HB:=uH hb8;clear hb8 hg8 hb9 HN bC x7 u1 bS hbx s0 s1 s2 s3 s4;rw [HUN.o] at HE;generalize ctgV g s u 2=g2 at *;have bC:=uH HB.o.box;unfold gtO at bC;obtain ⟨x0,x1,x2,x3,x4,x5,x6,x7,x8⟩:=cl9 bC.o;obtain ⟨y0,y1,y2,y3,y4,y5,y6,y7,y8⟩:=cl9 b2.o;obtain ⟨f0,f1,f2,f3,f4,f5,f6,f7,f8⟩:=fr9 b2.o;go_wp2_with fail;refine kT (v:=.tuple #[gtv g2 k2,nV,iV 0]) (by simp [results,Tryz.results247,go_sem,gtv,y0,y1,y2,y3,y4,y5,y6,y7,y8]) rfl ?_;rw [HE.o];have hT:=zac (zac (zac (zac (zac (zac (zac (zac (zac (kf w8 (some (w.heap.size+1+1))) 0 (.slice k2.a k2.n k2.c)) 1 (iV g2.fu)) 2 (.bool g2.up)) 3 (iV g2.t.r.v)) 4 (.slice k2.ak k2.nk k2.ck)) 5 (iV g2.t.r.t)) 6 (iV g2.t.ver)) 7 (.slice k2.av k2.nv k2.cv)) 8 (.slice k2.ad k2.nd k2.cd);exact⟨⟨k2,none,0,0,rfl,(HB.o.own.low hT hlt).gin,HB.o.own.fr hF0,.inl rfl,rfl,kQ _,zal.nil _⟩,zam hw hT hx hw.size⟩ }
 have e3: (m.k==3)=false:=by simpa using q3
 have Q3:=uH q3;clear q3
 by_cases q6:m.k=6
 {
 (try dsimp only [aM] at u0);rw [q6] at u0
 clear e3;have Q6:=uH q6;clear q6;cases pd:pend s m
 {
 have HE:=HE0.o;rw [ghK_6n Q6.o (by rw [pd];rfl)] at HE;replace HE:=uH HE;clear HE0 HD pd Q6 Q3;have HB:=hbx;have bC:=uH HB.o.box;unfold gtO at bC;obtain ⟨x0,x1,x2,x3,x4,x5,x6,x7,x8⟩:=cl9 bC.o;obtain ⟨y0,y1,y2,y3,y4,y5,y6,y7,y8⟩:=cl9 b2.o;obtain ⟨f0,f1,f2,f3,f4,f5,f6,f7,f8⟩:=fr9 b2.o;go_wp2_with fail;refine kT (v:=.tuple #[gtv g k,nV,iV 0]) (by simp [results,Tryz.results247,go_sem,gtv,y0,y1,y2,y3,y4,y5,y6,y7,y8]) rfl ?_;rw [HE.o];have hT:=zac (zac (zac (zac (zac (zac (zac (zac (zac (kf W6 (some (w.heap.size+1+1))) 0 (.slice k.a k.n k.c)) 1 (iV g.fu)) 2 (.bool g.up)) 3 (iV g.t.r.v)) 4 (.slice k.ak k.nk k.ck)) 5 (iV g.t.r.t)) 6 (iV g.t.ver)) 7 (.slice k.av k.nv k.cv)) 8 (.slice k.ad k.nd k.cd);exact⟨⟨k,none,0,0,rfl,(HB.o.own.low hT hlt).gin,HB.o.own.fr hF0,.inl rfl,rfl,kQ _,zal.nil _⟩,zam hw hT hx hw.size⟩ }
 have PD:=uH pd;clear pd;obtain ⟨s0,s1,s2,s3,s4⟩:=cl5 bS.o;go_wp2_with fail;refine(zae HD _).mono ?_;rintro e w7 ⟨rfl,hb7⟩;replace b1:=uH (zab b1.o hb7);replace b2:=uH (zab b2.o hb7);replace bS:=uH (zab bS.o hb7);replace hbx:=uH (hbx.o.bl hb7);replace hw:=bT hw hb7;replace hw5' :=bT hw5' hb7;clear hb7 HD s0 s1 s2 s3 s4;cases dd:decG s
 {
 have HE:=HE0.o;rw [ghK_6n Q6.o (by rw [dd];simp)] at HE;replace HE:=uH HE;clear HE0 dd PD Q6 Q3;have HB:=hbx;have bC:=uH HB.o.box;unfold gtO at bC;obtain ⟨x0,x1,x2,x3,x4,x5,x6,x7,x8⟩:=cl9 bC.o;obtain ⟨y0,y1,y2,y3,y4,y5,y6,y7,y8⟩:=cl9 b2.o;obtain ⟨f0,f1,f2,f3,f4,f5,f6,f7,f8⟩:=fr9 b2.o;go_wp2_with fail;refine kT (v:=.tuple #[gtv g k,nV,iV 0]) (by simp [results,Tryz.results247,go_sem,gtv,y0,y1,y2,y3,y4,y5,y6,y7,y8]) rfl ?_;rw [HE.o];have hT:=zac (zac (zac (zac (zac (zac (zac (zac (zac (kf w7 (some (w.heap.size+1+1))) 0 (.slice k.a k.n k.c)) 1 (iV g.fu)) 2 (.bool g.up)) 3 (iV g.t.r.v)) 4 (.slice k.ak k.nk k.ck)) 5 (iV g.t.r.t)) 6 (iV g.t.ver)) 7 (.slice k.av k.nv k.cv)) 8 (.slice k.ad k.nd k.cd);exact⟨⟨k,none,0,0,rfl,(HB.o.own.low hT hlt).gin,HB.o.own.fr hF0,.inl rfl,rfl,kQ _,zal.nil _⟩,zam hw hT hx hw.size⟩ }
 have HE:=HE0.o;rw [ghK_6y Q6.o (by rw [PD.o,dd];rfl)] at HE;replace HE:=uH HE;clear HE0 dd PD Q6 Q3;have bC:=uH hbx.o.box;unfold gtO at bC;have x8:=zaa bC.o 8 _ rfl;have u1:=zaa b1.o 1 _ rfl;obtain ⟨s0,s1,s2,s3,s4⟩:=cl5 bS.o
 (try dsimp only [aG] at x8);rw [hbx.o.own.ad] at x8
 (try dsimp only [aM] at u1);rw [HUN.o] at u1
 have HN:=uH (zrf _ B k g bv bd s u 4 w7 hbx.o (by have:=hbx.o.own.nd.1;omega));unfold gsv at HN;go_wp2_with fail;refine(zae HN).mono ?_;rintro e w8 ⟨rfl,⟨k2,hb8⟩,hg8⟩;have hb9:=hg8.bel hw5' hB hb8.own.fv hb8.own.fd hw5'.size;replace b2:=uH (hg8.blk b2.o (by omega) (by have:=hb8.own.fv;omega) (by have:=hb8.own.fd;omega));replace hw:=hg8.bel hw (by omega) (by have:=hb8.own.fv;omega) (by have:=hb8.own.fd;omega) hw.size;have HB:=uH hb8;clear hb8 hg8 hb9 HN bC x8 u1 bS hbx s0 s1 s2 s3 s4;rw [HUN.o] at HE;generalize ctgD g s u 4=g2 at *;have bC:=uH HB.o.box;unfold gtO at bC;obtain ⟨x0,x1,x2,x3,x4,x5,x6,x7,x8⟩:=cl9 bC.o;obtain ⟨y0,y1,y2,y3,y4,y5,y6,y7,y8⟩:=cl9 b2.o;obtain ⟨f0,f1,f2,f3,f4,f5,f6,f7,f8⟩:=fr9 b2.o;go_wp2_with fail;refine kT (v:=.tuple #[gtv g2 k2,nV,iV 0]) (by simp [results,Tryz.results247,go_sem,gtv,y0,y1,y2,y3,y4,y5,y6,y7,y8]) rfl ?_;rw [HE.o];have hT:=zac (zac (zac (zac (zac (zac (zac (zac (zac (kf w8 (some (w.heap.size+1+1))) 0 (.slice k2.a k2.n k2.c)) 1 (iV g2.fu)) 2 (.bool g2.up)) 3 (iV g2.t.r.v)) 4 (.slice k2.ak k2.nk k2.ck)) 5 (iV g2.t.r.t)) 6 (iV g2.t.ver)) 7 (.slice k2.av k2.nv k2.cv)) 8 (.slice k2.ad k2.nd k2.cd);exact⟨⟨k2,none,0,0,rfl,(HB.o.own.low hT hlt).gin,HB.o.own.fr hF0,.inl rfl,rfl,kQ _,zal.nil _⟩,zam hw hT hx hw.size⟩ }
 have e6: (m.k==6)=false:=by simpa using q6
 have Q6:=uH q6;clear q6
 by_cases q7:m.k=7
 rotate_left
 {
 have e7: (m.k==7)=false:=by simpa using q7
 have HE:=HE0.o;rw [ghK_0 Q3.o Q6.o q7] at HE;replace HE:=uH HE;clear HE0 HD q7 Q3 Q6;have HB:=hbx;have bC:=uH HB.o.box;unfold gtO at bC;obtain ⟨x0,x1,x2,x3,x4,x5,x6,x7,x8⟩:=cl9 bC.o;obtain ⟨y0,y1,y2,y3,y4,y5,y6,y7,y8⟩:=cl9 b2.o;obtain ⟨f0,f1,f2,f3,f4,f5,f6,f7,f8⟩:=fr9 b2.o;go_wp2_with fail;refine kT (v:=.tuple #[gtv g k,nV,iV 0]) (by simp [results,Tryz.results247,go_sem,gtv,y0,y1,y2,y3,y4,y5,y6,y7,y8]) rfl ?_;rw [HE.o];have hT:=zac (zac (zac (zac (zac (zac (zac (zac (zac (kf W6 (some (w.heap.size+1+1))) 0 (.slice k.a k.n k.c)) 1 (iV g.fu)) 2 (.bool g.up)) 3 (iV g.t.r.v)) 4 (.slice k.ak k.nk k.ck)) 5 (iV g.t.r.t)) 6 (iV g.t.ver)) 7 (.slice k.av k.nv k.cv)) 8 (.slice k.ad k.nd k.cd);exact⟨⟨k,none,0,0,rfl,(HB.o.own.low hT hlt).gin,HB.o.own.fr hF0,.inl rfl,rfl,kQ _,zal.nil _⟩,zam hw hT hx hw.size⟩ }
 (try dsimp only [aM] at u0);rw [q7] at u0
 clear e3 e6 Q3 Q6;have Q7:=uH q7;clear q7;go_upto_region 19 with fail
 clear u0;have HV:=uH (fun W=>ziq s m.u m.n W);unfold gsv at HV;have hR6:=zak b2.o;cases pd:pend s m
 {
 have HE:Hd (gHear g m= (g,if false=true then [] else [verd s m.u m.n],0)):=by have e:=HE0.o;rw [ghK_7 Q7.o,pd] at e;exact uH e
 clear HE0 HD pd Q7;refine km (S:=fun W' =>(ce W' B 0=some (.slice k.a k.n k.c)/\ce W' B 1=some (iV g.fu)/\ce W' B 2=some (.bool g.up)/\ce W' B 3=some (iV g.t.r.v)/\ce W' B 4=some (.slice k.ak k.nk k.ck)/\ce W' B 5=some (iV g.t.r.t)/\ce W' B 6=some (iV g.t.ver)/\ce W' B 7=some (.slice k.av k.nv k.cv)/\ce W' B 8=some (.slice k.ad k.nd k.cd))/\(ce W' S 0=some (iV s.n)/\ce W' S 1=some (iV s.v)/\ce W' S 2=some (.bool s.co)/\ce W' S 3=some (.bool s.ab)/\ce W' S 4=some (.bool s.en))/\ce W' (w.heap.size+1) 1=some (iV m.u)/\ce W' (w.heap.size+1) 2=some (iV m.n)/\W6.grownBy W' (some (w.heap.size+1+1))) (by kernel_rfl) (hearR hbx.o.box bS.o b1.o (by omega) (by omega) (by omega) (zaj (kS _ _).drew _)) ?_;intro hHeld;have b2d:=uH (zab b2.o (kS W6.heap.size W6).drew);refine Htk 0 ?_
 refine Htk 1 ?_
 refine Htk 2 ?_
 try simp only [sq]
 refine wpAnyH_take (i:=3) (v:=undef) (by simp only [KN,KM,KL];rfl) (by kernel_rfl) (by kernel_rfl) (by kernel_rfl) (by exact fun _ _ _ h=>h) (Or.inr ⟨by rfl,rfl⟩) (by assumption) ?_
 try simp only [sq]
 refine wpAnyH_take (i:=4) (v:=undef) (by simp only [KN,KM,KL];rfl) (by kernel_rfl) (by kernel_rfl) (by kernel_rfl) (by exact fun _ _ _ h=>h) (Or.inr ⟨by rfl,rfl⟩) (by assumption) ?_
 try simp only [sq]
 refine wpAnyH_take (i:=5) (v:=undef) (by simp only [KN,KM,KL];rfl) (by kernel_rfl) (by kernel_rfl) (by kernel_rfl) (by exact fun _ _ _ h=>h) (Or.inr ⟨by rfl,rfl⟩) (by assumption) ?_
 refine Htk 6 ?_
 refine Htk 7 ?_
 refine Htk 8 ?_
 refine Htk 9 ?_
 refine Htk 10 ?_
 refine Htk 11 ?_
 refine wr1 12 (fun K hK=> ?_);go_simp;refine(zae HV _).mono ?_;rintro e w8 ⟨rfl,hdw8⟩;have hgw8:=(zaj (kS W6.heap.size W6).drew (w.heap.size+1+1)).trans (zaj hdw8 (w.heap.size+1+1));go_wp2_with fail;refine hK.out _ _ (hearR hbx.o.box bS.o b1.o (by omega) (by omega) (by omega) (hgw8)) (fun hHeld=> ?_);clear hK K
 try simp only [sq]
 have b2v:=uH (zab b2d.o hdw8);refine wr1 13 (fun K hK=> ?_);go_simp;refine(ze3 false (verd s m.u m.n) rfl _).mono ?_;rintro e w9 ⟨⟨al,nl,cl,rfl,hml,hnl,hcl,hfl⟩,hb9⟩;have hg9:=(hgw8).trans (zaj hb9 (w.heap.size+1+1));go_wp2_with fail;refine hK.out _ _ (hearR hbx.o.box bS.o b1.o (by omega) (by omega) (by omega) (hg9)) (fun hHeld=> ?_);clear hK K
 try simp only [sq]
 have b2z:=uH (zab b2v.o hb9);obtain ⟨y0,y1,y2,y3,y4,y5,y6,y7,y8⟩:=cl9 b2z.o;obtain ⟨f0,f1,f2,f3,f4,f5,f6,f7,f8⟩:=fr9 b2z.o;have hT:=zac (zac (zac (zac (zac (zac (zac (zac (zac (kf w9 (some (w.heap.size+1+1))) 0 (.slice k.a k.n k.c)) 1 (iV g.fu)) 2 (.bool g.up)) 3 (iV g.t.r.v)) 4 (.slice k.ak k.nk k.ck)) 5 (iV g.t.r.t)) 6 (iV g.t.ver)) 7 (.slice k.av k.nv k.cv)) 8 (.slice k.ad k.nd k.cd);refine wr1 14 (fun K hK=> ?_);go_simp;refine hK.out _ _ (hearR hbx.o.box bS.o b1.o (by omega) (by omega) (by omega) (hg9.trans hT)) (fun hHeld=> ?_);clear hK K
 refine Htk 15 ?_
 refine Htk 16 ?_
 try simp only [sq]
 refine KE (by kernel_rfl) ?_ _;go_wp2_with fail;refine kT (v:=.tuple #[gtv g k,.slice al nl cl,iV 0]) (by simp [results,Tryz.results247,go_sem,gtv,y0,y1,y2,y3,y4,y5,y6,y7,y8]) rfl ?_;rw [HE.o];exact⟨⟨k,al,nl,cl,rfl,(hbx.o.own.low (hg9.trans hT) hlt).gin,hbx.o.own.fr hF0,hml.turns hT (za6 hfl (kw hR6 (hgw8).size)),hnl,hcl,hfl.lower (kc hw.size (hgw8).size)⟩,zam hw (hg9.trans hT) hx hw.size⟩ }
 have PD:=uH pd;clear pd;cases dd:decG s
 {
 have HE:Hd (gHear g m= (g,if true=true then [] else [verd s m.u m.n],0)):=by have e:=HE0.o;rw [ghK_7 Q7.o,PD.o,dd] at e;exact uH e
 clear HE0;rw [dd] at HD;clear dd PD Q7;refine km (S:=fun W' =>(ce W' B 0=some (.slice k.a k.n k.c)/\ce W' B 1=some (iV g.fu)/\ce W' B 2=some (.bool g.up)/\ce W' B 3=some (iV g.t.r.v)/\ce W' B 4=some (.slice k.ak k.nk k.ck)/\ce W' B 5=some (iV g.t.r.t)/\ce W' B 6=some (iV g.t.ver)/\ce W' B 7=some (.slice k.av k.nv k.cv)/\ce W' B 8=some (.slice k.ad k.nd k.cd))/\(ce W' S 0=some (iV s.n)/\ce W' S 1=some (iV s.v)/\ce W' S 2=some (.bool s.co)/\ce W' S 3=some (.bool s.ab)/\ce W' S 4=some (.bool s.en))/\ce W' (w.heap.size+1) 1=some (iV m.u)/\ce W' (w.heap.size+1) 2=some (iV m.n)/\W6.grownBy W' (some (w.heap.size+1+1))) (by kernel_rfl) (hearR hbx.o.box bS.o b1.o (by omega) (by omega) (by omega) (zaj (kS _ _).drew _)) ?_;intro hHeld;have b2d:=uH (zab b2.o (kS W6.heap.size W6).drew);refine Htk 0 ?_
 refine Htk 1 ?_
 refine Htk 2 ?_
 refine Htk 3 ?_
 refine Htk 7 ?_
 refine Htk 8 ?_
 refine Htk 9 ?_
 refine Htk 10 ?_
 refine Htk 11 ?_
 refine wr1 4 (fun K hK=> ?_);go_simp;refine(zae HD _).mono ?_;rintro e w7 ⟨rfl,hdw7⟩;have hgw7:=(zaj (kS W6.heap.size W6).drew (w.heap.size+1+1)).trans (zaj hdw7 (w.heap.size+1+1));go_wp2_with fail;refine hK.out _ _ (hearR hbx.o.box bS.o b1.o (by omega) (by omega) (by omega) (hgw7)) (fun hHeld=> ?_);clear hK K
 refine Htk 5 ?_
 refine Htk 6 ?_
 refine wr1 12 (fun K hK=> ?_);go_simp;refine(zae HV _).mono ?_;rintro e w8 ⟨rfl,hdw8⟩;have hgw8:=(hgw7).trans (zaj hdw8 (w.heap.size+1+1));go_wp2_with fail;refine hK.out _ _ (hearR hbx.o.box bS.o b1.o (by omega) (by omega) (by omega) (hgw8)) (fun hHeld=> ?_);clear hK K
 try simp only [sq]
 have b2v:=uH (zab (zab b2d.o hdw7) hdw8);refine wr1 13 (fun K hK=> ?_);go_simp;refine(ze3 true (verd s m.u m.n) rfl _).mono ?_;rintro e w9 ⟨⟨al,nl,cl,rfl,hml,hnl,hcl,hfl⟩,hb9⟩;have hg9:=(hgw8).trans (zaj hb9 (w.heap.size+1+1));go_wp2_with fail;refine hK.out _ _ (hearR hbx.o.box bS.o b1.o (by omega) (by omega) (by omega) (hg9)) (fun hHeld=> ?_);clear hK K
 try simp only [sq]
 have b2z:=uH (zab b2v.o hb9);obtain ⟨y0,y1,y2,y3,y4,y5,y6,y7,y8⟩:=cl9 b2z.o;obtain ⟨f0,f1,f2,f3,f4,f5,f6,f7,f8⟩:=fr9 b2z.o;have hT:=zac (zac (zac (zac (zac (zac (zac (zac (zac (kf w9 (some (w.heap.size+1+1))) 0 (.slice k.a k.n k.c)) 1 (iV g.fu)) 2 (.bool g.up)) 3 (iV g.t.r.v)) 4 (.slice k.ak k.nk k.ck)) 5 (iV g.t.r.t)) 6 (iV g.t.ver)) 7 (.slice k.av k.nv k.cv)) 8 (.slice k.ad k.nd k.cd);refine wr1 14 (fun K hK=> ?_);go_simp;refine hK.out _ _ (hearR hbx.o.box bS.o b1.o (by omega) (by omega) (by omega) (hg9.trans hT)) (fun hHeld=> ?_);clear hK K
 refine Htk 15 ?_
 refine Htk 16 ?_
 try simp only [sq]
 refine KE (by kernel_rfl) ?_ _;go_wp2_with fail;refine kT (v:=.tuple #[gtv g k,.slice al nl cl,iV 0]) (by simp [results,Tryz.results247,go_sem,gtv,y0,y1,y2,y3,y4,y5,y6,y7,y8]) rfl ?_;rw [HE.o];exact⟨⟨k,al,nl,cl,rfl,(hbx.o.own.low (hg9.trans hT) hlt).gin,hbx.o.own.fr hF0,hml.turns hT (za6 hfl (kw hR6 (hgw8).size)),hnl,hcl,hfl.lower (kc hw.size (hgw8).size)⟩,zam hw (hg9.trans hT) hx hw.size⟩ }
 {
 have HE:Hd (gHear g m= (g,if false=true then [] else [verd s m.u m.n],0)):=by have e:=HE0.o;rw [ghK_7 Q7.o,PD.o,dd] at e;exact uH e
 clear HE0;rw [dd] at HD;clear dd PD Q7;refine km (S:=fun W' =>(ce W' B 0=some (.slice k.a k.n k.c)/\ce W' B 1=some (iV g.fu)/\ce W' B 2=some (.bool g.up)/\ce W' B 3=some (iV g.t.r.v)/\ce W' B 4=some (.slice k.ak k.nk k.ck)/\ce W' B 5=some (iV g.t.r.t)/\ce W' B 6=some (iV g.t.ver)/\ce W' B 7=some (.slice k.av k.nv k.cv)/\ce W' B 8=some (.slice k.ad k.nd k.cd))/\(ce W' S 0=some (iV s.n)/\ce W' S 1=some (iV s.v)/\ce W' S 2=some (.bool s.co)/\ce W' S 3=some (.bool s.ab)/\ce W' S 4=some (.bool s.en))/\ce W' (w.heap.size+1) 1=some (iV m.u)/\ce W' (w.heap.size+1) 2=some (iV m.n)/\W6.grownBy W' (some (w.heap.size+1+1))) (by kernel_rfl) (hearR hbx.o.box bS.o b1.o (by omega) (by omega) (by omega) (zaj (kS _ _).drew _)) ?_;intro hHeld;have b2d:=uH (zab b2.o (kS W6.heap.size W6).drew);refine Htk 0 ?_
 refine Htk 1 ?_
 refine Htk 2 ?_
 refine Htk 3 ?_
 refine Htk 7 ?_
 refine Htk 8 ?_
 refine Htk 9 ?_
 refine Htk 10 ?_
 refine Htk 11 ?_
 refine wr1 4 (fun K hK=> ?_);go_simp;refine(zae HD _).mono ?_;rintro e w7 ⟨rfl,hdw7⟩;have hgw7:=(zaj (kS W6.heap.size W6).drew (w.heap.size+1+1)).trans (zaj hdw7 (w.heap.size+1+1));go_wp2_with fail;refine hK.out _ _ (hearR hbx.o.box bS.o b1.o (by omega) (by omega) (by omega) (hgw7)) (fun hHeld=> ?_);clear hK K
 refine Htk 5 ?_
 refine Htk 6 ?_
 refine wr1 12 (fun K hK=> ?_);go_simp;refine(zae HV _).mono ?_;rintro e w8 ⟨rfl,hdw8⟩;have hgw8:=(hgw7).trans (zaj hdw8 (w.heap.size+1+1));go_wp2_with fail;refine hK.out _ _ (hearR hbx.o.box bS.o b1.o (by omega) (by omega) (by omega) (hgw8)) (fun hHeld=> ?_);clear hK K
 try simp only [sq]
 have b2v:=uH (zab (zab b2d.o hdw7) hdw8);refine wr1 13 (fun K hK=> ?_);go_simp;refine(ze3 false (verd s m.u m.n) rfl _).mono ?_;rintro e w9 ⟨⟨al,nl,cl,rfl,hml,hnl,hcl,hfl⟩,hb9⟩;have hg9:=(hgw8).trans (zaj hb9 (w.heap.size+1+1));go_wp2_with fail;refine hK.out _ _ (hearR hbx.o.box bS.o b1.o (by omega) (by omega) (by omega) (hg9)) (fun hHeld=> ?_);clear hK K
 try simp only [sq]
 have b2z:=uH (zab b2v.o hb9);obtain ⟨y0,y1,y2,y3,y4,y5,y6,y7,y8⟩:=cl9 b2z.o;obtain ⟨f0,f1,f2,f3,f4,f5,f6,f7,f8⟩:=fr9 b2z.o;have hT:=zac (zac (zac (zac (zac (zac (zac (zac (zac (kf w9 (some (w.heap.size+1+1))) 0 (.slice k.a k.n k.c)) 1 (iV g.fu)) 2 (.bool g.up)) 3 (iV g.t.r.v)) 4 (.slice k.ak k.nk k.ck)) 5 (iV g.t.r.t)) 6 (iV g.t.ver)) 7 (.slice k.av k.nv k.cv)) 8 (.slice k.ad k.nd k.cd);refine wr1 14 (fun K hK=> ?_);go_simp;refine hK.out _ _ (hearR hbx.o.box bS.o b1.o (by omega) (by omega) (by omega) (hg9.trans hT)) (fun hHeld=> ?_);clear hK K
 refine Htk 15 ?_
 refine Htk 16 ?_
 try simp only [sq]
 refine KE (by kernel_rfl) ?_ _;go_wp2_with fail;refine kT (v:=.tuple #[gtv g k,.slice al nl cl,iV 0]) (by simp [results,Tryz.results247,go_sem,gtv,y0,y1,y2,y3,y4,y5,y6,y7,y8]) rfl ?_;rw [HE.o];exact⟨⟨k,al,nl,cl,rfl,(hbx.o.own.low (hg9.trans hT) hlt).gin,hbx.o.own.fr hF0,hml.turns hT (za6 hfl (kw hR6 (hgw8).size)),hnl,hcl,hfl.lower (kc hw.size (hgw8).size)⟩,zam hw (hg9.trans hT) hx hw.size⟩ }
end
structure Chg (K:Nat->Prop) (w w' :World):Prop where
 os:w'.os=w.os
 tape:w'.tape=w.tape
 output:w'.output=w.output
 size:w.heap.size<=w'.heap.size
 block: ∀k,k<w.heap.size->¬K k->w'.heap[k]?=w.heap[k]?
theorem Chg.refl (K:Nat->Prop) (w:World):Chg K w w:=⟨rfl,rfl,rfl,kQ _,fun _ _ _=>rfl⟩
theorem Chg.trans {a b c:World} (h:Chg K a b) (k:Chg K b c):Chg K a c:=
 ⟨k.os.trans h.os,k.tape.trans h.tape,k.output.trans h.output,kc h.size k.size,fun j hj hK=>(k.block j (kw hj h.size) hK).trans (h.block j hj hK)⟩
theorem Chg.of (h:bZ w w') (K:Nat->Prop):Chg K w w' :=⟨h.os,h.tape,h.output,h.size,fun k hk _=>h.block k hk⟩
theorem Chg.grown {r:Option Nat} (h:w.grownBy w' r) (hK: ∀b,r=some b->K b):Chg K w w' :=
 ⟨h.os,h.tape,h.output,h.size,fun k hk hn=>h.block k hk (fun e=>hn (hK k e.symm))⟩
theorem Chg.set (h:Chg K w w') {p:Addr} (hp:K p.block) (u:Value):Chg K w (w'.setCell p u):=
 h.trans ⟨rfl,rfl,rfl,by simp [World.setCell],fun k _ hn=>ki _ _ _ _ (fun e=>hn (e▸hp))⟩
theorem Chg.alloc (h:Chg K w w') (o:Obj):Chg K w (w'.alloc o):=h.trans (.of (bA1) K)
theorem Chg.drew (h:Chg K w w'):Chg K w w'.drew:=⟨h.os,h.tape,h.output,h.size,h.block⟩
theorem Chg.then {a:World} (h:Chg K a w) (hb:bZ w w'):Chg K a w' :=h.trans (.of hb K)
theorem Chg.bl (h:Chg K w w') (hK: ∀k,K k->F<=k) (hF:F<=w.heap.size):Below F w w' :=
 ⟨h.os,h.tape,h.output,h.size,fun k hk=>h.block k (kw hk hF) (fun e=>by have:=hK k e;omega)⟩
theorem Chg.blk {o:Obj} (h:w.heap[b]?=some o) (hc:Chg K w w') (hb: ¬K b):w'.heap[b]?=some o:=by
 rw [hc.block b (zak h) hb];exact h
theorem Chg.cell {p:Addr} {v:Value} (hc:Chg K w w') (h:w.cell? p=some v) (hb: ¬K p.block):w'.cell? p=some v:=by
 rw [World.cell?_of_block (hc.block p.block (zah h) hb)];exact h
theorem Chg.mono (h:Chg K w w') (hK: ∀k,K k->K' k):Chg K' w w' :=⟨h.os,h.tape,h.output,h.size,fun k hk hn=>h.block k hk (fun e=>hn (hK k e))⟩
def Ao {β:Type} (l:List β) (K:Nat->Prop) (a:oA):Prop:=l= []\/∀ad,a=some ad->¬K ad.block
theorem Ao.nil {β:Type} (K:Nat->Prop) (a:oA):Ao ([]:List β) K a:=.inl rfl
theorem Ao.no {β:Type} {l:List β} :Ao l (fun _=>False) a:=.inr fun _ _ h=>h
theorem Ao.mono {β:Type} {l:List β} (h:Ao l K a) (hK: ∀k,K' k->K k):Ao l K' a:=h.imp id fun h ad e hk=>h ad e (hK _ hk)
theorem Ao.fresh {β:Type} {l:List β} (h:zal F a) (hK: ∀k,K k->k<F):Ao l K a:=.inr fun ad e hk=>by have:=h ad e;have:=hK _ hk;omega
theorem Ao.at_ {β:Type} {l:List β} {off:Nat} (h: ¬K b):Ao l K (some ⟨b,off,none⟩):=.inr fun ad e=>by cases e;exact h
theorem zag.chg (h:zag w a xs) (hc:Chg K w w') (ha:Ao xs K a):zag w' a xs:=by
 rcases ha with ha|ha
 { exact .inl ha }
 rcases h with h| ⟨b,off,rfl,hi⟩
 { exact .inl h }
 { exact .inr ⟨b,off,rfl,fun i hl=>hc.cell (hi i hl) (ha ⟨b,off,none⟩ rfl)⟩ }
theorem zag.wide (h:zag w a xs) (ha:Ao xs K a) (hK: ∀b,K' b->K b\/w.heap.size<=b):Ao xs K' a:=by
 cases xs with
 |nil=>exact .inl rfl
 |cons x r=>
  rcases ha with ha|ha
  { cases ha }
  rcases h with h| ⟨b,off,rfl,hi⟩
  { cases h }
  {
  have hl:b<w.heap.size:=zah (hi 0 (by simp));exact .inr fun ad e hk=>by cases e;rcases hK _ hk with h|h;exact ha _ rfl h;exact absurd h (by show¬_<=b;omega) }
theorem zbz.chg {xs:List Bool} (h:zbz w a xs) (hc:Chg K w w') (ha:Ao xs K a):zbz w' a xs:=by
 rcases ha with ha|ha
 { exact .inl ha }
 rcases h with h| ⟨b,off,rfl,hi⟩
 { exact .inl h }
 { exact .inr ⟨b,off,rfl,fun i hl=>hc.cell (hi i hl) (ha ⟨b,off,none⟩ rfl)⟩ }
theorem zbz.wide {xs:List Bool} (h:zbz w a xs) (ha:Ao xs K a) (hK: ∀b,K' b->K b\/w.heap.size<=b):Ao xs K' a:=by
 cases xs with
 |nil=>exact .inl rfl
 |cons x r=>
  rcases ha with ha|ha
  { cases ha }
  rcases h with h| ⟨b,off,rfl,hi⟩
  { cases h }
  {
  have hl:b<w.heap.size:=zah (hi 0 (by simp));exact .inr fun ad e hk=>by cases e;rcases hK _ hk with h|h;exact ha _ rfl h;exact absurd h (by show¬_<=b;omega) }
theorem za1.chg {xs:LB} (h:za1 w a xs) (hc:Chg K w w') (ha:Ao xs K a):za1 w' a xs:=by
 rcases ha with ha|ha
 { exact .inl ha }
 rcases h with h| ⟨b,off,rfl,hi⟩
 { exact .inl h }
 { exact .inr ⟨b,off,rfl,fun i hl=>hc.cell (hi i hl) (ha ⟨b,off,none⟩ rfl)⟩ }
theorem za1.wide {xs:LB} (h:za1 w a xs) (ha:Ao xs K a) (hK: ∀b,K' b->K b\/w.heap.size<=b):Ao xs K' a:=by
 cases xs with
 |nil=>exact .inl rfl
 |cons x r=>
  rcases ha with ha|ha
  { cases ha }
  rcases h with h| ⟨b,off,rfl,hi⟩
  { cases h }
  {
  have hl:b<w.heap.size:=zah (hi 0 (by simp));exact .inr fun ad e hk=>by cases e;rcases hK _ hk with h|h;exact ha _ rfl h;exact absurd h (by show¬_<=b;omega) }
theorem zcr.chg {xs:List S2} (h:zcr w a xs) (hc:Chg K w w') (ha:Ao xs K a):zcr w' a xs:=by
 rcases ha with ha|ha
 { exact .inl ha }
 rcases h with h| ⟨b,off,rfl,hi⟩
 { exact .inl h }
 { exact .inr ⟨b,off,rfl,fun i s hl=>⟨hc.cell (hi i s hl).1 (ha ⟨b,off,none⟩ rfl),hc.cell (hi i s hl).2 (ha ⟨b,off,none⟩ rfl)⟩⟩ }
theorem zcr.wide {xs:List S2} (h:zcr w a xs) (ha:Ao xs K a) (hK: ∀b,K' b->K b\/w.heap.size<=b):Ao xs K' a:=by
 cases xs with
 |nil=>exact .inl rfl
 |cons x r=>
  rcases ha with ha|ha
  { cases ha }
  rcases h with h| ⟨b,off,rfl,hi⟩
  { cases h }
  {
  have hl:b<w.heap.size:=zah (hi 0 x rfl).1;exact .inr fun ad e hk=>by cases e;rcases hK _ hk with h|h;exact ha _ rfl h;exact absurd h (by show¬_<=b;omega) }
theorem zbm.chg {xs:List T3} (h:zbm w a xs) (hc:Chg K w w') (ha:Ao xs K a):zbm w' a xs:=by
 rcases ha with ha|ha
 { exact .inl ha }
 rcases h with h| ⟨b,off,rfl,hi⟩
 { exact .inl h }
 { exact .inr ⟨b,off,rfl,fun i s hl=>⟨hc.cell (hi i s hl).1 (ha ⟨b,off,none⟩ rfl),hc.cell (hi i s hl).2.1 (ha ⟨b,off,none⟩ rfl),hc.cell (hi i s hl).2.2 (ha ⟨b,off,none⟩ rfl)⟩⟩ }
theorem zbm.wide {xs:List T3} (h:zbm w a xs) (ha:Ao xs K a) (hK: ∀b,K' b->K b\/w.heap.size<=b):Ao xs K' a:=by
 cases xs with
 |nil=>exact .inl rfl
 |cons x r=>
  rcases ha with ha|ha
  { cases ha }
  rcases h with h| ⟨b,off,rfl,hi⟩
  { cases h }
  {
  have hl:b<w.heap.size:=zah (hi 0 x rfl).1;exact .inr fun ad e hk=>by cases e;rcases hK _ hk with h|h;exact ha _ rfl h;exact absurd h (by show¬_<=b;omega) }
def IsRow (w:World) (a:oA) (vs:LV):Prop:=
 vs= []\/∃b off,a=some ⟨b,off,none⟩/\∀j u,vs[j]?=some u->w.cell? ⟨b,off+j,none⟩=some u
theorem IsRow.chg (h:IsRow w a vs) (hc:Chg K w w') (ha:Ao vs K a):IsRow w' a vs:=by
 rcases ha with ha|ha
 { exact .inl ha }
 rcases h with h| ⟨b,off,rfl,hi⟩
 { exact .inl h }
 { exact .inr ⟨b,off,rfl,fun j u hl=>hc.cell (hi j u hl) (ha ⟨b,off,none⟩ rfl)⟩ }
theorem IsRow.wide {xs:LV} (h:IsRow w a xs) (ha:Ao xs K a) (hK: ∀b,K' b->K b\/w.heap.size<=b):Ao xs K' a:=by
 cases xs with
 |nil=>exact .inl rfl
 |cons x r=>
  rcases ha with ha|ha
  { cases ha }
  rcases h with h| ⟨b,off,rfl,hi⟩
  { cases h }
  {
  have hl:b<w.heap.size:=zah (hi 0 x rfl);exact .inr fun ad e hk=>by cases e;rcases hK _ hk with h|h;exact ha _ rfl h;exact absurd h (by show¬_<=b;omega) }
theorem IsRow.bl (h:IsRow w a vs) (hb:bZ w w'):IsRow w' a vs:=h.chg (.of hb fun _=>False) Ao.no
def Vs {α:Type} (R:α->LV->Prop):List α->LV->Prop
 | [],vs=>vs= []
 |x::l,vs=>∃c r,vs=c++r/\R x c/\Vs R l r
theorem Vs.mono {α:Type} {R R' :α->LV->Prop} (h: ∀x c,R x c->R' x c): ∀{l:List α} {vs:LV},Vs R l vs->Vs R' l vs
 | [],_,hv=>hv
 |_::_,_,⟨c,r,e,h1,h2⟩=>⟨c,r,e,h _ _ h1,Vs.mono h h2⟩
theorem Vs.app {α:Type} {R:α->LV->Prop}: ∀{l k:List α} {vs us:LV},Vs R l vs->Vs R k us->Vs R (l++k) (vs++us)
 | [],k,vs,us,h,hk=>by have h:vs= []:=h;subst h;exact hk
 |x::l,k,vs,us,⟨c,r,e,h1,h2⟩,hk=>⟨c,r++us,by rw [e,KW],h1,h2.app hk⟩
theorem Vs.len {α:Type} {R:α->LV->Prop} {k:Nat} (hR: ∀x c,R x c->c.length=k): ∀{l:List α} {vs:LV},Vs R l vs->vs.length=l.length * k
 | [],vs,h=>by have h:vs= []:=h;subst h;simp
 |x::l,vs,⟨c,r,e,h1,h2⟩=>by rw [e,kj,hR _ _ h1,h2.len hR,KX,Nat.add_mul];omega
theorem Vs.at_ {α:Type} {R:α->LV->Prop} (hR: ∀x c,R x c->c.length=k): ∀{l:List α} {vs:LV} (i:Nat) (x:α),Vs R l vs->l[i]?=some x->
 ∃p c q,vs=p++(c++q)/\p.length=i * k/\R x c/\Vs R (l.take i) p/\Vs R (l.drop (i+1)) q
 | [],_,i,x,_,hi=>by simp at hi
 |y::l,vs,0,x,⟨c,r,e,h1,h2⟩,hi=>by
  simp at hi;subst hi
  exact⟨[],c,r,by rw [e];rfl,by simp,h1,rfl,h2⟩
 |y::l,vs,i+1,x,⟨c,r,e,h1,h2⟩,hi=>by
  obtain ⟨p,d,q,e2,hp,hd,h3,h4⟩:=h2.at_ hR i x (by simpa using hi);exact⟨c++p,d,q,by rw [e,e2,KW],by rw [kj,hR _ _ h1,hp,Nat.add_mul];omega,hd,⟨c,p,rfl,h1,h3⟩,h4⟩
theorem Vs.take {α:Type} {R:α->LV->Prop} {k:Nat} (hR: ∀x c,R x c->c.length=k): ∀{l:List α} {vs:LV} (n:Nat),Vs R l vs->Vs R (l.take n) (vs.take (n * k))
 | [],vs,n,h=>by have h:vs= []:=h;subst h;simp;rfl
 |x::l,vs,0,_=>by simp;rfl
 |x::l,vs,n+1,⟨c,r,e,h1,h2⟩=>⟨c,r.take (n * k),by rw [e,List.take_append,kh (by rw [hR _ _ h1,Nat.add_mul];omega),hR _ _ h1];congr 2;rw [Nat.add_mul];omega,h1,h2.take hR n⟩
theorem Vs.put {α:Type} {R:α->LV->Prop} (hR: ∀x c,R x c->c.length=k) {l:List α} {x y:α} (h:Vs R l vs) (hi:l[i]?=some x) {d:LV} (hd:R y d):
 ∃p c q,vs=p++(c++q)/\p.length=i * k/\R x c/\Vs R (l.set i y) (p++(d++q)):=by
 obtain ⟨p,c,q,e,hp,hc,h1,h2⟩:=h.at_ hR i x hi;refine⟨p,c,q,e,hp,hc, ?_⟩;have hlt:=(kY.1 hi).1;rw [List.set_eq_take_append_cons_drop,KK hlt];exact h1.app ⟨d,q,rfl,hd,h2⟩
theorem Vs.cut {α:Type} {R:α->LV->Prop} (hR: ∀x c,R x c->c.length=k) {l:List α} {x:α} (h:Vs R l vs) (hi:l[i]?=some x):
 ∃p c q,vs=p++(c++q)/\p.length=i * k/\R x c/\Vs R (l.eraseIdx i) (p++q):=by
 obtain ⟨p,c,q,e,hp,hc,h1,h2⟩:=h.at_ hR i x hi;exact⟨p,c,q,e,hp,hc,by rw [List.eraseIdx_eq_take_drop_succ];exact h1.app h2⟩
def UR (w:World) (K:Nat->Prop) (u:Un) (c:LV):Prop:=
 ∃a n cp,c= [.slice a n cp,iV u.fu,.bool u.up,iV u.n,iV u.hv]/\BW w a n cp u.ws/\Ao u.ws K a
def MR (w:World) (K:Nat->Prop) (m:Ms) (c:LV):Prop:=
 ∃a n cp,c= [iV m.k,iV m.u,iV m.n,iV m.at',iV m.im,.slice a n cp,.bool m.y]/\BI w a n m.ws/\Ao m.ws K a
def LR (w:World) (K:Nat->Prop) (r:LI) (c:LV):Prop:=
 ∃a cp,c= [.slice a r.length cp]/\zag w a r/\r.length<=cp/\cp<=maxLen/\Ao r K a
def CR (w:World) (K:Nat->Prop) (x:Cp) (c:LV):Prop:=
 ∃m:CA,c= [iV x.n,iV x.v,iV x.u,.slice m.at_ m.nt m.ct,.slice m.ai m.ni m.ci]/\BT w m.at_ m.nt x.ts/\Ao x.ts K m.at_/\(∃vs,IsRow w m.ai vs/\Vs (LR w K) x.ims vs/\Ao vs K m.ai)/\x.ims.length=m.ni/\m.ni<=maxLen
theorem UR.len (u:Un) (c:LV) (h:UR w K u c):c.length=5:=by obtain ⟨_,_,_,rfl,_⟩:=h;rfl
theorem MR.len (u:Ms) (c:LV) (h:MR w K u c):c.length=7:=by obtain ⟨_,_,_,rfl,_⟩:=h;rfl
theorem LR.len (u:LI) (c:LV) (h:LR w K u c):c.length=1:=by obtain ⟨_,_,rfl,_⟩:=h;rfl
theorem CR.len (u:Cp) (c:LV) (h:CR w K u c):c.length=5:=by obtain ⟨_,rfl,_⟩:=h;rfl
theorem UR.chg (hc:Chg K w w') (u:Un) (c:LV) (h:UR w K u c):UR w' K u c:=by
 obtain ⟨a,n,cp,e,h1,h2⟩:=h;exact⟨a,n,cp,e,⟨h1.at_.chg hc h2,h1.len,h1.cap,h1.max⟩,h2⟩
theorem MR.chg (hc:Chg K w w') (u:Ms) (c:LV) (h:MR w K u c):MR w' K u c:=by
 obtain ⟨a,n,cp,e,h1,h2⟩:=h;exact⟨a,n,cp,e,⟨h1.at_.chg hc h2,h1.len,h1.max⟩,h2⟩
theorem LR.chg (hc:Chg K w w') (u:LI) (c:LV) (h:LR w K u c):LR w' K u c:=by
 obtain ⟨a,cp,e,h1,h3,h4,h2⟩:=h;exact⟨a,cp,e,h1.chg hc h2,h3,h4,h2⟩
theorem CR.chg (hc:Chg K w w') (u:Cp) (c:LV) (h:CR w K u c):CR w' K u c:=by
 obtain ⟨m,e,h1,h2,⟨vs,h3,h4,h7⟩,h5,h6⟩:=h;exact⟨m,e,⟨h1.at_.chg hc h2,h1.len,h1.max⟩,h2,⟨vs,h3.chg hc h7,h4.mono (LR.chg hc),h7⟩,h5,h6⟩
theorem UR.off (hK: ∀k,K' k->K k\/w.heap.size<=k) (u:Un) (c:LV) (h:UR w K u c):UR w K' u c:=by
 obtain ⟨a,n,cp,e,h1,h2⟩:=h;exact⟨a,n,cp,e,h1,h1.at_.wide h2 hK⟩
theorem MR.off (hK: ∀k,K' k->K k\/w.heap.size<=k) (u:Ms) (c:LV) (h:MR w K u c):MR w K' u c:=by
 obtain ⟨a,n,cp,e,h1,h2⟩:=h;exact⟨a,n,cp,e,h1,h1.at_.wide h2 hK⟩
theorem LR.off (hK: ∀k,K' k->K k\/w.heap.size<=k) (u:LI) (c:LV) (h:LR w K u c):LR w K' u c:=by
 obtain ⟨a,cp,e,h1,h3,h4,h2⟩:=h;exact⟨a,cp,e,h1,h3,h4,h1.wide h2 hK⟩
theorem CR.off (hK: ∀k,K' k->K k\/w.heap.size<=k) (u:Cp) (c:LV) (h:CR w K u c):CR w K' u c:=by
 obtain ⟨m,e,h1,h2,⟨vs,h3,h4,h7⟩,h5,h6⟩:=h;exact⟨m,e,h1,h1.at_.wide h2 hK,⟨vs,h3,h4.mono (LR.off hK),h3.wide h7 hK⟩,h5,h6⟩
theorem Vs.cell {α:Type} {R:α->LV->Prop} (hR: ∀x c,R x c->c.length=k) {l:List α} {x:α} (h:Vs R l vs) (hi:l[i]?=some x): ∃c,R x c/\∀j v,c[j]?=some v->vs[i * k+j]?=some v:=by
 obtain ⟨p,c,q,e,hp,hc,-,-⟩:=h.at_ hR i x hi;refine⟨c,hc,fun j v hv=> ?_⟩;have hj:=(kY.1 hv).1;rw [e,KC (by omega),hp,Nat.add_sub_cancel_left,KD hj];exact hv
theorem IsRow.elem {α:Type} {R:α->LV->Prop} (hR: ∀x c,R x c->c.length=k) (hk:0<k) {l:List α} {x:α} (hr:IsRow w a vs) (h:Vs R l vs) (hi:l[i]?=some x):
 ∃b off c,a=some ⟨b,off,none⟩/\R x c/\(∀j v,c[j]?=some v->w.cell? ⟨b,off+i * k+j,none⟩=some v):=by
 obtain ⟨c,hc,hg⟩:=h.cell hR hi
 rcases hr with rfl| ⟨b,off,rfl,hr⟩
 {
 have h0:=hR _ _ hc;have:=hg 0 c[0] (by simp [h0,hk])
 simp at this }
 { exact⟨b,off,c,rfl,hc,fun j v hv=>by rw [Nat.add_assoc];exact hr _ _ (hg j v hv)⟩ }
theorem zdz {l:List Un} (hr:IsRow w a vs) (h:Vs (UR w K) l vs) (hi:l[i]?=some u): ∃b off x n c,a=some ⟨b,off,none⟩/\BW w x n c u.ws/\Ao u.ws K x/\ce w b (off+i * 5)=some (.slice x n c)/\ce w b (off+i * 5+1)=some (iV u.fu)/\ce w b (off+i * 5+2)=some (.bool u.up)/\ce w b (off+i * 5+3)=some (iV u.n)/\ce w b (off+i * 5+4)=some (iV u.hv):=by
 obtain ⟨b,off,c,rfl,⟨x,n,cp,rfl,h1,h2⟩,hc⟩:=hr.elem UR.len (by decide) h hi;exact⟨b,off,x,n,cp,rfl,h1,h2,hc 0 _ rfl,hc 1 _ rfl,hc 2 _ rfl,hc 3 _ rfl,hc 4 _ rfl⟩
theorem zgd {l:List Ms} (hr:IsRow w a vs) (h:Vs (MR w K) l vs) (hi:l[i]?=some m): ∃b off x n c,a=some ⟨b,off,none⟩/\BI w x n m.ws/\Ao m.ws K x/\ce w b (off+i * 7)=some (iV m.k)/\ce w b (off+i * 7+1)=some (iV m.u)/\ce w b (off+i * 7+2)=some (iV m.n)/\ce w b (off+i * 7+3)=some (iV m.at')/\ce w b (off+i * 7+4)=some (iV m.im)/\ce w b (off+i * 7+5)=some (.slice x n c)/\ce w b (off+i * 7+6)=some (.bool m.y):=by
 obtain ⟨b,off,c,rfl,⟨x,n,cp,rfl,h1,h2⟩,hc⟩:=hr.elem MR.len (by decide) h hi;exact⟨b,off,x,n,cp,rfl,h1,h2,hc 0 _ rfl,hc 1 _ rfl,hc 2 _ rfl,hc 3 _ rfl,hc 4 _ rfl,hc 5 _ rfl,hc 6 _ rfl⟩
theorem ziz {ls:LL} (hr:IsRow w a vs) (h:Vs (LR w K) ls vs):ze6 w a ls:=by
 rcases List.eq_nil_or_concat ls with rfl| ⟨l0,x0,hx⟩
 { exact .inl rfl }
 {
 have hpos:0<ls.length:=by rw [hx];simp
 obtain ⟨b,off,c,rfl,-,-⟩:=hr.elem LR.len (by decide) h (kX hpos);refine .inr ⟨b,off,rfl,fun i r hi=> ?_⟩;obtain ⟨b',off',c,e,⟨x,cp,rfl,h1,h2,h3,-⟩,hc⟩:=hr.elem LR.len (by decide) h hi;cases e;have:=hc 0 _ rfl;rw [Ko] at this;exact⟨x,cp,this,h1,h2,h3⟩ }
structure CI (w:World) (K:Nat->Prop) (m:CA) (x:Cp):Prop where
 ts:BT w m.at_ m.nt x.ts
 ot:Ao x.ts K m.at_
 ims:BL w m.ai m.ni x.ims
 row: ∃vs,IsRow w m.ai vs/\Vs (LR w K) x.ims vs/\Ao vs K m.ai
theorem zfa {l:List Cp} {x:Cp} (hr:IsRow w a vs) (h:Vs (CR w K) l vs) (hi:l[i]?=some x): ∃b off m,a=some ⟨b,off,none⟩/\CI w K m x/\ce w b (off+i * 5)=some (iV x.n)/\ce w b (off+i * 5+1)=some (iV x.v)/\ce w b (off+i * 5+2)=some (iV x.u)/\ce w b (off+i * 5+3)=some (.slice m.at_ m.nt m.ct)/\ce w b (off+i * 5+4)=some (.slice m.ai m.ni m.ci):=by
 obtain ⟨b,off,c,rfl,⟨m,rfl,h1,h2,⟨us,h3,h4,h7⟩,h5,h6⟩,hc⟩:=hr.elem CR.len (by decide) h hi;exact⟨b,off,m,rfl,⟨h1,h2,⟨ziz h3 h4,h5,h6⟩,⟨us,h3,h4,h7⟩⟩,hc 0 _ rfl,hc 1 _ rfl,hc 2 _ rfl,hc 3 _ rfl,hc 4 _ rfl⟩
structure VA where
 ab:oA
 nb:Nat
 cb:Nat
 sa:oA
 ns:Nat
 cs:Nat
 g:GA
 au:oA
 nu:Nat
 cu:Nat
 ac:oA
 nc:Nat
 cc:Nat
 an:oA
 nn:Nat
 cn:Nat
def vhC (v:Vh) (m:VA):Array Value:=#[.slice m.ab m.nb m.cb,.slice m.sa m.ns m.cs,.slice m.g.a m.g.n m.g.c,iV v.g.fu,.bool v.g.up,iV v.g.t.r.v,.slice m.g.ak m.g.nk m.g.ck,iV v.g.t.r.t,iV v.g.t.ver,.slice m.g.av m.g.nv m.g.cv,.slice m.g.ad m.g.nd m.g.cd,.slice m.au m.nu m.cu,.slice m.ac m.nc m.cc,.slice m.an m.nn m.cn,iV v.now]
def vhv (v:Vh) (m:VA):Value:=.agg (vhC v m)
def vhO (v:Vh) (m:VA):Obj:=.cells (vhC v m) 40 (0,0)
structure GO (K:Nat->Prop) (m:GA) (g:Gt):Prop where
 a:Ao g.ws K m.a
 ak:Ao g.t.r.ks K m.ak
 av:Ao g.vo K m.av
 ad:Ao g.di K m.ad
theorem GO.fresh {m:GA} (h:GFr F m) (hK: ∀k,K k->k<F):GO K m g:=⟨.fresh h.a hK,.fresh h.ak hK,.fresh h.av hK,.fresh h.ad hK⟩
theorem GO.wide {m:GA} (h:GO K m g) (hg:GIn w m g) (hK: ∀k,K' k->K k\/w.heap.size<=k):GO K' m g:=⟨hg.ws.at_.wide h.a hK,hg.ks.at_.wide h.ak hK,hg.vo.at_.wide h.av hK,hg.di.at_.wide h.ad hK⟩
theorem GIn.chg {m:GA} (h:GIn w m g) (hc:Chg K w w') (ho:GO K m g):GIn w' m g:=
 ⟨⟨h.ws.at_.chg hc ho.a,h.ws.len,h.ws.cap,h.ws.max⟩,⟨h.ks.at_.chg hc ho.ak,h.ks.len,h.ks.max⟩,⟨h.vo.at_.chg hc ho.av,h.vo.len,h.vo.cap,h.vo.max⟩,⟨h.di.at_.chg hc ho.ad,h.di.len,h.di.cap,h.di.max⟩⟩
structure RIn {α:Type} (R:World->(Nat->Prop)->α->LV->Prop) (w:World) (K:Nat->Prop) (a:oA) (n c:Nat) (l:List α):Prop where
 row: ∃vs,IsRow w a vs/\Vs (R w K) l vs/\Ao vs K a
 len:l.length=n
 cap:n<=c
 max:n<=maxLen
section
variable {α:Type} {R:World->(Nat->Prop)->α->LV->Prop} {K K' :Nat->Prop} {w w' :World} {a:oA} {n c:Nat} {l:List α}
theorem RIn.chg (hR: ∀{w w' :World} {K:Nat->Prop},Chg K w w' ->∀x c,R w K x c->R w' K x c) (h:RIn R w K a n c l) (hc:Chg K w w'):RIn R w' K a n c l:=by
 obtain ⟨vs,h1,h2,h3⟩:=h.row;exact⟨⟨vs,h1.chg hc h3,h2.mono (hR hc),h3⟩,h.len,h.cap,h.max⟩
theorem RIn.wide (hO: ∀{w:World} {K K' :Nat->Prop},(∀b,K' b->K b\/w.heap.size<=b)->∀x c,R w K x c->R w K' x c) (h:RIn R w K a n c l) (hK: ∀b,K' b->K b\/w.heap.size<=b):RIn R w K' a n c l:=by
 obtain ⟨vs,h1,h2,h3⟩:=h.row;exact⟨⟨vs,h1,h2.mono (hO hK),h1.wide h3 hK⟩,h.len,h.cap,h.max⟩
end
structure VIn (w:World) (K:Nat->Prop) (m:VA) (v:Vh):Prop where
 ss:BB w m.ab m.nb m.cb v.ss
 sg:BG w m.sa m.ns v.sg
 g:GIn w m.g v.g
 us:RIn UR w K m.au m.nu m.cu v.us
 cs:RIn CR w K m.ac m.nc m.cc v.cs
 net:RIn MR w K m.an m.nn m.cn v.net
 ob:Ao v.ss K m.ab
 os:Ao v.sg K m.sa
 og:GO K m.g v.g
theorem VIn.chg {m:VA} {v:Vh} (h:VIn w K m v) (hc:Chg K w w'):VIn w' K m v:=
 ⟨⟨h.ss.at_.chg hc h.ob,h.ss.len,h.ss.cap,h.ss.max,h.ss.short⟩,⟨h.sg.at_.chg hc h.os,h.sg.len,h.sg.max⟩,h.g.chg hc h.og,h.us.chg UR.chg hc,h.cs.chg CR.chg hc,h.net.chg MR.chg hc,h.ob,h.os,h.og⟩
theorem VIn.bl {m:VA} {v:Vh} (h:VIn w K m v) (hb:bZ w w'):VIn w' K m v:=h.chg (.of hb K)
theorem VIn.wide {m:VA} {v:Vh} (h:VIn w K m v) (hK: ∀k,K' k->K k\/w.heap.size<=k):VIn w K' m v:=
 ⟨h.ss,h.sg,h.g,h.us.wide UR.off hK,h.cs.wide CR.off hK,h.net.wide MR.off hK,h.ss.at_.wide h.ob hK,h.sg.at_.wide h.os hK,h.og.wide h.g hK⟩
abbrev aV (m:VA) (v:Vh):Array Value:=#[.slice m.ab m.nb m.cb,.slice m.sa m.ns m.cs,.slice m.g.a m.g.n m.g.c,iV v.g.fu,.bool v.g.up,iV v.g.t.r.v,.slice m.g.ak m.g.nk m.g.ck,iV v.g.t.r.t,iV v.g.t.ver,.slice m.g.av m.g.nv m.g.cv,.slice m.g.ad m.g.nd m.g.cd,.slice m.au m.nu m.cu,.slice m.ac m.nc m.cc,.slice m.an m.nn m.cn,iV v.now]
abbrev aC (c:Cp) (m:CA):Array Value:=#[iV c.n,iV c.v,iV c.u,.slice m.at_ m.nt m.ct,.slice m.ai m.ni m.ci]
theorem zc1 (P:Program) (w:World) (t ty e:TypeId) (i:TypeInfo) (k:Nat) (cur:Array Value) (a:oA) (n c:Nat) (vs:LV) (ht:P.underlying t=some (.slice e)) (hi:P.info? e=some i) (hk:i.size=k) (hk0:0<k) (hz:cur.size=n * k)
 (hr:IsRow w a vs) (hl:vs.length=n * k) (h1: ∀v∈vs,v.oneCell' =true):
 (Builtin.copy_ #[t,t] ty #[sV w.heap.size n n,.slice a n c]).run P (w.alloc (.cells cur e))=.ok (goInt n) (w.alloc (.cells vs.toArray e)):=by
 rcases hr with rfl| ⟨b,off,rfl,hc⟩
 {
 have hn0:n=0:=by
  rcases Nat.mul_eq_zero.1 (show n * k=0 by simpa using hl.symm) with h|h
  { exact h }
  { omega }
 subst hn0;have hcur:cur=#[]:=Array.eq_empty_of_size_eq_zero (by rw [hz,Nat.zero_mul]);subst hcur;have hl2: ∀x:Addr,(loadCells x 0).run P (w.alloc (.cells #[] e))=.ok #[] (w.alloc (.cells #[] e)):=fun x=>by simpa using run_loadCells_list (P:=P) (w.alloc (.cells #[] e)) x [] (by simp)
 cases a with
 |none=>simp [Builtin.copy_,run_underlying ht,Builtin.lenOf,Builtin.firstCells,sizeOf,typeInfo,hi,storeCells]
 |some ad=>simp [Builtin.copy_,run_underlying ht,Builtin.lenOf,Builtin.firstCells,sizeOf,typeInfo,hi,hl2,storeCells] }
 {
 have hsrc: ∀j v,vs[j]?=some v->(w.alloc (.cells cur e)).cell? ((⟨b,off,none⟩:Addr).add j)=some v:=fun j v hv=>by
  rw [zc2,((kS w.heap.size w).alloc (kQ _) (.cells cur e)).cell (zah (hc j v hv))];exact hc j v hv
 have hld:=run_loadCells_list (P:=P) (w.alloc (.cells cur e)) ⟨b,off,none⟩ vs hsrc;have hst:=run_storeCells_at P w.heap.size 0 e vs 0 cur (w.alloc (.cells cur e)) (kP w _) (by simp [hl,hz]) h1;have hx:cur.toList.take (0+0)++vs++cur.toList.drop (0+0+vs.length)=vs:=by
  rw [List.drop_of_length_le (by simp [hl,hz])];simp
 rw [hx,World.setRow_alloc_new] at hst;rw [hl] at hld;have hmin:Nat.min n n=n:=Nat.min_self n
 simp [Builtin.copy_,run_underlying ht,Builtin.lenOf,Builtin.firstCells,sizeOf,typeInfo,hi,hk,hmin,hld,hst] }
theorem zno (P:Program) (w:World) (t e:TypeId) (i:TypeInfo) (z:Value) (k bytes:Nat) (n:Nat) (ht:P.underlying t=some (.slice e)) (hi:P.info? e=some i) (hz:i.zero=some z) (hk:i.size=k) (hb:i.bytes=bytes) (h:n * bytes<=281474976710656) (hm:n<=maxLen):
 (Instr.makeSlice t (iV n) (iV n)).run P w=.ok (sV w.heap.size n n) (w.alloc (.cells (madeCells z.cells (n * k)) e)):=by
 have h2: ((n * bytes:Nat):Int)<=281474976710656:=by omega
 rw [Int.natCast_mul,Int.mul_comm,<-hb] at h2;have:=run_make (P:=P) w t e i z ht hi hz .i64 .i64 n n (by omega) (by omega) h2 (by unfold maxLen at hm;omega);rw [hk,kp] at this;exact this
theorem zbh (P:Program) (w:World) (t e:TypeId) (i:TypeInfo) (z:Value) (k bytes:Nat) (n:Nat) (ht:P.underlying t=some (.slice e)) (hi:P.info? e=some i) (hz:i.zero=some z) (hk:i.size=k) (hb:i.bytes=bytes) (h:n * bytes<=281474976710656) (hm:n<=maxLen):
 ∃cur,cur.size=n * k/\(Instr.makeSlice t (iV n) (iV n)).run P w=.ok (sV w.heap.size n n) (w.alloc (.cells cur e)):=
 ⟨_,size_madeCells _ _,zno P w t e i z k bytes n ht hi hz hk hb h hm⟩
theorem infoCpS: (Tryz.prog.info? 9).map (fun i=>(i.zero,i.size,i.bytes))=some (some (.string ⟨#[]⟩),1,16):=by kernel_rfl
theorem zph (a:oA) (n c:Nat) (vs:LV) (w:World) (h:IsRow w a vs) (hl:vs.length=n * 1) (h1: ∀v∈vs,v.oneCell' =true) (hm:n<=1000000):
 Cq 141 #[.slice a n c] w fun e w' =>e=.returned (sV w.heap.size n n)/\w' =w.alloc (.cells vs.toArray 9):=by
 obtain ⟨irr,hir,rz0,rz1,rz2⟩:=info_parts infoCpS;obtain ⟨cur,hcs,hmk⟩:=zbh Tryz.prog w 22 9 irr _ 1 16 n Tryz.underlying22 hir rz0 rz1 rz2 (by omega) (by unfold maxLen;omega);have hcp:=fun ty=>zc1 Tryz.prog w 22 ty 9 irr 1 cur a n c vs Tryz.underlying22 hir rz1 (by decide) hcs h hl h1
 clear h h1 hl hcs;go_enter Tryz.func141,Tryz.ntmps141;go_wp2;go_ret;exact⟨rfl,rfl⟩
theorem infoCpI: (Tryz.prog.info? 3).map (fun i=>(i.zero,i.size,i.bytes))=some (some (iV 0),1,8):=by kernel_rfl
theorem zek (a:oA) (n c:Nat) (vs:LV) (w:World) (h:IsRow w a vs) (hl:vs.length=n * 1) (h1: ∀v∈vs,v.oneCell' =true) (hm:n<=1000000):
 Cq 184 #[.slice a n c] w fun e w' =>e=.returned (sV w.heap.size n n)/\w' =w.alloc (.cells vs.toArray 3):=by
 obtain ⟨irr,hir,rz0,rz1,rz2⟩:=info_parts infoCpI;obtain ⟨cur,hcs,hmk⟩:=zbh Tryz.prog w 26 3 irr _ 1 8 n Tryz.underlying26 hir rz0 rz1 rz2 (by omega) (by unfold maxLen;omega);have hcp:=fun ty=>zc1 Tryz.prog w 26 ty 3 irr 1 cur a n c vs Tryz.underlying26 hir rz1 (by decide) hcs h hl h1
 clear h h1 hl hcs;go_enter Tryz.func184,Tryz.ntmps184;go_wp2;go_ret;exact⟨rfl,rfl⟩
theorem infoCpB: (Tryz.prog.info? 4).map (fun i=>(i.zero,i.size,i.bytes))=some (some (.bool false),1,1):=by kernel_rfl
theorem ziw (a:oA) (n c:Nat) (vs:LV) (w:World) (h:IsRow w a vs) (hl:vs.length=n * 1) (h1: ∀v∈vs,v.oneCell' =true) (hm:n<=1000000):
 Cq 185 #[.slice a n c] w fun e w' =>e=.returned (sV w.heap.size n n)/\w' =w.alloc (.cells vs.toArray 4):=by
 obtain ⟨irr,hir,rz0,rz1,rz2⟩:=info_parts infoCpB;obtain ⟨cur,hcs,hmk⟩:=zbh Tryz.prog w 33 4 irr _ 1 1 n Tryz.underlying33 hir rz0 rz1 rz2 (by omega) (by unfold maxLen;omega);have hcp:=fun ty=>zc1 Tryz.prog w 33 ty 4 irr 1 cur a n c vs Tryz.underlying33 hir rz1 (by decide) hcs h hl h1
 clear h h1 hl hcs;go_enter Tryz.func185,Tryz.ntmps185;go_wp2;go_ret;exact⟨rfl,rfl⟩
theorem infoCpG: (Tryz.prog.info? 111).map (fun i=>(i.zero,i.size,i.bytes))=some (some (.agg #[iV 0,iV 0]),2,16):=by kernel_rfl
theorem zip (a:oA) (n c:Nat) (vs:LV) (w:World) (h:IsRow w a vs) (hl:vs.length=n * 2) (h1: ∀v∈vs,v.oneCell' =true) (hm:n<=1000000):
 Cq 43 #[.slice a n c] w fun e w' =>e=.returned (sV w.heap.size n n)/\w' =w.alloc (.cells vs.toArray 111):=by
 obtain ⟨irr,hir,rz0,rz1,rz2⟩:=info_parts infoCpG;obtain ⟨cur,hcs,hmk⟩:=zbh Tryz.prog w 25 111 irr _ 2 16 n Tryz.underlying25 hir rz0 rz1 rz2 (by omega) (by unfold maxLen;omega);have hcp:=fun ty=>zc1 Tryz.prog w 25 ty 111 irr 2 cur a n c vs Tryz.underlying25 hir rz1 (by decide) hcs h hl h1
 clear h h1 hl hcs;go_enter Tryz.func43,Tryz.ntmps43;go_wp2;go_ret;exact⟨rfl,rfl⟩
theorem infoCpT: (Tryz.prog.info? 163).map (fun i=>(i.zero,i.size,i.bytes))=some (some (.agg #[iV 0,iV 0,iV 0]),3,24):=by kernel_rfl
theorem zpc (a:oA) (n c:Nat) (vs:LV) (w:World) (h:IsRow w a vs) (hl:vs.length=n * 3) (h1: ∀v∈vs,v.oneCell' =true) (hm:n<=1000000):
 Cq 186 #[.slice a n c] w fun e w' =>e=.returned (sV w.heap.size n n)/\w' =w.alloc (.cells vs.toArray 163):=by
 obtain ⟨irr,hir,rz0,rz1,rz2⟩:=info_parts infoCpT;obtain ⟨cur,hcs,hmk⟩:=zbh Tryz.prog w 43 163 irr _ 3 24 n Tryz.underlying43 hir rz0 rz1 rz2 (by omega) (by unfold maxLen;omega);have hcp:=fun ty=>zc1 Tryz.prog w 43 ty 163 irr 3 cur a n c vs Tryz.underlying43 hir rz1 (by decide) hcs h hl h1
 clear h h1 hl hcs;go_enter Tryz.func186,Tryz.ntmps186;go_wp2;go_ret;exact⟨rfl,rfl⟩
def puts (w:World) (g o:Nat):LV->World
 | []=>w
 |v::r=>puts (w.setCell ⟨g,o,none⟩ v) g (o+1) r
theorem zbn (g:Nat): ∀(c:LV) (w:World) (o:Nat),Chg (fun b=>b=g) w (puts w g o c)
 | [],w,_=>.refl _ w
 |v::r,w,o=>((Chg.refl (fun b=>b=g) w).set (p:=⟨g,o,none⟩) rfl v).trans (zbn g r _ _)
theorem zl5 (g:Nat): ∀(c:LV) (w:World) (o:Nat),(puts w g o c).heap.size=w.heap.size
 | [],w,_=>rfl
 |v::r,w,o=>by show(puts _ g _ r).heap.size=_;rw [zl5 g r];simp [World.setCell]
theorem zi3 (g:Nat) (t:TypeId): ∀(c:LV) (w:World) (o:Nat) (cur:Array Value),w.heap[g]?=some (.cells cur t (0,0))->o+c.length<=cur.size->
 ∃cur',(puts w g o c).heap[g]?=some (.cells cur' t (0,0))/\cur'.size=cur.size/\cur'.toList=cur.toList.take o++c++cur.toList.drop (o+c.length)
 | [],w,o,cur,h,_=>⟨cur,h,rfl,by simp⟩
 |v::r,w,o,cur,h,hl=>by
  have h2: (w.setCell ⟨g,o,none⟩ v).heap[g]?=some (.cells (cur.setIfInBounds o v) t (0,0)):=by
   simp only [World.setCell,KP]
   simp [h]
  simp only [KX] at hl;obtain ⟨cur',h3,h4,h5⟩:=zi3 g t r _ (o+1) _ h2 (by simp;omega);refine⟨cur',h3,by simpa using h4, ?_⟩;rw [h5];have ho:o<cur.toList.length:=by simp;omega
  rw [Array.toList_setIfInBounds,List.take_set,List.drop_set];have e1: (cur.toList.take (o+1)).set o v=cur.toList.take o++ [v]:=by
   rw [kl ho,List.set_append_right _ _ (by simp;omega)];have ho2:o<=cur.size:=by simpa using Nat.le_of_lt ho
   simp [Nat.min_eq_left ho2]
  rw [e1,KK (by omega)];simp only [KW,KX,List.singleton_append]
  congr 3
  omega
abbrev Out (g:Nat) (b:Nat):Prop:=b<=g
structure CInv {α:Type} (R:World->(Nat->Prop)->α->LV->Prop) (k:Nat) (t:TypeId) (g n:Nat) (w:World) (l:List α) (i:Nat) (wr:World):Prop where
 bel:bZ w wr
 row: ∃cur,wr.heap[g]?=some (.cells cur t (0,0))/\cur.size=n * k/\Vs (R wr (Out g)) (l.take i) (cur.toList.take (i * k))
def zhe {α:Type} (R:World->(Nat->Prop)->α->LV->Prop) (k:Nat) (t:TypeId) (w:World) (l:List α) (e:Ending) (w' :World):Prop:=
 (∃g us,w.heap.size<=g/\g<w'.heap.size/\e=.returned (sV g l.length l.length)/\w'.heap[g]?=some (.cells us.toArray t (0,0))/\us.length=l.length * k/\Vs (R w' (Out g)) l us)/\bZ w w'
section
variable {α:Type} {R:World->(Nat->Prop)->α->LV->Prop} {k:Nat} {t:TypeId} {g n:Nat} {w:World} {l:List α}
theorem CInv.first (hs:cur.size=n * k):CInv R k t w.heap.size n w l 0 (w.alloc (.cells cur t)):=
 ⟨bA1,cur,kP _ _,hs,by simp;rfl⟩
theorem CInv.lt {wr:World} (h:CInv R k t g n w l i wr):g<wr.heap.size:=by obtain ⟨cur,h1,_⟩:=h.row;exact zak h1
theorem CInv.step (hR: ∀{w w' :World} {K:Nat->Prop},Chg K w w' ->∀x c,R w K x c->R w' K x c) (hO: ∀{w:World} {K K' :Nat->Prop},(∀b,K' b->K b\/w.heap.size<=b)->∀x c,R w K x c->R w K' x c) (hL: ∀{w:World} {K:Nat->Prop} x c,R w K x c->c.length=k)
 {i:Nat} {wr w2:World} {x:α} {c:LV} (h:CInv R k t g n w l i wr) (hg:w.heap.size<=g) (hx:l[i]?=some x) (hn:l.length<=n) (hb:bZ wr w2) (hc:R w2 (Out (wr.heap.size - 1)) x c):
 CInv R k t g n w l (i+1) (puts w2 g (i * k) c):=by
 obtain ⟨cur,h1,h2,h3⟩:=h.row;have hlt:=zak h1;have hil:=(kY.1 hx).1;have hck:=hL x c hc;have hs:i * k+c.length<=cur.size:=by
  rw [hck,h2,<-Nat.succ_mul];exact Kk _ (by omega)
 obtain ⟨cur',q1,q2,q3⟩:=zi3 g t c w2 (i * k) cur (zab h1 hb) hs;have hch:Chg (Out g) w2 (puts w2 g (i * k) c):=(zbn g c w2 _).mono (fun b e=>by show b<=g;omega);refine⟨(bT h.bel hb).trans ((zbn g c w2 _).bl (fun b e=>by rw [e];exact hg) (kc h.bel.size hb.size)),cur',q1,q2.trans h2, ?_⟩
 {
 rw [q3,Kn (by rw [kj,KQ,kK (by simp;omega),hck,Nat.succ_mul];omega)];have e0: (cur.toList.take (i * k)++c).take ((i+1)* k)=cur.toList.take (i * k)++c:=kh (by rw [kj,KQ,kK (by simp;omega),hck,Nat.succ_mul];omega);rw [e0,List.take_add_one,hx];have e1:Vs (R (puts w2 g (i * k) c) (Out g)) (l.take i) (cur.toList.take (i * k)):=h3.mono (fun x c hx=>hR hch x c (hR (.of hb _) x c hx));exact e1.app ⟨c, [],by simp,hR hch x c (hO (fun b e=>.inl (by show b<=wr.heap.size - 1;have e:b<=g:=e;omega)) x c hc),rfl⟩ }
theorem CInv.last {wr:World} (h:CInv R k t g l.length w l l.length wr) (hg:w.heap.size<=g):zhe R k t w l (.returned (sV g l.length l.length)) wr:=by
 obtain ⟨cur,h1,h2,h3⟩:=h.row;rw [List.take_length,kh (by simp;omega)] at h3;exact⟨⟨g,cur.toList,hg,zak h1,rfl,by simpa using h1,by simpa using h2,h3⟩,h.bel⟩
end
section
attribute [local go_sem ↓] kM kO
theorem zg6 (h:zag w a xs):IsRow w a (vals xs):=by
 rcases h with rfl| ⟨b,off,rfl,hc⟩
 { exact .inl rfl }
 {
 refine .inr ⟨b,off,rfl,fun j u hu=> ?_⟩;have hj:j<xs.length:=by
  have:=(kY.1 hu).1
  simpa [vals] using this
 rw [zc9 xs j hj] at hu;cases hu;exact hc j hj }
theorem zgw (h:IsRow w a (vals xs)):zag w a xs:=by
 rcases h with h| ⟨b,off,rfl,hc⟩
 { exact .inl (by simpa [vals] using h) }
 { exact .inr ⟨b,off,rfl,fun i hi=>hc i _ (zc9 xs i hi)⟩ }
theorem new_row (w:World) (vs:LV) (t:TypeId):IsRow (w.alloc (.cells vs.toArray t)) (some ⟨w.heap.size,0,none⟩) vs:=
 .inr ⟨w.heap.size,0,rfl,fun j u hu=>zaa (kP w _) _ _ (by simpa using hu)⟩
theorem zcq {g:Nat} (h:w.heap[g]?=some (.cells vs.toArray t (0,0))):IsRow w (some ⟨g,0,none⟩) vs:=
 .inr ⟨g,0,rfl,fun j u hu=>zaa h _ _ (by simpa using hu)⟩
def CpI (w:World) (n:Nat) (xs:LI) (g:Nat) (w' :World):Prop:=w.heap.size<=g/\g<w'.heap.size/\BI w' (some ⟨g,0,none⟩) n xs
theorem zds (w:World) (o1 o2 o3:Obj):bZ w (((w.alloc o1).alloc o2).alloc o3):=(bA2).alloc (by simp;omega) _
theorem zdv (w:World) (o1 o2:Obj):bZ w ((w.alloc o1).alloc o2):=bA2
theorem new3 (w:World) (o1 o2:Obj) (vs:LV) (t:TypeId):IsRow (((w.alloc o1).alloc o2).alloc (.cells vs.toArray t)) (some ⟨w.heap.size+1+1,0,none⟩) vs:=zcq (zb9 _ _ _ _)
theorem cpI3 {o1 o2:Obj} (h:xs.length=n) (hm:n<=1000000):CpI w n xs (w.heap.size+1+1) (((w.alloc o1).alloc o2).alloc (.cells (vals xs).toArray t)):=
 ⟨by omega,by simp,⟨zgw (new3 _ _ _ _ _),h,by unfold maxLen;omega⟩⟩
theorem zf0 (m:Ms) (a:oA) (n c:Nat) (w:World) (h:BI w a n m.ws) (hn:n<=1000000):
 Cq 122 #[msv m a n c] w fun e w' =>(∃g,CpI w n m.ws g w' /\e=.returned (msv m (some ⟨g,0,none⟩) n n))/\bZ w w' :=by
 have HC:=uH (fun W (hW:bZ w W)=>zek a n c (vals m.ws) W (zg6 (h.bl hW).at_) (by rw [za3,h.len,Ko]) (zbu _) hn);have HL:=uH h.len;clear h;unfold msv;go_enter Tryz.func122,Tryz.ntmps122;go_wp2_with fail;refine(zae HC _ (bA2)).mono ?_;rintro e w1 ⟨rfl,rfl⟩;go_wp2_with fail;refine kT (v:=.agg #[iV m.k,iV m.u,iV m.n,iV m.at',iV m.im,sV (w.heap.size+1+1) n n,.bool m.y]) (by simp [results,Tryz.results122,go_sem]) rfl ?_;exact⟨⟨w.heap.size+1+1,cpI3 HL.o (by omega),rfl⟩,zds _ _ _ _⟩
theorem zha (xs:LI) (fu:Int) (a:oA) (n c:Nat) (w:World) (h:BI w a n xs) (hn:n<=1000000):
 Cq 118 #[.agg #[.slice a n c,iV fu]] w fun e w' =>e=.returned (.agg #[sV (w.heap.size+1+1) n n,iV fu])/\w' = ((w.alloc (.cells #[sV (w.heap.size+1+1) n n,iV fu] 28)).alloc (.cells #[sV (w.heap.size+1+1) n n,iV fu] 28)).alloc (.cells (vals xs).toArray 3):=by
 have HC:=uH (fun W (hW:bZ w W)=>zek a n c (vals xs) W (zg6 (h.bl hW).at_) (by rw [za3,h.len,Ko]) (zbu _) hn);clear h;go_enter Tryz.func118,Tryz.ntmps118;go_wp2_with fail;refine(zae HC _ (zdv _ _ _)).mono ?_;rintro e w1 ⟨rfl,rfl⟩;go_wp2_with fail;refine kT (v:=.agg #[sV (w.heap.size+1+1) n n,iV fu]) (by simp [results,Tryz.results118,go_sem]) rfl ?_;exact⟨rfl,rfl⟩
theorem zok (u:Un) (a:oA) (n c:Nat) (w:World) (h:BI w a n u.ws) (hn:n<=1000000):
 Cq 117 #[unv u a n c] w fun e w' =>(∃g,CpI w n u.ws g w' /\e=.returned (unv u (some ⟨g,0,none⟩) n n))/\bZ w w' :=by
 have HC:=uH (fun W (hW:bZ w W)=>zha u.ws u.fu a n c W (h.bl hW) hn);have HL:=uH h.len;clear h;unfold unv;go_enter Tryz.func117,Tryz.ntmps117;go_wp2_with fail;refine(zae HC _ (zdv _ _ _)).mono ?_;rintro e w1 ⟨rfl,rfl⟩;go_wp2_with fail;refine kT (v:=.agg #[sV (w.heap.size+1+1+1+1) n n,iV u.fu,.bool u.up,iV u.n,iV u.hv]) (by simp [results,Tryz.results117,go_sem]) rfl ?_;refine⟨⟨w.heap.size+1+1+1+1, ?_,rfl⟩, ?_⟩
 {
 have q:=cpI3 (w:=(w.alloc (.cells #[sV (w.heap.size+1+1+1+1) n n,iV u.fu,.bool u.up,iV u.n,iV u.hv] 82)).alloc (.cells #[sV (w.heap.size+1+1+1+1) n n,iV u.fu,.bool u.up,iV u.n,iV u.hv] 82)) (o1:=(.cells #[sV (w.heap.size+1+1+1+1) n n,iV u.fu] 28)) (o2:=(.cells #[sV (w.heap.size+1+1+1+1) n n,iV u.fu] 28)) (t:=3) HL.o (by omega);simp only [KB] at q;exact⟨by omega,by simp,q.2.2⟩ }
 {
 exact(zdv _ _ _).trans ((zds _ _ _ _).mono (by simp;omega)) }
theorem zmm (xs:LI) (a:oA) (n c:Nat) (w:World) (h:BI w a n xs) (hn:n<=1000000):
 Cq 188 #[.slice a n c] w fun e w' =>e=.returned (sV w.heap.size n n)/\w' =w.alloc (.cells (vals xs).toArray 3):=by
 have HC:=uH (zek a n c (vals xs) w (zg6 h.at_) (by rw [za3,h.len,Ko]) (zbu _) hn);clear h;go_enter Tryz.func188,Tryz.ntmps188;go_wp2_with fail;refine(zae HC).mono ?_;rintro e w1 ⟨rfl,rfl⟩;go_wp2_with fail;go_ret;exact⟨rfl,rfl⟩
def strs (ss:LB):LV:=ss.map Value.string
theorem strs_row (h:za1 w a ss):IsRow w a (strs ss):=by
 rcases h with rfl| ⟨b,off,rfl,hc⟩
 { exact .inl rfl }
 {
 refine .inr ⟨b,off,rfl,fun j u hu=> ?_⟩;have hj:j<ss.length:=by
  have:=(kY.1 hu).1
  simpa [strs] using this
 simp [strs,hj] at hu
 subst hu;rw [hc j hj]
 simp [hj] }
theorem strs_of (h:IsRow w a (strs ss)):za1 w a ss:=by
 rcases h with h| ⟨b,off,rfl,hc⟩
 { exact .inl (by simpa [strs] using h) }
 { exact .inr ⟨b,off,rfl,fun i hi=>hc i _ (by simp [strs,hi])⟩ }
theorem strs_one (ss:LB): ∀v∈strs ss,v.oneCell' =true:=by
 intro v hv
 simp [strs] at hv
 obtain ⟨x,_,rfl⟩:=hv;rfl
theorem zhj (ss:LB) (a:oA) (n c:Nat) (w:World) (h:BB w a n c ss) (hn:n<=1000000):
 Cq 42 #[bookv a n c] w fun e w' =>(∃g,w.heap.size<=g/\g<w'.heap.size/\e=.returned (bookv (some ⟨g,0,none⟩) n n)/\BB w' (some ⟨g,0,none⟩) n n ss)/\bZ w w' :=by
 have HC:=uH (fun W (hW:bZ w W)=>zph a n c (strs ss) W (strs_row (h.bl hW).at_) (by rw [show(strs ss).length=ss.length by simp [strs],h.len,Ko]) (strs_one _) hn);have HB:=uH h;clear h;unfold bookv;go_enter Tryz.func42,Tryz.ntmps42;go_wp2_with fail;refine(zae HC _ (zdv _ _ _)).mono ?_;rintro e w1 ⟨rfl,rfl⟩;go_wp2_with fail;refine kT (v:=.agg #[sV (w.heap.size+1+1) n n]) (by simp [results,Tryz.results42,go_sem]) rfl ?_;exact⟨⟨w.heap.size+1+1,by omega,by simp,rfl,⟨strs_of (new3 _ _ _ _ _),HB.o.len,kQ _,HB.o.max,HB.o.short⟩⟩,zds _ _ _ _⟩
end
structure VB where
 B:Nat
 bu:Nat
 bc:Nat
 bn:Nat
def KV (Z:Nat->Prop) (q:VB) (b:Nat):Prop:=Z b\/b=q.B\/b=q.bu\/b=q.bc\/b=q.bn
structure ROwn {α:Type} (R:World->(Nat->Prop)->α->LV->Prop) (k:Nat) (t:TypeId) (w:World) (F:Nat) (K:Nat->Prop) (a:oA) (n c b:Nat) (l:List α):Prop where
 at_:a=some ⟨b,0,none⟩
 row: ∃vs,w.ownsRow F t k (.slice a n c) n vs/\Vs (R w K) l vs
 len:l.length=n
structure VOwn (w:World) (F:Nat) (Z:Nat->Prop) (q:VB) (m:VA) (v:Vh):Prop where
 box:w.heap[q.B]?=some (vhO v m)
 ss:BB w m.ab m.nb m.cb v.ss
 sg:BG w m.sa m.ns v.sg
 g:GIn w m.g v.g
 ob:Ao v.ss (KV Z q) m.ab
 os:Ao v.sg (KV Z q) m.sa
 og:GO (KV Z q) m.g v.g
 us:ROwn UR 5 82 w F (KV Z q) m.au m.nu m.cu q.bu v.us
 cs:ROwn CR 5 94 w F (KV Z q) m.ac m.nc m.cc q.bc v.cs
 net:ROwn MR 7 99 w F (KV Z q) m.an m.nn m.cn q.bn v.net
 fB:F<=q.B
 fZ: ∀b,Z b->b<w.heap.size/\b≠q.bu/\b≠q.bc/\b≠q.bn
 n1:q.B≠q.bu
 n2:q.B≠q.bc
 n3:q.B≠q.bn
 n4:q.bu≠q.bc
 n5:q.bu≠q.bn
 n6:q.bc≠q.bn
section
variable {α:Type} {R:World->(Nat->Prop)->α->LV->Prop} {k:Nat} {t:TypeId} {K K' :Nat->Prop} {w w' :World} {F:Nat} {a:oA} {n c b:Nat} {l:List α}
theorem ROwn.lt (h:ROwn R k t w F K a n c b l):F<=b/\b<w.heap.size:=by
 obtain ⟨vs,h1,-⟩:=h.row;have:=h.at_;subst this;exact h1.lt b rfl
theorem ROwn.caps (h:ROwn R k t w F K a n c b l):n<=c/\c<=maxLen:=by
 obtain ⟨vs,⟨-,h1⟩,-⟩:=h.row
 rcases h1 with ⟨e,h0⟩| ⟨g,cap,cur,e,-,-,h2,h3,-⟩
 { cases e;exact⟨kQ _,by decide⟩ }
 { cases e;exact⟨h2,h3⟩ }
theorem ROwn.chg (hR: ∀{w w' :World} {K:Nat->Prop},Chg K w w' ->∀x c,R w K x c->R w' K x c) (h:ROwn R k t w F K a n c b l) (hc:Chg K w w') (hb:w'.heap[b]?=w.heap[b]?):ROwn R k t w' F K a n c b l:=by
 obtain ⟨vs,⟨h0,h1⟩,h2⟩:=h.row;refine⟨h.at_,⟨vs,⟨h0, ?_⟩,h2.mono (hR hc)⟩,h.len⟩
 rcases h1 with h1| ⟨g,cap,cur,e,h3,h4,h5⟩
 { exact .inl h1 }
 {
 have:=h.at_;subst this;cases e;exact .inr ⟨_,_,cur,rfl,h3,hb.trans h4,h5⟩ }
theorem ROwn.wide (hO: ∀{w:World} {K K' :Nat->Prop},(∀b,K' b->K b\/w.heap.size<=b)->∀x c,R w K x c->R w K' x c) (h:ROwn R k t w F K a n c b l) (hK: ∀b,K' b->K b\/w.heap.size<=b):ROwn R k t w F K' a n c b l:=by
 obtain ⟨vs,h1,h2⟩:=h.row;exact⟨h.at_,⟨vs,h1,h2.mono (hO hK)⟩,h.len⟩
theorem ROwn.rin (hO: ∀{w:World} {K K' :Nat->Prop},(∀b,K' b->K b\/w.heap.size<=b)->∀x c,R w K x c->R w K' x c) (h:ROwn R k t w F K a n c b l) (hK: ∀b,K' b->K b) (hb: ¬K' b):RIn R w K' a n c l:=by
 obtain ⟨vs,h1,h2⟩:=h.row;have hcap:=h.caps;have hat:=h.at_;subst hat;have hr:IsRow w (some ⟨b,0,none⟩) vs:=.inr ⟨b,0,rfl,fun j u hu=>by have:=h1.cells (g:=b) rfl j u hu;rwa [zc2] at this⟩;exact⟨⟨vs,hr,h2.mono (hO fun b e=>.inl (hK b e)),.at_ hb⟩,h.len,hcap.1,kc hcap.1 hcap.2⟩
theorem ROwn.isRow (h:ROwn R k t w F K a n c b l): ∃vs,w.ownsRow F t k (.slice a n c) n vs/\IsRow w a vs/\Vs (R w K) l vs:=by
 obtain ⟨vs,h1,h2⟩:=h.row;have hat:=h.at_;subst hat;exact⟨vs,h1,.inr ⟨b,0,rfl,fun j u hu=>by have:=h1.cells (g:=b) rfl j u hu;rwa [zc2] at this⟩,h2⟩
end
theorem VOwn.vin {q:VB} {m:VA} {v:Vh} (h:VOwn w F Z q m v):VIn w Z m v:=by
 have k: ∀b,Z b->KV Z q b:=fun b e=>.inl e
 have k2: ∀b,Z b->KV Z q b\/w.heap.size<=b:=fun b e=>.inl (.inl e)
 exact⟨h.ss,h.sg,h.g,h.us.rin UR.off k (fun e=>(h.fZ _ e).2.1 rfl),h.cs.rin CR.off k (fun e=>(h.fZ _ e).2.2.1 rfl),h.net.rin MR.off k (fun e=>(h.fZ _ e).2.2.2 rfl),h.ob.mono k,h.os.mono k,h.og.wide h.g k2⟩
theorem kv_net {q:VB} {b' s:Nat} (hb:b' =q.bn\/s<=b') (e:KV Z ⟨q.B,q.bu,q.bc,b'⟩ b):KV Z q b\/s<=b:=by
 rcases e with e|e|e|e|e
 { exact .inl (.inl e) }
 { exact .inl (.inr (.inl e)) }
 { exact .inl (.inr (.inr (.inl e))) }
 { exact .inl (.inr (.inr (.inr (.inl e)))) }
 {
 have e:b=b' :=e;subst e;exact hb.imp (fun h=>.inr (.inr (.inr (.inr h)))) id }
theorem kv_camp {q:VB} {b' s:Nat} (hb:b' =q.bc\/s<=b') (e:KV Z ⟨q.B,q.bu,b',q.bn⟩ b):KV Z q b\/s<=b:=by
 rcases e with e|e|e|e|e
 { exact .inl (.inl e) }
 { exact .inl (.inr (.inl e)) }
 { exact .inl (.inr (.inr (.inl e))) }
 {
 have e:b=b' :=e;subst e;exact hb.imp (fun h=>.inr (.inr (.inr (.inl h)))) id }
 { exact .inl (.inr (.inr (.inr (.inr e)))) }
theorem kv_B {q:VB} (e:b=q.B):KV Z q b:=.inr (.inl e)
theorem kv_bu {q:VB} (e:b=q.bu):KV Z q b:=.inr (.inr (.inl e))
theorem kv_bc {q:VB} (e:b=q.bc):KV Z q b:=.inr (.inr (.inr (.inl e)))
theorem kv_bn {q:VB} (e:b=q.bn):KV Z q b:=.inr (.inr (.inr (.inr e)))
theorem VOwn.bl {q:VB} {m:VA} {v:Vh} (h:VOwn w F Z q m v) (hb:bZ w w'):VOwn w' F Z q m v:=by
 have hc:Chg (KV Z q) w w' :=.of hb _;exact⟨zab h.box hb,h.ss.bl hb,h.sg.bl hb,h.g.bl hb,h.ob,h.os,h.og,h.us.chg UR.chg hc (hb.block _ h.us.lt.2),h.cs.chg CR.chg hc (hb.block _ h.cs.lt.2),h.net.chg MR.chg hc (hb.block _ h.net.lt.2),h.fB,fun b e=>⟨kw (h.fZ b e).1 hb.size,(h.fZ b e).2⟩,h.n1,h.n2,h.n3,h.n4,h.n5,h.n6⟩
theorem VOwn.boxed {q:VB} {m:VA} {v:Vh} {k:GA} (h:VOwn w F Z q m v) (hc:Chg (fun b=>b=q.B) w w')
 (hbx:w'.heap[q.B]?=some (vhO ⟨v.ss,v.sg,g,v.us,v.cs,v.net,now⟩ ⟨m.ab,m.nb,m.cb,m.sa,m.ns,m.cs,k,m.au,m.nu,m.cu,m.ac,m.nc,m.cc,m.an,m.nn,m.cn⟩)) (hg:GIn w k g) (hog:GO (KV Z q) k g):
 VOwn w' F Z q ⟨m.ab,m.nb,m.cb,m.sa,m.ns,m.cs,k,m.au,m.nu,m.cu,m.ac,m.nc,m.cc,m.an,m.nn,m.cn⟩ ⟨v.ss,v.sg,g,v.us,v.cs,v.net,now⟩:=by
 have hK:Chg (KV Z q) w w' :=hc.mono fun b e=>.inr (.inl e)
 exact⟨hbx,⟨h.ss.at_.chg hK h.ob,h.ss.len,h.ss.cap,h.ss.max,h.ss.short⟩,⟨h.sg.at_.chg hK h.os,h.sg.len,h.sg.max⟩,hg.chg hK hog,h.ob,h.os,hog,h.us.chg UR.chg hK (hc.block _ h.us.lt.2 (fun e=>h.n1 e.symm)),h.cs.chg CR.chg hK (hc.block _ h.cs.lt.2 (fun e=>h.n2 e.symm)),h.net.chg MR.chg hK (hc.block _ h.net.lt.2 (fun e=>h.n3 e.symm)),h.fB,fun b e=>⟨kw (h.fZ b e).1 hc.size,(h.fZ b e).2⟩,h.n1,h.n2,h.n3,h.n4,h.n5,h.n6⟩
theorem zdu {cs:Array Value} (h:w.heap[B]?=some (.cells cs t (0,0))) (i:Nat) (u:Value): (w.setCell ⟨B,i,none⟩ u).heap[B]?=some (.cells (cs.setIfInBounds i u) t (0,0)):=by
 simp only [World.setCell,KP]
 simp [h]
theorem VOwn.setNow {q:VB} {m:VA} {v:Vh} (h:VOwn w F Z q m v) (x:Int):VOwn (w.setCell ⟨q.B,14,none⟩ (iV x)) F Z q m ⟨v.ss,v.sg,v.g,v.us,v.cs,v.net,x⟩:=
 h.boxed ((Chg.refl (fun b=>b=q.B) _).set rfl _) (zdu h.box 14 _) h.g h.og
theorem VOwn.setFuel {q:VB} {m:VA} {v:Vh} (h:VOwn w F Z q m v) (x:Int):VOwn (w.setCell ⟨q.B,3,none⟩ (iV x)) F Z q m ⟨v.ss,v.sg,⟨v.g.ws,x,v.g.up,v.g.t,v.g.vo,v.g.di⟩,v.us,v.cs,v.net,v.now⟩:=
 h.boxed (g:=⟨v.g.ws,x,v.g.up,v.g.t,v.g.vo,v.g.di⟩) ((Chg.refl (fun b=>b=q.B) _).set rfl _) (zdu h.box 3 _) ⟨h.g.ws,h.g.ks,h.g.vo,h.g.di⟩ ⟨h.og.a,h.og.ak,h.og.av,h.og.ad⟩
theorem vh_gate {m:VA} {v:Vh} (h:w.heap[B]?=some (vhO v m)) (g:Gt) (k:GA): (puts w B 2 [.slice k.a k.n k.c,iV g.fu,.bool g.up,iV g.t.r.v,.slice k.ak k.nk k.ck,iV g.t.r.t,iV g.t.ver,.slice k.av k.nv k.cv,.slice k.ad k.nd k.cd]).heap[B]?=some (vhO ⟨v.ss,v.sg,g,v.us,v.cs,v.net,v.now⟩ ⟨m.ab,m.nb,m.cb,m.sa,m.ns,m.cs,k,m.au,m.nu,m.cu,m.ac,m.nc,m.cc,m.an,m.nn,m.cn⟩):=by
 unfold vhO vhC at *;simp only [puts,World.setCell,KP]
 simp [h]
theorem VOwn.setGate {q:VB} {m:VA} {v:Vh} (h:VOwn w F Z q m v) {k:GA} (hg:GIn w k g) (ho:GO (KV Z q) k g):
 VOwn (puts w q.B 2 [.slice k.a k.n k.c,iV g.fu,.bool g.up,iV g.t.r.v,.slice k.ak k.nk k.ck,iV g.t.r.t,iV g.t.ver,.slice k.av k.nv k.cv,.slice k.ad k.nd k.cd]) F Z q ⟨m.ab,m.nb,m.cb,m.sa,m.ns,m.cs,k,m.au,m.nu,m.cu,m.ac,m.nc,m.cc,m.an,m.nn,m.cn⟩ ⟨v.ss,v.sg,g,v.us,v.cs,v.net,v.now⟩:=
 h.boxed (zbn _ _ _ _) (vh_gate h.box g k) hg ho
theorem VOwn.setNet {q:VB} {m:VA} {v:Vh} (h:VOwn w F Z q m v) {b' :Nat} {l:List Ms} (hc:Chg (fun b=>b=q.bn) w w1) (hb:b' =q.bn\/w.heap.size<=b') (ho:w1.ownsRow F 99 7 (sV b' n c) n vs)
 (hv:Vs (MR w1 (KV Z ⟨q.B,q.bu,q.bc,b'⟩)) l vs) (hl:l.length=n):
 VOwn (w1.setCell ⟨q.B,13,none⟩ (sV b' n c)) F Z ⟨q.B,q.bu,q.bc,b'⟩ ⟨m.ab,m.nb,m.cb,m.sa,m.ns,m.cs,m.g,m.au,m.nu,m.cu,m.ac,m.nc,m.cc,some ⟨b',0,none⟩,n,c⟩ ⟨v.ss,v.sg,v.g,v.us,v.cs,l,v.now⟩:=by
 have hB:=zak h.box;have lu:=h.us.lt;have lc:=h.cs.lt;have ln:=h.net.lt;have d1:=h.n1;have d2:=h.n2;have d3:=h.n3;have d4:=h.n4;have d5:=h.n5;have d6:=h.n6;have hw: ∀b,KV Z ⟨q.B,q.bu,q.bc,b'⟩ b->KV Z q b\/w.heap.size<=b:=fun b e=>kv_net hb e
 have hK2:Chg (fun b=>b=q.B) w1 (w1.setCell ⟨q.B,13,none⟩ (sV b' n c)):=(Chg.refl (fun b=>b=q.B) _).set rfl _;have hcK:Chg (fun b=>KV Z q b\/w.heap.size<=b) w (w1.setCell ⟨q.B,13,none⟩ (sV b' n c)):=(hc.mono fun b e=>.inl (kv_bn e)).trans (hK2.mono fun b e=>.inl (kv_B e));have hne: ∀b,b<w.heap.size->b≠q.bn->b≠q.B->(w1.setCell ⟨q.B,13,none⟩ (sV b' n c)).heap[b]?=w.heap[b]?:=fun b h1 h2 h3=>(hK2.block b (kw h1 hc.size) h3).trans (hc.block b h1 h2)
 have a1:=h.ss.at_.wide h.ob (K' :=fun b=>KV Z q b\/w.heap.size<=b) (fun b e=>e);have a2:=h.sg.at_.wide h.os (K' :=fun b=>KV Z q b\/w.heap.size<=b) (fun b e=>e);have a3:=h.og.wide h.g (K' :=fun b=>KV Z q b\/w.heap.size<=b) (fun b e=>e);have a4:=h.g.chg hcK a3;have hlt:=ho.lt b' rfl;have hnew:ROwn MR 7 99 (w1.setCell ⟨q.B,13,none⟩ (sV b' n c)) F (KV Z ⟨q.B,q.bu,q.bc,b'⟩) (some ⟨b',0,none⟩) n c b' l:=
  ⟨rfl,⟨vs,ho.kept (row:=some q.B) ⟨rfl,rfl,rfl,by simp [World.setCell],fun k _ hn=>ki _ _ _ _ (fun e=>hn (by rw [e]))⟩ (.inr (fun e=>by have e:=kJ (show some b' =some q.B from e);omega)),hv.mono (MR.chg (hK2.mono (K' :=KV Z ⟨q.B,q.bu,q.bc,b'⟩) fun b e=>.inr (.inl e)))⟩,hl⟩
 exact⟨zdu (by rw [hc.block _ hB (by omega)];exact h.box) 13 _,⟨h.ss.at_.chg hcK a1,h.ss.len,h.ss.cap,h.ss.max,h.ss.short⟩,⟨h.sg.at_.chg hcK a2,h.sg.len,h.sg.max⟩,a4,a1.mono hw,a2.mono hw,⟨a3.a.mono hw,a3.ak.mono hw,a3.av.mono hw,a3.ad.mono hw⟩,
  ((h.us.wide UR.off (K' :=fun b=>KV Z q b\/w.heap.size<=b) (fun b e=>e)).chg UR.chg hcK (hne _ (by omega) (by omega) (by omega))).wide UR.off (fun b e=>.inl (hw b e)),((h.cs.wide CR.off (K' :=fun b=>KV Z q b\/w.heap.size<=b) (fun b e=>e)).chg CR.chg hcK (hne _ (by omega) (by omega) (by omega))).wide CR.off (fun b e=>.inl (hw b e)),hnew,h.fB,(fun b e=>by have z:=h.fZ b e;have zs:=hcK.size;dsimp only;omega),by dsimp only;omega,by dsimp only;omega,by dsimp only;omega,by dsimp only;omega,by dsimp only;omega,by dsimp only;omega⟩
theorem VOwn.setCamps {q:VB} {m:VA} {v:Vh} (h:VOwn w F Z q m v) {b' :Nat} {l:List Cp} (hc:Chg (fun b=>b=q.bc) w w1) (hb:b' =q.bc\/w.heap.size<=b') (ho:w1.ownsRow F 94 5 (sV b' n c) n vs)
 (hv:Vs (CR w1 (KV Z ⟨q.B,q.bu,b',q.bn⟩)) l vs) (hl:l.length=n):
 VOwn (w1.setCell ⟨q.B,12,none⟩ (sV b' n c)) F Z ⟨q.B,q.bu,b',q.bn⟩ ⟨m.ab,m.nb,m.cb,m.sa,m.ns,m.cs,m.g,m.au,m.nu,m.cu,some ⟨b',0,none⟩,n,c,m.an,m.nn,m.cn⟩ ⟨v.ss,v.sg,v.g,v.us,l,v.net,v.now⟩:=by
 have hB:=zak h.box;have lu:=h.us.lt;have lc:=h.cs.lt;have ln:=h.net.lt;have d1:=h.n1;have d2:=h.n2;have d3:=h.n3;have d4:=h.n4;have d5:=h.n5;have d6:=h.n6;have hw: ∀b,KV Z ⟨q.B,q.bu,b',q.bn⟩ b->KV Z q b\/w.heap.size<=b:=fun b e=>kv_camp hb e
 have hK2:Chg (fun b=>b=q.B) w1 (w1.setCell ⟨q.B,12,none⟩ (sV b' n c)):=(Chg.refl (fun b=>b=q.B) _).set rfl _;have hcK:Chg (fun b=>KV Z q b\/w.heap.size<=b) w (w1.setCell ⟨q.B,12,none⟩ (sV b' n c)):=(hc.mono fun b e=>.inl (kv_bc e)).trans (hK2.mono fun b e=>.inl (kv_B e));have hne: ∀b,b<w.heap.size->b≠q.bc->b≠q.B->(w1.setCell ⟨q.B,12,none⟩ (sV b' n c)).heap[b]?=w.heap[b]?:=fun b h1 h2 h3=>(hK2.block b (kw h1 hc.size) h3).trans (hc.block b h1 h2)
 have a1:=h.ss.at_.wide h.ob (K' :=fun b=>KV Z q b\/w.heap.size<=b) (fun b e=>e);have a2:=h.sg.at_.wide h.os (K' :=fun b=>KV Z q b\/w.heap.size<=b) (fun b e=>e);have a3:=h.og.wide h.g (K' :=fun b=>KV Z q b\/w.heap.size<=b) (fun b e=>e);have a4:=h.g.chg hcK a3;have hlt:=ho.lt b' rfl;have hnew:ROwn CR 5 94 (w1.setCell ⟨q.B,12,none⟩ (sV b' n c)) F (KV Z ⟨q.B,q.bu,b',q.bn⟩) (some ⟨b',0,none⟩) n c b' l:=
  ⟨rfl,⟨vs,ho.kept (row:=some q.B) ⟨rfl,rfl,rfl,by simp [World.setCell],fun k _ hn=>ki _ _ _ _ (fun e=>hn (by rw [e]))⟩ (.inr (fun e=>by have e:=kJ (show some b' =some q.B from e);omega)),hv.mono (CR.chg (hK2.mono (K' :=KV Z ⟨q.B,q.bu,b',q.bn⟩) fun b e=>.inr (.inl e)))⟩,hl⟩
 exact⟨zdu (by rw [hc.block _ hB (by omega)];exact h.box) 12 _,⟨h.ss.at_.chg hcK a1,h.ss.len,h.ss.cap,h.ss.max,h.ss.short⟩,⟨h.sg.at_.chg hcK a2,h.sg.len,h.sg.max⟩,a4,a1.mono hw,a2.mono hw,⟨a3.a.mono hw,a3.ak.mono hw,a3.av.mono hw,a3.ad.mono hw⟩,
  ((h.us.wide UR.off (K' :=fun b=>KV Z q b\/w.heap.size<=b) (fun b e=>e)).chg UR.chg hcK (hne _ (by omega) (by omega) (by omega))).wide UR.off (fun b e=>.inl (hw b e)),hnew,((h.net.wide MR.off (K' :=fun b=>KV Z q b\/w.heap.size<=b) (fun b e=>e)).chg MR.chg hcK (hne _ (by omega) (by omega) (by omega))).wide MR.off (fun b e=>.inl (hw b e)),h.fB,(fun b e=>by have z:=h.fZ b e;have zs:=hcK.size;dsimp only;omega),by dsimp only;omega,by dsimp only;omega,by dsimp only;omega,by dsimp only;omega,by dsimp only;omega,by dsimp only;omega⟩
theorem VOwn.setUnit {q:VB} {m:VA} {v:Vh} (h:VOwn w F Z q m v) {u' :Un} (hi:v.us[i]?=some u) (hu:BW w a n c u'.ws) (ho:Ao u'.ws (KV Z q) a)
 (hw:w' =puts w q.bu (i * 5) [.slice a n c,iV u'.fu,.bool u'.up,iV u'.n,iV u'.hv]):VOwn w' F Z q m ⟨v.ss,v.sg,v.g,v.us.set i u',v.cs,v.net,v.now⟩:=by
 subst hw;have hB:=zak h.box;have lu:=h.us.lt;have lc:=h.cs.lt;have ln:=h.net.lt;have d1:=h.n1;have d4:=h.n4;have d5:=h.n5;have hc:=zbn q.bu [.slice a n c,iV u'.fu,.bool u'.up,iV u'.n,iV u'.hv] w (i * 5);have hcK:Chg (KV Z q) w (puts w q.bu (i * 5) [.slice a n c,iV u'.fu,.bool u'.up,iV u'.n,iV u'.hv]):=hc.mono fun b e=>kv_bu e
 have hat:=h.us.at_;have hus:=h.us.row;rw [hat] at hus;obtain ⟨vs,⟨l0,l1⟩,l2⟩:=hus;obtain ⟨p,cc,r,e1,e2,e3,e4⟩:=l2.put UR.len hi (d:= [.slice a n c,iV u'.fu,.bool u'.up,iV u'.n,iV u'.hv]) ⟨a,n,c,rfl,hu,ho⟩;have hlc:=UR.len _ _ e3
 rcases l1 with ⟨l1,-⟩| ⟨gg,cap,cur,l1,l3,l4,l5,l6,l7,l8⟩
 { cases l1 }
 cases l1;have hsz:i * 5+5<=cur.size:=by
  have hx:vs.length<=cur.size:=by rw [<-l8,KQ,Ki];exact Nat.min_le_right _ _
  rw [e1,kj,kj,e2,hlc] at hx;omega
 obtain ⟨cur',q1,q2,q3⟩:=zi3 q.bu _ [.slice a n c,iV u'.fu,.bool u'.up,iV u'.n,iV u'.hv] w (i * 5) cur l4 (by simpa using hsz);have hmx:vs.length=m.nu * 5:=l0;have hfit:m.nu * 5<=cur.size:=by rw [l7];exact Kk _ l5
 have hvl:m.nu * 5=i * 5+(5+r.length):=by rw [<-l0,e1,kj,kj,e2,hlc]
 have hcl:cur.toList=p++(cc++(r++cur.toList.drop (m.nu * 5))):=by
  have:=(List.take_append_drop (m.nu * 5) cur.toList).symm;rw [l8,e1] at this
  simpa only [KW] using this
 have hrow: (cur'.toList).take (m.nu * 5)=p++([.slice a n c,iV u'.fu,.bool u'.up,iV u'.n,iV u'.hv]++r):=by
  have hp:cur.toList.take (i * 5)=p:=by rw [hcl,<-e2,List.take_left]
  have hr:cur.toList.drop (i * 5+5)=r++cur.toList.drop (m.nu * 5):=by
   have e:i * 5+5= (p++cc).length:=by rw [kj,e2,hlc]
   generalize cur.toList.drop (m.nu * 5)=z at *;rw [hcl,e,<-KW,List.drop_left]
  rw [q3,hp,show i * 5+List.length [Value.slice a n c,iV u'.fu,.bool u'.up,iV u'.n,iV u'.hv]=i * 5+5 from rfl,hr];have e:m.nu * 5= (p++([Value.slice a n c,iV u'.fu,.bool u'.up,iV u'.n,iV u'.hv]++r)).length:=by simp [e2];omega
  rw [e];simp only [<-KW];rw [List.take_left]
 refine⟨by rw [hc.block _ hB d1];exact h.box,⟨h.ss.at_.chg hcK h.ob,h.ss.len,h.ss.cap,h.ss.max,h.ss.short⟩,⟨h.sg.at_.chg hcK h.os,h.sg.len,h.sg.max⟩,h.g.chg hcK h.og,h.ob,h.os,h.og,⟨hat,⟨_,⟨?_,.inr ⟨q.bu,m.cu,cur',by rw [hat],l3,q1,l5,l6,q2.trans l7,hrow⟩⟩,e4.mono (UR.chg hcK)⟩,by simpa using h.us.len⟩,h.cs.chg CR.chg hcK (hc.block _ lc.2 (fun e=>d4 e.symm)),h.net.chg MR.chg hcK (hc.block _ ln.2 (fun e=>d5 e.symm)),h.fB,fun b e=>⟨kw (h.fZ b e).1 hc.size,(h.fZ b e).2⟩,h.n1,h.n2,h.n3,h.n4,h.n5,h.n6⟩;rw [<-l0,e1]
 simp [hlc]
 omega
theorem VOwn.addZ {q:VB} {m:VA} {v:Vh} (h:VOwn w F Z q m v) (hb:bZ w w1):VOwn w1 F (fun b=>Z b\/(w.heap.size<=b/\b<w1.heap.size)) q m v:=by
 have h1:=zak h.box;have h2:=h.us.lt;have h3:=h.cs.lt;have h4:=h.net.lt;have hK: ∀b,KV (fun b=>Z b\/(w.heap.size<=b/\b<w1.heap.size)) q b->KV Z q b\/w.heap.size<=b:=fun b e=>by
  rcases e with (e|e)|e
  · exact .inl (.inl e)
  · exact .inr e.1
  · exact .inl (.inr e)
 exact⟨zab h.box hb,h.ss.bl hb,h.sg.bl hb,h.g.bl hb,h.ss.at_.wide h.ob hK,h.sg.at_.wide h.os hK,h.og.wide h.g hK,(h.us.wide UR.off hK).chg UR.chg (.of hb _) (hb.block _ h2.2),(h.cs.wide CR.off hK).chg CR.chg (.of hb _) (hb.block _ h3.2),(h.net.wide MR.off hK).chg MR.chg (.of hb _) (hb.block _ h4.2),h.fB,fun b e=>by
  have hs:=hb.size
  rcases e with e|e
  · have:=h.fZ b e;omega
  · omega,h.n1,h.n2,h.n3,h.n4,h.n5,h.n6⟩
theorem VOwn.lessZ {Z' :Nat->Prop} {q:VB} {m:VA} {v:Vh} (h:VOwn w F Z q m v) (hZ: ∀b,Z' b->Z b):VOwn w F Z' q m v:=by
 have hK: ∀b,KV Z' q b->KV Z q b\/w.heap.size<=b:=fun b e=>.inl (by rcases e with e|e;exact .inl (hZ b e);exact .inr e)
 exact⟨h.box,h.ss,h.sg,h.g,h.ss.at_.wide h.ob hK,h.sg.at_.wide h.os hK,h.og.wide h.g hK,h.us.wide UR.off hK,h.cs.wide CR.off hK,h.net.wide MR.off hK,h.fB,fun b e=>h.fZ b (hZ b e),h.n1,h.n2,h.n3,h.n4,h.n5,h.n6⟩
theorem VOwn.putZ {q:VB} {m:VA} {v:Vh} (h:VOwn w F Z q m v) {r o:Nat} (hr:Z r) (hB:r≠q.B) (c:LV):VOwn (puts w r o c) F Z q m v:=by
 have hc:=zbn r c w o;have hK:Chg (KV Z q) w (puts w r o c):=hc.mono fun b e=>.inl (by have e:b=r:=e;rw [e];exact hr)
 obtain ⟨z0,z1,z2,z3⟩:=h.fZ r hr;exact⟨by rw [hc.block _ (zak h.box) (fun e=>hB e.symm)];exact h.box,⟨h.ss.at_.chg hK h.ob,h.ss.len,h.ss.cap,h.ss.max,h.ss.short⟩,⟨h.sg.at_.chg hK h.os,h.sg.len,h.sg.max⟩,h.g.chg hK h.og,h.ob,h.os,h.og,h.us.chg UR.chg hK (hc.block _ h.us.lt.2 (fun e=>z1 e.symm)),h.cs.chg CR.chg hK (hc.block _ h.cs.lt.2 (fun e=>z2 e.symm)),h.net.chg MR.chg hK (hc.block _ h.net.lt.2 (fun e=>z3 e.symm)),h.fB,fun b e=>by rw [zl5];exact h.fZ b e,h.n1,h.n2,h.n3,h.n4,h.n5,h.n6⟩
section
attribute [local go_sem ↓] kM kO
theorem zch: ∀(es:LI) (k:Nat) (e:Int),(∀j,j<k->es.getD j 0=0)->es[k]?=some e->e≠0->za0 es=e
 | [],k,e,_,h,_=>by simp at h
 |x::r,0,e,_,h,h0=>by simp at h;subst h;unfold za0;rw [KK h0]
 |x::r,k+1,e,hz,h,h0=>by
  have hx:=hz 0 (by omega)
  simp at hx
  subst hx;unfold za0;rw [KJ (by simp)];exact zch r k e (fun j hj=>by simpa using hz (j+1) (by omega)) (by simpa using h) h0
theorem zc4: ∀(es:LI),(∀j,j<es.length->es.getD j 0=0)->za0 es=0
 | [],_=>rfl
 |x::r,hz=>by
  have hx:=hz 0 (by simp)
  simp at hx
  subst hx;unfold za0;rw [KJ (by simp)];exact zc4 r (fun j hj=>by simpa using hz (j+1) (by simpa using hj))
theorem zdn {es:LI} {e:Int} (h: ∀j,j<k->es.getD j 0=0) (hk:es[k]?=some e) (he:e=0): ∀j,j<k+1->es.getD j 0=0:=by
 intro j hj
 by_cases h1:j<k
 { exact h j h1 }
 {
 have:j=k:=by omega
 subst this;rw [ka,hk,he];rfl }
theorem zdq (x lo hi:Int) (w:World):Cq 72 #[iV x,iV lo,iV hi] w fun e w' =>e=.returned (.bool (inB x lo hi))/\w' =w:=by
 by_cases h0:lo<=x
 {
 by_cases h1:x<=hi
 {
 go_enter Tryz.func72,Tryz.ntmps72;go_wp2;go_ret;exact⟨zan (by unfold inB;simp [h0,h1]),rfl⟩ }
 {
 go_enter Tryz.func72,Tryz.ntmps72;go_wp2;go_ret;exact⟨zan (by unfold inB;simp [h0,h1]),rfl⟩ } }
 {
 go_enter Tryz.func72,Tryz.ntmps72;go_wp2;go_ret;exact⟨zan (by unfold inB;simp;omega),rfl⟩ }
theorem zc7 (b:Bool) (x:Int) (w:World):Cq 71 #[.bool b,iV x] w fun e w' =>e=.returned (iV (if b=true then 0 else x))/\w' =w:=by
 cases b<;>
 {
 go_enter Tryz.func71,Tryz.ntmps71;go_wp2;go_ret;exact⟨rfl,rfl⟩ }
theorem zk6 (a:oA) (n c:Nat) (K:Nat->Prop) (us:List Un) (voters:Nat) (w:World) (h:RIn UR w K a n c us):
 Cq 63 #[.slice a n c,iV voters] w fun e w' =>e=.returned (iV (unsE us voters))/\bZ w w' :=by
 have hn:=h.len
 by_cases hv:n=voters
 rotate_left
 {
 have HE:Hd (unsE us voters=4):=by unfold unsE;rw [KK (by rw [hn];exact hv)];exact rfl
 have d: ((n:Int) != (voters:Int))=true:=by simp;omega
 clear h hv hn;go_enter Tryz.func63,Tryz.ntmps63;go_wp2_with fail;go_ret;exact⟨zao HE.o.symm,kS _ _⟩ }
 subst hv;have HQ:Hd (unsE us n=za0 (us.map unE)):=by unfold unsE;rw [KJ (by rw [hn];simp)];exact rfl
 obtain ⟨vs,h1,h2,-⟩:=h.row;have hmx:=h.max;clear h;have H1:=uH h1;have H2:=uH h2;have HN:=uH hn;clear h1 h2 hn;have hnI: (n:Int)<=9223372036854775807:=by unfold maxLen at hmx;omega
 go_enter Tryz.func63,Tryz.ntmps63;go_wp2_with fail
 go_loopw [14] (fun i wq=>∃k:Nat,k<=n/\i=iV k/\Hd (bZ w wq)/\Hd (∀j,j<k->(us.map unE).getD j 0=0)) (fun i _=>n - (intOf i).toNat)
 case atStart=>exact⟨0,by omega,rfl,kS _ _,fun j hj=>absurd hj (by omega)⟩
 case round=>
  obtain ⟨wq,rfl⟩: ∃wq:World,wq=wr:=⟨_,rfl⟩;obtain ⟨k,hk,rfl,hB,hZ⟩:=hrel
  by_cases hkn:k<n
  {
  have hkI: (k:Int)< (n:Int):=by omega
  have hul:k<us.length:=by rw [HN.o];exact hkn
  obtain ⟨b,off,x,nx,cx,rfl,q0,-,y0,y1,y2,y3,y4⟩:=zdz H1.o H2.o (kX hul);have HU:=uH (fun W (hW:bZ w W)=>zcz us[k] x nx cx W (q0.bl hW));have HM:Hd ((us.map unE)[k]?=some (unE us[k])):=by show _=_;simp [hul]
  unfold unv at HU;generalize us[k]=u at *;replace y0:=(hB.o.cell (zah y0)).trans y0;replace y1:=(hB.o.cell (zah y1)).trans y1;replace y2:=(hB.o.cell (zah y2)).trans y2;replace y3:=(hB.o.cell (zah y3)).trans y3;replace y4:=(hB.o.cell (zah y4)).trans y4;have hb1:bZ w (wq.alloc (.cells (aU x nx cx u) 82)):=hB.o.alloc hB.o.size _;clear q0 hul;go_wp2_with fail;refine(zae HU _ hb1).mono ?_;rintro e w3 ⟨rfl,hb3⟩;have HB3:=uH (bT hb1 hb3);clear hb3 HU
  by_cases hq:unE u=0
  rotate_left
  {
  have d: (unE u !=0)=true:=by simpa using hq
  have HE:=uH (HQ.o.trans (zch _ k _ hZ.o HM.o hq));clear hq;go_wp2_with fail;go_ret;exact⟨zao HE.o.symm,HB3.o⟩ }
  have d: (unE u !=0)=false:=by simpa using hq
  have HQ0:=uH hq;clear hq;go_wp2_with fail;exact⟨⟨k+1,hkn,by simp,HB3,zdn hZ.o HM.o HQ0.o⟩,by simp [intOf];omega⟩ }
  {
  have hkk:k=n:=by omega
  subst hkk;clear hk hkn;go_wp2_with fail;go_ret;exact⟨zao (HQ.o.trans (zc4 _ (by rw [Kr,HN.o];exact hZ.o))).symm,hB.o⟩ }
theorem zny (a:oA) (n c:Nat) (K:Nat->Prop) (l:List Ms) (units:Nat) (w:World) (h:RIn MR w K a n c l):
 Cq 69 #[.slice a n c,iV units] w fun e w' =>e=.returned (iV (netE units l))/\bZ w w' :=by
 have hn:=h.len;have HQ:Hd (netE units l=za0 (l.map (ntE units))):=rfl;obtain ⟨vs,h1,h2,-⟩:=h.row;have hmx:=h.max;clear h;have H1:=uH h1;have H2:=uH h2;have HN:=uH hn;clear h1 h2 hn;have hnI: (n:Int)<=9223372036854775807:=by unfold maxLen at hmx;omega
 go_enter Tryz.func69,Tryz.ntmps69;go_wp2_with fail
 go_loopw [10] (fun i wq=>∃k:Nat,k<=n/\i=iV k/\Hd (bZ w wq)/\Hd (∀j,j<k->(l.map (ntE units)).getD j 0=0)) (fun i _=>n - (intOf i).toNat)
 case atStart=>exact⟨0,by omega,rfl,kS _ _,fun j hj=>absurd hj (by omega)⟩
 case round=>
  obtain ⟨wq,rfl⟩: ∃wq:World,wq=wr:=⟨_,rfl⟩;obtain ⟨k,hk,rfl,hB,hZ⟩:=hrel
  by_cases hkn:k<n
  {
  have hkI: (k:Int)< (n:Int):=by omega
  have hul:k<l.length:=by rw [HN.o];exact hkn
  obtain ⟨b,off,x,nx,cx,rfl,q0,-,y0,y1,y2,y3,y4,y5,y6⟩:=zgd H1.o H2.o (kX hul);have HU:=uH (fun W (hW:bZ w W)=>ze9 l[k] x nx cx W (q0.bl hW));have HM:Hd ((l.map (ntE units))[k]?=some (ntE units l[k])):=by show _=_;simp [hul]
  unfold msv at HU;generalize l[k]=u at *;replace y0:=(hB.o.cell (zah y0)).trans y0;replace y1:=(hB.o.cell (zah y1)).trans y1;replace y2:=(hB.o.cell (zah y2)).trans y2;replace y3:=(hB.o.cell (zah y3)).trans y3;replace y4:=(hB.o.cell (zah y4)).trans y4;replace y5:=(hB.o.cell (zah y5)).trans y5;replace y6:=(hB.o.cell (zah y6)).trans y6;have hb1:bZ w (wq.alloc (.cells (aM u x nx cx) 99)):=hB.o.alloc hB.o.size _;have bx:=uH (kP wq (.cells (aM u x nx cx) 99));clear q0 hul;go_wp2_with fail;refine(zae HU _ hb1).mono ?_;rintro e w3 ⟨rfl,hb3⟩;have HB3:=uH (bT hb1 hb3);replace bx:=uH (zab bx.o hb3);clear hb3 HU
  by_cases hq:msE u=0
  rotate_left
  {
  have d: (msE u !=0)=true:=by simpa using hq
  have HE:=uH (HQ.o.trans ((zch _ k _ hZ.o HM.o (by unfold ntE;rw [KK hq];exact hq)).trans (by unfold ntE;rw [KK hq])));clear hq;go_wp2_with fail;go_ret;exact⟨zao HE.o.symm,HB3.o⟩ }
  have d: (msE u !=0)=false:=by simpa using hq
  have HQ0:=uH hq;clear hq;have z1:=zaa bx.o 1 _ rfl
  by_cases hu: (units:Int)<=u.u
  {
  have HT:Hd (ntE units u=5):=by unfold ntE;rw [KJ (by simpa using HQ0.o),KK hu];exact rfl
  have HE:=uH (HQ.o.trans ((zch _ k _ hZ.o HM.o (by rw [HT.o];decide)).trans HT.o));have hd:decide (u.u>=(units:Int))=true:=by simpa using hu
  go_wp2_with fail;go_ret;exact⟨zao HE.o.symm,HB3.o⟩ }
  {
  have HT:Hd (ntE units u=0):=by unfold ntE;rw [KJ (by simpa using HQ0.o),KJ hu];exact rfl
  go_wp2_with fail;exact⟨⟨k+1,hkn,by simp,HB3,zdn hZ.o HM.o HT.o⟩,by simp [intOf];omega⟩ } }
  {
  have hkk:k=n:=by omega
  subst hkk;clear hk hkn;go_wp2_with fail;go_ret;exact⟨zao (HQ.o.trans (zc4 _ (by rw [Kr,HN.o];exact hZ.o))).symm,hB.o⟩ }
end
section
attribute [local go_sem ↓] kM kO
def HV (w:World) (F:Nat) (Z:Nat->Prop) (B:Nat) (r:Vh×Int) (e:Ending) (w' :World):Prop:=e=.returned (iV r.2)/\Below F w w' /\(r.2=0->∃q m,q.B=B/\VOwn w' F Z q m r.1)
theorem VOwn.lt {q:VB} {m:VA} {v:Vh} (h:VOwn w F Z q m v):F<=w.heap.size:=kc h.fB (Nat.le_of_lt (zak h.box))
theorem zbs {r:Vh×Int} {x:Int} (hr:r.2=x) (hx:x≠0) (hb:Below F w w'):HV w F Z B r (.returned (iV x)) w' :=⟨by rw [hr],hb,fun h=>absurd (hr.symm.trans h) hx⟩
theorem hv_ok {q:VB} {m:VA} {v:Vh} {r:Vh×Int} (hr:r= (v,0)) (hb:Below F w w') (h:VOwn w' F Z q m v):HV w F Z q.B r (.returned (iV 0)) w' :=by
 subst hr;exact⟨rfl,hb,fun _=>⟨q,m,rfl,h⟩⟩
theorem zf7 (F:Nat) (Z:Nat->Prop) (q:VB) (m:VA) (v:Vh) (k:Int) (w:World) (h:VOwn w F Z q m v):
 Cq 190 #[.pointer (some ⟨q.B,0,none⟩),iV k] w fun e w' =>e=.returned (.bool (isU v k))/\w' =w:=by
 have x0:=zaa h.box 11 (.slice m.au m.nu m.cu) rfl;have hl:=h.us.len;have hm: (m.nu:Int)<=9223372036854775807:=by have:=h.us.caps;unfold maxLen at this;omega
 have HC:=uH (zdq k 0 ((m.nu:Int)- 1) w);unfold isU;rw [hl];clear h hl;generalize inB k 0 ((m.nu:Int)- 1)=b at *;go_enter Tryz.func190,Tryz.ntmps190;go_wp2_with fail;refine(zae HC).mono ?_;rintro e w1 ⟨rfl,hw1⟩;replace hw1:=hw1.symm;subst hw1;go_wp2_with fail;go_ret;exact⟨rfl,rfl⟩
theorem zd8 (F:Nat) (Z:Nat->Prop) (q:VB) (m:VA) (v:Vh) (k:Int) (w:World) (h:VOwn w F Z q m v):
 Cq 195 #[.pointer (some ⟨q.B,0,none⟩),iV k] w fun e w' =>e=.returned (.bool (isM v k))/\w' =w:=by
 have x0:=zaa h.box 13 (.slice m.an m.nn m.cn) rfl;have hl:=h.net.len;have hm: (m.nn:Int)<=9223372036854775807:=by have:=h.net.caps;unfold maxLen at this;omega
 have HC:=uH (zdq k 0 ((m.nn:Int)- 1) w);unfold isM;rw [hl];clear h hl;generalize inB k 0 ((m.nn:Int)- 1)=b at *;go_enter Tryz.func195,Tryz.ntmps195;go_wp2_with fail;refine(zae HC).mono ?_;rintro e w1 ⟨rfl,hw1⟩;replace hw1:=hw1.symm;subst hw1;go_wp2_with fail;go_ret;exact⟨rfl,rfl⟩
theorem zim (F:Nat) (Z:Nat->Prop) (q:VB) (m:VA) (v:Vh) (k:Int) (w:World) (h:VOwn w F Z q m v):
 Cq 197 #[.pointer (some ⟨q.B,0,none⟩),iV k] w fun e w' =>e=.returned (.bool (decide (k= -1)||isU v k))/\w' =w:=by
 have HC:=uH (zf7 F Z q m v k w h);clear h;generalize isU v k=b at *
 by_cases z:k= -1
 {
 have d: (k== -1)=true:=by simpa using z
 rw [show(decide (k= -1)||b)=true by simp [z]];clear z;go_enter Tryz.func197,Tryz.ntmps197;go_wp2_with fail;go_ret;exact⟨rfl,rfl⟩ }
 {
 have d: (k== -1)=false:=by simpa using z
 rw [show(decide (k= -1)||b)=b by simp [z]];clear z;go_enter Tryz.func197,Tryz.ntmps197;go_wp2_with fail;refine(zae HC).mono ?_;rintro e w1 ⟨rfl,hw1⟩;replace hw1:=hw1.symm;subst hw1;go_wp2_with fail;go_ret;exact⟨rfl,rfl⟩ }
theorem tick_any (F:Nat) (Z:Nat->Prop) (q:VB) (m:VA) (v:Vh) (w:World) (h:VOwn w F Z q m v) (hn:inB v.now 0 100000=true):
 Cq 132 #[.pointer (some ⟨q.B,0,none⟩)] w (HV w F Z q.B (tckS v)):=by
 have x0:=zaa h.box 14 (iV v.now) rfl;have f0:cZ w q.B 14=false:=zad h.box 14;have hr:0<=v.now/\v.now<=100000:=by unfold inB at hn;simpa using hn
 have H:=uH h;clear h hn
 by_cases z:v.now=100000
 {
 have HE:Hd (tckS v= (vh0,8)):=by unfold tckS;rw [KK z];exact rfl
 have d: (v.now==100000)=true:=by simpa using z
 clear z;go_enter Tryz.func132,Tryz.ntmps132;go_wp2_with fail;go_ret;exact zbs (by rw [HE.o]) (by decide) (kS _ _) }
 {
 have HE:Hd (tckS v= (⟨v.ss,v.sg,v.g,v.us,v.cs,v.net,v.now+1⟩,0)):=by unfold tckS;rw [KJ z];exact rfl
 have d: (v.now==100000)=false:=by simpa using z
 have hwr:IntKind.i64.wrap (v.now+1)=v.now+1:=by rw [kD];omega
 clear z hr;go_enter Tryz.func132,Tryz.ntmps132;go_wp2_with fail;go_ret;exact hv_ok HE.o ((kS _ _).setCell H.o.fB _) (H.o.setNow _) }
abbrev aH (x:Hp) (m:OA):Array Value:=#[iV x.k,iV x.u,iV x.j,.slice m.a1 m.n1 m.c1,.slice m.a2 m.n2 m.c2,iV x.o.v,iV x.o.u,.slice m.a3 m.n3 m.c3,.slice m.a4 m.n4 m.c4,.slice m.a5 m.n5 m.c5]
end
section
attribute [local go_sem ↓] kM kO
theorem VOwn.kv {q:VB} {m:VA} {v:Vh} (h:VOwn w F Z q m v): ∀b,KV Z q b->b<w.heap.size:=fun b e=>by
 have h1:=zak h.box;have h2:=h.us.lt;have h3:=h.cs.lt;have h4:=h.net.lt;have h5:=h.fB
 rcases e with e|e|e|e|e
 { exact(h.fZ b e).1 }
 { omega }
 { omega }
 { omega }
 { omega }
def gtL (g:Gt) (k:GA):LV:= [.slice k.a k.n k.c,iV g.fu,.bool g.up,iV g.t.r.v,.slice k.ak k.nk k.ck,iV g.t.r.t,iV g.t.ver,.slice k.av k.nv k.cv,.slice k.ad k.nd k.cd]
theorem VOwn.gate {q:VB} {m:VA} {v:Vh} (h:VOwn w F Z q m v) (hb:bZ w w1) {k:GA} (hg:GIn w1 k g) (hf:GFr w.heap.size k):
 VOwn (puts w1 q.B 2 (gtL g k)) F Z q ⟨m.ab,m.nb,m.cb,m.sa,m.ns,m.cs,k,m.au,m.nu,m.cu,m.ac,m.nc,m.cc,m.an,m.nn,m.cn⟩ ⟨v.ss,v.sg,g,v.us,v.cs,v.net,v.now⟩:=
 (h.bl hb).setGate hg (.fresh hf h.kv)
theorem zbd {g o:Nat} (c:LV) (h:F<=g) (hF:F<=w.heap.size):Below F w (puts w g o c):=(zbn g c w o).bl (fun b e=>by rw [e];exact h) hF
theorem zpm (F:Nat) (Z:Nat->Prop) (q:VB) (m:VA) (v:Vh) (w:World) (h:VOwn w F Z q m v):
 Cq 131 #[.pointer (some ⟨q.B,0,none⟩)] w (HV w F Z q.B (gupS v)):=by
 have x2:=zaa h.box 2 (.slice m.g.a m.g.n m.g.c) rfl;have x3:=zaa h.box 3 (iV v.g.fu) rfl;have x4:=zaa h.box 4 (.bool v.g.up) rfl;have x5:=zaa h.box 5 (iV v.g.t.r.v) rfl;have x6:=zaa h.box 6 (.slice m.g.ak m.g.nk m.g.ck) rfl;have x7:=zaa h.box 7 (iV v.g.t.r.t) rfl;have x8:=zaa h.box 8 (iV v.g.t.ver) rfl;have x9:=zaa h.box 9 (.slice m.g.av m.g.nv m.g.cv) rfl;have x10:=zaa h.box 10 (.slice m.g.ad m.g.nd m.g.cd) rfl;have HC:=uH (zrg v.g m.g w h.g);unfold gtv at HC;have H:=uH h;have HR:Hd (((gvUp v.g).2=0->gupS v= (⟨v.ss,v.sg,(gvUp v.g).1,v.us,v.cs,v.net,v.now⟩,0))/\((gvUp v.g).2≠0->(gupS v).2= (gvUp v.g).2)):=⟨fun e=>by unfold gupS;rw [KJ (by simpa using e)],fun e=>by unfold gupS;rw [KK e]⟩;clear h;go_enter Tryz.func131,Tryz.ntmps131;go_wp2_with fail;refine(zae HC).mono ?_;rintro e w1 ⟨⟨k3,rfl,g3,e3⟩,hb⟩;unfold gtv;clear x2 x3 x4 x5 x6 x7 x8 x9 x10;have H1:=H.o.bl hb;have x2:=zaa H1.box 2 (.slice m.g.a m.g.n m.g.c) rfl;have f2:cZ w1 q.B 2=false:=zad H1.box 2;have x3:=zaa H1.box 3 (iV v.g.fu) rfl;have f3:cZ w1 q.B 3=false:=zad H1.box 3;have x4:=zaa H1.box 4 (.bool v.g.up) rfl;have f4:cZ w1 q.B 4=false:=zad H1.box 4;have x5:=zaa H1.box 5 (iV v.g.t.r.v) rfl;have f5:cZ w1 q.B 5=false:=zad H1.box 5;have x6:=zaa H1.box 6 (.slice m.g.ak m.g.nk m.g.ck) rfl;have f6:cZ w1 q.B 6=false:=zad H1.box 6;have x7:=zaa H1.box 7 (iV v.g.t.r.t) rfl;have f7:cZ w1 q.B 7=false:=zad H1.box 7;have x8:=zaa H1.box 8 (iV v.g.t.ver) rfl;have f8:cZ w1 q.B 8=false:=zad H1.box 8;have x9:=zaa H1.box 9 (.slice m.g.av m.g.nv m.g.cv) rfl;have f9:cZ w1 q.B 9=false:=zad H1.box 9;have x10:=zaa H1.box 10 (.slice m.g.ad m.g.nd m.g.cd) rfl;have f10:cZ w1 q.B 10=false:=zad H1.box 10;have HW:=uH (H.o.gate hb g3 e3);have HB:=uH (hb.mono H.o.lt);have hlt:=kc H.o.lt hb.size;have hFB:=H.o.fB;clear HC H1 g3 e3 hb;generalize (gvUp v.g).1=g1 at *;generalize (gvUp v.g).2=z1 at *;go_wp2_with fail;go_ret
 by_cases hz:z1=0
 {
 subst hz;have hfin:HV w F Z q.B (gupS v) (.returned (iV 0)) (puts w1 q.B 2 (gtL g1 k3)):=hv_ok (HR.o.1 rfl) (HB.o.trans (zbd _ hFB hlt)) HW.o;exact hfin }
 {
 have hfin:HV w F Z q.B (gupS v) (.returned (iV z1)) (puts w1 q.B 2 (gtL g1 k3)):=zbs (HR.o.2 hz) hz (HB.o.trans (zbd _ hFB hlt));exact hfin }
theorem flashOf_g (q:VB) (w:World):Cq 198 #[.pointer (some ⟨q.B,0,none⟩),iV (-1)] w fun e w' =>e=.returned (.pointer (some ⟨q.B,2,none⟩))/\w' =w:=by
 go_enter Tryz.func198,Tryz.ntmps198;go_wp2_with fail;go_ret;exact⟨rfl,rfl⟩
theorem flashOf_u (F:Nat) (Z:Nat->Prop) (q:VB) (m:VA) (v:Vh) (k:Nat) (w:World) (h:VOwn w F Z q m v) (hk:k<v.us.length):Cq 198 #[.pointer (some ⟨q.B,0,none⟩),iV k] w fun e w' =>e=.returned (.pointer (some ⟨q.bu,k * 5,none⟩))/\w' =w:=by
 have x0:=zaa h.box 11 (.slice m.au m.nu m.cu) rfl;rw [h.us.at_] at x0;have hl:=h.us.len;have hkI: (k:Int)< (m.nu:Int):=by omega
 have hd: ((k:Int)== -1)=false:=by simp
 clear h hl hk;go_enter Tryz.func198,Tryz.ntmps198;go_wp2_with fail;go_ret;exact⟨by simp,rfl⟩
end
section
attribute [local go_sem ↓] kM kO
def Sm (w:World) (b:Nat):Prop:=∃cs t,w.heap[b]?=some (.cells cs t (0,0))/\cs.size<192
def VBig (m:VA):Prop:=m.cu<=4/\m.cc<=8/\m.cn<=24
theorem zk2 (h:zag w1 a xs) (hl:xs.length=192) (hb:bZ w w1) (hK: ∀b,K b->Sm w b):Ao xs K a:=by
 rcases h with h| ⟨b,off,rfl,hc⟩
 { exact .inl h }
 {
 refine .at_ fun e=> ?_
 obtain ⟨cs,t,h1,h2⟩:=hK b e;have:=hc 191 (by omega);unfold World.cell? at this;simp only [zab h1 hb] at this;have hx:cs[off+191]?=none:=Array.getElem?_eq_none (by omega)
 simp [hx] at this }
def Sx (w:World) (b:Nat):Prop:=b<w.heap.size
theorem ints_sx (hf:zal w.heap.size a) (hK: ∀b,K b->Sx w b):Ao xs K a:=.inr fun ad e hk=>absurd (hK _ hk) (Nat.not_lt.2 (hf ad e))
theorem VOwn.small {q:VB} {m:VA} {v:Vh} (h:VOwn w F Z q m v) (_:VBig m) (hZ: ∀b,Z b->Sx w b): ∀b,KV Z q b->Sx w b:=by
 intro b e
 rcases e with e|e|e|e|e
 { exact hZ b e }
 { rw [e];exact zak h.box }
 { rw [e];exact h.us.lt.2 }
 { rw [e];exact h.cs.lt.2 }
 { rw [e];exact h.net.lt.2 }
theorem VOwn.unitAt {q:VB} {m:VA} {v:Vh} (h:VOwn w F Z q m v) (hk:v.us[k]?=some u): ∃x n c,BW w x n c u.ws/\(ce w q.bu (k * 5)=some (.slice x n c)/\ce w q.bu (k * 5+1)=some (iV u.fu)/\ce w q.bu (k * 5+2)=some (.bool u.up)/\ce w q.bu (k * 5+3)=some (iV u.n)/\ce w q.bu (k * 5+4)=some (iV u.hv)):=by
 obtain ⟨vs,-,h1,h2⟩:=h.us.isRow;obtain ⟨b,off,x,n,c,e,h3,h4,y0,y1,y2,y3,y4⟩:=zdz h1 h2 hk;rw [h.us.at_] at e;cases e;simp only [Kl] at y0 y1 y2 y3 y4;exact⟨x,n,c,h3,y0,y1,y2,y3,y4⟩
theorem VOwn.unitFree {q:VB} {m:VA} {v:Vh} (h:VOwn w F Z q m v) (j:Nat):w.frozen? ⟨q.bu,j,none⟩=false:=by
 obtain ⟨vs,⟨-,h1⟩,-⟩:=h.us.row;have hat:=h.us.at_;rw [hat] at h1
 rcases h1 with ⟨e,-⟩| ⟨g,cap,cur,e,-,h4,-⟩
 { cases e }
 {
 cases e;exact zad h4 j }
def unL (u:Un) (a:oA) (n c:Nat):LV:= [.slice a n c,iV u.fu,.bool u.up,iV u.n,iV u.hv]
theorem VOwn.unit {q:VB} {m:VA} {v:Vh} (h:VOwn w F Z q m v) (hb:bZ w w1) (hg:VBig m) (hZ: ∀b,Z b->Sx w b) {u' :Un} (hk:v.us[k]?=some u) (hu:BW w1 a n c u'.ws) (hf:zal w.heap.size a):
 VOwn (puts w1 q.bu (k * 5) (unL u' a n c)) F Z q m ⟨v.ss,v.sg,v.g,v.us.set k u',v.cs,v.net,v.now⟩:=
 (h.bl hb).setUnit hk hu (ints_sx hf (h.small hg hZ)) rfl
theorem zj6 {us:List Un} (h:unsE us n=0) (hk:us[k]?=some u):unE u=0:=by
 unfold unsE at h
 split at h
 { cases h }
 {
 have: ∀(l:List Un),za0 (l.map unE)=0->∀x∈l,unE x=0:=by
  intro l
  induction l with
  |nil=>intro _ x hx;cases hx
  |cons y r ih=>
   intro h0 x hx;simp only [List.map_cons,za0] at h0
   by_cases hy:unE y=0
   {
   rw [KJ (by simpa using hy)] at h0
   rcases kt.1 hx with e|e
   { rw [e];exact hy }
   { exact ih h0 x e } }
   { rw [KK hy] at h0;exact absurd h0 hy }
 exact this us h u (Kp hk) }
theorem zk0 (h:unE u=0):u.ws.length=192:=by
 unfold unE at h
 split at h
 { rename_i h1;exact absurd h h1 }
 {
 split at h
 { cases h }
 {
 rename_i h2;exact ky fun e=>h2 e } }
theorem vBoot_any (F:Nat) (Z:Nat->Prop) (q:VB) (m:VA) (v:Vh) (node:Int) (w:World) (h:VOwn w F Z q m v) (hg:VBig m) (hZ: ∀b,Z b->Sx w b) (hu:unsE v.us v.g.vo.length=0):
 Cq 130 #[.pointer (some ⟨q.B,0,none⟩),iV node] w (HV w F Z q.B (bootV v node)):=by
 have HN:=uH (zim F Z q m v node w h);cases hn: (decide (node= -1)||isU v node)
 {
 have HE:Hd (bootV v node= (vh0,5)):=by unfold bootV;rw [KK hn];exact rfl
 rw [hn] at HN;clear hn h hg hZ hu;go_enter Tryz.func130,Tryz.ntmps130;go_wp2_with fail;refine(zae HN).mono ?_;rintro e w1 ⟨rfl,hw1⟩;replace hw1:=hw1.symm;subst hw1;go_wp2_with fail;go_ret;exact zbs (by rw [HE.o]) (by decide) (kS _ _) }
 rw [hn] at HN
 by_cases hm:node= -1
 {
 subst hm;have HR:Hd (bootV v (-1)= (⟨v.ss,v.sg,(zdb v.g).1,v.us,v.cs,v.net,v.now⟩,(zdb v.g).2)):=by unfold bootV;rw [KJ (by rw [hn];decide),KK rfl];exact rfl
 have x2:=zaa h.box 2 (.slice m.g.a m.g.n m.g.c) rfl;have x3:=zaa h.box 3 (iV v.g.fu) rfl;have x4:=zaa h.box 4 (.bool v.g.up) rfl;have x5:=zaa h.box 5 (iV v.g.t.r.v) rfl;have x6:=zaa h.box 6 (.slice m.g.ak m.g.nk m.g.ck) rfl;have x7:=zaa h.box 7 (iV v.g.t.r.t) rfl;have x8:=zaa h.box 8 (iV v.g.t.ver) rfl;have x9:=zaa h.box 9 (.slice m.g.av m.g.nv m.g.cv) rfl;have x10:=zaa h.box 10 (.slice m.g.ad m.g.nd m.g.cd) rfl;have HC:=uH (zol v.g m.g w h.g);unfold gtv at HC;have H:=uH h;clear h hn hg hZ hu;go_enter Tryz.func130,Tryz.ntmps130;go_wp2_with fail;refine(zae HN).mono ?_;rintro e w1 ⟨rfl,hw1⟩;replace hw1:=hw1.symm;subst hw1;go_wp2_with fail;refine(zae HC).mono ?_;rintro e w1 ⟨⟨k3,rfl,g3,e3⟩,hb⟩;unfold gtv;clear x2 x3 x4 x5 x6 x7 x8 x9 x10;have H1:=H.o.bl hb;have x2:=zaa H1.box 2 (.slice m.g.a m.g.n m.g.c) rfl;have f2:cZ w1 q.B 2=false:=zad H1.box 2;have x3:=zaa H1.box 3 (iV v.g.fu) rfl;have f3:cZ w1 q.B 3=false:=zad H1.box 3;have x4:=zaa H1.box 4 (.bool v.g.up) rfl;have f4:cZ w1 q.B 4=false:=zad H1.box 4;have x5:=zaa H1.box 5 (iV v.g.t.r.v) rfl;have f5:cZ w1 q.B 5=false:=zad H1.box 5;have x6:=zaa H1.box 6 (.slice m.g.ak m.g.nk m.g.ck) rfl;have f6:cZ w1 q.B 6=false:=zad H1.box 6;have x7:=zaa H1.box 7 (iV v.g.t.r.t) rfl;have f7:cZ w1 q.B 7=false:=zad H1.box 7;have x8:=zaa H1.box 8 (iV v.g.t.ver) rfl;have f8:cZ w1 q.B 8=false:=zad H1.box 8;have x9:=zaa H1.box 9 (.slice m.g.av m.g.nv m.g.cv) rfl;have f9:cZ w1 q.B 9=false:=zad H1.box 9;have x10:=zaa H1.box 10 (.slice m.g.ad m.g.nd m.g.cd) rfl;have f10:cZ w1 q.B 10=false:=zad H1.box 10;have HW:=uH (H.o.gate hb g3 e3);have HB:=uH (hb.mono H.o.lt);have hlt:=kc H.o.lt hb.size;have hFB:=H.o.fB;clear HC H1 g3 e3 hb;generalize (zdb v.g).1=g1 at *;generalize (zdb v.g).2=z1 at *;go_wp2_with fail;go_ret;have hfin:HV w F Z q.B (bootV v (-1)) (.returned (iV z1)) (puts w1 q.B 2 (gtL g1 k3)):=⟨by rw [HR.o],HB.o.trans (zbd _ hFB hlt),fun _=>⟨q,_,rfl,by rw [HR.o];exact HW.o⟩⟩;exact hfin }
 {
 obtain ⟨k,rfl⟩: ∃k:Nat,node= (k:Int):=⟨node.toNat,by unfold isU inB at hn;simp at hn;omega⟩;have hk:k<v.us.length:=by unfold isU inB at hn;simp at hn;omega
 have hku:v.us[k]?=some v.us[k]:=kX hk;have hun:=zj6 hu hku;have HR:Hd (bootV v k= (⟨v.ss,v.sg,v.g,v.us.set k ⟨v.us[k].ws,-1,true,0,0⟩,v.cs,v.net,v.now⟩,0)):=by
  unfold bootV;rw [KJ (by rw [hn];decide),KJ hm];simp only [kp];rw [show v.us.getD k un9=v.us[k] by simp [hk]];unfold bootS;rw [KJ (by simpa using hun)];exact rfl
 obtain ⟨x,nx,cx,q0,y0,y1,y2,y3,y4⟩:=h.unitAt hku;have HC:=uH (zwf v.us[k] x nx cx w q0);have HBS:Hd (bootS v.us[k]= (⟨v.us[k].ws,-1,true,0,0⟩,0)):=by unfold bootS;rw [KJ (by simpa using hun)];exact rfl
 rw [HBS.o] at HC;unfold unv at HC;have x11:=zaa h.box 11 (.slice m.au m.nu m.cu) rfl;rw [h.us.at_] at x11;have hlu:=h.us.len;have hkI: (k:Int)< (m.nu:Int):=by omega
 have hd: ((k:Int)== -1)=false:=by simp
 have H:=uH h;have HG:=uH hg;have HZ:=uH hZ;have HK:=uH hku;clear h hn hg hZ hu q0 hun hku hlu HBS hm;generalize v.us[k]=u at *;clear hk;go_enter Tryz.func130,Tryz.ntmps130;go_wp2_with fail;refine(zae HN).mono ?_;rintro e w1 ⟨rfl,hw1⟩;replace hw1:=hw1.symm;subst hw1;go_wp2_with fail;refine(zae HC).mono ?_;rintro e w1 ⟨⟨a1,n1,c1,rfl,b1,fr1⟩,hb⟩;unfold unv;have H1:=H.o.bl hb;clear y0 y1 y2 y3 y4 HC HN;obtain ⟨x1,nx1,cx1,-,y0,y1,y2,y3,y4⟩:=H1.unitAt HK.o;have f0:=H1.unitFree (k * 5);have f1:=H1.unitFree (k * 5+1);have f2:=H1.unitFree (k * 5+2);have f3:=H1.unitFree (k * 5+3);have f4:=H1.unitFree (k * 5+4);have HW:=uH (H.o.unit hb HG.o HZ.o HK.o b1 fr1);have hlt:=kc H.o.lt hb.size;have hFB:=H.o.us.lt.1;have HB:=uH (hb.mono H.o.lt);clear H1 b1 hb;go_wp2_with fail;go_ret;have hfin:HV w F Z q.B (bootV v k) (.returned (iV 0)) (puts w1 q.bu (k * 5) (unL ⟨u.ws,-1,true,0,0⟩ a1 n1 c1)):=hv_ok HR.o (HB.o.trans (zbd _ hFB hlt)) HW.o;exact hfin }
theorem zg3 {g:Nat} {v:Value} (h:w.heap[g]?=some (.cells cur t (0,0))) (hi:cur[i]?=some v):w.setCell ⟨g,i,none⟩ v=w:=by
 rw [setCell_eq_setRow w g i cur t (0,0) v h];have:cur.setIfInBounds i v=cur:=by
  obtain ⟨hl,e⟩:=Kh.1 hi;rw [<-e]
  apply Array.ext'
  rw [Array.toList_setIfInBounds];have h2:cur[i]=cur.toList[i]'(by simpa using hl):=by simp
  rw [h2];exact List.set_getElem_self _
 rw [this,setRow_self w g cur t (0,0) h]
theorem VOwn.fuelU {q:VB} {m:VA} {v:Vh} (h:VOwn w F Z q m v) (hk:v.us[k]?=some u) (x:Int):
 VOwn (w.setCell ⟨q.bu,k * 5+1,none⟩ (iV x)) F Z q m ⟨v.ss,v.sg,v.g,v.us.set k (cutU u x),v.cs,v.net,v.now⟩:=by
 obtain ⟨vs,-,r1,r2⟩:=h.us.isRow;obtain ⟨b,off,a,n,c,e,h3,h4,-⟩:=zdz r1 r2 hk;obtain ⟨p,cc,r,e1,e2,⟨a2,n2,c2,e3,h5,h6⟩,-⟩:=r2.put UR.len hk (y:=u) (d:= [.slice a n c,iV u.fu,.bool u.up,iV u.n,iV u.hv]) ⟨a,n,c,rfl,h3,h4⟩;refine h.setUnit (u' :=cutU u x) hk (a:=a2) (n:=n2) (c:=c2) h5 h6 ?_;obtain ⟨vs2,⟨l0,l1⟩,-⟩:=h.us.row;have hat:=h.us.at_;rw [hat] at l1
 rcases l1 with ⟨l1,-⟩| ⟨gg,cap,cur,l1,-,l4,-,-,-,-⟩
 { cases l1 }
 cases l1;obtain ⟨xx,nn,kk,-,y0,y1,y2,y3,y4⟩:=h.unitAt hk;have y0' :w.cell? ⟨q.bu,k * 5,none⟩=some (.slice a2 n2 c2):=by
  rcases r1 with r1| ⟨b1,o1,e5,hc⟩
  { rw [e1] at r1;simp [e3] at r1 }
  {
  rw [hat] at e5;cases e5;have:=hc (k * 5) (.slice a2 n2 c2) (by rw [e1,e3,KC (by omega),e2];simp)
  simpa using this }
 have cur_of: ∀j v,w.cell? ⟨q.bu,j,none⟩=some v->cur[j]?=some v:=fun j v hv=>by
  simp [World.cell?,l4] at hv
  exact hv
 have c0:=cur_of _ _ y0';have c2' :=cur_of _ _ y2;have c3:=cur_of _ _ y3;have c4:=cur_of _ _ y4
 show _= (((((w.setCell ⟨q.bu,k * 5,none⟩ (.slice a2 n2 c2)).setCell ⟨q.bu,k * 5+1,none⟩ (iV x)).setCell ⟨q.bu,k * 5+2,none⟩ (.bool u.up)).setCell ⟨q.bu,k * 5+3,none⟩ (iV u.n)).setCell ⟨q.bu,k * 5+4,none⟩ (iV u.hv))
 rw [zg3 l4 c0];have l5:=zdu l4 (k * 5+1) (iV x);rw [zg3 (i:=k * 5+2) l5 (by rw [Array.getElem?_setIfInBounds_ne (by omega)];exact c2'),zg3 (i:=k * 5+3) l5 (by rw [Array.getElem?_setIfInBounds_ne (by omega)];exact c3),zg3 (i:=k * 5+4) l5 (by rw [Array.getElem?_setIfInBounds_ne (by omega)];exact c4)]
theorem vCut_any (F:Nat) (Z:Nat->Prop) (q:VB) (m:VA) (v:Vh) (node k:Int) (w:World) (h:VOwn w F Z q m v):
 Cq 129 #[.pointer (some ⟨q.B,0,none⟩),iV node,iV k] w (HV w F Z q.B (cutS v node k)):=by
 have HN:=uH (zim F Z q m v node w h);have HK:=uH (zdq k 0 100000 w);cases hn: (decide (node= -1)||isU v node)
 {
 have HE:Hd (cutS v node k= (vh0,5)):=by unfold cutS;rw [KK hn];exact rfl
 rw [hn] at HN;clear hn h;go_enter Tryz.func129,Tryz.ntmps129;go_wp2_with fail;refine(zae HN).mono ?_;rintro e w1 ⟨rfl,hw1⟩;replace hw1:=hw1.symm;subst hw1;go_wp2_with fail;go_ret;exact zbs (by rw [HE.o]) (by decide) (kS _ _) }
 rw [hn] at HN;cases hr:inB k 0 100000
 {
 have HE:Hd (cutS v node k= (vh0,3)):=by unfold cutS;rw [KJ (by rw [hn];decide),KK hr];exact rfl
 rw [hr] at HK;clear hn h hr;go_enter Tryz.func129,Tryz.ntmps129;go_wp2_with fail;refine(zae HN).mono ?_;rintro e w1 ⟨rfl,hw1⟩;replace hw1:=hw1.symm;subst hw1;go_wp2_with fail;refine(zae HK).mono ?_;rintro e w1 ⟨rfl,hw1⟩;replace hw1:=hw1.symm;subst hw1;go_wp2_with fail;go_ret;exact zbs (by rw [HE.o]) (by decide) (kS _ _) }
 rw [hr] at HK
 by_cases hm:node= -1
 {
 subst hm;have HR:Hd (cutS v (-1) k= (⟨v.ss,v.sg,⟨v.g.ws,k,v.g.up,v.g.t,v.g.vo,v.g.di⟩,v.us,v.cs,v.net,v.now⟩,0)):=by unfold cutS;rw [KJ (by rw [hn];decide),KJ (by rw [hr];decide),KK rfl];exact rfl
 have x3:=zaa h.box 3 (iV v.g.fu) rfl;have f3:cZ w q.B 3=false:=zad h.box 3;have HF:=uH (flashOf_g q w);have H:=uH h;clear h hn hr;go_enter Tryz.func129,Tryz.ntmps129;go_wp2_with fail;refine(zae HN).mono ?_;rintro e w1 ⟨rfl,hw1⟩;replace hw1:=hw1.symm;subst hw1;go_wp2_with fail;refine(zae HK).mono ?_;rintro e w1 ⟨rfl,hw1⟩;replace hw1:=hw1.symm;subst hw1;go_wp2_with fail;refine(zae HF).mono ?_;rintro e w1 ⟨rfl,hw1⟩;replace hw1:=hw1.symm;subst hw1;go_wp2_with fail;go_ret;exact hv_ok HR.o ((kS _ _).setCell H.o.fB _) (H.o.setFuel k) }
 {
 obtain ⟨j,rfl⟩: ∃j:Nat,node= (j:Int):=⟨node.toNat,by unfold isU inB at hn;simp at hn;omega⟩;have hk:j<v.us.length:=by unfold isU inB at hn;simp at hn;omega
 have hku:v.us[j]?=some v.us[j]:=kX hk;have HR:Hd (cutS v j k= (⟨v.ss,v.sg,v.g,v.us.set j (cutU v.us[j] k),v.cs,v.net,v.now⟩,0)):=by
  unfold cutS;rw [KJ (by rw [hn];decide),KJ (by rw [hr];decide),KJ hm];simp only [kp];rw [show v.us.getD j un9=v.us[j] by simp [hk]];exact rfl
 obtain ⟨x,nx,cx,-,-,y1,-,-,-⟩:=h.unitAt hku;have f1:=h.unitFree (j * 5+1);have HF:=uH (flashOf_u F Z q m v j w h hk);have H:=uH h;have HKu:=uH hku;clear h hn hr hm hku;generalize v.us[j]=u at *;clear hk;go_enter Tryz.func129,Tryz.ntmps129;go_wp2_with fail;refine(zae HN).mono ?_;rintro e w1 ⟨rfl,hw1⟩;replace hw1:=hw1.symm;subst hw1;go_wp2_with fail;refine(zae HK).mono ?_;rintro e w1 ⟨rfl,hw1⟩;replace hw1:=hw1.symm;subst hw1;go_wp2_with fail;refine(zae HF).mono ?_;rintro e w1 ⟨rfl,hw1⟩;replace hw1:=hw1.symm;subst hw1;go_wp2_with fail;go_ret;exact hv_ok HR.o ((kS _ _).setCell H.o.us.lt.1 _) (H.o.fuelU HKu.o k) }
end
section
attribute [local go_sem ↓] kM kO
theorem zh1 (w:World) (g:Nat) (r:Array Value):w.grownBy (w.setRow g r) (some g):=⟨rfl,rfl,rfl,by simp,fun k _ hk=>setRow_other w g k _ (fun e=>hk (by rw [e]))⟩
def zM:LV:= [iV 0,iV 0,iV 0,iV 0,iV 0,nV,.bool false]
theorem clear_msg (g i:Nat) (cur:Array Value) (w:World) (hg:w.heap[g]?=some (.cells cur 99 (0,0))) (hi:i * 7+7<=cur.size):
 ∃w' cur',(∀(ty:TypeId) (c2:Nat),(Builtin.clear_ #[38] ty #[.slice (some ⟨g,i * 7,none⟩) 1 c2]).run Tryz.prog w=.ok (.tuple #[]) w')/\w'.heap[g]?=some (.cells cur' 99 (0,0))/\cur'.size=cur.size/\cur'.toList.take (i * 7)=cur.toList.take (i * 7)/\w.grownBy w' (some g):=by
 obtain ⟨i0,hi0,hz0,hz1,hz2⟩:=info_parts infoM;have hst:=run_storeCells_at Tryz.prog g (i * 7) 99 zM 0 cur w hg (by simp [zM];omega) (by intro u hu;simp [zM] at hu;rcases hu with rfl|rfl|rfl<;>rfl);refine⟨w.setRow g (cur.toList.take (i * 7+0)++zM++cur.toList.drop (i * 7+0+zM.length)).toArray,_, ?_,setRow_heap w g cur _ 99 _ hg, ?_, ?_,zh1 _ _ _⟩
 {
 intro ty c2;have hz: (Builtin.zeroCells (Value.agg #[iV 0,iV 0,iV 0,iV 0,iV 0,nV,.bool false]).cells 1).toList=zM:=by kernel_rfl
 simp [Builtin.clear_,run_underlying Tryz.underlying38,zeroValue,typeInfo,hi0,hz0,hz,hst] }
 {
 simp [zM]
 omega }
 {
 have hp: (cur.toList.take (i * 7+0)).length=i * 7:=by rw [KQ,Ki];omega
 show(cur.toList.take (i * 7+0)++zM++cur.toList.drop (i * 7+0+zM.length)).take (i * 7)=_
 rw [KW,Kn (by omega),List.take_take]
 simp }
def DelAns (g n c k:Nat) (cur:Array Value) (w:World) (e:Ending) (w' :World):Prop:=
 e=.returned (sV g (n - 1) c)/\∃cur',w'.heap[g]?=some (.cells cur' 99 (0,0))/\cur'.size=cur.size/\cur'.toList.take ((n - 1)* 7)=cur.toList.take (k * 7)++(cur.toList.drop ((k+1)* 7)).take ((n - 1 - k)* 7)/\w.grownBy w' (some g)
theorem zra (g n c k:Nat) (cur:Array Value) (w:World) (hg:w.heap[g]?=some (.cells cur 99 (0,0))) (hk:k<n) (hc:n<=c) (hcs:cur.size=c * 7) (hm:c<=1000000) (h1: ∀v∈(cur.toList.drop ((k+1)* 7)).take ((n - 1 - k)* 7),v.oneCell' =true):
 Cq 196 #[sV g n c,iV k,iV (k+1)] w (DelAns g n c k cur w):=by
 obtain ⟨irr,hir,rz0,rz1,rz2⟩:=info_parts infoM;obtain ⟨nw,hnw⟩: ∃nw,nw= (cur.toList.drop ((k+1)* 7)).take ((n - 1 - k)* 7):=⟨_,rfl⟩;have hnl:nw.length= (n - 1 - k)* 7:=by rw [hnw,KQ,List.length_drop,Ki,hcs];omega
 have hn1: ∀u∈nw,u.oneCell' =true:=fun u hu=>h1 u (by rw [<-hnw];exact hu)
 have hnc: ∀j u,nw[j]?=some u->ce w.drew g ((k+1)* 7+j)=some u:=fun j u hu=>by
  have hj:=(kY.1 hu).1;rw [hnw,List.getElem?_take_of_lt (by omega),List.getElem?_drop] at hu;exact zaa (W:=w.drew) hg _ _ (by simpa using hu)
 have hap: ∀(A:Addr) (c2:Nat) ty,(∀j u,nw[j]?=some u->w.drew.cell? (A.add j)=some u)->(Builtin.append_ #[38,38] ty #[sV g k c,.slice (some A) (n - 1 - k) c2]).run Tryz.prog w.drew=.ok (sV g (k+(n - 1 - k)) c) (w.drew.setRow g (cur.toList.take (k * 7)++nw++cur.toList.drop (k * 7+nw.length)).toArray):=fun A c2 ty hA=>by
  have:=run_append_room (P:=Tryz.prog) w.drew 38 ty 99 irr Tryz.underlying38 hir g k c cur hg A (n - 1 - k) c2 nw (by rw [rz1];exact hnl) hA hn1 (by omega) (by rw [rz1,hnl,hcs];omega);rw [rz1] at this;exact this
 have HNW:=uH hnw;have HNL:=uH hnl;have hkn:k+(n - 1 - k)=n - 1:=by omega
 rw [hkn] at hap;have i0: (0:Int)<=(k:Int)+1:=by omega
 have i1: (k:Int)+1<=(n:Int):=by omega
 have i2: (n:Int)<=(c:Int):=by omega
 have i3: (k:Int)<=(c:Int):=by omega
 have i4: ((k:Int)==(k:Int)+1)=false:=by simp;omega
 have i8: ((n - 1:Nat):Int)<=(n:Int):=by omega
 have i9: ¬c=n - 1:=by omega
 have j1:n - (n - 1)=1:=by omega
 have i5:IntKind.i64.wrap ((k:Int)+1)= (k:Int)+1:=by rw [kD];omega
 clear hnw hnl hn1 h1;go_enter Tryz.func196,Tryz.ntmps196;go_upto_region 5 with fail
 have hta: ∀A c2 ty,(A= (⟨g,(k+1)* 7,none⟩:Addr)\/k+1=c)->(Builtin.append_ #[38,38] ty #[sV g k c,.slice (some A) (n - 1 - k) c2]).run Tryz.prog w.drew=.ok (sV g (n - 1) c) (w.drew.setRow g (cur.toList.take (k * 7)++nw++cur.toList.drop (k * 7+nw.length)).toArray):=fun A c2 ty hA=>hap A c2 ty (fun j u hu=>by
  rcases hA with rfl|hA
  · rw [zc2];exact hnc j u hu
  · have hj:=(kY.1 hu).1
    have:=HNL.o;omega)
 have HTA:=uH hta;clear hap hta;have HCU:Hd (∀W,W=w.drew.setRow g (cur.toList.take (k * 7)++nw++cur.toList.drop (k * 7+nw.length)).toArray->∃w',(∀(ty:TypeId) (c2:Nat),(Builtin.clear_ #[38] ty #[.slice (some ⟨g,(n - 1)* 7,none⟩) 1 c2]).run Tryz.prog W=.ok (.tuple #[]) w')/\DelAns g n c k cur w (.returned (sV g (n - 1) c)) w'):=fun W hW=>by
  have hl:=HNL.o;have hh:=setRow_heap w.drew g cur (cur.toList.take (k * 7)++nw++cur.toList.drop (k * 7+nw.length)).toArray 99 (0,0) hg;rw [<-hW] at hh;have hsz: (cur.toList.take (k * 7)++nw++cur.toList.drop (k * 7+nw.length)).toArray.size=cur.size:=by simp;omega
  obtain ⟨w',cur',h1,h2,h3,h4,h5⟩:=clear_msg g (n - 1) _ W hh (by rw [hsz,hcs];omega);refine⟨w',h1,rfl,cur',h2,h3.trans hsz, ?_,(show w.grownBy w.drew (some g) from⟨rfl,rfl,rfl,kQ _,fun _ _ _=>rfl⟩).trans ((hW▸zh1 _ _ _).trans h5)⟩
  · have hp: (cur.toList.take (k * 7)++nw).length= (n - 1)* 7:=by rw [kj,KQ,Ki,hcs,hl];omega
    rw [h4]
    show(cur.toList.take (k * 7)++nw++cur.toList.drop (k * 7+nw.length)).take ((n - 1)* 7)=_
    rw [<-hp,List.take_left,HNW.o]
 by_cases hl:k+1=c
 · have hcn:c=n:=by omega
   subst hcn;have i6: (c:Int)<=(k:Int)+1:=by omega
   have hap: ∀ty,_:=fun ty=>HTA.o ⟨g,0,none⟩ 0 ty (.inr hl)
   rw [show c - 1 - k=0 by omega] at hap;have e6: (k:Int)+1= (c:Int):=by omega
   refine km (S:=fun _=>True) (by kernel_rfl) trivial ?_;intro hHeld;refine Htk 0 ?_
   refine Htk 1 ?_
   refine Htk 2 ?_
   refine Htk 3 ?_
   refine Htk 4 ?_
   refine Htk 5 ?_
   refine wr1 6 (fun K hK=> ?_);refine Lib.wp_append_run _ (.tmp 22) (.tmp 25) _ _ rfl _ _ rfl rfl _ _ (hap _) ?_;refine hK.out _ _ (trivial) (fun hHeld=> ?_);clear hK K
   refine Htk 7 ?_
   try simp only [Act.put,KA]
   refine KE (by kernel_rfl) ?_ _;obtain ⟨W,hW⟩: ∃W,W=w.drew.setRow g (cur.toList.take (k * 7)++nw++cur.toList.drop (k * 7+nw.length)).toArray:=⟨_,rfl⟩;obtain ⟨w',hcl,hfin⟩:=HCU.o W hW;rw [<-hW];have HFI:=uH hfin
   clear hfin hW hap HTA HCU hnc hg;go_wp2_with fail;go_ret;exact HFI.o
 · have hap: ∀ty,_:=fun ty=>HTA.o ⟨g,(k+1)* 7,none⟩ (c - (k+1)) ty (.inl rfl)
   have i6: ¬c=k+1:=fun e=>hl e.symm
   have i7: (n - (k+1))=n - 1 - k:=by omega
   rw [<-i7] at hap;clear i7 hl;have HAP:=uH hap;clear hap;refine km (S:=fun _=>True) (by kernel_rfl) trivial ?_;intro hHeld;refine Htk 0 ?_
   refine Htk 1 ?_
   refine Htk 2 ?_
   refine Htk 3 ?_
   refine Htk 4 ?_
   refine Htk 5 ?_
   refine wr1 6 (fun K hK=> ?_);refine Lib.wp_append_run _ (.tmp 22) (.tmp 25) _ _ rfl _ _ rfl rfl _ _ (HAP.o _) ?_;refine hK.out _ _ (trivial) (fun hHeld=> ?_);clear hK K
   refine Htk 7 ?_
   try simp only [Act.put,KA]
   refine KE (by kernel_rfl) ?_ _;have hap:=HAP.o;obtain ⟨W,hW⟩: ∃W,W=w.drew.setRow g (cur.toList.take (k * 7)++nw++cur.toList.drop (k * 7+nw.length)).toArray:=⟨_,rfl⟩;obtain ⟨w',hcl,hfin⟩:=HCU.o W hW;rw [<-hW];have HFI:=uH hfin
   clear hfin hW hap HTA HCU hnc hg;go_wp2_with fail;go_ret;exact HFI.o
end
end Go.Proofs.YthmekfcgdfckaaaGreatDoor
