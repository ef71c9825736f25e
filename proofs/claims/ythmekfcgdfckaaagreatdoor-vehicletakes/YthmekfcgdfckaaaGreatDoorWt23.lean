/- The contract of gate.Begin. -/
import Derived.Test.YthmekfcgdfckaaaGreatDoorWt17
import Derived.Test.YthmekfcgdfckaaaGreatDoorWt19
import Derived.Test.YthmekfcgdfckaaaGreatDoorWt22
import Derived.Deep.DeepCutAuto
set_option maxRecDepth 1000000
set_option maxHeartbeats 0
namespace Go.Proofs.YthmekfcgdfckaaaGreatDoor
variable {ss:List ByteArray} {l:List S2} {g:Gt} {o:Of} {now:Int} {m:GA} {a:Option Addr} {w:World}
section
open Go.RowKit
attribute [local go_sem ↓] Go.wp_at_zero Go.wp_at_succ
def begD (n:Int) (t:Tr) (N:Gt×Bool):Gt×Int×Int:=if N.2=true then(⟨N.1.ws,N.1.fu,N.1.up,t,zbj N.1.vo,zbj N.1.di⟩,n,0) else(N.1,0,0)
def gBeg (ss:List ByteArray) (l:List S2) (g:Gt) (o:Of) (now:Int):Gt×Int×Int:=
  if upE g≠0 then(gt0,0,upE g) else if(decide ((gOf g.ws).n≠0)&&!(gOf g.ws).en)=true then(gt0,0,12) else if(gOf g.ws).n=8 then(gt0,0,8)
  else if takeE ss l g.t o now g.vo.length≠0 then(gt0,0,takeE ss l g.t o now g.vo.length)
  else begD ((gOf g.ws).n+1) (takeT 0 g.t o) (noteG g (gOf g.ws) [1,(gOf g.ws).n+1,o.v])
theorem gBeg_1 (h:upE g≠0):gBeg ss l g o now= (gt0,0,upE g):=by unfold gBeg;rw [if_pos h]
theorem gBeg_2 (h:upE g=0) (h2: (gOf g.ws).n≠0) (h3: (gOf g.ws).en=false):gBeg ss l g o now= (gt0,0,12):=by unfold gBeg;rw [if_neg (by simpa using h),if_pos (by simp [h2,h3])]
theorem gBeg_3 (h:upE g=0) (h2: (gOf g.ws).n=0∨(gOf g.ws).en=true) (h3: (gOf g.ws).n=8):gBeg ss l g o now= (gt0,0,8):=by unfold gBeg;rw [if_neg (by simpa using h),if_neg (by rcases h2 with h2|h2<;>simp [h2]),if_pos h3]
theorem gBeg_4 (h:upE g=0) (h2: (gOf g.ws).n=0∨(gOf g.ws).en=true) (h3: (gOf g.ws).n≠8) (h4:takeE ss l g.t o now g.vo.length≠0):gBeg ss l g o now= (gt0,0,takeE ss l g.t o now g.vo.length):=by unfold gBeg;rw [if_neg (by simpa using h),if_neg (by rcases h2 with h2|h2<;>simp [h2]),if_neg h3,if_pos h4]
theorem gBeg_0 (h:upE g=0) (h2: (gOf g.ws).n=0∨(gOf g.ws).en=true) (h3: (gOf g.ws).n≠8) (h4:takeE ss l g.t o now g.vo.length=0):gBeg ss l g o now=begD ((gOf g.ws).n+1) (takeT 0 g.t o) (noteG g (gOf g.ws) [1,(gOf g.ws).n+1,o.v]):=by unfold gBeg;rw [if_neg (by simpa using h),if_neg (by rcases h2 with h2|h2<;>simp [h2]),if_neg h3,if_neg (by simpa using h4)]
def GBAns (w:World) (r:Gt×Int×Int) (e:Ending) (w' :World):Prop:=(∃m,e=.returned (.tuple #[gtv r.1 m,.int .i64 r.2.1,.int .i64 r.2.2])∧GIn w' m r.1∧GFr w.heap.size m)∧Below w.heap.size w w'
theorem gi_made3 (w:World) (x y z:Int) (t:TypeId):BI (w.alloc (.cells #[.int .i64 x,.int .i64 y,.int .i64 z] t)) (some ⟨w.heap.size,0,none⟩) 3 [x,y,z]:=
  ⟨zd2 _ _ _ _ _ rfl rfl,rfl,by decide⟩
theorem gt_set4 {W:World} {B:Nat} {t:Tr} {n c:Nat} (h:W.heap[B]?=some (gtO g m)):
    ((((W.setCell ⟨B,3,none⟩ (.int .i64 t.r.v)).setCell ⟨B,4,none⟩ (.slice a n c)).setCell ⟨B,5,none⟩ (.int .i64 t.r.t)).setCell ⟨B,6,none⟩ (.int .i64 t.ver)).heap[B]?=some (gtO ⟨g.ws,g.fu,g.up,t,g.vo,g.di⟩ ⟨m.a,m.n,m.c,a,n,c,m.av,m.nv,m.cv,m.ad,m.nd,m.cd⟩):=by
  unfold gtO at *;simp only [World.setCell,Array.getElem?_modify]
  simp [h]
theorem GBox.trust {F B:Nat} {bv bd:Nat} {t:Tr} {n c:Nat} (h:GBox w F B m g bv bd) (hk:BI w a n t.r.ks) (ha:zal F a) (hB:Off B a) (hv:Off bv a) (hd:Off bd a):
    GBox ((((w.setCell ⟨B,3,none⟩ (.int .i64 t.r.v)).setCell ⟨B,4,none⟩ (.slice a n c)).setCell ⟨B,5,none⟩ (.int .i64 t.r.t)).setCell ⟨B,6,none⟩ (.int .i64 t.ver)) F B ⟨m.a,m.n,m.c,a,n,c,m.av,m.nv,m.cv,m.ad,m.nd,m.cd⟩ ⟨g.ws,g.fu,g.up,t,g.vo,g.di⟩ bv bd:=by
  have hT:w.grownBy ((((w.setCell ⟨B,3,none⟩ (.int .i64 t.r.v)).setCell ⟨B,4,none⟩ (.slice a n c)).setCell ⟨B,5,none⟩ (.int .i64 t.r.t)).setCell ⟨B,6,none⟩ (.int .i64 t.ver)) (some B):=zac (zac (zac (zac (World.grownBy.refl _ _) _ _) _ _) _ _) _ _;have o:=h.own;exact⟨gt_set4 h.box,⟨o.ws.turns hT h.oa,hk.turns hT hB,o.av,o.ad,o.vo.turns hT (Ne.symm h.nv),o.di.turns hT (Ne.symm h.nd),o.nv,o.nd,o.fv,o.fd,o.ne,o.wv,o.wd,hv,hd,o.fa,ha⟩,h.fB,h.nv,h.nd,h.oa,hB⟩
theorem GOwn.lower {F F' :Nat} {bv bd:Nat} (h:GOwn w F m g bv bd) (hF:F' ≤F):GOwn w F' m g bv bd:=
  ⟨h.ws,h.ks,h.av,h.ad,h.vo,h.di,h.nv,h.nd,Nat.le_trans hF h.fv,Nat.le_trans hF h.fd,h.ne,h.wv,h.wd,h.kv,h.kd,h.fa.lower hF,h.fk.lower hF⟩
theorem GBox.lower {F F' B:Nat} {bv bd:Nat} (h:GBox w F B m g bv bd) (hF:F' ≤F):GBox w F' B m g bv bd:=⟨h.box,h.own.lower hF,Nat.le_trans hF h.fB,h.nv,h.nd,h.oa,h.ok⟩
theorem tr_keys {t:Tr} (h:trE t=0):t.r.ks≠ []:=by
  have a2:t.r.e=0:=by
    cases z:inR t.ver 0 1000
    { rw [zla z] at h;cases h }
    { rw [zkd z] at h;exact h }
  cases z1:inR t.r.v 1 1000
  { unfold Rt.e at a2;rw [zlw z1] at a2;cases a2 }
  cases z2:inR t.r.ks.length 1 6
  { unfold Rt.e at a2;rw [zle z1 z2] at a2;cases a2 }
  simp [inR] at z2
  intro e;rw [e] at z2
  simp at z2
theorem g3_bi {w' :World} {B b1 b2 n:Nat} {xs:List Int} (h:BI w a n xs) (hg:G3 w w' B b1 b2) (h0:Off B a) (h1:Off b1 a) (h2:Off b2 a):BI w' a n xs:=by
  refine⟨?_,h.len,h.max⟩
  rcases h.at_ with h| ⟨b,off,rfl,hc⟩
  { exact .inl h }
  { exact .inr ⟨b,off,rfl,fun i hi=>by rw [World.cell?_of_block (hg.block b (zah (hc i hi)) (h0 _ rfl) (h1 _ rfl) (h2 _ rfl))];exact hc i hi⟩ }
theorem begS {W W' :World} {B S R:Nat} {k:GA} {s:Gs} (hB:W.heap[B]?=some (gtO g k)) (hS:W.heap[S]?=some (gsO s)) (nB:B≠R) (nS:S≠R) (h:W.grownBy W' (some R)):
    (W'.cell? ⟨B,0,none⟩=some (.slice k.a k.n k.c)∧W'.cell? ⟨B,1,none⟩=some (.int .i64 g.fu)∧W'.cell? ⟨B,2,none⟩=some (.bool g.up)∧W'.cell? ⟨B,3,none⟩=some (.int .i64 g.t.r.v)∧W'.cell? ⟨B,4,none⟩=some (.slice k.ak k.nk k.ck)∧W'.cell? ⟨B,5,none⟩=some (.int .i64 g.t.r.t)∧W'.cell? ⟨B,6,none⟩=some (.int .i64 g.t.ver)∧W'.cell? ⟨B,7,none⟩=some (.slice k.av k.nv k.cv)∧W'.cell? ⟨B,8,none⟩=some (.slice k.ad k.nd k.cd))∧W'.cell? ⟨S,0,none⟩=some (.int .i64 s.n)∧W.grownBy W' (some R):=by
  have b:=zar hB h nB;have x:=zar hS h nS;unfold gtO at b;unfold gsO at x;exact⟨⟨zaa b 0 _ rfl,zaa b 1 _ rfl,zaa b 2 _ rfl,zaa b 3 _ rfl,zaa b 4 _ rfl,zaa b 5 _ rfl,zaa b 6 _ rfl,zaa b 7 _ rfl,zaa b 8 _ rfl⟩,zaa x 0 _ rfl,h⟩
theorem zml (ab:Option Addr) (nb cb:Nat) (ss:List ByteArray) (a1:Option Addr) (n1 c1:Nat) (l:List S2) (g:Gt) (k0:GA) (o:Of) (m:OA) (now:Int) (w:World)
    (h0:BB w ab nb cb ss) (h1:BG w a1 n1 l) (h:GIn w k0 g) (h3:BO w m o) (hT:Tab w):
    Calls Tryz.prog 189 #[bookv ab nb cb,.slice a1 n1 c1,gtv g k0,offv o.v o.u m,.int .i64 now] w (GBAns w (gBeg ss l g o now)):=by
  have hw:Below w.heap.size w ((((w.alloc (.cells #[.slice ab nb cb] 24)).alloc (.cells (aG k0 g) 35)).alloc (.cells (aO m o) 47)).alloc (.cells aY 35)):=((bA2).alloc (by simp;omega) _).alloc (by simp;omega) _;have b0:Hid (((((w.alloc (.cells #[.slice ab nb cb] 24)).alloc (.cells (aG k0 g) 35)).alloc (.cells (aO m o) 47)).alloc (.cells aY 35)).heap[w.heap.size]?=some (.cells #[.slice ab nb cb] 24 (0,0))):=zai (zai (zai (heap_alloc_last _ _) _) _) _;have b1:Hid (((((w.alloc (.cells #[.slice ab nb cb] 24)).alloc (.cells (aG k0 g) 35)).alloc (.cells (aO m o) 47)).alloc (.cells aY 35)).heap[w.heap.size+1]?=some (.cells (aG k0 g) 35 (0,0))):=zai (zai (zau _ _ _) _) _;have b2:Hid (((((w.alloc (.cells #[.slice ab nb cb] 24)).alloc (.cells (aG k0 g) 35)).alloc (.cells (aO m o) 47)).alloc (.cells aY 35)).heap[w.heap.size+1+1]?=some (.cells (aO m o) 47 (0,0))):=zai (zb9 _ _ _ _) _;have b3:Hid (((((w.alloc (.cells #[.slice ab nb cb] 24)).alloc (.cells (aG k0 g) 35)).alloc (.cells (aO m o) 47)).alloc (.cells aY 35)).heap[w.heap.size+1+1+1]?=some (.cells aY 35 (0,0))):=zj3 _ _ _ _ _;have HU:=hide (fun W (hW:Below w.heap.size w W)=>zf8 g k0 W (h.below hW));have HK:=hide (fun W (hW:Below w.heap.size w W)=>take_any ab nb cb ss a1 n1 c1 l g.t k0.ak k0.nk k0.ck o m now k0.nv W (h0.below hW) (h1.below hW) (h.ks.below hW) (h3.below hW) (hT.below hW));have hnv:=h.vo.len;rw [←hnv] at HK;have HP:=hide h;have hx:w.heap.size≤w.heap.size+1+1+1:=by omega
  clear h h0 h1 h3 hT;unfold gtv at HU;unfold bookv trv offv TAns trv at HK;unfold bookv gtv offv;rw [hnv] at HK;have HNV:=hide hnv;clear hnv;go_enter Tryz.func189,Tryz.ntmps189;go_wp2_with fail;generalize ((((w.alloc (.cells #[.slice ab nb cb] 24)).alloc (.cells (aG k0 g) 35)).alloc (.cells (aO m o) 47)).alloc (.cells aY 35))=W at *;refine(zae HU _ hw).mono ?_;rintro e w1 ⟨rfl,hb⟩;replace b0:=hide (zab b0.out hb);replace b1:=hide (zab b1.out hb);replace b2:=hide (zab b2.out hb);replace b3:=hide (zab b3.out hb);replace hw:=bT hw hb;clear hb HU
  by_cases z1:upE g=0
  rotate_left
  {
  have HE:=hide (gBeg_1 (ss:=ss) (l:=l) (o:=o) (now:=now) z1);have d1: (upE g !=0)=true:=by simpa using z1
  rw [zlf z1];unfold gsv gs0;replace b3:=hide (zab b3.out (zaf (Below.refl w1.heap.size w1) (.cells aX 72)));replace hw:Below w.heap.size w (w1.alloc (.cells aX 72)):=hw.alloc hw.size _;clear z1 HK HP;generalize upE g=q at *;go_upto_region 2 with fail
  generalize w1.alloc (.cells aX 72)=W1 at *;obtain ⟨y0,y1,y2,y3,y4,y5,y6,y7,y8⟩:=cl9 b3.out;obtain ⟨f0,f1,f2,f3,f4,f5,f6,f7,f8⟩:=fr9 b3.out;go_wp2_with fail;refine bodyPost_ret (v:=.tuple #[gtv gt0 ga0,.int .i64 0,.int .i64 q]) (by simp [results,Tryz.results189,go_sem,gtv,gt0,ga0,y0,y1,y2,y3,y4,y5,y6,y7,y8]) rfl ?_;rw [HE.out];exact⟨⟨ga0,rfl,gin0 _,gfr0 _⟩,zam hw (zac (zac (zac (zac (zac (zac (zac (zac (zac (World.grownBy.refl W1 (some (w.heap.size+1+1+1))) 0 (.slice none 0 0)) 1 (.int .i64 0)) 2 (.bool false)) 3 (.int .i64 0)) 4 (.slice none 0 0)) 5 (.int .i64 0)) 6 (.int .i64 0)) 7 (.slice none 0 0)) 8 (.slice none 0 0)) hx hw.size⟩
  }
  rw [zld z1];have Z1:=hide z1;obtain ⟨hlw,hlk,hlv,hld⟩:=HP.out.sizes (zko z1);have HT:=hide (fun W (hW:Below w.heap.size w W)=>zdc g k0 W (HP.out.below hW) hlw hlk hlv hld);unfold gtv at HT;clear z1 hlw hlk hlv hld HP;have EA:=hide (fun h2 h3=>gBeg_2 (ss:=ss) (l:=l) (o:=o) (now:=now) Z1.out h2 h3);have EB:=hide (fun h2 h3=>gBeg_3 (ss:=ss) (l:=l) (o:=o) (now:=now) Z1.out h2 h3);have EC:=hide (fun h2 h3 h4=>gBeg_4 (ss:=ss) (l:=l) (o:=o) (now:=now) Z1.out h2 h3 h4);have ED:=hide (fun h2 h3 h4=>gBeg_0 (ss:=ss) (l:=l) (o:=o) (now:=now) Z1.out h2 h3 h4);clear Z1;have hsN:=(zrr g.ws).n;generalize gOf g.ws=s at *;unfold gsv;obtain ⟨hs0,hs8⟩:=hsN;have bS:=hide (heap_alloc_last w1 (.cells (aS s) 72));have hb7:Below w1.heap.size w1 (w1.alloc (.cells (aS s) 72)):=zaf (Below.refl _ _) _;have hS0:=hw.size;have hSR:=zak b3.out;replace b0:=hide (zab b0.out hb7);replace b1:=hide (zab b1.out hb7);replace b2:=hide (zab b2.out hb7);replace b3:=hide (zab b3.out hb7);replace hw:=bT hw hb7;clear hb7;go_upto_region 4 with fail
  generalize (w1.alloc (.cells (aS s) 72))=W1 at *;generalize w1.heap.size=S at *;have hSW:=zak bS.out;obtain ⟨s0,s1,s2,s3,s4⟩:=cl5 bS.out
  go_cut [32] (fun v32 wx=>v32=.bool (decide (s.n≠0)&&!s.en)∧wx=W1)
  case first=>
    by_cases p1:s.n=0
    {
    have d1: (s.n !=0)=false:=by simpa using p1
    go_wp2_with fail
    go_meet
    case rel=>exact⟨congrArg Value.bool (by simp [p1]),rfl⟩
    }
    have d1: (s.n !=0)=true:=by simpa using p1
    cases p2:s.en
    {
    (try dsimp only [aS] at s4);rw [p2] at s4
    go_wp2_with fail
    go_meet
    case rel=>exact⟨congrArg Value.bool (by simp [p1,p2]),rfl⟩
    }
    {
    (try dsimp only [aS] at s4);rw [p2] at s4
    go_wp2_with fail
    go_meet
    case rel=>exact⟨congrArg Value.bool (by simp [p2]),rfl⟩
    }
  obtain ⟨rfl,hW⟩:=hcut;replace hW:=hW.symm;subst hW;cases z2: (decide (s.n≠0)&&!s.en);rotate_left
  {
  have z3:s.n≠0∧s.en=false:=by simpa using z2
  have HE:=hide (EA.out z3.1 z3.2);clear z2 z3 EA EB EC ED HK HT;obtain ⟨y0,y1,y2,y3,y4,y5,y6,y7,y8⟩:=cl9 b3.out;obtain ⟨f0,f1,f2,f3,f4,f5,f6,f7,f8⟩:=fr9 b3.out;go_wp2_with fail;refine bodyPost_ret (v:=.tuple #[gtv gt0 ga0,.int .i64 0,.int .i64 12]) (by simp [results,Tryz.results189,go_sem,gtv,gt0,ga0,y0,y1,y2,y3,y4,y5,y6,y7,y8]) rfl ?_;rw [HE.out];exact⟨⟨ga0,rfl,gin0 _,gfr0 _⟩,zam hw (zac (zac (zac (zac (zac (zac (zac (zac (zac (World.grownBy.refl W1 (some (w.heap.size+1+1+1))) 0 (.slice none 0 0)) 1 (.int .i64 0)) 2 (.bool false)) 3 (.int .i64 0)) 4 (.slice none 0 0)) 5 (.int .i64 0)) 6 (.int .i64 0)) 7 (.slice none 0 0)) 8 (.slice none 0 0)) hx hw.size⟩
  }
  have z3:s.n=0∨s.en=true:=by by_cases e:s.n=0;exact .inl e;exact .inr (by simpa [e] using z2)
  have Z3:=hide z3;clear z2 z3 EA
  by_cases z4:s.n=8
  {
  have HE:=hide (EB.out Z3.out z4)
  (try dsimp only [aS] at s0);rw [z4] at s0
  clear z4 EB EC ED HK HT;obtain ⟨y0,y1,y2,y3,y4,y5,y6,y7,y8⟩:=cl9 b3.out;obtain ⟨f0,f1,f2,f3,f4,f5,f6,f7,f8⟩:=fr9 b3.out;go_wp2_with fail;refine bodyPost_ret (v:=.tuple #[gtv gt0 ga0,.int .i64 0,.int .i64 8]) (by simp [results,Tryz.results189,go_sem,gtv,gt0,ga0,y0,y1,y2,y3,y4,y5,y6,y7,y8]) rfl ?_;rw [HE.out];exact⟨⟨ga0,rfl,gin0 _,gfr0 _⟩,zam hw (zac (zac (zac (zac (zac (zac (zac (zac (zac (World.grownBy.refl W1 (some (w.heap.size+1+1+1))) 0 (.slice none 0 0)) 1 (.int .i64 0)) 2 (.bool false)) 3 (.int .i64 0)) 4 (.slice none 0 0)) 5 (.int .i64 0)) 6 (.int .i64 0)) 7 (.slice none 0 0)) 8 (.slice none 0 0)) hx hw.size⟩
  }
  have d4: (s.n==8)=false:=by simpa using z4
  replace EC:=hide (fun h4=>EC.out Z3.out z4 h4);replace ED:=hide (fun h4=>ED.out Z3.out z4 h4);clear z4 Z3 EB;have k0' :=zaa b0.out 0 _ rfl;have x3:=zaa b1.out 3 _ rfl;have x4:=zaa b1.out 4 _ rfl;have x5:=zaa b1.out 5 _ rfl;have x6:=zaa b1.out 6 _ rfl;have x7:=zaa b1.out 7 _ rfl;obtain ⟨o0,o1,o2,o3,o4,o5,o6⟩:=cl7 b2.out;go_wp2_with fail;refine(zae HK _ hw).mono ?_;rintro e w2 ⟨⟨a5,n5,c5,rfl,hk5,hf5⟩,hb⟩;have hF2:=hw.size;have h12:=hb.size;replace b0:=hide (zab b0.out hb);replace b1:=hide (zab b1.out hb);replace b2:=hide (zab b2.out hb);replace b3:=hide (zab b3.out hb);replace bS:=hide (zab bS.out hb);replace hw:=bT hw hb;clear hb HK d4 k0' x3 x4 x5 x6 x7 o0 o1 o2 o3 o4 o5 o6 s0 s1 s2 s3 s4;rw [HNV.out] at EC ED;have HTK:Hid (takeE ss l g.t o now k0.nv=0→(takeT 0 g.t o).r.ks≠ []):=fun h=>tr_keys (t:=⟨lastR g.t.r o.roots,0⟩) (last_ok h (by decide))
  generalize takeE ss l g.t o now k0.nv=q at *;have ET:Hid (q=0→takeT q g.t o=takeT 0 g.t o):=fun h=>by rw [h]
  generalize takeT q g.t o=t at *
  by_cases zq:q=0
  rotate_left
  {
  have HE:=hide (EC.out zq);have dq: (q !=0)=true:=by simpa using zq
  replace b3:=hide (zab b3.out (zaf (Below.refl w2.heap.size w2) (.cells #[.int .i64 t.r.v,.slice a5 n5 c5,.int .i64 t.r.t,.int .i64 t.ver] 32)));replace hw:Below w.heap.size w (w2.alloc (.cells #[.int .i64 t.r.v,.slice a5 n5 c5,.int .i64 t.r.t,.int .i64 t.ver] 32)):=hw.alloc hw.size _;clear zq EC ED HT ET HTK;go_upto_region 9 with fail
  generalize w2.alloc (.cells #[.int .i64 t.r.v,.slice a5 n5 c5,.int .i64 t.r.t,.int .i64 t.ver] 32)=W2 at *;obtain ⟨y0,y1,y2,y3,y4,y5,y6,y7,y8⟩:=cl9 b3.out;obtain ⟨f0,f1,f2,f3,f4,f5,f6,f7,f8⟩:=fr9 b3.out;go_wp2_with fail;refine bodyPost_ret (v:=.tuple #[gtv gt0 ga0,.int .i64 0,.int .i64 q]) (by simp [results,Tryz.results189,go_sem,gtv,gt0,ga0,y0,y1,y2,y3,y4,y5,y6,y7,y8]) rfl ?_;rw [HE.out];exact⟨⟨ga0,rfl,gin0 _,gfr0 _⟩,zam hw (zac (zac (zac (zac (zac (zac (zac (zac (zac (World.grownBy.refl W2 (some (w.heap.size+1+1+1))) 0 (.slice none 0 0)) 1 (.int .i64 0)) 2 (.bool false)) 3 (.int .i64 0)) 4 (.slice none 0 0)) 5 (.int .i64 0)) 6 (.int .i64 0)) 7 (.slice none 0 0)) 8 (.slice none 0 0)) hx hw.size⟩
  }
  subst zq;replace ED:=hide (ED.out rfl);have hks:t.r.ks≠ []:=by rw [ET.out rfl];exact HTK.out rfl
  rw [←ET.out rfl] at ED;clear EC ET HTK;have HOA:=hide (fun B (hB:w2.heap.size≤B)=>(zcu hk5.at_ B hB).resolve_left hks);have HK5:=hide hk5;have HF5:Hid (zal W1.heap.size a5):=hf5;clear hk5 hf5 hks;have bTk:=hide (heap_alloc_last w2 (.cells #[.int .i64 t.r.v,.slice a5 n5 c5,.int .i64 t.r.t,.int .i64 t.ver] 32));have hb7:Below w2.heap.size w2 (w2.alloc (.cells #[.int .i64 t.r.v,.slice a5 n5 c5,.int .i64 t.r.t,.int .i64 t.ver] 32)):=zaf (Below.refl _ _) _;replace HK5:=hide (HK5.out.below hb7);replace b1:=hide (zab b1.out hb7);replace b2:=hide (zab b2.out hb7);replace b3:=hide (zab b3.out hb7);replace bS:=hide (zab bS.out hb7);replace hw:=bT hw hb7;have hS7:=hb7.size;clear hb7 b0;go_upto_region 11 with fail
  generalize w2.alloc (.cells #[.int .i64 t.r.v,.slice a5 n5 c5,.int .i64 t.r.t,.int .i64 t.ver] 32)=W2 at *;obtain ⟨T,hT2⟩: ∃T,T=w2.heap.size:=⟨_,rfl⟩;rw [←hT2] at bTk HOA hS7 h12⊢;clear hT2;obtain ⟨x0,x1,x2,x3,x4,x5,x6,x7,x8⟩:=cl9 b1.out;go_wp2_with fail;have hF0:=hw.size;refine(zae HT _ hw).mono ?_;rintro e w5 ⟨⟨k,bv,bd,rfl,ho,hoff⟩,hb5⟩;have hlt:=zak b3.out;have hltT:=zak bTk.out;have hltS:=zak bS.out;replace b2:=hide (zab (zab b2.out hb5) (zaf (Below.refl w5.heap.size w5) (.cells (aG k g) 35)));replace b3:=hide (zab (zab b3.out hb5) (zaf (Below.refl w5.heap.size w5) (.cells (aG k g) 35)));replace bS:=hide (zab (zab bS.out hb5) (zaf (Below.refl w5.heap.size w5) (.cells (aG k g) 35)));replace bTk:=hide (zab (zab bTk.out hb5) (zaf (Below.refl w5.heap.size w5) (.cells (aG k g) 35)));have hbx:=hide (ho.boxed hb5.size (hoff _ (.inr (Nat.le_refl _))));have hw5:Below W2.heap.size W2 (w5.alloc (.cells (aG k g) 35)):=zaf hb5 _;have hB:=hb5.size;replace HK5:=hide (HK5.out.below hw5);clear HT ho hoff hb5 b1 x0 x1 x2 x3 x4 x5 x6 x7 x8;unfold gtv;go_upto_region 12 with fail
  generalize (w5.alloc (.cells (aG k g) 35))=W5 at *;generalize w5.heap.size=B at *;obtain ⟨s0,s1,s2,s3,s4⟩:=cl5 bS.out;have o2:=zaa b2.out 2 _ rfl;have hb3:=hide ((Below.refl W5.heap.size W5).alloc (Nat.le_refl _) (.cells #[.int .i64 1,.int .i64 (s.n+1),.int .i64 o.v] 3));have HN:=hide (zgr _ _ _ _ _ _ s (some ⟨W5.heap.size,0,none⟩) 3 3 [1,s.n+1,o.v] _ (hbx.out.below hb3.out) (gi_made3 W5 1 (s.n+1) o.v 3));unfold gsv at HN;go_wp2_with fail;refine(zae HN).mono ?_;rintro e w6 ⟨rfl,⟨k2,hb7⟩,hg7⟩;have g7:=(zcw (B:=B) (b1:=bv) (b2:=bd) hb3.out).trans hg7;have hb8:=g7.bel hw5 hB hb7.own.fv hb7.own.fd hw5.size;replace b3:=hide (g7.blk b3.out (by omega) (by have:=hb7.own.fv;omega) (by have:=hb7.own.fd;omega));replace bS:=hide (g7.blk bS.out (by omega) (by have:=hb7.own.fv;omega) (by have:=hb7.own.fd;omega));replace bTk:=hide (g7.blk bTk.out (by omega) (by have:=hb7.own.fv;omega) (by have:=hb7.own.fd;omega));have fv7:=hb7.own.fv;have fd7:=hb7.own.fd;replace HK5:Hid (BI w6 a5 n5 t.r.ks):=g3_bi HK5.out g7 (HOA.out B (by omega)) (HOA.out bv (by omega)) (HOA.out bd (by omega));replace hw:=bT hw hb8;replace hbx:=hide hb7;clear hg7 g7 hb7 HN hb3 b2 o2 s0 s1 s2 s3 s4;generalize hN:noteG g s [1,s.n+1,o.v]=NN at *;have HN:=hide hN;clear hN;obtain ⟨N,d⟩:=NN;dsimp only at hbx⊢;cases d
  {
  have HE:Hid (gBeg ss l g o now= (N,0,0)):=by show _=_;have e:=ED.out;unfold begD at e;simpa using e
  clear ED;have bC:=hide hbx.out.box;unfold gtO at bC;obtain ⟨x0,x1,x2,x3,x4,x5,x6,x7,x8⟩:=cl9 bC.out;obtain ⟨y0,y1,y2,y3,y4,y5,y6,y7,y8⟩:=cl9 b3.out;obtain ⟨f0,f1,f2,f3,f4,f5,f6,f7,f8⟩:=fr9 b3.out;go_wp2_with fail;refine bodyPost_ret (v:=.tuple #[gtv N k2,.int .i64 0,.int .i64 0]) (by simp [results,Tryz.results189,go_sem,gtv,y0,y1,y2,y3,y4,y5,y6,y7,y8]) rfl ?_;rw [HE.out];have hT:=zac (zac (zac (zac (zac (zac (zac (zac (zac (World.grownBy.refl w6 (some (w.heap.size+1+1+1))) 0 (.slice k2.a k2.n k2.c)) 1 (.int .i64 N.fu)) 2 (.bool N.up)) 3 (.int .i64 N.t.r.v)) 4 (.slice k2.ak k2.nk k2.ck)) 5 (.int .i64 N.t.r.t)) 6 (.int .i64 N.t.ver)) 7 (.slice k2.av k2.nv k2.cv)) 8 (.slice k2.ad k2.nd k2.cd);exact⟨⟨k2,rfl,(hbx.out.own.low hT hlt).gin,hbx.out.own.fr hF0⟩,zam hw hT hx hw.size⟩
  }
  have HE:Hid (gBeg ss l g o now= (forgG ⟨N.ws,N.fu,N.up,t,N.vo,N.di⟩,s.n+1,0)):=by show _=_;have e:=ED.out;unfold begD at e;simpa [forgG] using e
  clear ED;have bC:=hide hbx.out.box;unfold gtO at bC;have x3:=zaa bC.out 3 _ rfl;have x4:=zaa bC.out 4 _ rfl;have x5:=zaa bC.out 5 _ rfl;have x6:=zaa bC.out 6 _ rfl;have f3:=zad bC.out 3;have f4:=zad bC.out 4;have f5:=zad bC.out 5;have f6:=zad bC.out 6;have t0:=zaa bTk.out 0 _ rfl;have t1:=zaa bTk.out 1 _ rfl;have t2:=zaa bTk.out 2 _ rfl;have t3:=zaa bTk.out 3 _ rfl;go_upto_region 15 with fail
  have hbt:=hide ((hbx.out.lower (F' :=W1.heap.size) (by omega)).trust (t:=t) (n:=n5) (c:=c5) HK5.out HF5.out (HOA.out B (by omega)) (HOA.out bv (by omega)) (HOA.out bd (by omega)));have hT:w6.grownBy ((((w6.setCell ⟨B,3,none⟩ (.int .i64 t.r.v)).setCell ⟨B,4,none⟩ (.slice a5 n5 c5)).setCell ⟨B,5,none⟩ (.int .i64 t.r.t)).setCell ⟨B,6,none⟩ (.int .i64 t.ver)) (some B):=zac (zac (zac (zac (World.grownBy.refl _ _) _ _) _ _) _ _) _ _;replace b3:=hide (zar b3.out hT (by omega));replace bS:=hide (zar bS.out hT (by omega));replace hw:=zam hw hT (by omega) hw.size;have hwB:=hw5.size;clear bTk bC hT x3 x4 x5 x6 f3 f4 f5 f6 t0 t1 t2 t3 hbx HK5;generalize ((((w6.setCell ⟨B,3,none⟩ (.int .i64 t.r.v)).setCell ⟨B,4,none⟩ (.slice a5 n5 c5)).setCell ⟨B,5,none⟩ (.int .i64 t.r.t)).setCell ⟨B,6,none⟩ (.int .i64 t.ver))=W6 at *;have HF:=hide (zgq _ _ _ _ _ _ _ hbt.out);go_wp2_with fail;refine(zae HF).mono ?_;rintro e w7 ⟨rfl,hb7,hg7⟩;replace b3:=hide (hg7.blk b3.out (by omega) (by omega) (by omega));replace bS:=hide (hg7.blk bS.out (by omega) (by omega) (by omega));replace hw:=hg7.bel hw (by omega) (by omega) (by omega) hw.size;have HB:=hide hb7;clear hb7 hg7 HF hbt;generalize forgG ⟨N.ws,N.fu,N.up,t,N.vo,N.di⟩=g4 at *;obtain ⟨k4,hk4⟩: ∃k:GA,k= ⟨k2.a,k2.n,k2.c,a5,n5,c5,k2.av,k2.nv,k2.cv,k2.ad,k2.nd,k2.cd⟩:=⟨_,rfl⟩;rw [←hk4] at HB;clear hk4;go_upto_region 16 with fail
  have hR6:=zak b3.out;refine wp_region_held_drew (S:=fun W' =>(W'.cell? ⟨B,0,none⟩=some (.slice k4.a k4.n k4.c)∧W'.cell? ⟨B,1,none⟩=some (.int .i64 g4.fu)∧W'.cell? ⟨B,2,none⟩=some (.bool g4.up)∧W'.cell? ⟨B,3,none⟩=some (.int .i64 g4.t.r.v)∧W'.cell? ⟨B,4,none⟩=some (.slice k4.ak k4.nk k4.ck)∧W'.cell? ⟨B,5,none⟩=some (.int .i64 g4.t.r.t)∧W'.cell? ⟨B,6,none⟩=some (.int .i64 g4.t.ver)∧W'.cell? ⟨B,7,none⟩=some (.slice k4.av k4.nv k4.cv)∧W'.cell? ⟨B,8,none⟩=some (.slice k4.ad k4.nd k4.cd))∧W'.cell? ⟨S,0,none⟩=some (.int .i64 s.n)∧w7.grownBy W' (some (w.heap.size+1+1+1))) (by kernel_rfl) (begS HB.out.box bS.out (by omega) (by omega) (zaj (Below.refl _ _).drew _)) ?_;intro hHeld;refine Htk (i:=0) ?_
  try simp only [sq]
  refine Htk (i:=1) ?_
  try simp only [sq]
  refine Htk (i:=2) ?_
  try simp only [sq]
  refine Htk (i:=3) ?_
  try simp only [sq]
  obtain ⟨y0,y1,y2,y3,y4,y5,y6,y7,y8⟩:=cl9 b3.out;obtain ⟨f0,f1,f2,f3,f4,f5,f6,f7,f8⟩:=fr9 b3.out;have hT:=zac (zac (zac (zac (zac (zac (zac (zac (zac (World.grownBy.refl w7 (some (w.heap.size+1+1+1))) 0 (.slice k4.a k4.n k4.c)) 1 (.int .i64 g4.fu)) 2 (.bool g4.up)) 3 (.int .i64 g4.t.r.v)) 4 (.slice k4.ak k4.nk k4.ck)) 5 (.int .i64 g4.t.r.t)) 6 (.int .i64 g4.t.ver)) 7 (.slice k4.av k4.nv k4.cv)) 8 (.slice k4.ad k4.nd k4.cd);have hG:=hT.trans (zaj (Below.refl _ _).drew (w.heap.size+1+1+1));have hwr:IntKind.i64.wrap (s.n+1)=s.n+1:=by rw [IntKind.wrap_i64];omega
  refine wpAnyH_ready (rs:= [4]) (by kernel_rfl) (by simp) ?_;refine AllReadyH.cons (by rfl) (fun K hK=> ?_) AllReadyH.nil;go_simp;refine hK.out _ _ (begS HB.out.box bS.out (by omega) (by omega) hG) (fun hHeld=> ?_);clear hK K
  try simp only [sq]
  refine Htk (i:=5) ?_
  try simp only [sq]
  refine Htk (i:=6) ?_
  try simp only [sq]
  refine wpAnyH_done (by kernel_rfl) ?_ _;go_wp2_with fail;refine bodyPost_ret (v:=.tuple #[gtv g4 k4,.int .i64 (s.n+1),.int .i64 0]) (by simp [results,Tryz.results189,go_sem,gtv,y0,y1,y2,y3,y4,y5,y6,y7,y8]) rfl ?_;rw [HE.out];exact⟨⟨k4,rfl,(HB.out.own.low hG (by omega)).gin,HB.out.own.fr (by omega)⟩,zam hw hG hx hw.size⟩
end
end Go.Proofs.YthmekfcgdfckaaaGreatDoor
