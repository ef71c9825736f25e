/- The contract of gate.Hear. -/
import Derived.Test.YthmekfcgdfckaaaGreatDoorWt17
set_option maxRecDepth 1000000
set_option maxHeartbeats 0
namespace Go.Proofs.YthmekfcgdfckaaaGreatDoor
variable {g:Gt} {m:Ms} {s:Gs}
section
open Go.RowKit
attribute [local go_sem ↓] Go.wp_at_zero Go.wp_at_succ
def GHAns (w:World) (r:Gt×List Ms×Int) (e:Ending) (w' :World):Prop:=(∃k a n c,e=.returned (.tuple #[gtv r.1 k,.slice a n c,.int .i64 r.2.2])∧GIn w' k r.1∧GFr w.heap.size k∧za9 w' a r.2.1∧r.2.1.length=n∧n≤c∧zal w.heap.size a)∧Below w.heap.size w w'
theorem ghE_1 (h:gtE g≠0):ghE g m=gtE g:=by unfold ghE;rw [if_pos h]
theorem ghE_3 (h:gtE g=0) (h2:inB m.u 0 ((g.vo.length:Int)- 1)=false∨inB m.n 1 8=false):ghE g m=3:=by
  unfold ghE;rw [if_neg (by simpa using h),if_neg]
  rcases h2 with h2|h2<;>rw [h2]<;>simp
theorem ghE_0 (h:gtE g=0) (h2:inB m.u 0 ((g.vo.length:Int)- 1)=true) (h3:inB m.n 1 8=true):ghE g m=0:=by
  unfold ghE;rw [if_neg (by simpa using h),if_pos (by rw [h2,h3];rfl)]
theorem zlt {q:Int} (h:ghE g m=q) (hq:q≠0):gHear g m= (gt0, [],q):=by unfold gHear;rw [h,if_pos hq]
theorem gHear_d (h:ghE g m=0) (h2:g.up=false):gHear g m= (g, [],0):=by unfold gHear;rw [h,if_neg (by decide),if_neg (by rw [h2];decide)]
theorem gHear_u (h:ghE g m=0) (h2:g.up=true):gHear g m= ((ghK g (gOf g.ws) m).1,(ghK g (gOf g.ws) m).2,0):=by unfold gHear;rw [h,if_neg (by decide),if_pos h2]
theorem ghK_3n (h:m.k=3) (h2: (pend s m&&(!decG s&&m.y))=false):ghK g s m= (g, []):=by unfold ghK;rw [if_pos h,h2];rfl
theorem ghK_3y (h:m.k=3) (h2: (pend s m&&(!decG s&&m.y))=true):ghK g s m= (ctgV g s m.u 2, []):=by unfold ghK;rw [if_pos h,h2];rfl
theorem ghK_6n (h:m.k=6) (h2: (pend s m&&decG s)=false):ghK g s m= (g, []):=by unfold ghK;rw [if_neg (by omega),if_pos h,h2];rfl
theorem ghK_6y (h:m.k=6) (h2: (pend s m&&decG s)=true):ghK g s m= (ctgD g s m.u 4, []):=by unfold ghK;rw [if_neg (by omega),if_pos h,h2];rfl
theorem ghK_7 (h:m.k=7):ghK g s m= (g,if(pend s m&&!decG s)=true then [] else [verd s m.u m.n]):=by unfold ghK;rw [if_neg (by omega),if_neg (by omega),if_pos h]
theorem ghK_0 (h3:m.k≠3) (h6:m.k≠6) (h7:m.k≠7):ghK g s m= (g, []):=by unfold ghK;rw [if_neg h3,if_neg h6,if_neg h7]
theorem za9.turns {w w' :World} {B:Nat} {a:Option Addr} {l:List Ms} (h:za9 w a l) (hg:w.grownBy w' (some B)) (ho:Off B a):za9 w' a l:=by
  rcases h with h| ⟨b,rfl,hc⟩
  { exact .inl h }
  {
  refine .inr ⟨b,rfl,fun i m hi=> ?_⟩;obtain ⟨h0,h1,h2,h3,h4,h5,h6,h7⟩:=hc i m hi;have ne: ∀j,(some (⟨b,j,none⟩:Addr).block)≠some B:=fun j e=>ho _ rfl (by cases e;rfl)
  exact⟨h0,hg.cell h1 (ne _),hg.cell h2 (ne _),hg.cell h3 (ne _),hg.cell h4 (ne _),hg.cell h5 (ne _),hg.cell h6 (ne _),hg.cell h7 (ne _)⟩
  }
theorem hearR {W W' :World} {B S M:Nat} {k:GA} {am:Option Addr} {nm cm:Nat} (hB:W.heap[B]?=some (gtO g k)) (hS:W.heap[S]?=some (gsO s)) (hM:W.heap[M]?=some (msO m am nm cm)) {R:Nat} (nB:B≠R) (nS:S≠R) (nM:M≠R) (h:W.grownBy W' (some R)):
    (W'.cell? ⟨B,0,none⟩=some (.slice k.a k.n k.c)∧W'.cell? ⟨B,1,none⟩=some (.int .i64 g.fu)∧W'.cell? ⟨B,2,none⟩=some (.bool g.up)∧W'.cell? ⟨B,3,none⟩=some (.int .i64 g.t.r.v)∧W'.cell? ⟨B,4,none⟩=some (.slice k.ak k.nk k.ck)∧W'.cell? ⟨B,5,none⟩=some (.int .i64 g.t.r.t)∧W'.cell? ⟨B,6,none⟩=some (.int .i64 g.t.ver)∧W'.cell? ⟨B,7,none⟩=some (.slice k.av k.nv k.cv)∧W'.cell? ⟨B,8,none⟩=some (.slice k.ad k.nd k.cd))∧
    (W'.cell? ⟨S,0,none⟩=some (.int .i64 s.n)∧W'.cell? ⟨S,1,none⟩=some (.int .i64 s.v)∧W'.cell? ⟨S,2,none⟩=some (.bool s.co)∧W'.cell? ⟨S,3,none⟩=some (.bool s.ab)∧W'.cell? ⟨S,4,none⟩=some (.bool s.en))∧W'.cell? ⟨M,1,none⟩=some (.int .i64 m.u)∧W'.cell? ⟨M,2,none⟩=some (.int .i64 m.n)∧W.grownBy W' (some R):=by
  have b:=zar hB h nB;have x:=zar hS h nS;have z:=zar hM h nM;unfold gtO at b;unfold gsO at x;unfold msO at z;exact⟨⟨zaa b 0 _ rfl,zaa b 1 _ rfl,zaa b 2 _ rfl,zaa b 3 _ rfl,zaa b 4 _ rfl,zaa b 5 _ rfl,zaa b 6 _ rfl,zaa b 7 _ rfl,zaa b 8 _ rfl⟩,⟨zaa x 0 _ rfl,zaa x 1 _ rfl,zaa x 2 _ rfl,zaa x 3 _ rfl,zaa x 4 _ rfl⟩,zaa z 1 _ rfl,zaa z 2 _ rfl,h⟩
theorem zoo (g:Gt) (k0:GA) (m:Ms) (am:Option Addr) (nm cm:Nat) (w:World) (h:GIn w k0 g):
    Calls Tryz.prog 247 #[gtv g k0,msv m am nm cm] w (GHAns w (gHear g m)):=by
  have hw:Below w.heap.size w (((w.alloc (.cells (aG k0 g) 35)).alloc (.cells (aM m am nm cm) 99)).alloc (.cells aY 35)):=(bA2).alloc (by simp;omega) _;have b0:Hid ((((w.alloc (.cells (aG k0 g) 35)).alloc (.cells (aM m am nm cm) 99)).alloc (.cells aY 35)).heap[w.heap.size]?=some (.cells (aG k0 g) 35 (0,0))):=zai (zai (heap_alloc_last _ _) _) _;have b1:Hid ((((w.alloc (.cells (aG k0 g) 35)).alloc (.cells (aM m am nm cm) 99)).alloc (.cells aY 35)).heap[w.heap.size+1]?=some (.cells (aM m am nm cm) 99 (0,0))):=zai (zau _ _ _) _;have b2:Hid ((((w.alloc (.cells (aG k0 g) 35)).alloc (.cells (aM m am nm cm) 99)).alloc (.cells aY 35)).heap[w.heap.size+1+1]?=some (.cells aY 35 (0,0))):=zb9 _ _ _ _;have HC:=hide (fun W (hW:Below w.heap.size w W)=>zca g k0 W (h.below hW));have HU:=hide (fun W (hW:Below w.heap.size w W)=>zjj g k0 m.u W (h.below hW));have HP:=hide h;have hx:w.heap.size≤w.heap.size+1+1:=by omega
  clear h;unfold gtv at HC HU;unfold gtv msv;go_enter Tryz.func247,Tryz.ntmps247;go_wp2_with fail;generalize (((w.alloc (.cells (aG k0 g) 35)).alloc (.cells (aM m am nm cm) 99)).alloc (.cells aY 35))=W at *;refine(zae HC _ hw).mono ?_;rintro e w1 ⟨rfl,hb⟩;replace b0:=hide (zab b0.out hb);replace b1:=hide (zab b1.out hb);replace b2:=hide (zab b2.out hb);replace hw:=bT hw hb;clear hb HC
  by_cases z1:gtE g=0
  rotate_left
  {
  have HE:=hide (zlt (m:=m) (ghE_1 z1) z1);have d1: (gtE g !=0)=true:=by simpa using z1
  clear z1 HU HP;generalize gtE g=q at *;obtain ⟨y0,y1,y2,y3,y4,y5,y6,y7,y8⟩:=cl9 b2.out;obtain ⟨f0,f1,f2,f3,f4,f5,f6,f7,f8⟩:=fr9 b2.out;go_wp2_with fail;refine bodyPost_ret (v:=.tuple #[gtv gt0 ga0,.slice none 0 0,.int .i64 q]) (by simp [results,Tryz.results247,go_sem,gtv,gt0,ga0,y0,y1,y2,y3,y4,y5,y6,y7,y8]) rfl ?_;rw [HE.out];exact⟨⟨ga0,none,0,0,rfl,gin0 _,gfr0 _,.inl rfl,rfl,Nat.le_refl _,zal.nil _⟩,zam hw (zac (zac (zac (zac (zac (zac (zac (zac (zac (World.grownBy.refl w1 (some (w.heap.size+1+1))) 0 (.slice none 0 0)) 1 (.int .i64 0)) 2 (.bool false)) 3 (.int .i64 0)) 4 (.slice none 0 0)) 5 (.int .i64 0)) 6 (.int .i64 0)) 7 (.slice none 0 0)) 8 (.slice none 0 0)) hx hw.size⟩
  }
  rw [z1];obtain ⟨x0,x1,x2,x3,x4,x5,x6,x7,x8⟩:=cl9 b0.out;have u1:=zaa b1.out 1 _ rfl;have u2:=zaa b1.out 2 _ rfl;go_wp2_with fail;refine(zae HU _ hw).mono ?_;rintro e w2 ⟨rfl,hb⟩;replace b0:=hide (zab b0.out hb);replace b1:=hide (zab b1.out hb);replace b2:=hide (zab b2.out hb);replace hw:=bT hw hb;clear hb HU x0 x1 x2 x3 x4 x5 x6 x7 x8 u1 u2;cases z2:inB m.u 0 ((g.vo.length:Int)- 1)
  {
  have HE:=hide (zlt (ghE_3 z1 (.inl z2)) (by decide));clear z1 z2 HP;obtain ⟨y0,y1,y2,y3,y4,y5,y6,y7,y8⟩:=cl9 b2.out;obtain ⟨f0,f1,f2,f3,f4,f5,f6,f7,f8⟩:=fr9 b2.out;go_wp2_with fail;refine bodyPost_ret (v:=.tuple #[gtv gt0 ga0,.slice none 0 0,.int .i64 3]) (by simp [results,Tryz.results247,go_sem,gtv,gt0,ga0,y0,y1,y2,y3,y4,y5,y6,y7,y8]) rfl ?_;rw [HE.out];exact⟨⟨ga0,none,0,0,rfl,gin0 _,gfr0 _,.inl rfl,rfl,Nat.le_refl _,zal.nil _⟩,zam hw (zac (zac (zac (zac (zac (zac (zac (zac (zac (World.grownBy.refl w2 (some (w.heap.size+1+1))) 0 (.slice none 0 0)) 1 (.int .i64 0)) 2 (.bool false)) 3 (.int .i64 0)) 4 (.slice none 0 0)) 5 (.int .i64 0)) 6 (.int .i64 0)) 7 (.slice none 0 0)) 8 (.slice none 0 0)) hx hw.size⟩
  }
  have u2:=zaa b1.out 2 _ rfl;go_wp2_with fail;refine(zbc _ _ _ _).mono ?_;rintro e w3 ⟨rfl,hb⟩;subst hb;clear u2;cases z3:inB m.n 1 8
  {
  have HE:=hide (zlt (ghE_3 z1 (.inr z3)) (by decide));clear z1 z2 z3 HP;obtain ⟨y0,y1,y2,y3,y4,y5,y6,y7,y8⟩:=cl9 b2.out;obtain ⟨f0,f1,f2,f3,f4,f5,f6,f7,f8⟩:=fr9 b2.out;go_wp2_with fail;refine bodyPost_ret (v:=.tuple #[gtv gt0 ga0,.slice none 0 0,.int .i64 3]) (by simp [results,Tryz.results247,go_sem,gtv,gt0,ga0,y0,y1,y2,y3,y4,y5,y6,y7,y8]) rfl ?_;rw [HE.out];exact⟨⟨ga0,none,0,0,rfl,gin0 _,gfr0 _,.inl rfl,rfl,Nat.le_refl _,zal.nil _⟩,zam hw (zac (zac (zac (zac (zac (zac (zac (zac (zac (World.grownBy.refl w3 (some (w.heap.size+1+1))) 0 (.slice none 0 0)) 1 (.int .i64 0)) 2 (.bool false)) 3 (.int .i64 0)) 4 (.slice none 0 0)) 5 (.int .i64 0)) 6 (.int .i64 0)) 7 (.slice none 0 0)) 8 (.slice none 0 0)) hx hw.size⟩
  }
  have HZ:=hide (ghE_0 z1 z2 z3);obtain ⟨hlw,hlk,hlv,hld⟩:=HP.out.sizes z1;have HL:=hide (zen z1).1;have hnd:=(zen z1).2.2.1;have HT:=hide (fun W (hW:Below w.heap.size w W)=>zdc g k0 W (HP.out.below hW) hlw hlk hlv hld);unfold gtv at HT;obtain ⟨u,hu⟩: ∃u:Nat,m.u= (u:Int):=⟨m.u.toNat,by unfold inB at z2;simp at z2;omega⟩;have hul:u<g.vo.length:=by unfold inB at z2;simp at z2;omega
  have HUN:=hide hu;clear z1 z2 z3 hlw hlk hlv hld hu HP;obtain ⟨x0,x1,x2,x3,x4,x5,x6,x7,x8⟩:=cl9 b0.out;go_wp2_with fail;have hF0:=hw.size;refine(zae HT _ hw).mono ?_;rintro e w5 ⟨⟨k,bv,bd,rfl,ho,hoff⟩,hb5⟩;have hlt:=zak b2.out;have hlm:=zak b1.out;replace b1:=hide (zab (zab b1.out hb5) (zaf (Below.refl w5.heap.size w5) (.cells (aG k g) 35)));replace b2:=hide (zab (zab b2.out hb5) (zaf (Below.refl w5.heap.size w5) (.cells (aG k g) 35)));have hbx:=hide (ho.boxed hb5.size (hoff _ (.inr (Nat.le_refl _))));have hw5:Below w3.heap.size w3 (w5.alloc (.cells (aG k g) 35)):=zaf hb5 _;have hB:=hb5.size;replace hw:=bT hw hw5;clear HT ho hoff hb5 b0 x0 x1 x2 x3 x4 x5 x6 x7 x8;unfold gtv;go_upto_region 7 with fail
  generalize (w5.alloc (.cells (aG k g) 35))=W5 at *;generalize w5.heap.size=B at *;cases zu:g.up
  {
  have HE:=hide (gHear_d HZ.out zu);have HB:=hbx;clear HZ HL HUN;have bC:=hide HB.out.box;unfold gtO at bC;obtain ⟨x0,x1,x2,x3,x4,x5,x6,x7,x8⟩:=cl9 bC.out
  (try dsimp only [aG] at x2);rw [zu] at x2
  obtain ⟨y0,y1,y2,y3,y4,y5,y6,y7,y8⟩:=cl9 b2.out;obtain ⟨f0,f1,f2,f3,f4,f5,f6,f7,f8⟩:=fr9 b2.out;go_wp2_with fail;refine bodyPost_ret (v:=.tuple #[gtv g k,.slice none 0 0,.int .i64 0]) (by simp [results,Tryz.results247,go_sem,gtv,zu,y0,y1,y2,y3,y4,y5,y6,y7,y8]) rfl ?_;rw [HE.out];have hT:=zac (zac (zac (zac (zac (zac (zac (zac (zac (World.grownBy.refl W5 (some (w.heap.size+1+1))) 0 (.slice k.a k.n k.c)) 1 (.int .i64 g.fu)) 2 (.bool false)) 3 (.int .i64 g.t.r.v)) 4 (.slice k.ak k.nk k.ck)) 5 (.int .i64 g.t.r.t)) 6 (.int .i64 g.t.ver)) 7 (.slice k.av k.nv k.cv)) 8 (.slice k.ad k.nd k.cd);exact⟨⟨k,none,0,0,rfl,(HB.out.own.low hT hlt).gin,HB.out.own.fr hF0,.inl rfl,rfl,Nat.le_refl _,zal.nil _⟩,zam hw hT hx hw.size⟩
  }
  have HE0:=hide (gHear_u HZ.out zu);clear HZ;have bC:=hide hbx.out.box;unfold gtO at bC;have x0:=zaa bC.out 0 _ rfl;have x1:=zaa bC.out 1 _ rfl;have x2:=zaa bC.out 2 _ rfl
  (try dsimp only [aG] at x2);rw [zu] at x2
  clear zu;have HS:=hide (zfu k.a k.n k.c g.ws g.fu W5 hbx.out.own.ws HL.out);go_wp2_with fail;refine(zae HS).mono ?_;rintro e w6 ⟨rfl,hb6⟩;clear HS x0 x1 x2 bC HL;generalize gOf g.ws=s at *;unfold gsv;have bS:=hide (heap_alloc_last w6 (.cells (aS s) 72));have hb7:Below W5.heap.size W5 (w6.alloc (.cells (aS s) 72)):=zaf hb6 _;replace b1:=hide (zab b1.out hb7);replace b2:=hide (zab b2.out hb7);replace hbx:=hide (hbx.out.below hb7);replace hw:=bT hw hb7;have hw5' :=bT hw5 hb7;have hSl:w3.heap.size≤w6.heap.size:=Nat.le_trans hw5.size hb6.size;clear hb6 hb7 hw5;go_upto_region 10 with fail
  generalize (w6.alloc (.cells (aS s) 72))=W6 at *;generalize w6.heap.size=S at *;obtain ⟨s0,s1,s2,s3,s4⟩:=cl5 bS.out;have u2:=zaa b1.out 2 _ rfl
  go_cut [10] (fun v10 wx=>v10=.bool (pend s m)∧wx=W6)
  case first=>
    by_cases p1:s.n=m.n
    {
    have d1: (s.n==m.n)=true:=by simpa using p1
    cases p2:s.en
    {
    (try dsimp only [aS] at s4);rw [p2] at s4
    go_wp2_with fail
    go_meet
    case rel=>exact⟨congrArg Value.bool (by unfold pend;simp [p1,p2]),rfl⟩
    }
    {
    (try dsimp only [aS] at s4);rw [p2] at s4
    go_wp2_with fail
    go_meet
    case rel=>exact⟨congrArg Value.bool (by unfold pend;simp [p1,p2]),rfl⟩
    }
    }
    {
    have d1: (s.n==m.n)=false:=by simpa using p1
    go_wp2_with fail
    go_meet
    case rel=>exact⟨congrArg Value.bool (by unfold pend;simp [p1]),rfl⟩
    }
  obtain ⟨rfl,hW⟩:=hcut;replace hW:=hW.symm;subst hW;clear u2 s0 s1 s2 s3 s4;have u0:=zaa b1.out 0 _ rfl;have HD:=hide (fun W=>zej s W);unfold gsv at HD
  by_cases q3:m.k=3
  {
  (try dsimp only [aM] at u0);rw [q3] at u0
  have Q3:=hide q3;clear q3;cases pd:pend s m
  {
  have HE:=HE0.out;rw [ghK_3n Q3.out (by rw [pd];rfl)] at HE;replace HE:=hide HE;clear HE0 HD pd Q3;have HB:=hbx;have bC:=hide HB.out.box;unfold gtO at bC;obtain ⟨x0,x1,x2,x3,x4,x5,x6,x7,x8⟩:=cl9 bC.out;obtain ⟨y0,y1,y2,y3,y4,y5,y6,y7,y8⟩:=cl9 b2.out;obtain ⟨f0,f1,f2,f3,f4,f5,f6,f7,f8⟩:=fr9 b2.out;go_wp2_with fail;refine bodyPost_ret (v:=.tuple #[gtv g k,.slice none 0 0,.int .i64 0]) (by simp [results,Tryz.results247,go_sem,gtv,y0,y1,y2,y3,y4,y5,y6,y7,y8]) rfl ?_;rw [HE.out];have hT:=zac (zac (zac (zac (zac (zac (zac (zac (zac (World.grownBy.refl W6 (some (w.heap.size+1+1))) 0 (.slice k.a k.n k.c)) 1 (.int .i64 g.fu)) 2 (.bool g.up)) 3 (.int .i64 g.t.r.v)) 4 (.slice k.ak k.nk k.ck)) 5 (.int .i64 g.t.r.t)) 6 (.int .i64 g.t.ver)) 7 (.slice k.av k.nv k.cv)) 8 (.slice k.ad k.nd k.cd);exact⟨⟨k,none,0,0,rfl,(HB.out.own.low hT hlt).gin,HB.out.own.fr hF0,.inl rfl,rfl,Nat.le_refl _,zal.nil _⟩,zam hw hT hx hw.size⟩
  }
  have PD:=hide pd;clear pd;obtain ⟨s0,s1,s2,s3,s4⟩:=cl5 bS.out;go_wp2_with fail;refine(zae HD _).mono ?_;rintro e w7 ⟨rfl,hb7⟩;replace b1:=hide (zab b1.out hb7);replace b2:=hide (zab b2.out hb7);replace bS:=hide (zab bS.out hb7);replace hbx:=hide (hbx.out.below hb7);replace hw:=bT hw hb7;replace hw5' :=hw5'.trans (hb7.mono hw5'.size);clear hb7 HD s0 s1 s2 s3 s4;cases dd:decG s;rotate_left
  {
  have HE:=HE0.out;rw [ghK_3n Q3.out (by rw [dd];simp)] at HE;replace HE:=hide HE;clear HE0 dd Q3 PD;have HB:=hbx;have bC:=hide HB.out.box;unfold gtO at bC;obtain ⟨x0,x1,x2,x3,x4,x5,x6,x7,x8⟩:=cl9 bC.out;obtain ⟨y0,y1,y2,y3,y4,y5,y6,y7,y8⟩:=cl9 b2.out;obtain ⟨f0,f1,f2,f3,f4,f5,f6,f7,f8⟩:=fr9 b2.out;go_wp2_with fail;refine bodyPost_ret (v:=.tuple #[gtv g k,.slice none 0 0,.int .i64 0]) (by simp [results,Tryz.results247,go_sem,gtv,y0,y1,y2,y3,y4,y5,y6,y7,y8]) rfl ?_;rw [HE.out];have hT:=zac (zac (zac (zac (zac (zac (zac (zac (zac (World.grownBy.refl w7 (some (w.heap.size+1+1))) 0 (.slice k.a k.n k.c)) 1 (.int .i64 g.fu)) 2 (.bool g.up)) 3 (.int .i64 g.t.r.v)) 4 (.slice k.ak k.nk k.ck)) 5 (.int .i64 g.t.r.t)) 6 (.int .i64 g.t.ver)) 7 (.slice k.av k.nv k.cv)) 8 (.slice k.ad k.nd k.cd);exact⟨⟨k,none,0,0,rfl,(HB.out.own.low hT hlt).gin,HB.out.own.fr hF0,.inl rfl,rfl,Nat.le_refl _,zal.nil _⟩,zam hw hT hx hw.size⟩
  }
  have DD:=hide dd;clear dd;have u6:=zaa b1.out 6 _ rfl;cases yy:m.y
  {
  (try dsimp only [aM] at u6);rw [yy] at u6
  have HE:=HE0.out;rw [ghK_3n Q3.out (by rw [yy];simp)] at HE;replace HE:=hide HE;clear HE0 yy Q3 PD DD;have HB:=hbx;have bC:=hide HB.out.box;unfold gtO at bC;obtain ⟨x0,x1,x2,x3,x4,x5,x6,x7,x8⟩:=cl9 bC.out;obtain ⟨y0,y1,y2,y3,y4,y5,y6,y7,y8⟩:=cl9 b2.out;obtain ⟨f0,f1,f2,f3,f4,f5,f6,f7,f8⟩:=fr9 b2.out;go_wp2_with fail;refine bodyPost_ret (v:=.tuple #[gtv g k,.slice none 0 0,.int .i64 0]) (by simp [results,Tryz.results247,go_sem,gtv,y0,y1,y2,y3,y4,y5,y6,y7,y8]) rfl ?_;rw [HE.out];have hT:=zac (zac (zac (zac (zac (zac (zac (zac (zac (World.grownBy.refl w7 (some (w.heap.size+1+1))) 0 (.slice k.a k.n k.c)) 1 (.int .i64 g.fu)) 2 (.bool g.up)) 3 (.int .i64 g.t.r.v)) 4 (.slice k.ak k.nk k.ck)) 5 (.int .i64 g.t.r.t)) 6 (.int .i64 g.t.ver)) 7 (.slice k.av k.nv k.cv)) 8 (.slice k.ad k.nd k.cd);exact⟨⟨k,none,0,0,rfl,(HB.out.own.low hT hlt).gin,HB.out.own.fr hF0,.inl rfl,rfl,Nat.le_refl _,zal.nil _⟩,zam hw hT hx hw.size⟩
  }
  (try dsimp only [aM] at u6);rw [yy] at u6
  have HE:=HE0.out;rw [ghK_3y Q3.out (by rw [PD.out,DD.out,yy];rfl)] at HE;replace HE:=hide HE;clear HE0 yy Q3 PD DD;have bC:=hide hbx.out.box;unfold gtO at bC;have x7:=zaa bC.out 7 _ rfl;have u1:=zaa b1.out 1 _ rfl;obtain ⟨s0,s1,s2,s3,s4⟩:=cl5 bS.out
  (try dsimp only [aG] at x7);rw [hbx.out.own.av] at x7
  (try dsimp only [aM] at u1);rw [HUN.out] at u1
  have HN:=hide (zq1 _ B k g bv bd s u 2 w7 hbx.out (by have:=hbx.out.own.nv.1;omega));unfold gsv at HN;go_wp2_with fail;refine(zae HN).mono ?_;rintro e w8 ⟨rfl,⟨k2,hb8⟩,hg8⟩;have hb9:=hg8.bel hw5' hB hb8.own.fv hb8.own.fd hw5'.size;replace b2:=hide (hg8.blk b2.out (by omega) (by have:=hb8.own.fv;omega) (by have:=hb8.own.fd;omega));replace hw:=hg8.bel hw (by omega) (by have:=hb8.own.fv;omega) (by have:=hb8.own.fd;omega) hw.size;have HB:=hide hb8;clear hb8 hg8 hb9 HN bC x7 u1 bS hbx s0 s1 s2 s3 s4;rw [HUN.out] at HE;generalize ctgV g s u 2=g2 at *;have bC:=hide HB.out.box;unfold gtO at bC;obtain ⟨x0,x1,x2,x3,x4,x5,x6,x7,x8⟩:=cl9 bC.out;obtain ⟨y0,y1,y2,y3,y4,y5,y6,y7,y8⟩:=cl9 b2.out;obtain ⟨f0,f1,f2,f3,f4,f5,f6,f7,f8⟩:=fr9 b2.out;go_wp2_with fail;refine bodyPost_ret (v:=.tuple #[gtv g2 k2,.slice none 0 0,.int .i64 0]) (by simp [results,Tryz.results247,go_sem,gtv,y0,y1,y2,y3,y4,y5,y6,y7,y8]) rfl ?_;rw [HE.out];have hT:=zac (zac (zac (zac (zac (zac (zac (zac (zac (World.grownBy.refl w8 (some (w.heap.size+1+1))) 0 (.slice k2.a k2.n k2.c)) 1 (.int .i64 g2.fu)) 2 (.bool g2.up)) 3 (.int .i64 g2.t.r.v)) 4 (.slice k2.ak k2.nk k2.ck)) 5 (.int .i64 g2.t.r.t)) 6 (.int .i64 g2.t.ver)) 7 (.slice k2.av k2.nv k2.cv)) 8 (.slice k2.ad k2.nd k2.cd);exact⟨⟨k2,none,0,0,rfl,(HB.out.own.low hT hlt).gin,HB.out.own.fr hF0,.inl rfl,rfl,Nat.le_refl _,zal.nil _⟩,zam hw hT hx hw.size⟩
  }
  have e3: (m.k==3)=false:=by simpa using q3
  have Q3:=hide q3;clear q3
  by_cases q6:m.k=6
  {
  (try dsimp only [aM] at u0);rw [q6] at u0
  clear e3;have Q6:=hide q6;clear q6;cases pd:pend s m
  {
  have HE:=HE0.out;rw [ghK_6n Q6.out (by rw [pd];rfl)] at HE;replace HE:=hide HE;clear HE0 HD pd Q6 Q3;have HB:=hbx;have bC:=hide HB.out.box;unfold gtO at bC;obtain ⟨x0,x1,x2,x3,x4,x5,x6,x7,x8⟩:=cl9 bC.out;obtain ⟨y0,y1,y2,y3,y4,y5,y6,y7,y8⟩:=cl9 b2.out;obtain ⟨f0,f1,f2,f3,f4,f5,f6,f7,f8⟩:=fr9 b2.out;go_wp2_with fail;refine bodyPost_ret (v:=.tuple #[gtv g k,.slice none 0 0,.int .i64 0]) (by simp [results,Tryz.results247,go_sem,gtv,y0,y1,y2,y3,y4,y5,y6,y7,y8]) rfl ?_;rw [HE.out];have hT:=zac (zac (zac (zac (zac (zac (zac (zac (zac (World.grownBy.refl W6 (some (w.heap.size+1+1))) 0 (.slice k.a k.n k.c)) 1 (.int .i64 g.fu)) 2 (.bool g.up)) 3 (.int .i64 g.t.r.v)) 4 (.slice k.ak k.nk k.ck)) 5 (.int .i64 g.t.r.t)) 6 (.int .i64 g.t.ver)) 7 (.slice k.av k.nv k.cv)) 8 (.slice k.ad k.nd k.cd);exact⟨⟨k,none,0,0,rfl,(HB.out.own.low hT hlt).gin,HB.out.own.fr hF0,.inl rfl,rfl,Nat.le_refl _,zal.nil _⟩,zam hw hT hx hw.size⟩
  }
  have PD:=hide pd;clear pd;obtain ⟨s0,s1,s2,s3,s4⟩:=cl5 bS.out;go_wp2_with fail;refine(zae HD _).mono ?_;rintro e w7 ⟨rfl,hb7⟩;replace b1:=hide (zab b1.out hb7);replace b2:=hide (zab b2.out hb7);replace bS:=hide (zab bS.out hb7);replace hbx:=hide (hbx.out.below hb7);replace hw:=bT hw hb7;replace hw5' :=hw5'.trans (hb7.mono hw5'.size);clear hb7 HD s0 s1 s2 s3 s4;cases dd:decG s
  {
  have HE:=HE0.out;rw [ghK_6n Q6.out (by rw [dd];simp)] at HE;replace HE:=hide HE;clear HE0 dd PD Q6 Q3;have HB:=hbx;have bC:=hide HB.out.box;unfold gtO at bC;obtain ⟨x0,x1,x2,x3,x4,x5,x6,x7,x8⟩:=cl9 bC.out;obtain ⟨y0,y1,y2,y3,y4,y5,y6,y7,y8⟩:=cl9 b2.out;obtain ⟨f0,f1,f2,f3,f4,f5,f6,f7,f8⟩:=fr9 b2.out;go_wp2_with fail;refine bodyPost_ret (v:=.tuple #[gtv g k,.slice none 0 0,.int .i64 0]) (by simp [results,Tryz.results247,go_sem,gtv,y0,y1,y2,y3,y4,y5,y6,y7,y8]) rfl ?_;rw [HE.out];have hT:=zac (zac (zac (zac (zac (zac (zac (zac (zac (World.grownBy.refl w7 (some (w.heap.size+1+1))) 0 (.slice k.a k.n k.c)) 1 (.int .i64 g.fu)) 2 (.bool g.up)) 3 (.int .i64 g.t.r.v)) 4 (.slice k.ak k.nk k.ck)) 5 (.int .i64 g.t.r.t)) 6 (.int .i64 g.t.ver)) 7 (.slice k.av k.nv k.cv)) 8 (.slice k.ad k.nd k.cd);exact⟨⟨k,none,0,0,rfl,(HB.out.own.low hT hlt).gin,HB.out.own.fr hF0,.inl rfl,rfl,Nat.le_refl _,zal.nil _⟩,zam hw hT hx hw.size⟩
  }
  have HE:=HE0.out;rw [ghK_6y Q6.out (by rw [PD.out,dd];rfl)] at HE;replace HE:=hide HE;clear HE0 dd PD Q6 Q3;have bC:=hide hbx.out.box;unfold gtO at bC;have x8:=zaa bC.out 8 _ rfl;have u1:=zaa b1.out 1 _ rfl;obtain ⟨s0,s1,s2,s3,s4⟩:=cl5 bS.out
  (try dsimp only [aG] at x8);rw [hbx.out.own.ad] at x8
  (try dsimp only [aM] at u1);rw [HUN.out] at u1
  have HN:=hide (zrf _ B k g bv bd s u 4 w7 hbx.out (by have:=hbx.out.own.nd.1;omega));unfold gsv at HN;go_wp2_with fail;refine(zae HN).mono ?_;rintro e w8 ⟨rfl,⟨k2,hb8⟩,hg8⟩;have hb9:=hg8.bel hw5' hB hb8.own.fv hb8.own.fd hw5'.size;replace b2:=hide (hg8.blk b2.out (by omega) (by have:=hb8.own.fv;omega) (by have:=hb8.own.fd;omega));replace hw:=hg8.bel hw (by omega) (by have:=hb8.own.fv;omega) (by have:=hb8.own.fd;omega) hw.size;have HB:=hide hb8;clear hb8 hg8 hb9 HN bC x8 u1 bS hbx s0 s1 s2 s3 s4;rw [HUN.out] at HE;generalize ctgD g s u 4=g2 at *;have bC:=hide HB.out.box;unfold gtO at bC;obtain ⟨x0,x1,x2,x3,x4,x5,x6,x7,x8⟩:=cl9 bC.out;obtain ⟨y0,y1,y2,y3,y4,y5,y6,y7,y8⟩:=cl9 b2.out;obtain ⟨f0,f1,f2,f3,f4,f5,f6,f7,f8⟩:=fr9 b2.out;go_wp2_with fail;refine bodyPost_ret (v:=.tuple #[gtv g2 k2,.slice none 0 0,.int .i64 0]) (by simp [results,Tryz.results247,go_sem,gtv,y0,y1,y2,y3,y4,y5,y6,y7,y8]) rfl ?_;rw [HE.out];have hT:=zac (zac (zac (zac (zac (zac (zac (zac (zac (World.grownBy.refl w8 (some (w.heap.size+1+1))) 0 (.slice k2.a k2.n k2.c)) 1 (.int .i64 g2.fu)) 2 (.bool g2.up)) 3 (.int .i64 g2.t.r.v)) 4 (.slice k2.ak k2.nk k2.ck)) 5 (.int .i64 g2.t.r.t)) 6 (.int .i64 g2.t.ver)) 7 (.slice k2.av k2.nv k2.cv)) 8 (.slice k2.ad k2.nd k2.cd);exact⟨⟨k2,none,0,0,rfl,(HB.out.own.low hT hlt).gin,HB.out.own.fr hF0,.inl rfl,rfl,Nat.le_refl _,zal.nil _⟩,zam hw hT hx hw.size⟩
  }
  have e6: (m.k==6)=false:=by simpa using q6
  have Q6:=hide q6;clear q6
  by_cases q7:m.k=7
  rotate_left
  {
  have e7: (m.k==7)=false:=by simpa using q7
  have HE:=HE0.out;rw [ghK_0 Q3.out Q6.out q7] at HE;replace HE:=hide HE;clear HE0 HD q7 Q3 Q6;have HB:=hbx;have bC:=hide HB.out.box;unfold gtO at bC;obtain ⟨x0,x1,x2,x3,x4,x5,x6,x7,x8⟩:=cl9 bC.out;obtain ⟨y0,y1,y2,y3,y4,y5,y6,y7,y8⟩:=cl9 b2.out;obtain ⟨f0,f1,f2,f3,f4,f5,f6,f7,f8⟩:=fr9 b2.out;go_wp2_with fail;refine bodyPost_ret (v:=.tuple #[gtv g k,.slice none 0 0,.int .i64 0]) (by simp [results,Tryz.results247,go_sem,gtv,y0,y1,y2,y3,y4,y5,y6,y7,y8]) rfl ?_;rw [HE.out];have hT:=zac (zac (zac (zac (zac (zac (zac (zac (zac (World.grownBy.refl W6 (some (w.heap.size+1+1))) 0 (.slice k.a k.n k.c)) 1 (.int .i64 g.fu)) 2 (.bool g.up)) 3 (.int .i64 g.t.r.v)) 4 (.slice k.ak k.nk k.ck)) 5 (.int .i64 g.t.r.t)) 6 (.int .i64 g.t.ver)) 7 (.slice k.av k.nv k.cv)) 8 (.slice k.ad k.nd k.cd);exact⟨⟨k,none,0,0,rfl,(HB.out.own.low hT hlt).gin,HB.out.own.fr hF0,.inl rfl,rfl,Nat.le_refl _,zal.nil _⟩,zam hw hT hx hw.size⟩
  }
  (try dsimp only [aM] at u0);rw [q7] at u0
  clear e3 e6 Q3 Q6;have Q7:=hide q7;clear q7;go_upto_region 19 with fail
  clear u0;have HV:=hide (fun W=>ziq s m.u m.n W);unfold gsv at HV;have hR6:=zak b2.out;cases pd:pend s m
  {
  have HE:Hid (gHear g m= (g,if false=true then [] else [verd s m.u m.n],0)):=by have e:=HE0.out;rw [ghK_7 Q7.out,pd] at e;exact hide e
  clear HE0 HD pd Q7;refine wp_region_held_drew (S:=fun W' =>(W'.cell? ⟨B,0,none⟩=some (.slice k.a k.n k.c)∧W'.cell? ⟨B,1,none⟩=some (.int .i64 g.fu)∧W'.cell? ⟨B,2,none⟩=some (.bool g.up)∧W'.cell? ⟨B,3,none⟩=some (.int .i64 g.t.r.v)∧W'.cell? ⟨B,4,none⟩=some (.slice k.ak k.nk k.ck)∧W'.cell? ⟨B,5,none⟩=some (.int .i64 g.t.r.t)∧W'.cell? ⟨B,6,none⟩=some (.int .i64 g.t.ver)∧W'.cell? ⟨B,7,none⟩=some (.slice k.av k.nv k.cv)∧W'.cell? ⟨B,8,none⟩=some (.slice k.ad k.nd k.cd))∧(W'.cell? ⟨S,0,none⟩=some (.int .i64 s.n)∧W'.cell? ⟨S,1,none⟩=some (.int .i64 s.v)∧W'.cell? ⟨S,2,none⟩=some (.bool s.co)∧W'.cell? ⟨S,3,none⟩=some (.bool s.ab)∧W'.cell? ⟨S,4,none⟩=some (.bool s.en))∧W'.cell? ⟨w.heap.size+1,1,none⟩=some (.int .i64 m.u)∧W'.cell? ⟨w.heap.size+1,2,none⟩=some (.int .i64 m.n)∧W6.grownBy W' (some (w.heap.size+1+1))) (by kernel_rfl) (hearR hbx.out.box bS.out b1.out (by omega) (by omega) (by omega) (zaj (Below.refl _ _).drew _)) ?_;intro hHeld;have b2d:=hide (zab b2.out (Below.refl W6.heap.size W6).drew);refine Htk (i:=0) ?_
  try simp only [sq]
  refine Htk (i:=1) ?_
  try simp only [sq]
  refine Htk (i:=2) ?_
  try simp only [sq]
  refine wpAnyH_take (i:=3) (v:=undef) (by simp only [List.getElem?_toArray,List.getElem?_cons_zero,List.getElem?_cons_succ];rfl) (by kernel_rfl) (by kernel_rfl) (by kernel_rfl) (by exact fun _ _ _ h=>h) (Or.inr ⟨by rfl,rfl⟩) (by assumption) ?_
  try simp only [sq]
  refine wpAnyH_take (i:=4) (v:=undef) (by simp only [List.getElem?_toArray,List.getElem?_cons_zero,List.getElem?_cons_succ];rfl) (by kernel_rfl) (by kernel_rfl) (by kernel_rfl) (by exact fun _ _ _ h=>h) (Or.inr ⟨by rfl,rfl⟩) (by assumption) ?_
  try simp only [sq]
  refine wpAnyH_take (i:=5) (v:=undef) (by simp only [List.getElem?_toArray,List.getElem?_cons_zero,List.getElem?_cons_succ];rfl) (by kernel_rfl) (by kernel_rfl) (by kernel_rfl) (by exact fun _ _ _ h=>h) (Or.inr ⟨by rfl,rfl⟩) (by assumption) ?_
  try simp only [sq]
  refine Htk (i:=6) ?_
  try simp only [sq]
  refine Htk (i:=7) ?_
  try simp only [sq]
  refine Htk (i:=8) ?_
  try simp only [sq]
  refine Htk (i:=9) ?_
  try simp only [sq]
  refine Htk (i:=10) ?_
  try simp only [sq]
  refine Htk (i:=11) ?_
  try simp only [sq]
  refine wpAnyH_ready (rs:= [12]) (by kernel_rfl) (by simp) ?_;refine AllReadyH.cons (by rfl) (fun K hK=> ?_) AllReadyH.nil;go_simp;refine(zae HV _).mono ?_;rintro e w8 ⟨rfl,hdw8⟩;have hgw8:=(zaj (Below.refl W6.heap.size W6).drew (w.heap.size+1+1)).trans (zaj hdw8 (w.heap.size+1+1));go_wp2_with fail;refine hK.out _ _ (hearR hbx.out.box bS.out b1.out (by omega) (by omega) (by omega) (hgw8)) (fun hHeld=> ?_);clear hK K
  try simp only [sq]
  have b2v:=hide (zab b2d.out hdw8);refine wpAnyH_ready (rs:= [13]) (by kernel_rfl) (by simp) ?_;refine AllReadyH.cons (by rfl) (fun K hK=> ?_) AllReadyH.nil;go_simp;refine(ze3 false (verd s m.u m.n) rfl _).mono ?_;rintro e w9 ⟨⟨al,nl,cl,rfl,hml,hnl,hcl,hfl⟩,hb9⟩;have hg9:=(hgw8).trans (zaj hb9 (w.heap.size+1+1));go_wp2_with fail;refine hK.out _ _ (hearR hbx.out.box bS.out b1.out (by omega) (by omega) (by omega) (hg9)) (fun hHeld=> ?_);clear hK K
  try simp only [sq]
  have b2z:=hide (zab b2v.out hb9);obtain ⟨y0,y1,y2,y3,y4,y5,y6,y7,y8⟩:=cl9 b2z.out;obtain ⟨f0,f1,f2,f3,f4,f5,f6,f7,f8⟩:=fr9 b2z.out;have hT:=zac (zac (zac (zac (zac (zac (zac (zac (zac (World.grownBy.refl w9 (some (w.heap.size+1+1))) 0 (.slice k.a k.n k.c)) 1 (.int .i64 g.fu)) 2 (.bool g.up)) 3 (.int .i64 g.t.r.v)) 4 (.slice k.ak k.nk k.ck)) 5 (.int .i64 g.t.r.t)) 6 (.int .i64 g.t.ver)) 7 (.slice k.av k.nv k.cv)) 8 (.slice k.ad k.nd k.cd);refine wpAnyH_ready (rs:= [14]) (by kernel_rfl) (by simp) ?_;refine AllReadyH.cons (by rfl) (fun K hK=> ?_) AllReadyH.nil;go_simp;refine hK.out _ _ (hearR hbx.out.box bS.out b1.out (by omega) (by omega) (by omega) (hg9.trans hT)) (fun hHeld=> ?_);clear hK K
  try simp only [sq]
  refine Htk (i:=15) ?_
  try simp only [sq]
  refine Htk (i:=16) ?_
  try simp only [sq]
  refine wpAnyH_done (by kernel_rfl) ?_ _;go_wp2_with fail;refine bodyPost_ret (v:=.tuple #[gtv g k,.slice al nl cl,.int .i64 0]) (by simp [results,Tryz.results247,go_sem,gtv,y0,y1,y2,y3,y4,y5,y6,y7,y8]) rfl ?_;rw [HE.out];exact⟨⟨k,al,nl,cl,rfl,(hbx.out.own.low (hg9.trans hT) hlt).gin,hbx.out.own.fr hF0,hml.turns hT (za6 hfl (Nat.lt_of_lt_of_le hR6 (hgw8).size)),hnl,hcl,hfl.lower (Nat.le_trans hw.size (hgw8).size)⟩,zam hw (hg9.trans hT) hx hw.size⟩
  }
  have PD:=hide pd;clear pd;cases dd:decG s
  {
  have HE:Hid (gHear g m= (g,if true=true then [] else [verd s m.u m.n],0)):=by have e:=HE0.out;rw [ghK_7 Q7.out,PD.out,dd] at e;exact hide e
  clear HE0;rw [dd] at HD;clear dd PD Q7;refine wp_region_held_drew (S:=fun W' =>(W'.cell? ⟨B,0,none⟩=some (.slice k.a k.n k.c)∧W'.cell? ⟨B,1,none⟩=some (.int .i64 g.fu)∧W'.cell? ⟨B,2,none⟩=some (.bool g.up)∧W'.cell? ⟨B,3,none⟩=some (.int .i64 g.t.r.v)∧W'.cell? ⟨B,4,none⟩=some (.slice k.ak k.nk k.ck)∧W'.cell? ⟨B,5,none⟩=some (.int .i64 g.t.r.t)∧W'.cell? ⟨B,6,none⟩=some (.int .i64 g.t.ver)∧W'.cell? ⟨B,7,none⟩=some (.slice k.av k.nv k.cv)∧W'.cell? ⟨B,8,none⟩=some (.slice k.ad k.nd k.cd))∧(W'.cell? ⟨S,0,none⟩=some (.int .i64 s.n)∧W'.cell? ⟨S,1,none⟩=some (.int .i64 s.v)∧W'.cell? ⟨S,2,none⟩=some (.bool s.co)∧W'.cell? ⟨S,3,none⟩=some (.bool s.ab)∧W'.cell? ⟨S,4,none⟩=some (.bool s.en))∧W'.cell? ⟨w.heap.size+1,1,none⟩=some (.int .i64 m.u)∧W'.cell? ⟨w.heap.size+1,2,none⟩=some (.int .i64 m.n)∧W6.grownBy W' (some (w.heap.size+1+1))) (by kernel_rfl) (hearR hbx.out.box bS.out b1.out (by omega) (by omega) (by omega) (zaj (Below.refl _ _).drew _)) ?_;intro hHeld;have b2d:=hide (zab b2.out (Below.refl W6.heap.size W6).drew);refine Htk (i:=0) ?_
  try simp only [sq]
  refine Htk (i:=1) ?_
  try simp only [sq]
  refine Htk (i:=2) ?_
  try simp only [sq]
  refine Htk (i:=3) ?_
  try simp only [sq]
  refine Htk (i:=7) ?_
  try simp only [sq]
  refine Htk (i:=8) ?_
  try simp only [sq]
  refine Htk (i:=9) ?_
  try simp only [sq]
  refine Htk (i:=10) ?_
  try simp only [sq]
  refine Htk (i:=11) ?_
  try simp only [sq]
  refine wpAnyH_ready (rs:= [4]) (by kernel_rfl) (by simp) ?_;refine AllReadyH.cons (by rfl) (fun K hK=> ?_) AllReadyH.nil;go_simp;refine(zae HD _).mono ?_;rintro e w7 ⟨rfl,hdw7⟩;have hgw7:=(zaj (Below.refl W6.heap.size W6).drew (w.heap.size+1+1)).trans (zaj hdw7 (w.heap.size+1+1));go_wp2_with fail;refine hK.out _ _ (hearR hbx.out.box bS.out b1.out (by omega) (by omega) (by omega) (hgw7)) (fun hHeld=> ?_);clear hK K
  try simp only [sq]
  refine Htk (i:=5) ?_
  try simp only [sq]
  refine Htk (i:=6) ?_
  try simp only [sq]
  refine wpAnyH_ready (rs:= [12]) (by kernel_rfl) (by simp) ?_;refine AllReadyH.cons (by rfl) (fun K hK=> ?_) AllReadyH.nil;go_simp;refine(zae HV _).mono ?_;rintro e w8 ⟨rfl,hdw8⟩;have hgw8:=(hgw7).trans (zaj hdw8 (w.heap.size+1+1));go_wp2_with fail;refine hK.out _ _ (hearR hbx.out.box bS.out b1.out (by omega) (by omega) (by omega) (hgw8)) (fun hHeld=> ?_);clear hK K
  try simp only [sq]
  have b2v:=hide (zab (zab b2d.out hdw7) hdw8);refine wpAnyH_ready (rs:= [13]) (by kernel_rfl) (by simp) ?_;refine AllReadyH.cons (by rfl) (fun K hK=> ?_) AllReadyH.nil;go_simp;refine(ze3 true (verd s m.u m.n) rfl _).mono ?_;rintro e w9 ⟨⟨al,nl,cl,rfl,hml,hnl,hcl,hfl⟩,hb9⟩;have hg9:=(hgw8).trans (zaj hb9 (w.heap.size+1+1));go_wp2_with fail;refine hK.out _ _ (hearR hbx.out.box bS.out b1.out (by omega) (by omega) (by omega) (hg9)) (fun hHeld=> ?_);clear hK K
  try simp only [sq]
  have b2z:=hide (zab b2v.out hb9);obtain ⟨y0,y1,y2,y3,y4,y5,y6,y7,y8⟩:=cl9 b2z.out;obtain ⟨f0,f1,f2,f3,f4,f5,f6,f7,f8⟩:=fr9 b2z.out;have hT:=zac (zac (zac (zac (zac (zac (zac (zac (zac (World.grownBy.refl w9 (some (w.heap.size+1+1))) 0 (.slice k.a k.n k.c)) 1 (.int .i64 g.fu)) 2 (.bool g.up)) 3 (.int .i64 g.t.r.v)) 4 (.slice k.ak k.nk k.ck)) 5 (.int .i64 g.t.r.t)) 6 (.int .i64 g.t.ver)) 7 (.slice k.av k.nv k.cv)) 8 (.slice k.ad k.nd k.cd);refine wpAnyH_ready (rs:= [14]) (by kernel_rfl) (by simp) ?_;refine AllReadyH.cons (by rfl) (fun K hK=> ?_) AllReadyH.nil;go_simp;refine hK.out _ _ (hearR hbx.out.box bS.out b1.out (by omega) (by omega) (by omega) (hg9.trans hT)) (fun hHeld=> ?_);clear hK K
  try simp only [sq]
  refine Htk (i:=15) ?_
  try simp only [sq]
  refine Htk (i:=16) ?_
  try simp only [sq]
  refine wpAnyH_done (by kernel_rfl) ?_ _;go_wp2_with fail;refine bodyPost_ret (v:=.tuple #[gtv g k,.slice al nl cl,.int .i64 0]) (by simp [results,Tryz.results247,go_sem,gtv,y0,y1,y2,y3,y4,y5,y6,y7,y8]) rfl ?_;rw [HE.out];exact⟨⟨k,al,nl,cl,rfl,(hbx.out.own.low (hg9.trans hT) hlt).gin,hbx.out.own.fr hF0,hml.turns hT (za6 hfl (Nat.lt_of_lt_of_le hR6 (hgw8).size)),hnl,hcl,hfl.lower (Nat.le_trans hw.size (hgw8).size)⟩,zam hw (hg9.trans hT) hx hw.size⟩
  }
  {
  have HE:Hid (gHear g m= (g,if false=true then [] else [verd s m.u m.n],0)):=by have e:=HE0.out;rw [ghK_7 Q7.out,PD.out,dd] at e;exact hide e
  clear HE0;rw [dd] at HD;clear dd PD Q7;refine wp_region_held_drew (S:=fun W' =>(W'.cell? ⟨B,0,none⟩=some (.slice k.a k.n k.c)∧W'.cell? ⟨B,1,none⟩=some (.int .i64 g.fu)∧W'.cell? ⟨B,2,none⟩=some (.bool g.up)∧W'.cell? ⟨B,3,none⟩=some (.int .i64 g.t.r.v)∧W'.cell? ⟨B,4,none⟩=some (.slice k.ak k.nk k.ck)∧W'.cell? ⟨B,5,none⟩=some (.int .i64 g.t.r.t)∧W'.cell? ⟨B,6,none⟩=some (.int .i64 g.t.ver)∧W'.cell? ⟨B,7,none⟩=some (.slice k.av k.nv k.cv)∧W'.cell? ⟨B,8,none⟩=some (.slice k.ad k.nd k.cd))∧(W'.cell? ⟨S,0,none⟩=some (.int .i64 s.n)∧W'.cell? ⟨S,1,none⟩=some (.int .i64 s.v)∧W'.cell? ⟨S,2,none⟩=some (.bool s.co)∧W'.cell? ⟨S,3,none⟩=some (.bool s.ab)∧W'.cell? ⟨S,4,none⟩=some (.bool s.en))∧W'.cell? ⟨w.heap.size+1,1,none⟩=some (.int .i64 m.u)∧W'.cell? ⟨w.heap.size+1,2,none⟩=some (.int .i64 m.n)∧W6.grownBy W' (some (w.heap.size+1+1))) (by kernel_rfl) (hearR hbx.out.box bS.out b1.out (by omega) (by omega) (by omega) (zaj (Below.refl _ _).drew _)) ?_;intro hHeld;have b2d:=hide (zab b2.out (Below.refl W6.heap.size W6).drew);refine Htk (i:=0) ?_
  try simp only [sq]
  refine Htk (i:=1) ?_
  try simp only [sq]
  refine Htk (i:=2) ?_
  try simp only [sq]
  refine Htk (i:=3) ?_
  try simp only [sq]
  refine Htk (i:=7) ?_
  try simp only [sq]
  refine Htk (i:=8) ?_
  try simp only [sq]
  refine Htk (i:=9) ?_
  try simp only [sq]
  refine Htk (i:=10) ?_
  try simp only [sq]
  refine Htk (i:=11) ?_
  try simp only [sq]
  refine wpAnyH_ready (rs:= [4]) (by kernel_rfl) (by simp) ?_;refine AllReadyH.cons (by rfl) (fun K hK=> ?_) AllReadyH.nil;go_simp;refine(zae HD _).mono ?_;rintro e w7 ⟨rfl,hdw7⟩;have hgw7:=(zaj (Below.refl W6.heap.size W6).drew (w.heap.size+1+1)).trans (zaj hdw7 (w.heap.size+1+1));go_wp2_with fail;refine hK.out _ _ (hearR hbx.out.box bS.out b1.out (by omega) (by omega) (by omega) (hgw7)) (fun hHeld=> ?_);clear hK K
  try simp only [sq]
  refine Htk (i:=5) ?_
  try simp only [sq]
  refine Htk (i:=6) ?_
  try simp only [sq]
  refine wpAnyH_ready (rs:= [12]) (by kernel_rfl) (by simp) ?_;refine AllReadyH.cons (by rfl) (fun K hK=> ?_) AllReadyH.nil;go_simp;refine(zae HV _).mono ?_;rintro e w8 ⟨rfl,hdw8⟩;have hgw8:=(hgw7).trans (zaj hdw8 (w.heap.size+1+1));go_wp2_with fail;refine hK.out _ _ (hearR hbx.out.box bS.out b1.out (by omega) (by omega) (by omega) (hgw8)) (fun hHeld=> ?_);clear hK K
  try simp only [sq]
  have b2v:=hide (zab (zab b2d.out hdw7) hdw8);refine wpAnyH_ready (rs:= [13]) (by kernel_rfl) (by simp) ?_;refine AllReadyH.cons (by rfl) (fun K hK=> ?_) AllReadyH.nil;go_simp;refine(ze3 false (verd s m.u m.n) rfl _).mono ?_;rintro e w9 ⟨⟨al,nl,cl,rfl,hml,hnl,hcl,hfl⟩,hb9⟩;have hg9:=(hgw8).trans (zaj hb9 (w.heap.size+1+1));go_wp2_with fail;refine hK.out _ _ (hearR hbx.out.box bS.out b1.out (by omega) (by omega) (by omega) (hg9)) (fun hHeld=> ?_);clear hK K
  try simp only [sq]
  have b2z:=hide (zab b2v.out hb9);obtain ⟨y0,y1,y2,y3,y4,y5,y6,y7,y8⟩:=cl9 b2z.out;obtain ⟨f0,f1,f2,f3,f4,f5,f6,f7,f8⟩:=fr9 b2z.out;have hT:=zac (zac (zac (zac (zac (zac (zac (zac (zac (World.grownBy.refl w9 (some (w.heap.size+1+1))) 0 (.slice k.a k.n k.c)) 1 (.int .i64 g.fu)) 2 (.bool g.up)) 3 (.int .i64 g.t.r.v)) 4 (.slice k.ak k.nk k.ck)) 5 (.int .i64 g.t.r.t)) 6 (.int .i64 g.t.ver)) 7 (.slice k.av k.nv k.cv)) 8 (.slice k.ad k.nd k.cd);refine wpAnyH_ready (rs:= [14]) (by kernel_rfl) (by simp) ?_;refine AllReadyH.cons (by rfl) (fun K hK=> ?_) AllReadyH.nil;go_simp;refine hK.out _ _ (hearR hbx.out.box bS.out b1.out (by omega) (by omega) (by omega) (hg9.trans hT)) (fun hHeld=> ?_);clear hK K
  try simp only [sq]
  refine Htk (i:=15) ?_
  try simp only [sq]
  refine Htk (i:=16) ?_
  try simp only [sq]
  refine wpAnyH_done (by kernel_rfl) ?_ _;go_wp2_with fail;refine bodyPost_ret (v:=.tuple #[gtv g k,.slice al nl cl,.int .i64 0]) (by simp [results,Tryz.results247,go_sem,gtv,y0,y1,y2,y3,y4,y5,y6,y7,y8]) rfl ?_;rw [HE.out];exact⟨⟨k,al,nl,cl,rfl,(hbx.out.own.low (hg9.trans hT) hlt).gin,hbx.out.own.fr hF0,hml.turns hT (za6 hfl (Nat.lt_of_lt_of_le hR6 (hgw8).size)),hnl,hcl,hfl.lower (Nat.le_trans hw.size (hgw8).size)⟩,zam hw (hg9.trans hT) hx hw.size⟩
  }
end
end Go.Proofs.YthmekfcgdfckaaaGreatDoor
