/- What a call that answers a gateway and an error leaves ('GAns'); the contract of gate.Boot. The contract of gate.GiveUp. The contracts of gate.verdict, gate.unless, gate.isUnit. The contracts of trust.Count, checkSigs, trusted. The contract of trust.trusted. -/
import Derived.Test.YthmekfcgdfckaaaGreatDoorWn10
import Derived.Test.YthmekfcgdfckaaaGreatDoorWn16
import Derived.Test.YthmekfcgdfckaaaGreatDoorWn9
set_option maxRecDepth 1000000
set_option maxHeartbeats 0
namespace Go.Proofs.YthmekfcgdfckaaaGreatDoor
variable {F bv bd B:Nat} {a:Option Addr} {m:GA} {w:World} {g:Gt} {l:List S2} {r:Rt} {sigs:List Int} {name:Int}
section
open Go.RowKit
attribute [local go_sem ↓] Go.wp_at_zero Go.wp_at_succ
def ga0:GA:=⟨none,0,0,none,0,0,none,0,0,none,0,0⟩
theorem gin0 (w:World):GIn w ga0 gt0:=⟨⟨.inl rfl,rfl,Nat.le_refl _,by decide⟩,⟨.inl rfl,rfl,by decide⟩,⟨.inl rfl,rfl,Nat.le_refl _,by decide⟩,⟨.inl rfl,rfl,Nat.le_refl _,by decide⟩⟩
structure GFr (F:Nat) (m:GA):Prop where
  a:zal F m.a
  ak:zal F m.ak
  av:zal F m.av
  ad:zal F m.ad
theorem gfr0 (F:Nat):GFr F ga0:=⟨zal.nil _,zal.nil _,zal.nil _,zal.nil _⟩
theorem zal.lower {F' :Nat} (h:zal F a) (hF:F' ≤F):zal F' a:=fun ad e=>Nat.le_trans hF (h ad e)
theorem GFr.lower {F' :Nat} (h:GFr F m) (hF:F' ≤F):GFr F' m:=⟨h.a.lower hF,h.ak.lower hF,h.av.lower hF,h.ad.lower hF⟩
theorem GOwn.fr {F' :Nat} (h:GOwn w F m g bv bd) (hF:F' ≤F):GFr F' m:=
  ⟨h.fa.lower hF,h.fk.lower hF,fun ad e=>by rw [h.av] at e;cases e;exact Nat.le_trans hF h.fv,fun ad e=>by rw [h.ad] at e;cases e;exact Nat.le_trans hF h.fd⟩
def GAns (w:World) (r:Gt×Int) (e:Ending) (w' :World):Prop:=(∃m,e=.returned (.tuple #[gtv r.1 m,.int .i64 r.2])∧GIn w' m r.1∧GFr w.heap.size m)∧Below w.heap.size w w'
theorem GOwn.gin (h:GOwn w F m g bv bd):GIn w m g:=
  ⟨h.ws,h.ks,⟨by rw [h.av];exact h.vo.bools,h.nv.1,h.nv.2.1,Nat.le_trans h.nv.2.2.2 (by decide)⟩,⟨by rw [h.ad];exact h.di.bools,h.nd.1,h.nd.2.1,Nat.le_trans h.nd.2.2.2 (by decide)⟩⟩
theorem GOwn.turns {w' :World} (h:GOwn w F m g bv bd) (hg:w.grownBy w' (some B)) (h1:Off B m.a) (h2:Off B m.ak) (h3:bv≠B) (h4:bd≠B):GOwn w' F m g bv bd:=
  ⟨h.ws.turns hg h1,h.ks.turns hg h2,h.av,h.ad,h.vo.turns hg h3,h.di.turns hg h4,h.nv,h.nd,h.fv,h.fd,h.ne,h.wv,h.wd,h.kv,h.kd,h.fa,h.fk⟩
theorem off_low (h:zal F a) (hB:B<F):Off B a:=za6 h hB
theorem GOwn.low {w' :World} (h:GOwn w F m g bv bd) (hg:w.grownBy w' (some B)) (hB:B<F):GOwn w' F m g bv bd:=
  h.turns hg (off_low h.fa hB) (off_low h.fk hB) (by have:=h.fv;omega) (by have:=h.fd;omega)
theorem GOwn.boxed {w5:World} {k:GA} (ho:GOwn w5 F k g bv bd) (hf:F≤w5.heap.size) (ha:Off w5.heap.size k.a∧Off w5.heap.size k.ak):GBox (w5.alloc (.cells (aG k g) 35)) F w5.heap.size k g bv bd:=
  ⟨heap_alloc_last _ _,ho.below (zaf (Below.refl w5.heap.size w5) _),hf,Nat.ne_of_gt ho.vo.lt,Nat.ne_of_gt ho.di.lt,ha.1,ha.2⟩
theorem gt_pow {W:World} {f:Int} {up:Bool} (h:W.heap[B]?=some (gtO g m)):
    ((W.setCell ⟨B,2,none⟩ (.bool up)).setCell ⟨B,1,none⟩ (.int .i64 f)).heap[B]?=some (gtO ⟨g.ws,f,up,g.t,g.vo,g.di⟩ m):=by
  unfold gtO at *;simp only [World.setCell,Array.getElem?_modify]
  simp [h]
theorem GBox.power (h:GBox w F B m g bv bd) (f:Int) (up:Bool):GBox ((w.setCell ⟨B,2,none⟩ (.bool up)).setCell ⟨B,1,none⟩ (.int .i64 f)) F B m ⟨g.ws,f,up,g.t,g.vo,g.di⟩ bv bd:=by
  have hT:w.grownBy ((w.setCell ⟨B,2,none⟩ (.bool up)).setCell ⟨B,1,none⟩ (.int .i64 f)) (some B):=zac (zac (World.grownBy.refl _ _) _ _) _ _;have o:=h.own.turns hT h.oa h.ok (Ne.symm h.nv) (Ne.symm h.nd);exact⟨gt_pow h.box,⟨o.ws,o.ks,o.av,o.ad,o.vo,o.di,o.nv,o.nd,o.fv,o.fd,o.ne,o.wv,o.wd,o.kv,o.kd,o.fa,o.fk⟩,h.fB,h.nv,h.nd,h.oa,h.ok⟩
theorem GIn.sizes (h:GIn w m g) (h0:gtE g=0):m.n≤192∧m.nk≤1000∧(0<m.nv∧m.nv≤4)∧(0<m.nd∧m.nd≤4):=by
  obtain ⟨h1,h2,h3,h4⟩:=zen h0;have a1:=(zdm h1).2.2.1;have a2:g.t.r.e=0:=by
    cases z:inR g.t.ver 0 1000
    { rw [zla z] at h4;cases h4 }
    { rw [zkd z] at h4;exact h4 }
  rw [h.ws.len] at a1;rw [h.vo.len] at h2 h3;rw [h.di.len] at h3;refine⟨a1, ?_,by omega,by omega⟩;rw [←h.ks.len];cases z1:inR g.t.r.v 1 1000
  { unfold Rt.e at a2;rw [zlw z1] at a2;cases a2 }
  cases z2:inR g.t.r.ks.length 1 6
  { unfold Rt.e at a2;rw [zle z1 z2] at a2;cases a2 }
  simp [inR] at z2
  omega
theorem gBootS_e (h:gtE g≠0):zdb g= (gt0,gtE g):=by unfold zdb;rw [if_pos h]
theorem gBootS_0 (h:gtE g=0):zdb g= (forgG ⟨g.ws,-1,true,g.t,g.vo,g.di⟩,0):=by unfold zdb;rw [if_neg (by simpa using h)];rfl
theorem zol (g:Gt) (m:GA) (w:World) (h:GIn w m g):
    Calls Tryz.prog 199 #[gtv g m] w (GAns w (zdb g)):=by
  have E1:=fun h=>gBootS_e (g:=g) h
  have E0:=fun h=>gBootS_0 (g:=g) h
  have hw:Below w.heap.size w ((w.alloc (.cells (aG m g) 35)).alloc (.cells aY 35)):=bA2;have b1:Hid (((w.alloc (.cells (aG m g) 35)).alloc (.cells aY 35)).heap[w.heap.size+1]?=some (.cells aY 35 (0,0))):=by have:=heap_alloc_last (w.alloc (.cells (aG m g) 35)) (.cells aY 35);rw [show(w.alloc (.cells (aG m g) 35)).heap.size=w.heap.size+1 from by simp] at this;exact this
  have b0:Hid (((w.alloc (.cells (aG m g) 35)).alloc (.cells aY 35)).heap[w.heap.size]?=some (.cells (aG m g) 35 (0,0))):=zab (heap_alloc_last w (.cells (aG m g) 35)) (zaf (Below.refl _ _) _);have HC:=hide (fun W (hW:Below w.heap.size w W)=>zca g m W (h.below hW));have HP:=hide h;have hx:w.heap.size≤w.heap.size+1:=by omega
  clear h;unfold gtv at HC;unfold gtv;go_enter Tryz.func199,Tryz.ntmps199;go_wp2_with fail;generalize ((w.alloc (.cells (aG m g) 35)).alloc (.cells aY 35))=W at *;refine(zae HC _ hw).mono ?_;rintro e w1 ⟨rfl,hb⟩;replace b0:=hide (zab b0.out hb);replace b1:=hide (zab b1.out hb);replace hw:=bT hw hb;clear hb HC
  by_cases z1:gtE g=0
  rotate_left
  {
  have HE:=hide (E1 z1);have d1: (gtE g !=0)=true:=by simpa using z1
  obtain ⟨y0,y1,y2,y3,y4,y5,y6,y7,y8⟩:=cl9 b1.out;obtain ⟨f0,f1,f2,f3,f4,f5,f6,f7,f8⟩:=fr9 b1.out;clear z1 E1 E0;generalize gtE g=q at *;go_wp2_with fail;refine bodyPost_ret (v:=.tuple #[gtv gt0 ga0,.int .i64 q]) (by simp [results,Tryz.results199,go_sem,gtv,gt0,ga0,y0,y1,y2,y3,y4,y5,y6,y7,y8]) rfl ?_;rw [HE.out];exact⟨⟨ga0,rfl,gin0 _,gfr0 _⟩,zam hw (zac (zac (zac (zac (zac (zac (zac (zac (zac (World.grownBy.refl w1 (some (w.heap.size+1))) 0 (.slice none 0 0)) 1 (.int .i64 0)) 2 (.bool false)) 3 (.int .i64 0)) 4 (.slice none 0 0)) 5 (.int .i64 0)) 6 (.int .i64 0)) 7 (.slice none 0 0)) 8 (.slice none 0 0)) hx hw.size⟩
  }
  have HE:=hide (E0 z1);obtain ⟨hlw,hlk,hlv,hld⟩:=HP.out.sizes z1;rw [z1];have HT:=hide (fun W (hW:Below w.heap.size w W)=>zdc g m W (HP.out.below hW) hlw hlk hlv hld);unfold gtv at HT;clear z1 E0 E1 hlw hlk hlv hld;obtain ⟨x0,x1,x2,x3,x4,x5,x6,x7,x8⟩:=cl9 b0.out;go_wp2_with fail;have hF0:=hw.size;refine(zae HT _ hw).mono ?_;rintro e w5 ⟨⟨k,bv,bd,rfl,ho,hoff⟩,hb5⟩;have hlt:=zak b1.out;replace b1:=hide (zab (zab b1.out hb5) (zaf (Below.refl w5.heap.size w5) (.cells (aG k g) 35)));have hbx:=hide (ho.boxed hb5.size (hoff _ (.inr (Nat.le_refl _))));have hw5:Below w1.heap.size w1 (w5.alloc (.cells (aG k g) 35)):=zaf hb5 _;have hB:=hb5.size;clear HT ho hoff hb5 b0 x0 x1 x2 x3 x4 x5 x6 x7 x8;unfold gtv;go_upto_region 5 with fail
  generalize (w5.alloc (.cells (aG k g) 35))=W5 at *;generalize w5.heap.size=B at *;have bB:=hide hbx.out.box;unfold gtO at bB;have x1:=zaa bB.out 1 _ rfl;have x2:=zaa bB.out 2 _ rfl;have f1:=zad bB.out 1;have f2:=zad bB.out 2;have hT:W5.grownBy ((W5.setCell ⟨B,2,none⟩ (.bool true)).setCell ⟨B,1,none⟩ (.int .i64 (-1))) (some B):=zac (zac (World.grownBy.refl _ _) _ _) _ _;have hb6:=hide (hbx.out.power (-1) true);have HF:=hide (zgq _ _ _ _ _ _ _ hb6.out);go_wp2_with fail;refine(zae HF).mono ?_;rintro e w6 ⟨rfl,hb7,hg7⟩;have g7:=(g3_of (B:=B) (b1:=bv) (b2:=bd) hT (.inl rfl)).trans hg7;have hb8:=g7.bel hw5 hB hb7.own.fv hb7.own.fd hw5.size;replace b1:=hide (g7.blk b1.out (by omega) (by have:=hb7.own.fv;omega) (by have:=hb7.own.fd;omega));replace hw:=bT hw hb8;have bC:=hide hb7.box;unfold gtO at bC;have HB:=hide hb7;clear hb7 hg7 g7 hb8 HF x1 x2 f1 f2 bB hb6 hbx hT;obtain ⟨x0,x1,x2,x3,x4,x5,x6,x7,x8⟩:=cl9 bC.out;obtain ⟨y0,y1,y2,y3,y4,y5,y6,y7,y8⟩:=cl9 b1.out;obtain ⟨f0,f1,f2,f3,f4,f5,f6,f7,f8⟩:=fr9 b1.out;go_wp2_with fail;refine bodyPost_ret (v:=.tuple #[gtv (forgG ⟨g.ws,-1,true,g.t,g.vo,g.di⟩) k,.int .i64 0]) (by simp [results,Tryz.results199,go_sem,gtv,forgG,y0,y1,y2,y3,y4,y5,y6,y7,y8]) rfl ?_;rw [HE.out];have hT:=zac (zac (zac (zac (zac (zac (zac (zac (zac (World.grownBy.refl w6 (some (w.heap.size+1))) 0 (.slice k.a k.n k.c)) 1 (.int .i64 (-1))) 2 (.bool true)) 3 (.int .i64 g.t.r.v)) 4 (.slice k.ak k.nk k.ck)) 5 (.int .i64 g.t.r.t)) 6 (.int .i64 g.t.ver)) 7 (.slice k.av k.nv k.cv)) 8 (.slice k.ad k.nd k.cd);exact⟨⟨k,rfl,(HB.out.own.low hT hlt).gin,HB.out.own.fr hF0⟩,zam hw hT hx hw.size⟩
end
section
open Go.RowKit
attribute [local go_sem ↓] Go.wp_at_zero Go.wp_at_succ
theorem gvUp_e (h:upE g≠0):gvUp g= (gt0,upE g):=by unfold gvUp;rw [if_pos h]
theorem gvUp_l (h:upE g=0) (h2: (decide ((gOf g.ws).n=0)||decG (gOf g.ws))=true):gvUp g= (gt0,12):=by unfold gvUp;rw [if_neg (by simpa using h),if_pos h2]
theorem gvUp_0 (h:upE g=0) (h2: (decide ((gOf g.ws).n=0)||decG (gOf g.ws))=false):gvUp g= ((noteG g (gOf g.ws) [3,(gOf g.ws).n]).1,0):=by unfold gvUp;rw [if_neg (by simpa using h),if_neg (by rw [h2];decide)]
theorem zlf (h:upE g≠0):gUpS g= (gs0,upE g):=by unfold gUpS;rw [if_pos h]
theorem zld (h:upE g=0):gUpS g= (gOf g.ws,0):=by unfold gUpS;rw [if_neg (by simpa using h)]
theorem zko (h:upE g=0):gtE g=0:=by
  rcases Decidable.em (gtE g=0) with h1|h1
  { exact h1 }
  {
  rw [upE_e h1] at h;exact absurd h h1
  }
theorem zrg (g:Gt) (m:GA) (w:World) (h:GIn w m g):
    Calls Tryz.prog 200 #[gtv g m] w (GAns w (gvUp g)):=by
  have E1:=fun h=>gvUp_e (g:=g) h
  have E2:=fun h h2=>gvUp_l (g:=g) h h2
  have E0:=fun h h2=>gvUp_0 (g:=g) h h2
  have hw:Below w.heap.size w ((w.alloc (.cells (aG m g) 35)).alloc (.cells aY 35)):=bA2;have b1:Hid (((w.alloc (.cells (aG m g) 35)).alloc (.cells aY 35)).heap[w.heap.size+1]?=some (.cells aY 35 (0,0))):=by have:=heap_alloc_last (w.alloc (.cells (aG m g) 35)) (.cells aY 35);rw [show(w.alloc (.cells (aG m g) 35)).heap.size=w.heap.size+1 from by simp] at this;exact this
  have b0:Hid (((w.alloc (.cells (aG m g) 35)).alloc (.cells aY 35)).heap[w.heap.size]?=some (.cells (aG m g) 35 (0,0))):=zab (heap_alloc_last w (.cells (aG m g) 35)) (zaf (Below.refl _ _) _);have HU:=hide (fun W (hW:Below w.heap.size w W)=>zf8 g m W (h.below hW));have HP:=hide h;have hx:w.heap.size≤w.heap.size+1:=by omega
  clear h;unfold gtv at HU;unfold gtv;go_enter Tryz.func200,Tryz.ntmps200;go_wp2_with fail;generalize ((w.alloc (.cells (aG m g) 35)).alloc (.cells aY 35))=W at *;refine(zae HU _ hw).mono ?_;rintro e w1 ⟨rfl,hb⟩;replace b0:=hide (zab b0.out hb);replace b1:=hide (zab b1.out hb);replace hw:=bT hw hb;clear hb HU
  by_cases z1:upE g=0
  rotate_left
  {
  have HE:=hide (E1 z1);have d1: (upE g !=0)=true:=by simpa using z1
  rw [zlf z1];unfold gsv gs0;replace b1:=hide (zab b1.out (zaf (Below.refl w1.heap.size w1) (.cells aX 72)));have hw2:Below w.heap.size w (w1.alloc (.cells aX 72)):=hw.alloc hw.size _;clear z1 E1 E0 E2;generalize upE g=q at *;go_upto_region 2 with fail
  generalize (w1.alloc (.cells aX 72))=W1 at *;obtain ⟨y0,y1,y2,y3,y4,y5,y6,y7,y8⟩:=cl9 b1.out;obtain ⟨f0,f1,f2,f3,f4,f5,f6,f7,f8⟩:=fr9 b1.out;go_wp2_with fail;refine bodyPost_ret (v:=.tuple #[gtv gt0 ga0,.int .i64 q]) (by simp [results,Tryz.results200,go_sem,gtv,gt0,ga0,y0,y1,y2,y3,y4,y5,y6,y7,y8]) rfl ?_;rw [HE.out];exact⟨⟨ga0,rfl,gin0 _,gfr0 _⟩,zam hw2 (zac (zac (zac (zac (zac (zac (zac (zac (zac (World.grownBy.refl W1 (some (w.heap.size+1))) 0 (.slice none 0 0)) 1 (.int .i64 0)) 2 (.bool false)) 3 (.int .i64 0)) 4 (.slice none 0 0)) 5 (.int .i64 0)) 6 (.int .i64 0)) 7 (.slice none 0 0)) 8 (.slice none 0 0)) hx hw2.size⟩
  }
  rw [zld z1];replace E2:=E2 z1;replace E0:=E0 z1;obtain ⟨hlw,hlk,hlv,hld⟩:=HP.out.sizes (zko z1);have HT:=hide (fun W (hW:Below w.heap.size w W)=>zdc g m W (HP.out.below hW) hlw hlk hlv hld);unfold gtv at HT;clear z1 E1 hlw hlk hlv hld;generalize gOf g.ws=s at *;have HD:=hide (fun W=>zej s W);unfold gsv at HD;unfold gsv;have bS:=hide (heap_alloc_last w1 (.cells (aS s) 72));replace b0:=hide (zab b0.out (zaf (Below.refl w1.heap.size w1) (.cells (aS s) 72)));replace b1:=hide (zab b1.out (zaf (Below.refl w1.heap.size w1) (.cells (aS s) 72)));replace hw:Below w.heap.size w (w1.alloc (.cells (aS s) 72)):=hw.alloc hw.size _;go_upto_region 2 with fail
  generalize (w1.alloc (.cells (aS s) 72))=W1 at *;generalize w1.heap.size=S at *;obtain ⟨s0,s1,s2,s3,s4⟩:=cl5 bS.out
  by_cases z2:s.n=0
  {
  have HE:=hide (E2 (by simp [z2]));have d2: (s.n==0)=true:=by simpa using z2
  clear E2 E0 HT HD z2;obtain ⟨y0,y1,y2,y3,y4,y5,y6,y7,y8⟩:=cl9 b1.out;obtain ⟨f0,f1,f2,f3,f4,f5,f6,f7,f8⟩:=fr9 b1.out;go_wp2_with fail;refine bodyPost_ret (v:=.tuple #[gtv gt0 ga0,.int .i64 12]) (by simp [results,Tryz.results200,go_sem,gtv,gt0,ga0,y0,y1,y2,y3,y4,y5,y6,y7,y8]) rfl ?_;rw [HE.out];exact⟨⟨ga0,rfl,gin0 _,gfr0 _⟩,zam hw (zac (zac (zac (zac (zac (zac (zac (zac (zac (World.grownBy.refl W1 (some (w.heap.size+1))) 0 (.slice none 0 0)) 1 (.int .i64 0)) 2 (.bool false)) 3 (.int .i64 0)) 4 (.slice none 0 0)) 5 (.int .i64 0)) 6 (.int .i64 0)) 7 (.slice none 0 0)) 8 (.slice none 0 0)) hx hw.size⟩
  }
  have d2: (s.n==0)=false:=by simpa using z2
  go_wp2_with fail;refine(zae HD _).mono ?_;rintro e w3 ⟨rfl,hb3⟩;replace b0:=hide (zab b0.out hb3);replace b1:=hide (zab b1.out hb3);replace bS:=hide (zab bS.out hb3);replace hw:=bT hw hb3;clear hb3 HD s0 s1 s2 s3 s4;cases z3:decG s;rotate_left
  {
  have HE:=hide (E2 (by simp [z3]));clear E2 E0 HT z2;obtain ⟨y0,y1,y2,y3,y4,y5,y6,y7,y8⟩:=cl9 b1.out;obtain ⟨f0,f1,f2,f3,f4,f5,f6,f7,f8⟩:=fr9 b1.out;go_wp2_with fail;refine bodyPost_ret (v:=.tuple #[gtv gt0 ga0,.int .i64 12]) (by simp [results,Tryz.results200,go_sem,gtv,gt0,ga0,y0,y1,y2,y3,y4,y5,y6,y7,y8]) rfl ?_;rw [HE.out];exact⟨⟨ga0,rfl,gin0 _,gfr0 _⟩,zam hw (zac (zac (zac (zac (zac (zac (zac (zac (zac (World.grownBy.refl w3 (some (w.heap.size+1))) 0 (.slice none 0 0)) 1 (.int .i64 0)) 2 (.bool false)) 3 (.int .i64 0)) 4 (.slice none 0 0)) 5 (.int .i64 0)) 6 (.int .i64 0)) 7 (.slice none 0 0)) 8 (.slice none 0 0)) hx hw.size⟩
  }
  have HE:=hide (E0 (by simp [z2,z3]));clear E2 E0 z2 z3 d2;obtain ⟨x0,x1,x2,x3,x4,x5,x6,x7,x8⟩:=cl9 b0.out;go_wp2_with fail;have hF0:=hw.size;refine(zae HT _ hw).mono ?_;rintro e w5 ⟨⟨k,bv,bd,rfl,ho,hoff⟩,hb5⟩;have hlt:=zak b1.out;replace b1:=hide (zab (zab b1.out hb5) (zaf (Below.refl w5.heap.size w5) (.cells (aG k g) 35)));replace bS:=hide (zab (zab bS.out hb5) (zaf (Below.refl w5.heap.size w5) (.cells (aG k g) 35)));have hbx:=hide (ho.boxed hb5.size (hoff _ (.inr (Nat.le_refl _))));have hw5:Below w3.heap.size w3 (w5.alloc (.cells (aG k g) 35)):=zaf hb5 _;have hB:=hb5.size;clear HT ho hoff hb5 b0 x0 x1 x2 x3 x4 x5 x6 x7 x8;unfold gtv;go_upto_region 7 with fail
  generalize (w5.alloc (.cells (aG k g) 35))=W5 at *;generalize w5.heap.size=B at *;obtain ⟨s0,s1,s2,s3,s4⟩:=cl5 bS.out;have hb3:=hide ((Below.refl W5.heap.size W5).alloc (Nat.le_refl _) (.cells #[.int .i64 3,.int .i64 s.n] 3));have HN:=hide (zgr _ _ _ _ _ _ s (some ⟨W5.heap.size,0,none⟩) 2 2 [3,s.n] _ (hbx.out.below hb3.out) (zi7 W5 3 s.n 3));unfold gsv at HN;go_wp2_with fail;refine(zae HN).mono ?_;rintro e w6 ⟨rfl,⟨k2,hb7⟩,hg7⟩;have g7:=(zcw (B:=B) (b1:=bv) (b2:=bd) hb3.out).trans hg7;have hb8:=g7.bel hw5 hB hb7.own.fv hb7.own.fd hw5.size;replace b1:=hide (g7.blk b1.out (by omega) (by have:=hb7.own.fv;omega) (by have:=hb7.own.fd;omega));replace hw:=bT hw hb8;replace HE:=HE.out;generalize (noteG g s [3,s.n]).1=g2 at *;have HE:=hide HE;have bC:=hide hb7.box;unfold gtO at bC;have HB:=hide hb7;clear hb7 hg7 g7 hb8 HN hbx bS s0 s1 s2 s3 s4;obtain ⟨x0,x1,x2,x3,x4,x5,x6,x7,x8⟩:=cl9 bC.out;obtain ⟨y0,y1,y2,y3,y4,y5,y6,y7,y8⟩:=cl9 b1.out;obtain ⟨f0,f1,f2,f3,f4,f5,f6,f7,f8⟩:=fr9 b1.out;go_wp2_with fail;refine bodyPost_ret (v:=.tuple #[gtv g2 k2,.int .i64 0]) (by simp [results,Tryz.results200,go_sem,gtv,y0,y1,y2,y3,y4,y5,y6,y7,y8]) rfl ?_;rw [HE.out];have hT:=zac (zac (zac (zac (zac (zac (zac (zac (zac (World.grownBy.refl w6 (some (w.heap.size+1))) 0 (.slice k2.a k2.n k2.c)) 1 (.int .i64 g2.fu)) 2 (.bool g2.up)) 3 (.int .i64 g2.t.r.v)) 4 (.slice k2.ak k2.nk k2.ck)) 5 (.int .i64 g2.t.r.t)) 6 (.int .i64 g2.t.ver)) 7 (.slice k2.av k2.nv k2.cv)) 8 (.slice k2.ad k2.nd k2.cd);exact⟨⟨k2,rfl,(HB.out.own.low hT hlt).gin,HB.out.own.fr hF0⟩,zam hw hT hx hw.size⟩
end
section
open Go.RowKit
attribute [local go_sem ↓] Go.wp_at_zero Go.wp_at_succ
theorem ziq (s:Gs) (u n:Int) (w:World):
    Calls Tryz.prog 245 #[gsv s,.int .i64 u,.int .i64 n] w fun e w' =>e=.returned (msv (verd s u n) none 0 0)∧Below w.heap.size w w' :=by
  unfold gsv
  by_cases z:s.n=n
  {
  have d: (s.n==n)=true:=by simpa using z
  cases z2:s.co
  {
  have HE:Hid (verd s u n= ⟨5,u,n,0,0, [],false⟩):=by show _=_;unfold verd;rw [z2];simp
  go_enter Tryz.func245,Tryz.ntmps245;go_wp2_with fail;refine bodyPost_ret (v:=msv ⟨5,u,n,0,0, [],false⟩ none 0 0) (by simp [results,Tryz.results245,go_sem,msv]) rfl ?_;rw [HE.out];exact⟨rfl,bA2⟩
  }
  {
  have HE:Hid (verd s u n= ⟨4,u,n,0,0, [],false⟩):=by show _=_;unfold verd;rw [z2];simp [z]
  go_enter Tryz.func245,Tryz.ntmps245;go_wp2_with fail;refine bodyPost_ret (v:=msv ⟨4,u,n,0,0, [],false⟩ none 0 0) (by simp [results,Tryz.results245,go_sem,msv]) rfl ?_;rw [HE.out];exact⟨rfl,bA2⟩
  }
  }
  {
  have d: (s.n==n)=false:=by simpa using z
  have HE:Hid (verd s u n= ⟨5,u,n,0,0, [],false⟩):=by show _=_;unfold verd;simp [z]
  go_enter Tryz.func245,Tryz.ntmps245;go_wp2_with fail;refine bodyPost_ret (v:=msv ⟨5,u,n,0,0, [],false⟩ none 0 0) (by simp [results,Tryz.results245,go_sem,msv]) rfl ?_;rw [HE.out];exact⟨rfl,bA2⟩
  }
theorem ze3 (b:Bool) (m:Ms) (hm:m.ws= []) (w:World):
    Calls Tryz.prog 244 #[.bool b,msv m none 0 0] w fun e w' =>(∃a n c,e=.returned (.slice a n c)∧za9 w' a (if b=true then [] else [m])∧(if b=true then [] else [m]).length=n∧n≤c∧zal w.heap.size a)∧Below w.heap.size w w' :=by
  unfold msv;cases b
  {
  go_enter Tryz.func244,Tryz.ntmps244;go_wp2_with fail;go_ret;have hs: (w.alloc (.cells #[.int .i64 m.k,.int .i64 m.u,.int .i64 m.n,.int .i64 m.at',.int .i64 m.im,.slice none 0 0,.bool m.y] 99)).heap.size=w.heap.size+1:=by simp
  have hl:=heap_alloc_last (w.alloc (.cells #[.int .i64 m.k,.int .i64 m.u,.int .i64 m.n,.int .i64 m.at',.int .i64 m.im,.slice none 0 0,.bool m.y] 99)) (.cells #[.int .i64 m.k,.int .i64 m.u,.int .i64 m.n,.int .i64 m.at',.int .i64 m.im,.slice none 0 0,.bool m.y] 99);rw [hs] at hl;exact⟨⟨_,1,1,rfl,zg1 hm hl,rfl,Nat.le_refl _,fun ad e=>by cases e;exact Nat.le_succ _⟩,bA2⟩
  }
  {
  go_enter Tryz.func244,Tryz.ntmps244;go_wp2_with fail;go_ret;exact⟨⟨none,0,0,rfl,.inl rfl,rfl,Nat.le_refl _,zal.nil _⟩,bA1⟩
  }
theorem zjj (g:Gt) (m:GA) (u:Int) (w:World) (h:GIn w m g):
    Calls Tryz.prog 243 #[gtv g m,.int .i64 u] w fun e w' =>e=.returned (.bool (inB u 0 ((g.vo.length:Int)- 1)))∧Below w.heap.size w w' :=by
  have hl:=h.vo.len;have hm:=h.vo.max;have HW:Hid (wrap64 ((m.nv:Int)- 1)= (m.nv:Int)- 1):=by show _=_;unfold maxLen at hm;unfold wrap64;omega
  unfold gtv;go_enter Tryz.func243,Tryz.ntmps243;go_wp2_with fail;rw [HW.out];refine(zbc _ _ _ _).mono ?_;rintro e w1 ⟨rfl,rfl⟩;go_wp2_with fail;go_ret;exact⟨zan (by rw [hl]),bA1⟩
end
section
open Go.RowKit
theorem cntE_1 (h:sigE l≠0):cntE l r sigs=sigE l:=by unfold cntE;rw [if_neg h]
theorem cntE_2 (h:sigE l=0) (h2:r.e≠0):cntE l r sigs=r.e:=by unfold cntE;rw [if_pos h,if_neg h2]
theorem cntE_3 (h:sigE l=0) (h2:r.e=0) (h3:50<sigs.length):cntE l r sigs=2:=by unfold cntE;rw [if_pos h,if_pos h2,if_pos h3]
theorem cntE_0 (h:sigE l=0) (h2:r.e=0) (h3: ¬50<sigs.length):cntE l r sigs=0:=by unfold cntE;rw [if_pos h,if_pos h2,if_neg h3]
theorem cntV_0 (h:cntE l r sigs=0):cntV l r sigs name= (cntN l r.ks sigs name:Int):=by unfold cntV;rw [if_pos h]
theorem cntV_1 (h:cntE l r sigs≠0):cntV l r sigs name=0:=by unfold cntV;rw [if_neg h]
theorem count_any (a1:Option Addr) (n1 c1:Nat) (l:List S2) (r:Rt) (a2:Option Addr) (n2 c2:Nat) (a3:Option Addr) (n3 c3:Nat) (sigs:List Int) (name:Int) (w:World) (h1:BG w a1 n1 l) (h2:BI w a2 n2 r.ks) (h3:BI w a3 n3 sigs):
    Calls Tryz.prog 309 #[.slice a1 n1 c1,rv r.v a2 n2 c2 r.t,.slice a3 n3 c3,.int .i64 name] w fun e w' =>e=.returned (.tuple #[.int .i64 (cntV l r sigs name),.int .i64 (cntE l r sigs)])∧Below w.heap.size w w' :=by
  have hw0:Below w.heap.size w (w.alloc (.cells #[.int .i64 r.v,.slice a2 n2 c2,.int .i64 r.t] 30)):=bA1;have b0:=hide (heap_alloc_last w (.cells #[.int .i64 r.v,.slice a2 n2 c2,.int .i64 r.t] 30));have HS:=hide (fun W (hW:Below w.heap.size w W)=>zd3 a1 n1 c1 l W (h1.below hW));have HR:Hid (∀W,Below w.heap.size w W→Calls Tryz.prog 216 #[rv r.v a2 n2 c2 r.t] W fun e w' =>e=.returned (.int .i64 r.e)∧Below W.heap.size W w'):=fun W hW=>zeu r.v a2 n2 c2 r.t r.ks W (h2.below hW).at_ h2.len h2.max
  have HC:=hide (fun W k (hW:Below w.heap.size w W)=>zmr a3 n3 c3 sigs k W (h3.below hW));have HD:=hide (fun W s (hW:Below w.heap.size w W)=>zm1 a1 n1 c1 l s W (h1.below hW));have HI:=hide h2.at_;have HL2:=hide h2.len;have HL3:=hide h3.len;have m2:=h2.max;have m3:=h3.max;unfold maxLen at m2 m3;unfold rv at HR⊢;unfold sv at HD;clear h1 h2 h3
  by_cases z1:sigE l=0
  {
  rw [z1] at HS
  by_cases z2:r.e=0
  {
  rw [z2] at HR
  by_cases z3:50<n3
  {
  have HE:=hide (cntE_3 z1 z2 (sigs:=sigs) (by rw [HL3.out];exact z3));have HV:=hide (cntV_1 (name:=name) (by rw [HE.out];decide));clear z1 z2;go_enter Tryz.func309,Tryz.ntmps309;go_wp2_with fail;generalize w.alloc (.cells #[.int .i64 r.v,.slice a2 n2 c2,.int .i64 r.t] 30)=W at *;refine(zae HS _ hw0).mono ?_;rintro e w1 ⟨rfl,hb1⟩;replace b0:=hide (zab b0.out hb1);replace hw0:=bT hw0 hb1;clear hb1;have x0:=zaa b0.out 0 _ rfl;have x1:=zaa b0.out 1 _ rfl;have x2:=zaa b0.out 2 _ rfl;go_wp2_with fail;refine(zae HR _ hw0).mono ?_;rintro e w2 ⟨rfl,hb2⟩;replace hw0:=bT hw0 hb2;go_wp2_with fail;go_ret2;exact⟨zdi HV.out.symm HE.out.symm,hw0⟩
  }
  {
  have HE:=hide (cntE_0 z1 z2 (sigs:=sigs) (by rw [HL3.out];exact z3));have HV:=hide (cntV_0 (name:=name) HE.out);clear z1 z2;go_enter Tryz.func309,Tryz.ntmps309;go_wp2_with fail;generalize w.alloc (.cells #[.int .i64 r.v,.slice a2 n2 c2,.int .i64 r.t] 30)=W at *;refine(zae HS _ hw0).mono ?_;rintro e w1 ⟨rfl,hb1⟩;replace b0:=hide (zab b0.out hb1);replace hw0:=bT hw0 hb1;clear hb1;have x0:=zaa b0.out 0 _ rfl;have x1:=zaa b0.out 1 _ rfl;have x2:=zaa b0.out 2 _ rfl;go_wp2_with fail;refine(zae HR _ hw0).mono ?_;rintro e w2 ⟨rfl,hb2⟩;replace b0:=hide (zab b0.out hb2);replace hw0:=bT hw0 hb2;clear hb2 x0 x1 x2;have x1:=zaa b0.out 1 _ rfl;go_wp2_with fail
  go_loopw [12,31] (fun p i wr=>∃(k q:Nat),k≤n2∧q≤k∧p=.int .i64 (q:Int)∧i=.int .i64 k∧Below w.heap.size w wr∧Hid (q=cntN l (r.ks.take k) sigs name)) (fun _ i _=>n2 - (intOf i).toNat)
  case atStart=>exact⟨0,0,Nat.zero_le _,Nat.le_refl _,rfl,rfl,hw0,by show _=_;simp [cntN]⟩
  case round=>
    clear x1 b0 hw0;obtain ⟨wq,rfl⟩: ∃wq:World,wq=wr:=⟨_,rfl⟩;obtain ⟨k,q,hk,hqk,rfl,rfl,hw,ht⟩:=hrel
    by_cases hlt:k<n2
    {
    have hkx:k<r.ks.length:=by rw [HL2.out];exact hlt
    have i1:=HI.out.below hw
    rcases i1 with h0| ⟨bb,oo,rfl,hc0⟩
    { rw [h0] at hkx;simp at hkx }
    have e0:=hc0 k hkx;rw [show r.ks.getD k 0=r.ks[k] by simp [hkx]] at e0;have HQ:=hide (cntN_step (l:=l) (sigs:=sigs) (name:=name) hkx);clear hc0;generalize r.ks[k]=x at *;have HCx:=hide (fun W hW=>zae HC W x hW);have HDx:=hide (fun W hW=>zae HD W (x,name) hW);cases g1:has sigs x
    {
    rw [g1] at HCx;have HQ' :=hide (show cntN l (r.ks.take (k+1)) sigs name=q by rw [HQ.out,←ht.out];simp [hit,g1]);clear g1
    go_wp2_with (go_at_call 31;refine(zae HCx _ hw).mono ?_;rintro e w' ⟨rfl,rfl⟩)
    go_roundw
    case rel=>exact⟨k+1,q,by omega,by omega,rfl,by go_num,hw,HQ'.out.symm⟩
    case measure=>simp [intOf];omega
    }
    {
    rw [g1] at HCx;cases g2:has l (x,name)
    {
    rw [g2] at HDx;have HQ' :=hide (show cntN l (r.ks.take (k+1)) sigs name=q by rw [HQ.out,←ht.out];simp [hit,g2]);clear g1 g2
    go_wp2_with (first| (go_at_call 31;refine(zae HCx _ hw).mono ?_;rintro e w' ⟨rfl,rfl⟩)| (go_at_call 321;refine(zae HDx _ hw).mono ?_;rintro e w5 ⟨rfl,hb5⟩))
    replace hw:=bT hw hb5
    go_roundw
    case rel=>exact⟨k+1,q,by omega,by omega,rfl,by go_num,hw,HQ'.out.symm⟩
    case measure=>simp [intOf];omega
    }
    {
    rw [g2] at HDx;have HQ' :=hide (show cntN l (r.ks.take (k+1)) sigs name=q+1 by rw [HQ.out,←ht.out];simp only [hit,g1,g2];rfl);clear g1 g2
    go_wp2_with (first| (go_at_call 31;refine(zae HCx _ hw).mono ?_;rintro e w' ⟨rfl,rfl⟩)| (go_at_call 321;refine(zae HDx _ hw).mono ?_;rintro e w5 ⟨rfl,hb5⟩))
    replace hw:=bT hw hb5
    go_roundw
    case rel=>exact⟨k+1,q+1,by omega,by omega,by go_num,by go_num,hw,HQ'.out.symm⟩
    case measure=>simp [intOf];omega
    }
    }
    }
    {
    go_wp2_with fail;go_ret2;have hx:=ht.out;rw [List.take_of_length_le (by rw [HL2.out];omega)] at hx;exact⟨zdi (by rw [HV.out,←hx]) HE.out.symm,hw⟩
    }
  }
  }
  {
  have HE:=hide (cntE_2 (sigs:=sigs) z1 z2);have HV:=hide (cntV_1 (name:=name) (sigs:=sigs) (by rw [HE.out];exact z2));have hb: (r.e !=0)=true:=by simpa using z2
  clear z1 z2;generalize r.e=q at *;go_enter Tryz.func309,Tryz.ntmps309;go_wp2_with fail;generalize w.alloc (.cells #[.int .i64 r.v,.slice a2 n2 c2,.int .i64 r.t] 30)=W at *;refine(zae HS _ hw0).mono ?_;rintro e w1 ⟨rfl,hb1⟩;replace b0:=hide (zab b0.out hb1);replace hw0:=bT hw0 hb1;clear hb1;have x0:=zaa b0.out 0 _ rfl;have x1:=zaa b0.out 1 _ rfl;have x2:=zaa b0.out 2 _ rfl;go_wp2_with fail;refine(zae HR _ hw0).mono ?_;rintro e w2 ⟨rfl,hb2⟩;replace hw0:=bT hw0 hb2;go_wp2_with fail;go_ret2;exact⟨zdi HV.out.symm HE.out.symm,hw0⟩
  }
  }
  {
  have HE:=hide (cntE_1 (r:=r) (sigs:=sigs) z1);have HV:=hide (cntV_1 (name:=name) (r:=r) (sigs:=sigs) (by rw [HE.out];exact z1));have hb: (sigE l !=0)=true:=by simpa using z1
  clear z1;generalize sigE l=q at *;go_enter Tryz.func309,Tryz.ntmps309;go_wp2_with fail;generalize w.alloc (.cells #[.int .i64 r.v,.slice a2 n2 c2,.int .i64 r.t] 30)=W at *;refine(zae HS _ hw0).mono ?_;rintro e w1 ⟨rfl,hb1⟩;replace hw0:=bT hw0 hb1;go_wp2_with fail;go_ret2;exact⟨zdi HV.out.symm HE.out.symm,hw0⟩
  }
theorem csE_1 (h:cntE l r sigs≠0):csE l r sigs name=cntE l r sigs:=by unfold csE;rw [if_neg h]
theorem csE_2 (h:cntE l r sigs=0) (h2: (cntN l r.ks sigs name:Int)<r.t):csE l r sigs name=9:=by unfold csE;rw [if_pos h,if_pos h2]
theorem csE_0 (h:cntE l r sigs=0) (h2: ¬(cntN l r.ks sigs name:Int)<r.t):csE l r sigs name=0:=by unfold csE;rw [if_pos h,if_neg h2]
theorem zg8 (a1:Option Addr) (n1 c1:Nat) (l:List S2) (r:Rt) (a2:Option Addr) (n2 c2:Nat) (a3:Option Addr) (n3 c3:Nat) (sigs:List Int) (name:Int) (w:World) (h1:BG w a1 n1 l) (h2:BI w a2 n2 r.ks) (h3:BI w a3 n3 sigs):
    Calls Tryz.prog 295 #[.slice a1 n1 c1,rv r.v a2 n2 c2 r.t,.slice a3 n3 c3,.int .i64 name] w fun e w' =>e=.returned (.int .i64 (csE l r sigs name))∧Below w.heap.size w w' :=by
  have hw0:Below w.heap.size w (w.alloc (.cells #[.int .i64 r.v,.slice a2 n2 c2,.int .i64 r.t] 30)):=bA1;have b0:=hide (heap_alloc_last w (.cells #[.int .i64 r.v,.slice a2 n2 c2,.int .i64 r.t] 30));have HC:=hide (fun W (hW:Below w.heap.size w W)=>count_any a1 n1 c1 l r a2 n2 c2 a3 n3 c3 sigs name W (h1.below hW) (h2.below hW) (h3.below hW));unfold rv at HC⊢;clear h1 h2 h3
  by_cases z1:cntE l r sigs=0
  {
  rw [z1,cntV_0 z1] at HC;have HE2:=hide (csE_2 (name:=name) z1);have HE0:=hide (csE_0 (name:=name) z1);clear z1;generalize (cntN l r.ks sigs name:Int)=q at *;go_enter Tryz.func295,Tryz.ntmps295;go_wp2_with fail;generalize w.alloc (.cells #[.int .i64 r.v,.slice a2 n2 c2,.int .i64 r.t] 30)=W at *;refine(zae HC _ hw0).mono ?_;rintro e w1 ⟨rfl,hb1⟩;replace b0:=hide (zab b0.out hb1);replace hw0:=bT hw0 hb1;clear hb1;have x2:=zaa b0.out 2 _ rfl
  by_cases z2:q<r.t
  {
  have HE:=hide (HE2.out z2);go_wp2_with fail;go_ret;exact⟨zap HE.out.symm,hw0⟩
  }
  {
  have HE:=hide (HE0.out (by omega));have hd:decide (q<r.t)=false:=by simpa using z2
  clear z2;go_wp2_with fail;go_ret;exact⟨zap HE.out.symm,hw0⟩
  }
  }
  {
  have HE:=hide (csE_1 (name:=name) z1);have hb: (cntE l r sigs !=0)=true:=by simpa using z1
  clear z1;generalize cntE l r sigs=q at *;generalize cntV l r sigs name=q2 at *;go_enter Tryz.func295,Tryz.ntmps295;go_wp2_with fail;generalize w.alloc (.cells #[.int .i64 r.v,.slice a2 n2 c2,.int .i64 r.t] 30)=W at *;refine(zae HC _ hw0).mono ?_;rintro e w1 ⟨rfl,hb1⟩;replace hw0:=bT hw0 hb1;go_wp2_with fail;go_ret;exact⟨zap HE.out.symm,hw0⟩
  }
end
section
open Go.RowKit
theorem zh7 (r:Rt) (a:Option Addr) (n c:Nat) (ver:Int) (w:World) (h:BI w a n r.ks) (hs:n≤1000):
    Calls Tryz.prog 275 #[rv r.v a n c r.t,.int .i64 ver] w fun e w' =>e=.returned (trv r.v (some ⟨w.heap.size+2,0,none⟩) n n r.t ver)∧BI w' (some ⟨w.heap.size+2,0,none⟩) n r.ks∧Below w.heap.size w w' :=by
  have hw0:Below w.heap.size w (w.alloc (.cells #[.int .i64 r.v,.slice a n c,.int .i64 r.t] 30)):=bA1;have hw1:=hw0.alloc hw0.size (.cells #[.int .i64 0,.slice none 0 0,.int .i64 0,.int .i64 0] 32);have i1:=h.at_.below hw1;have hm:=zes n ((w.alloc (.cells #[.int .i64 r.v,.slice a n c,.int .i64 r.t] 30)).alloc (.cells #[.int .i64 0,.slice none 0 0,.int .i64 0,.int .i64 0] 32)) (by omega);have hc:=zmd a n c r.ks _ i1 h.len;have HL:=hide h.len;have HM:=hide h.max;unfold rv trv;clear h hw0 i1;simp only [World.size_alloc] at hm hc;go_enter Tryz.func275,Tryz.ntmps275;go_wp2_with fail;refine bodyPost_ret (v:=.agg #[.int .i64 r.v,.slice (some ⟨w.heap.size+2,0,none⟩) n n,.int .i64 r.t,.int .i64 ver]) (by simp [results,Tryz.results275,go_sem]) rfl ⟨rfl, ?_⟩;exact⟨⟨zd2 _ _ _ _ _ (by simp) rfl,HL.out,HM.out⟩,(bA2).alloc (by simp;omega) _⟩
end
end Go.Proofs.YthmekfcgdfckaaaGreatDoor
