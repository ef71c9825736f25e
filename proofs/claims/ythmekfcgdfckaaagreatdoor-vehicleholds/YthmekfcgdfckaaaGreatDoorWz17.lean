/- Facts. -/
import Derived.Test.YthmekfcgdfckaaaGreatDoorWz15
import Derived.Test.YthmekfcgdfckaaaGreatDoorWz16
set_option maxRecDepth 1000000
set_option maxHeartbeats 0
namespace Go.Proofs.YthmekfcgdfckaaaGreatDoor
open Go.RowKit
variable {w w' W' :World} {ss:LB} {F:Nat} {Z:Nat->Prop} {v:Vh}
section
attribute [local go_sem ↓] kM kO
theorem zn7 {w:World} {b:Nat}: ∀(ls:LL) (off:Nat),(∀i r,ls[i]?=some r->∃ai ci,ce w b (off+i)=some (Value.slice ai r.length ci)/\zag w ai r/\r.length<=ci/\ci<=maxLen)->
 ∃vs,(∀j u,vs[j]?=some u->ce w b (off+j)=some u)/\Vs (LR w (fun _=>False)) ls vs
 | [],off,_=>⟨[],fun j u h=>by simp at h,rfl⟩
 |x::r,off,h=>by
  obtain ⟨ai,ci,c0,h1,h2,h3⟩:=h 0 x rfl;obtain ⟨vs,g1,g2⟩:=zn7 r (off+1) (fun i m hm=>by
   have:=h (i+1) m (by simpa using hm);rw [show off+(i+1)=off+1+i by omega] at this;exact this)
  refine⟨[.slice ai x.length ci]++vs,fun j u hu=> ?_,⟨_,vs,rfl,⟨ai,ci,rfl,h1,h2,h3,.no⟩,g2⟩⟩
  match j,hu with
  |0,hu=>cases hu;exact c0
  |j+1,hu=>
   have:=g1 j u (by simpa using hu)
   rwa [show off+1+j=off+(j+1) by omega] at this
theorem off_ci {m:OA} {o:Of} (h:BO w m o) (n:Int):CI w (fun _=>False) ⟨m.a3,m.n3,m.c3,m.a5,m.n5,m.c5⟩ ⟨n,o.v,o.u,o.ts,o.imgs⟩:=by
 refine⟨h.tgts,.no,h.imgs, ?_⟩
 rcases h.imgs.at_ with e| ⟨b,off,e,hc⟩
 { exact⟨[],.inl rfl,by rw [show(⟨n,o.v,o.u,o.ts,o.imgs⟩:Cp).ims=o.imgs from rfl,e];rfl,.inl rfl⟩ }
 {
 obtain ⟨vs,g1,g2⟩:=zn7 o.imgs off hc;exact⟨vs,.inr ⟨b,off,e,g1⟩,g2,.no⟩ }
theorem zlg {P:Program} {ops:Array Oper} {rest:List Oper} {o:Oper} {a:Act} {Q:Exit->Act->World->Prop} (hgd:o.guard=none) (s x:Operand) (t tn:TypeId)
 (ho:o.op=.call { callee:=.builtin .append,args:=#[s,x],argTypes:=#[t,tn] }) (vs vx:Value) (hs:a.eval s=vs) (hx:a.eval x=vx)
 (v' :Value) (w' :World) (hr: (Builtin.append_ #[t,tn] o.type #[vs,vx]).run P w=.ok v' w') (h:wpList P ops Q rest (a.put o.dst v') w'):wpList P ops Q (o::rest) a w:=
 wpList_plain hgd fun _ hK=>Lib.wp_append_run w s x t tn ho vs vx hs hx v' w' hr (hK _ _ h)
theorem gBeg_n (ss:LB) (l:List S2) (g:Gt) (o:Of) (now:Int):0<=(gBeg ss l g o now).2.1/\(gBeg ss l g o now).2.1<=9:=by
 have h:=gOf_n g.ws;unfold gBeg
 split
 { exact⟨Int.le_refl 0,by show(0:Int)<=9;decide⟩ }
 split
 { exact⟨Int.le_refl 0,by show(0:Int)<=9;decide⟩ }
 split
 { exact⟨Int.le_refl 0,by show(0:Int)<=9;decide⟩ }
 split
 { exact⟨Int.le_refl 0,by show(0:Int)<=9;decide⟩ }
 {
 unfold begD
 split
 { exact⟨by show 0<=(gOf g.ws).n+1;omega,by show(gOf g.ws).n+1<=9;omega⟩ }
 { exact⟨Int.le_refl 0,by show(0:Int)<=9;decide⟩ } }
theorem zq6 {ts:List T3}: ∀{i:Nat},tgtsE i ts=0->∀t∈ts,t.2.2<=40:=by
 induction ts with
 |nil=>intro i _ t ht;cases ht
 |cons x r ih=>
  intro i h t ht;unfold tgtsE at h
  split at h
  {
  rename_i h1
  rcases kt.1 ht with e|e
  { subst e;unfold tOK at h1;simp only [kr] at h1;exact(zd1.1 h1.2).2 }
  { exact ih h t e } }
  { cases h }
theorem zit {ss:LB}: ∀{ts:List T3} {ws:LL},zb2 ss ts ws=true->ws.length=ts.length->(∀t∈ts,t.2.2<=40)->∀r∈ws,r.length<=40
 |_, [],_,_,_,r,hr=>by cases hr
 | [],_::_,_,hl,_,_,_=>by cases hl
 |t::ts,w::ws,h,hl,ht,r,hr=>by
  unfold zb2 at h;simp only [kr] at h
  rcases kt.1 hr with e|e
  {
  subst e;have h1:=h.1;unfold zcx at h1;simp only [kr,KF] at h1;have:=ht t (kG ..);omega }
  { exact zit h.2 (by simpa using hl) (fun t h=>ht t (kI _ h)) r e }
theorem zq2 {l:List S2} {g:Gt} {o:Of} {now:Int} (h: (gBeg ss l g o now).2.2=0) (_: (gBeg ss l g o now).2.1≠0):CSm ⟨0,o.v,o.u,o.ts,o.imgs⟩:=by
 unfold gBeg at h
 split at h
 { rename_i c;exact absurd h c }
 split at h
 { cases h }
 split at h
 { cases h }
 split at h
 { rename_i c;exact absurd h c }
 rename_i c
 have c:takeE ss l g.t o now g.vo.length=0:=ky c;unfold takeE at c
 split at c
 {
 split at c
 {
 split at c
 {
 rename_i c3
 unfold crE at c3
 split at c3
 {
 rename_i c4
 unfold relE at c4
 split at c4
 {
 split at c4
 {
 rename_i c5
 have c5:=zd1.1 c5;unfold restE at c
 split at c
 { cases c }
 split at c
 { cases c }
 split at c
 { cases c }
 split at c
 { cases c }
 rename_i e1 e2
 have e1: (o.ts.length:Int)=g.vo.length:=ky e1;have e2: (o.imgs.length:Int)=g.vo.length:=ky e2
 split at c
 {
 rename_i c6
 refine⟨by show o.ts.length<=_;omega,by show o.imgs.length<=_;omega,fun r hr=> ?_⟩;have:=zit c6 (by omega) (zq6 c4) r hr;omega }
 { cases c } }
 { cases c4 } }
 { cases c4 } }
 { rename_i c4;exact absurd c3 c4 } }
 { rename_i c3;exact absurd c c3 } }
 { rename_i c2;exact absurd c c2 } }
 { rename_i c1;exact absurd c c1 }
structure BgP (W:World) (r:Gt×Int×Int) (bg:Nat) (k3:GA) (wc:World):Prop where
 box:wc.heap[bg]?=some (gtO r.1 k3)
 gin:GIn wc k3 r.1
 fr:GFr W.heap.size k3
 bel:bZ W wc
 lo:W.heap.size<=bg
theorem zpn (F:Nat) (Z:Nat->Prop) (q:VB) (m:VA) (v:Vh) (o:Of) (mo:OA) (w:World) (h:VOwn w F Z q m v) (ok:VOk w F Z m v) (ho: ∀W,Below F w W->BO W mo o):
 Cq 123 #[.pointer (some ⟨q.B,0,none⟩),offv o.v o.u mo] w (HV w F Z q.B (propS v o)):=by
 have hb1:bZ w (w.alloc (.cells (aO mo o) 47)):=bA1;have b1:=uH (kP w (.cells (aO mo o) 47));have hlt:=h.lt;have hBw0:=zak h.box;have H1:=uH (h.bl hb1);have HB:=uH (fun W (hW:Below (w.alloc (.cells (aO mo o) 47)).heap.size (w.alloc (.cells (aO mo o) 47)) W)=>zml m.ab m.nb m.cb v.ss m.sa m.ns m.cs v.sg v.g m.g o mo v.now W (H1.o.ss.bl hW) (H1.o.sg.bl hW) (H1.o.g.bl hW) (ho W ((hb1.mono hlt).trans (hW.mono (kc hlt hb1.size)))) (ok.tab W ((hb1.mono hlt).trans (hW.mono (kc hlt hb1.size)))));have HS:Hd (∀W',Below (w.alloc (.cells (aO mo o) 47)).heap.size (w.alloc (.cells (aO mo o) 47)) W' ->W'.cell? ⟨q.B,0,none⟩=some (.slice m.ab m.nb m.cb)/\W'.cell? ⟨q.B,1,none⟩=some (.slice m.sa m.ns m.cs)/\W'.cell? ⟨q.B,2,none⟩=some (.slice m.g.a m.g.n m.g.c)/\W'.cell? ⟨q.B,3,none⟩=some (iV v.g.fu)/\W'.cell? ⟨q.B,4,none⟩=some (.bool v.g.up)/\W'.cell? ⟨q.B,5,none⟩=some (iV v.g.t.r.v)/\W'.cell? ⟨q.B,6,none⟩=some (.slice m.g.ak m.g.nk m.g.ck)/\W'.cell? ⟨q.B,7,none⟩=some (iV v.g.t.r.t)/\W'.cell? ⟨q.B,8,none⟩=some (iV v.g.t.ver)/\W'.cell? ⟨q.B,9,none⟩=some (.slice m.g.av m.g.nv m.g.cv)/\W'.cell? ⟨q.B,10,none⟩=some (.slice m.g.ad m.g.nd m.g.cd)/\W'.cell? ⟨q.B,14,none⟩=some (iV v.now)/\W'.cell? ⟨w.heap.size,0,none⟩=some (.slice mo.a1 mo.n1 mo.c1)/\W'.cell? ⟨w.heap.size,1,none⟩=some (.slice mo.a2 mo.n2 mo.c2)/\W'.cell? ⟨w.heap.size,2,none⟩=some (iV o.v)/\W'.cell? ⟨w.heap.size,3,none⟩=some (iV o.u)/\W'.cell? ⟨w.heap.size,4,none⟩=some (.slice mo.a3 mo.n3 mo.c3)/\W'.cell? ⟨w.heap.size,5,none⟩=some (.slice mo.a4 mo.n4 mo.c4)/\W'.cell? ⟨w.heap.size,6,none⟩=some (.slice mo.a5 mo.n5 mo.c5)):=fun W' hW=>by
  have g:=H1.o.bl hW;have k:=zab b1.o hW;exact⟨zaa g.box 0 _ rfl,zaa g.box 1 _ rfl,zaa g.box 2 _ rfl,zaa g.box 3 _ rfl,zaa g.box 4 _ rfl,zaa g.box 5 _ rfl,zaa g.box 6 _ rfl,zaa g.box 7 _ rfl,zaa g.box 8 _ rfl,zaa g.box 9 _ rfl,zaa g.box 10 _ rfl,zaa g.box 14 _ rfl,zaa k 0 _ rfl,zaa k 1 _ rfl,zaa k 2 _ rfl,zaa k 3 _ rfl,zaa k 4 _ rfl,zaa k 5 _ rfl,zaa k 6 _ rfl⟩
 have HBO:=uH ho;have HSm:Hd ((gBeg v.ss v.sg v.g o v.now).2.2=0->(gBeg v.ss v.sg v.g o v.now).2.1≠0->CSm ⟨0,o.v,o.u,o.ts,o.imgs⟩):=zq2;have HP:Hd (propS v o=if(gBeg v.ss v.sg v.g o v.now).2.2≠0 then(vh0,(gBeg v.ss v.sg v.g o v.now).2.2)
  else if(gBeg v.ss v.sg v.g o v.now).2.1=0 then(⟨v.ss,v.sg,(gBeg v.ss v.sg v.g o v.now).1,v.us,v.cs,v.net,v.now⟩,0)
  else(⟨v.ss,v.sg,(gBeg v.ss v.sg v.g o v.now).1,v.us,v.cs.take ((gBeg v.ss v.sg v.g o v.now).2.1 - 1).toNat++ [⟨(gBeg v.ss v.sg v.g o v.now).2.1,o.v,o.u,o.ts,o.imgs⟩],v.net,v.now⟩,0)):=rfl
 have HN:Hd (0<=(gBeg v.ss v.sg v.g o v.now).2.1/\(gBeg v.ss v.sg v.g o v.now).2.1<=9):=gBeg_n _ _ _ _ _;unfold bookv gtv offv at HB;unfold offv;clear h ok ho;generalize gBeg v.ss v.sg v.g o v.now=r at *;go_enter Tryz.func123,Tryz.ntmps123;go_upto_region 1 with fail
 generalize w.alloc (.cells (aO mo o) 47)=W1 at *
 go_cut [5,6,7] (fun v5 v6 v7 wc=>∃bg k3,v5=.pointer (some ⟨bg,0,none⟩)/\v6=iV r.2.1/\v7=iV r.2.2/\Hd (BgP W1 r bg k3 wc))
 case first=>
  have hd0:bZ W1 W1.drew:=(kS _ _).drew;refine km (S:=fun W' =>W'.cell? ⟨q.B,0,none⟩=some (.slice m.ab m.nb m.cb)/\W'.cell? ⟨q.B,1,none⟩=some (.slice m.sa m.ns m.cs)/\W'.cell? ⟨q.B,2,none⟩=some (.slice m.g.a m.g.n m.g.c)/\W'.cell? ⟨q.B,3,none⟩=some (iV v.g.fu)/\W'.cell? ⟨q.B,4,none⟩=some (.bool v.g.up)/\W'.cell? ⟨q.B,5,none⟩=some (iV v.g.t.r.v)/\W'.cell? ⟨q.B,6,none⟩=some (.slice m.g.ak m.g.nk m.g.ck)/\W'.cell? ⟨q.B,7,none⟩=some (iV v.g.t.r.t)/\W'.cell? ⟨q.B,8,none⟩=some (iV v.g.t.ver)/\W'.cell? ⟨q.B,9,none⟩=some (.slice m.g.av m.g.nv m.g.cv)/\W'.cell? ⟨q.B,10,none⟩=some (.slice m.g.ad m.g.nd m.g.cd)/\W'.cell? ⟨q.B,14,none⟩=some (iV v.now)/\W'.cell? ⟨w.heap.size,0,none⟩=some (.slice mo.a1 mo.n1 mo.c1)/\W'.cell? ⟨w.heap.size,1,none⟩=some (.slice mo.a2 mo.n2 mo.c2)/\W'.cell? ⟨w.heap.size,2,none⟩=some (iV o.v)/\W'.cell? ⟨w.heap.size,3,none⟩=some (iV o.u)/\W'.cell? ⟨w.heap.size,4,none⟩=some (.slice mo.a3 mo.n3 mo.c3)/\W'.cell? ⟨w.heap.size,5,none⟩=some (.slice mo.a4 mo.n4 mo.c4)/\W'.cell? ⟨w.heap.size,6,none⟩=some (.slice mo.a5 mo.n5 mo.c5)) (by kernel_rfl) (HS.o _ hd0) ?_;intro hHeld;refine Htk 0 ?_
  refine Htk 1 ?_
  refine Htk 2 ?_
  refine Htk 3 ?_
  refine Htk 4 ?_
  refine Htk 5 ?_
  refine Htk 6 ?_
  refine Htk 7 ?_
  refine Htk 8 ?_
  refine Htk 9 ?_
  refine Htk 10 ?_
  refine Htk 11 ?_
  refine Htk 12 ?_
  refine Htk 13 ?_
  refine Htk 14 ?_
  refine Htk 15 ?_
  refine Htk 16 ?_
  try simp only [sq]
  refine kZ (rs:= [17,22]) (by kernel_rfl) (by simp) ?_;refine kU (by rfl) (fun K hK=> ?_) (kU (by rfl) (fun K hK=> ?_) kW)
  {
  go_simp;refine(zae HB _ hd0).mono ?_;rintro e w3 ⟨⟨k3,rfl,g3,e3⟩,hb3⟩;unfold gtv;have hd3:bZ W1 w3:=hd0.trans hb3;refine hK.out _ _ (HS.o _ hd3) (fun hHeld=> ?_);clear hK K
  refine Htk 18 ?_
  refine Htk 19 ?_
  refine Htk 20 ?_
  refine Htk 21 ?_
  refine wr1 22 (fun K hK=> ?_);go_simp;have hd4:bZ W1 (w3.alloc (.cells aY 35)):=hd3.alloc hd3.size _;refine hK.out _ _ (HS.o _ hd4) (fun hHeld=> ?_);clear hK K
  refine wr1 23 (fun K hK=> ?_);go_simp;have hd5:bZ W1 (w3.alloc (.cells #[.slice k3.a k3.n k3.c,iV r.1.fu,.bool r.1.up,iV r.1.t.r.v,.slice k3.ak k3.nk k3.ck,iV r.1.t.r.t,iV r.1.t.ver,.slice k3.av k3.nv k3.cv,.slice k3.ad k3.nd k3.cd] 35)):=hd3.alloc hd3.size _;have HFn:Hd (BgP W1 r w3.heap.size k3 (w3.alloc (.cells #[.slice k3.a k3.n k3.c,iV r.1.fu,.bool r.1.up,iV r.1.t.r.v,.slice k3.ak k3.nk k3.ck,iV r.1.t.r.t,iV r.1.t.ver,.slice k3.av k3.nv k3.cv,.slice k3.ad k3.nd k3.cd] 35))):=⟨kP w3 (.cells #[.slice k3.a k3.n k3.c,iV r.1.fu,.bool r.1.up,iV r.1.t.r.v,.slice k3.ak k3.nk k3.ck,iV r.1.t.r.t,iV r.1.t.ver,.slice k3.av k3.nv k3.cv,.slice k3.ad k3.nd k3.cd] 35),g3.bl (bA1),e3,hd5,hd3.size⟩;refine hK.out _ _ (HS.o _ hd5) (fun hHeld=> ?_);clear hK K
  refine Htk 24 ?_
  refine Htk 25 ?_
  try simp only [sq]
  refine KE (by kernel_rfl) ?_ _;clear hd4 hd5 hd3 g3 e3 hb3 hHeld;go_wp2_with fail
  go_meet
  case rel=>exact⟨w3.heap.size,k3,rfl,rfl,rfl,HFn⟩ }
  {
  go_simp;have hd1:bZ W1 (W1.drew.alloc (.cells aY 35)):=hd0.alloc (kQ _) _;refine hK.out _ _ (HS.o _ hd1) (fun hHeld=> ?_);clear hK K
  refine wr1 17 (fun K hK=> ?_);go_simp;refine(zae HB _ hd1).mono ?_;rintro e w3 ⟨⟨k3,rfl,g3,e3⟩,hb3⟩;unfold gtv;have hd3:bZ W1 w3:=bT hd1 hb3;have bz:Hd (w3.heap[W1.heap.size]?=some (.cells aY 35 (0,0))):=zab (kP W1.drew (.cells aY 35)) hb3;obtain ⟨z0,z1,z2,z3,z4,z5,z6,z7,z8⟩:=cl9 bz.o;obtain ⟨y0,y1,y2,y3,y4,y5,y6,y7,y8⟩:=fr9 bz.o;have hch:Chg (fun b=>b=W1.heap.size) w3 (((((((((w3.setCell ⟨W1.heap.size,0,none⟩ (.slice k3.a k3.n k3.c)).setCell ⟨W1.heap.size,1,none⟩ (iV r.1.fu)).setCell ⟨W1.heap.size,2,none⟩ (.bool r.1.up)).setCell ⟨W1.heap.size,3,none⟩ (iV r.1.t.r.v)).setCell ⟨W1.heap.size,4,none⟩ (.slice k3.ak k3.nk k3.ck)).setCell ⟨W1.heap.size,5,none⟩ (iV r.1.t.r.t)).setCell ⟨W1.heap.size,6,none⟩ (iV r.1.t.ver)).setCell ⟨W1.heap.size,7,none⟩ (.slice k3.av k3.nv k3.cv)).setCell ⟨W1.heap.size,8,none⟩ (.slice k3.ad k3.nd k3.cd)):=((((((((((Chg.refl (fun b=>b=W1.heap.size) w3).set rfl _).set rfl _).set rfl _).set rfl _).set rfl _).set rfl _).set rfl _).set rfl _).set rfl _);have hd5:bZ W1 (((((((((w3.setCell ⟨W1.heap.size,0,none⟩ (.slice k3.a k3.n k3.c)).setCell ⟨W1.heap.size,1,none⟩ (iV r.1.fu)).setCell ⟨W1.heap.size,2,none⟩ (.bool r.1.up)).setCell ⟨W1.heap.size,3,none⟩ (iV r.1.t.r.v)).setCell ⟨W1.heap.size,4,none⟩ (.slice k3.ak k3.nk k3.ck)).setCell ⟨W1.heap.size,5,none⟩ (iV r.1.t.r.t)).setCell ⟨W1.heap.size,6,none⟩ (iV r.1.t.ver)).setCell ⟨W1.heap.size,7,none⟩ (.slice k3.av k3.nv k3.cv)).setCell ⟨W1.heap.size,8,none⟩ (.slice k3.ad k3.nd k3.cd)):=hd3.trans (hch.bl (fun b e=>by omega) hd3.size);have HFn:Hd (BgP W1 r W1.heap.size k3 (((((((((w3.setCell ⟨W1.heap.size,0,none⟩ (.slice k3.a k3.n k3.c)).setCell ⟨W1.heap.size,1,none⟩ (iV r.1.fu)).setCell ⟨W1.heap.size,2,none⟩ (.bool r.1.up)).setCell ⟨W1.heap.size,3,none⟩ (iV r.1.t.r.v)).setCell ⟨W1.heap.size,4,none⟩ (.slice k3.ak k3.nk k3.ck)).setCell ⟨W1.heap.size,5,none⟩ (iV r.1.t.r.t)).setCell ⟨W1.heap.size,6,none⟩ (iV r.1.t.ver)).setCell ⟨W1.heap.size,7,none⟩ (.slice k3.av k3.nv k3.cv)).setCell ⟨W1.heap.size,8,none⟩ (.slice k3.ad k3.nd k3.cd))):=⟨by
   have bzo:=bz.o;unfold gtO;simp only [World.setCell,KP]
   simp [show w3.heap[W1.heap.size]?=some (.cells aY 35 (0,0)) from bzo],g3.chg hch (.fresh e3 fun b e=>by have e:b=W1.heap.size:=e;simp;omega),e3.lower (by simp),hd5,kQ _⟩
  refine hK.out _ _ (HS.o _ hd3) (fun hHeld=> ?_);clear hK K
  refine Htk 18 ?_
  refine Htk 19 ?_
  refine Htk 20 ?_
  refine Htk 21 ?_
  refine wr1 23 (fun K hK=> ?_);go_simp;refine hK.out _ _ (HS.o _ hd5) (fun hHeld=> ?_);clear hK K
  refine Htk 24 ?_
  refine Htk 25 ?_
  try simp only [sq]
  refine KE (by kernel_rfl) ?_ _;clear hd1 hd5 hd3 g3 e3 hb3 hHeld hch z0 y0 z1 y1 z2 y2 z3 y3 z4 y4 z5 y5 z6 y6 z7 y7 z8 y8;go_wp2_with fail
  go_meet
  case rel=>exact⟨W1.heap.size,k3,rfl,rfl,rfl,HFn⟩ }
 case rest=>
  obtain ⟨W3,rfl⟩: ∃W3:World,W3=wc:=⟨_,rfl⟩;obtain ⟨bg,k3,rfl,rfl,rfl,hP⟩:=hcut;have hBl:Below F w W3:=(hb1.mono hlt).trans (hP.o.bel.mono (kc hlt hb1.size))
  by_cases he:r.2.2=0
  rotate_left
  {
  have d: (r.2.2 !=0)=true:=by simpa using he
  have HE:Hd ((propS v o).2=r.2.2):=by rw [HP.o,KK he];exact rfl
  have HEz:=uH he;clear he;generalize r.2.2=y at *;go_wp2_with fail;go_ret;exact zbs HE.o HEz.o hBl }
  have d: (r.2.2 !=0)=false:=by simpa using he
  have HEz:=uH he;clear he HB HS;have H3:=H1.o.bl hP.o.bel;have x2:=zaa H3.box 2 (.slice m.g.a m.g.n m.g.c) rfl;have f2:W3.frozen? ⟨q.B,2,none⟩=false:=zad H3.box 2;have x3:=zaa H3.box 3 (iV v.g.fu) rfl;have f3:W3.frozen? ⟨q.B,3,none⟩=false:=zad H3.box 3;have x4:=zaa H3.box 4 (.bool v.g.up) rfl;have f4:W3.frozen? ⟨q.B,4,none⟩=false:=zad H3.box 4;have x5:=zaa H3.box 5 (iV v.g.t.r.v) rfl;have f5:W3.frozen? ⟨q.B,5,none⟩=false:=zad H3.box 5;have x6:=zaa H3.box 6 (.slice m.g.ak m.g.nk m.g.ck) rfl;have f6:W3.frozen? ⟨q.B,6,none⟩=false:=zad H3.box 6;have x7:=zaa H3.box 7 (iV v.g.t.r.t) rfl;have f7:W3.frozen? ⟨q.B,7,none⟩=false:=zad H3.box 7;have x8:=zaa H3.box 8 (iV v.g.t.ver) rfl;have f8:W3.frozen? ⟨q.B,8,none⟩=false:=zad H3.box 8;have x9:=zaa H3.box 9 (.slice m.g.av m.g.nv m.g.cv) rfl;have f9:W3.frozen? ⟨q.B,9,none⟩=false:=zad H3.box 9;have x10:=zaa H3.box 10 (.slice m.g.ad m.g.nd m.g.cd) rfl;have f10:W3.frozen? ⟨q.B,10,none⟩=false:=zad H3.box 10;have t0:=zaa hP.o.box 0 (.slice k3.a k3.n k3.c) rfl;have t1:=zaa hP.o.box 1 (iV r.1.fu) rfl;have t2:=zaa hP.o.box 2 (.bool r.1.up) rfl;have t3:=zaa hP.o.box 3 (iV r.1.t.r.v) rfl;have t4:=zaa hP.o.box 4 (.slice k3.ak k3.nk k3.ck) rfl;have t5:=zaa hP.o.box 5 (iV r.1.t.r.t) rfl;have t6:=zaa hP.o.box 6 (iV r.1.t.ver) rfl;have t7:=zaa hP.o.box 7 (.slice k3.av k3.nv k3.cv) rfl;have t8:=zaa hP.o.box 8 (.slice k3.ad k3.nd k3.cd) rfl;have HW:Hd (VOwn (((((((((W3.setCell ⟨q.B,2,none⟩ (.slice k3.a k3.n k3.c)).setCell ⟨q.B,3,none⟩ (iV r.1.fu)).setCell ⟨q.B,4,none⟩ (.bool r.1.up)).setCell ⟨q.B,5,none⟩ (iV r.1.t.r.v)).setCell ⟨q.B,6,none⟩ (.slice k3.ak k3.nk k3.ck)).setCell ⟨q.B,7,none⟩ (iV r.1.t.r.t)).setCell ⟨q.B,8,none⟩ (iV r.1.t.ver)).setCell ⟨q.B,9,none⟩ (.slice k3.av k3.nv k3.cv)).setCell ⟨q.B,10,none⟩ (.slice k3.ad k3.nd k3.cd)) F Z q ⟨m.ab,m.nb,m.cb,m.sa,m.ns,m.cs,k3,m.au,m.nu,m.cu,m.ac,m.nc,m.cc,m.an,m.nn,m.cn⟩ ⟨v.ss,v.sg,r.1,v.us,v.cs,v.net,v.now⟩):=H1.o.gate hP.o.bel hP.o.gin hP.o.fr;have hch:Chg (fun b=>b=q.B) W3 (((((((((W3.setCell ⟨q.B,2,none⟩ (.slice k3.a k3.n k3.c)).setCell ⟨q.B,3,none⟩ (iV r.1.fu)).setCell ⟨q.B,4,none⟩ (.bool r.1.up)).setCell ⟨q.B,5,none⟩ (iV r.1.t.r.v)).setCell ⟨q.B,6,none⟩ (.slice k3.ak k3.nk k3.ck)).setCell ⟨q.B,7,none⟩ (iV r.1.t.r.t)).setCell ⟨q.B,8,none⟩ (iV r.1.t.ver)).setCell ⟨q.B,9,none⟩ (.slice k3.av k3.nv k3.cv)).setCell ⟨q.B,10,none⟩ (.slice k3.ad k3.nd k3.cd)):=((((((((((Chg.refl (fun b=>b=q.B) W3).set rfl _).set rfl _).set rfl _).set rfl _).set rfl _).set rfl _).set rfl _).set rfl _).set rfl _);have hfB:=H1.o.fB;have hBw:q.B<w.heap.size:=hBw0;have b3:=uH (hch.blk (zab b1.o hP.o.bel) (show¬w.heap.size=q.B by omega));have hB4:Below F w (((((((((W3.setCell ⟨q.B,2,none⟩ (.slice k3.a k3.n k3.c)).setCell ⟨q.B,3,none⟩ (iV r.1.fu)).setCell ⟨q.B,4,none⟩ (.bool r.1.up)).setCell ⟨q.B,5,none⟩ (iV r.1.t.r.v)).setCell ⟨q.B,6,none⟩ (.slice k3.ak k3.nk k3.ck)).setCell ⟨q.B,7,none⟩ (iV r.1.t.r.t)).setCell ⟨q.B,8,none⟩ (iV r.1.t.ver)).setCell ⟨q.B,9,none⟩ (.slice k3.av k3.nv k3.cv)).setCell ⟨q.B,10,none⟩ (.slice k3.ad k3.nd k3.cd)):=hBl.trans (hch.bl (fun b e=>by rw [e];exact hfB) (kc hlt hBl.size));clear H3 hch;go_upto_region 5 with fail
  generalize (((((((((W3.setCell ⟨q.B,2,none⟩ (.slice k3.a k3.n k3.c)).setCell ⟨q.B,3,none⟩ (iV r.1.fu)).setCell ⟨q.B,4,none⟩ (.bool r.1.up)).setCell ⟨q.B,5,none⟩ (iV r.1.t.r.v)).setCell ⟨q.B,6,none⟩ (.slice k3.ak k3.nk k3.ck)).setCell ⟨q.B,7,none⟩ (iV r.1.t.r.t)).setCell ⟨q.B,8,none⟩ (iV r.1.t.ver)).setCell ⟨q.B,9,none⟩ (.slice k3.av k3.nv k3.cv)).setCell ⟨q.B,10,none⟩ (.slice k3.ad k3.nd k3.cd))=W4 at *;clear x2 f2 x3 f3 x4 f4 x5 f5 x6 f6 x7 f7 x8 f8 x9 f9 x10 f10 t0 t1 t2 t3 t4 t5 t6 t7 t8
  by_cases hn0:r.2.1=0
  {
  have d2: (r.2.1==0)=true:=by simpa using hn0
  have HE:Hd (propS v o= (⟨v.ss,v.sg,r.1,v.us,v.cs,v.net,v.now⟩,0)):=by rw [HP.o,KJ (by simpa using HEz.o),KK hn0];exact rfl
  clear hn0;generalize r.2.1=y at *;generalize r.2.2=y2 at *;go_wp2_with fail;go_ret;exact hv_ok HE.o hB4 HW.o }
  have d2: (r.2.1==0)=false:=by simpa using hn0
  replace HSm:=uH (HSm.o HEz.o hn0);obtain ⟨n9,hn9⟩: ∃n9,n9=r.2.1:=⟨_,rfl⟩;have HE:Hd (propS v o= (⟨v.ss,v.sg,r.1,v.us,v.cs.take (n9 - 1).toNat++ [⟨n9,o.v,o.u,o.ts,o.imgs⟩],v.net,v.now⟩,0)):=by rw [HP.o,KJ (by simpa using HEz.o),KJ hn0,hn9];exact rfl
  have hnr:=HN.o;rw [<-hn9] at hnr hn0 d2;rw [<-hn9];clear hn9 HN HP HEz;generalize r.2.1=y at *;generalize r.2.2=y2 at *;have hnl:=HW.o.cs.len;have hat:=HW.o.cs.at_;dsimp only at hnl hat;obtain ⟨k0,hk0⟩: ∃k0:Nat,k0=min (n9 - 1).toNat m.nc:=⟨_,rfl⟩;have hmin:min (n9 - 1) (m.nc:Int)= (k0:Int):=by omega
  have hwr:IntKind.i64.wrap (n9 - 1)=n9 - 1:=by rw [kD];omega
  have hcap:=HW.o.cs.caps;dsimp only at hcap;have i2: (k0:Int)<=(m.cc:Int):=by omega
  have x12:=zaa HW.o.box 12 (.slice m.ac m.nc m.cc) rfl;rw [hat] at x12;have HKo:=uH hk0;have HNr:=uH hnr;clear hk0 hnr hn0;go_upto_region 7 with fail
  refine km (S:=fun W' =>W'.cell? ⟨q.B,12,none⟩=some (sV q.bc m.nc m.cc)) (by kernel_rfl) x12 ?_;intro hHeld;refine Htk 0 ?_
  refine Htk 1 ?_
  refine Htk 2 ?_
  refine Htk 3 ?_
  refine Htk 4 ?_
  refine Htk 5 ?_
  refine Htk 6 ?_
  refine Htk 7 ?_
  refine Htk 8 ?_
  refine Htk 9 ?_
  refine Htk 10 ?_
  refine Htk 11 ?_
  refine Htk 12 ?_
  refine Htk 13 ?_
  try simp only [sq]
  refine KE (by kernel_rfl) ?_ _;have hbd:bZ W4 W4.drew:=(kS _ _).drew;have HX:=uH (HW.o.bl hbd);have hBX:Below F w W4.drew:=hB4.trans (hbd.mono (kc hlt hB4.size));replace b3:=uH (zab b3.o hbd);generalize W4.drew=X at *;have z2:=zaa b3.o 2 _ rfl;have z3:=zaa b3.o 3 _ rfl;have z4:=zaa b3.o 4 _ rfl;have z6:=zaa b3.o 6 _ rfl;have HTw:=uH (zfb ⟨n9,o.v,o.u,o.ts,o.imgs⟩ ⟨mo.a3,mo.n3,mo.c3,mo.a5,mo.n5,mo.c5⟩ (fun _=>False) X (off_ci (HBO.o X hBX) n9) HSm.o.1 HSm.o.2.1 HSm.o.2.2);unfold cpv at HTw;clear x12 hHeld hmin i2 hwr d d2;go_wp2_with fail;refine(zae HTw).mono ?_;rintro e w5 ⟨⟨m4,rfl,hcr⟩,hb5⟩;have hb6:bZ X (w5.alloc (.cells #[iV n9,iV o.v,iV o.u,.slice m4.at_ m4.nt m4.ct,.slice m4.ai m4.ni m4.ci] 94)):=hb5.alloc hb5.size _;have hb6' :bZ w5 (w5.alloc (.cells #[iV n9,iV o.v,iV o.u,.slice m4.at_ m4.nt m4.ct,.slice m4.ai m4.ni m4.ci] 94)):=bA1;have H6:=uH (HX.o.bl hb6);have hnr6:IsRow (w5.alloc (.cells #[iV n9,iV o.v,iV o.u,.slice m4.at_ m4.nt m4.ct,.slice m4.ai m4.ni m4.ci] 94)) (some ⟨w5.heap.size,0,none⟩) [iV n9,iV o.v,iV o.u,.slice m4.at_ m4.nt m4.ct,.slice m4.ai m4.ni m4.ci]:=zcq (kP w5 (.cells #[iV n9,iV o.v,iV o.u,.slice m4.at_ m4.nt m4.ct,.slice m4.ai m4.ni m4.ci] 94));have hcr6:CR (w5.alloc (.cells #[iV n9,iV o.v,iV o.u,.slice m4.at_ m4.nt m4.ct,.slice m4.ai m4.ni m4.ci] 94)) (KV Z q) ⟨n9,o.v,o.u,o.ts,o.imgs⟩ [iV n9,iV o.v,iV o.u,.slice m4.at_ m4.nt m4.ct,.slice m4.ai m4.ni m4.ci]:=CR.off (fun b e=>.inl (HX.o.kv b e)) _ _ (CR.chg (.of hb6' _) _ _ hcr);obtain ⟨vs,ho6,hv6⟩:=H6.o.cs.row;dsimp only at ho6;rw [hat] at ho6;have hown: (w5.alloc (.cells #[iV n9,iV o.v,iV o.u,.slice m4.at_ m4.nt m4.ct,.slice m4.ai m4.ni m4.ci] 94)).ownsRow F 94 5 (sV q.bc k0 m.cc) k0 (vs.take (k0 * 5)):=by
   have hko:=HKo.o;obtain ⟨l0,⟨l1,-⟩| ⟨g9,cap,cur,l1,l2,l3,l4,l5,l6,l7⟩⟩:=ho6
   { cases l1 }
   {
   cases l1;refine⟨by rw [KQ,l0];omega,.inr ⟨q.bc,m.cc,cur,rfl,l2,l3,by omega,l5,l6, ?_⟩⟩;rw [<-l7,List.take_take,kK (by omega)] }
  obtain ⟨irr,hir,rz0,rz1,rz2⟩:=info_parts infoByC;obtain ⟨v',w7,ha,ho7,hg7,hn7,hat7⟩:=run_append_own_at (P:=Tryz.prog) (w5.alloc (.cells #[iV n9,iV o.v,iV o.u,.slice m4.at_ m4.nt m4.ct,.slice m4.ai m4.ni m4.ci] 94)) F 37 37 94 irr _ 5 72 Tryz.underlying37 hir rz0 rz1 rz2 rfl (by omega) (sV q.bc k0 m.cc) k0 _ hown ⟨w5.heap.size,0,none⟩ 1 1 [iV n9,iV o.v,iV o.u,.slice m4.at_ m4.nt m4.ct,.slice m4.ai m4.ni m4.ci] rfl (fun j u hu=>by rw [zc2];rcases hnr6 with hx| ⟨b,off,hx,hy⟩;cases hx;cases hx;exact hy j u hu) (CR.one _ _ hcr6) (by have:=HKo.o;have:=HNr.o;unfold maxLen;omega) (by have:=HKo.o;have:=HNr.o;omega) (kc (kc hlt hBX.size) hb6.size);obtain ⟨b',c',rfl,hb'⟩: ∃b' c',v' =sV b' (k0+1) c' /\(b' =q.bc\/(w5.alloc (.cells #[iV n9,iV o.v,iV o.u,.slice m4.at_ m4.nt m4.ct,.slice m4.ai m4.ni m4.ci] 94)).heap.size<=b'):=by
   obtain ⟨-,⟨e6,-⟩| ⟨g',c',cur',e6,-⟩⟩:=ho7
   { exact absurd (hn7.1 e6).2 (by decide) }
   {
   subst e6;refine⟨g',c',rfl, ?_⟩
   rcases hat7 with e5|e5
   { exact .inl (kJ e5) }
   { exact .inr (Kg (kJ e5).symm) } }
  have hcK:Chg (fun b=>b=q.bc) (w5.alloc (.cells #[iV n9,iV o.v,iV o.u,.slice m4.at_ m4.nt m4.ct,.slice m4.ai m4.ni m4.ci] 94)) w7:=.grown hg7 (fun b e=>by cases e;rfl);have HFn:=uH (H6.o.setCamps (b' :=b') (n:=k0+1) (c:=c') (l:=v.cs.take k0++ [⟨n9,o.v,o.u,o.ts,o.imgs⟩]) hcK hb' ho7 (by
   have hC2:Chg (fun b=>KV Z q b\/(w5.alloc (.cells #[iV n9,iV o.v,iV o.u,.slice m4.at_ m4.nt m4.ct,.slice m4.ai m4.ni m4.ci] 94)).heap.size<=b) (w5.alloc (.cells #[iV n9,iV o.v,iV o.u,.slice m4.at_ m4.nt m4.ct,.slice m4.ai m4.ni m4.ci] 94)) w7:=hcK.mono fun b e=>.inl (kv_bc e)
   have g1:=(((hv6.take CR.len k0).app (vs_one hcr6)).mono (CR.off (K' :=fun b=>KV Z q b\/(w5.alloc (.cells #[iV n9,iV o.v,iV o.u,.slice m4.at_ m4.nt m4.ct,.slice m4.ai m4.ni m4.ci] 94)).heap.size<=b) fun b e=>e)).mono (CR.chg hC2);exact g1.mono (CR.off fun b e=>.inl (kv_camp hb' e))) (by rw [kj,KQ];have:=HKo.o;simp;omega))
  have hB7:Below F w w7:=(hBX.trans (hb6.mono (kc hlt hBX.size))).trans (hcK.bl (fun b e=>by rw [e];exact H6.o.cs.lt.1) (kc (kc hlt hBX.size) hb6.size));have hn2:=H6.o.n2;have x12: (w5.alloc (.cells #[iV n9,iV o.v,iV o.u,.slice m4.at_ m4.nt m4.ct,.slice m4.ai m4.ni m4.ci] 94)).cell? ⟨q.B,12,none⟩=some (.slice m.ac m.nc m.cc):=zaa H6.o.box 12 _ rfl;have y12:=hcK.cell x12 hn2;have f12:w7.frozen? ⟨q.B,12,none⟩=false:=by rw [World.frozen?_of_block (w:=(w5.alloc (.cells #[iV n9,iV o.v,iV o.u,.slice m4.at_ m4.nt m4.ct,.slice m4.ai m4.ni m4.ci] 94))) (hcK.block q.B (zak H6.o.box) hn2)];exact zad H6.o.box 12
  have HTk:Hd (v.cs.take (n9 - 1).toNat=v.cs.take k0):=by
   have hko:=HKo.o
   by_cases hc: (n9 - 1).toNat<=m.nc
   { rw [show k0= (n9 - 1).toNat by omega];exact rfl }
   { rw [kh (by omega),kh (by omega)];exact rfl }
  have hbF:Below F w (w7.setCell ⟨q.B,12,none⟩ (sV b' (k0+1) c')):=hB7.setCell hfB _;rw [HTk.o] at HE;clear x12 hcK hg7 hn7 hat7 ho7 hown ho6 hv6 hcr6 hnr6 hcr HTw z2 z3 z4 z6 hb' rz0 rz1 rz2 hir
  go_wp2_with (at_builtin;refine zlg rfl _ _ _ _ rfl (sV q.bc k0 m.cc) (sV w5.heap.size 1 1) rfl rfl _ _ ha ?_)
  go_ret;exact hv_ok (q:=⟨q.B,q.bu,b',q.bn⟩) HE.o hbF HFn.o
end
section
attribute [local go_sem ↓] kM kO
def hpv (x:Hp) (mo:OA):Value:=.agg #[iV x.k,iV x.u,iV x.j,.slice mo.a1 mo.n1 mo.c1,.slice mo.a2 mo.n2 mo.c2,iV x.o.v,iV x.o.u,.slice mo.a3 mo.n3 mo.c3,.slice mo.a4 mo.n4 mo.c4,.slice mo.a5 mo.n5 mo.c5]
theorem zdl {w1:World} {B:Nat} {r:Vh×Int} {e:Ending} (h:HV w1 F Z B r e w') (hb:Below F w w1):HV w F Z B r e w' :=⟨h.1,hb.trans h.2.1,h.2.2⟩
theorem VOk.bl {w1:World} {m:VA} (h:VOk w F Z m v) (hb:bZ w w1) (hF:F<=w.heap.size):VOk w1 F Z m v:=
 ⟨h.big,h.nn,h.uns,h.net,fun b e=>kw (h.zs b e) hb.size,h.zf,fun W hW=>h.tab W ((hb.mono hF).trans hW)⟩
theorem zcn {B:Nat} {r:Vh×Int} {e:Ending} (h:HV w F Z B r e w'): ∃z,z=r.2/\e=.returned (iV z)/\HV w F Z B r (.returned (iV z)) w' :=⟨r.2,rfl,h.1,by have:=h.1;subst this;exact h⟩
theorem zjl (F:Nat) (Z:Nat->Prop) (q:VB) (m:VA) (v:Vh) (x:Hp) (mo:OA) (w:World) (h:VOwn w F Z q m v) (ok:VOk w F Z m v) (hgt:gtE v.g=0) (hws: ∀y∈v.net,y.ws.length<=1000000) (hnw:inB v.now 0 100000=true) (ho: ∀W,Below F w W->BO W mo x.o):
 Cq 37 #[.pointer (some ⟨q.B,0,none⟩),hpv x mo] w (HV w F Z q.B (hapS v x)):=by
 have hb1:bZ w (w.alloc (.cells (aH x mo) 49)):=bA1;have b1:=uH (kP w (.cells (aH x mo) 49));have hlt:=h.lt;have hFB:=h.fB;have H1:=uH (h.bl hb1);have OK1:=uH (ok.bl hb1 hlt);have hbF:=hb1.mono hlt;have HGT:=uH hgt;have HWs:=uH hws;have HNw:=uH hnw;have HBO:=uH ho;clear h ok hgt hws hnw ho hb1;unfold hpv
 by_cases hk:x.k=1
 {
 have dc: (x.k==1)=true:=by simpa using hk
 have HE:Hd (hapS v x=propS v x.o):=by unfold hapS;rw [KK hk];exact rfl
 have HC:=uH (zpn F Z q m v x.o mo _ H1.o OK1.o (fun W hW=>HBO.o W (hbF.trans hW)));unfold offv at HC;have z0:=zaa b1.o 0 _ rfl;have z3:=zaa b1.o 3 _ rfl;have z4:=zaa b1.o 4 _ rfl;have z5:=zaa b1.o 5 _ rfl;have z6:=zaa b1.o 6 _ rfl;have z7:=zaa b1.o 7 _ rfl;have z8:=zaa b1.o 8 _ rfl;have z9:=zaa b1.o 9 _ rfl;rw [HE.o];clear hk H1 OK1 HBO HGT HWs HNw HE;go_enter Tryz.func37,Tryz.ntmps37;go_wp2_with fail;refine(zae HC).mono ?_;intro e w3 hv;obtain ⟨z,-,rfl,hv2⟩:=zcn hv;have HV2:=uH (zdl hv2 hbF);clear hv hv2 HC;go_wp2_with fail;go_ret;exact HV2.o }
 by_cases hk:x.k=2
 {
 have dc: (x.k==2)=true:=by simpa using hk
 have d1: (x.k==1)=false:=by simp only [ke,ne_eq];omega
 have HE:Hd (hapS v x=pokeS v x.u):=by unfold hapS;rw [KJ (show¬x.k=1 by omega),KK hk];exact rfl
 have HC:=uH (poke_any F Z q m v x.u _ H1.o OK1.o HGT.o);have z0:=zaa b1.o 0 _ rfl;have z1:=zaa b1.o 1 _ rfl;rw [HE.o];clear hk H1 OK1 HBO HGT HWs HNw HE;go_enter Tryz.func37,Tryz.ntmps37;go_wp2_with fail;refine(zae HC).mono ?_;intro e w3 hv;obtain ⟨z,-,rfl,hv2⟩:=zcn hv;have HV2:=uH (zdl hv2 hbF);clear hv hv2 HC;go_wp2_with fail;go_ret;exact HV2.o }
 by_cases hk:x.k=9
 {
 have dc: (x.k==9)=true:=by simpa using hk
 have d1: (x.k==1)=false:=by simp only [ke,ne_eq];omega
 have d2: (x.k==2)=false:=by simp only [ke,ne_eq];omega
 have HE:Hd (hapS v x=qryS v x.u):=by unfold hapS;rw [KJ (show¬x.k=1 by omega),KJ (show¬x.k=2 by omega),KK hk];exact rfl
 have HC:=uH (query_any F Z q m v x.u _ H1.o OK1.o.nn OK1.o.uns);have z0:=zaa b1.o 0 _ rfl;have z1:=zaa b1.o 1 _ rfl;rw [HE.o];clear hk H1 OK1 HBO HGT HWs HNw HE;go_enter Tryz.func37,Tryz.ntmps37;go_wp2_with fail;refine(zae HC).mono ?_;intro e w3 hv;obtain ⟨z,-,rfl,hv2⟩:=zcn hv;have HV2:=uH (zdl hv2 hbF);clear hv hv2 HC;go_wp2_with fail;go_ret;exact HV2.o }
 by_cases hk:x.k=3
 {
 have dc: (x.k==3)=true:=by simpa using hk
 have d1: (x.k==1)=false:=by simp only [ke,ne_eq];omega
 have d2: (x.k==2)=false:=by simp only [ke,ne_eq];omega
 have d9: (x.k==9)=false:=by simp only [ke,ne_eq];omega
 have HE:Hd (hapS v x=arrS v x.j):=by unfold hapS;rw [KJ (show¬x.k=1 by omega),KJ (show¬x.k=2 by omega),KJ (show¬x.k=9 by omega),KK hk];exact rfl
 have HC:=uH (zqd F Z q m v x.j _ H1.o OK1.o);have z0:=zaa b1.o 0 _ rfl;have z2:=zaa b1.o 2 _ rfl;rw [HE.o];clear hk H1 OK1 HBO HGT HWs HNw HE;go_enter Tryz.func37,Tryz.ntmps37;go_wp2_with fail;refine(zae HC).mono ?_;intro e w3 hv;obtain ⟨z,-,rfl,hv2⟩:=zcn hv;have HV2:=uH (zdl hv2 hbF);clear hv hv2 HC;go_wp2_with fail;go_ret;exact HV2.o }
 by_cases hk:x.k=4
 {
 have dc: (x.k==4)=true:=by simpa using hk
 have d1: (x.k==1)=false:=by simp only [ke,ne_eq];omega
 have d2: (x.k==2)=false:=by simp only [ke,ne_eq];omega
 have d9: (x.k==9)=false:=by simp only [ke,ne_eq];omega
 have d3: (x.k==3)=false:=by simp only [ke,ne_eq];omega
 have HE:Hd (hapS v x=losS v x.j):=by unfold hapS;rw [KJ (show¬x.k=1 by omega),KJ (show¬x.k=2 by omega),KJ (show¬x.k=9 by omega),KJ (show¬x.k=3 by omega),KK hk];exact rfl
 rw [HE.o];have z0:=zaa b1.o 0 _ rfl;have z2:=zaa b1.o 2 _ rfl;cases hm:isM v x.j
 {
 have HL:Hd ((losS v x.j).2=5):=by unfold losS;rw [KK hm];exact rfl
 have HC:=uH (take_no F Z q m v x.j _ H1.o hm);unfold msv ms9 at HC;have hlt1:=H1.o.lt;clear hk H1 OK1 HBO HGT HWs HNw HE hm;go_enter Tryz.func37,Tryz.ntmps37;go_wp2_with fail;refine(zae HC).mono ?_;rintro e w3 ⟨rfl,hb3⟩;have hbE:Below F w (w3.alloc (.cells #[iV 0,iV 0,iV 0,iV 0,iV 0,nV,.bool false] 99)):=hbF.trans ((hb3.alloc hb3.size _).mono hlt1);go_wp2_with fail;go_ret;exact zbs HL.o (by decide) hbE }
 {
 obtain ⟨jj,hjj⟩: ∃jj:Nat,x.j= (jj:Int):=⟨x.j.toNat,by unfold isM inB at hm;simp at hm;omega⟩;have hjl:jj<v.net.length:=by unfold isM inB at hm;simp at hm;omega
 have HL:Hd (losS v x.j= (takeM v jj,0)):=by unfold losS;rw [KJ (by rw [hm];decide),hjj];exact rfl
 have HC:=uH (znt F Z q m v jj v.net[jj] _ H1.o (kX hjl) (by have:=OK1.o.big.2.2;omega));have HQ:=uH hFB;rw [<-hjj] at HC;clear hk H1 OK1 HBO HGT HWs HNw HE hm;generalize v.net[jj]=y at *;clear hjl hjj;go_enter Tryz.func37,Tryz.ntmps37;go_wp2_with fail;refine(zae HC).mono ?_;rintro e w3 ⟨⟨a,n,c,rfl,-,-⟩,H3,hb3⟩;unfold msv;have hba:bZ w3 (w3.alloc (.cells (aM y a n c) 99)):=bA1;have HFn:=uH (H3.bl hba);have hbE:Below F w (w3.alloc (.cells (aM y a n c) 99)):=(hbF.trans hb3).trans (hba.mono H3.lt);clear H3 hba hb3 HC;go_wp2_with fail;go_ret;exact hv_ok HL.o hbE HFn.o } }
 by_cases hk:x.k=5
 {
 have dc: (x.k==5)=true:=by simpa using hk
 have d1: (x.k==1)=false:=by simp only [ke,ne_eq];omega
 have d2: (x.k==2)=false:=by simp only [ke,ne_eq];omega
 have d9: (x.k==9)=false:=by simp only [ke,ne_eq];omega
 have d3: (x.k==3)=false:=by simp only [ke,ne_eq];omega
 have d4: (x.k==4)=false:=by simp only [ke,ne_eq];omega
 have HE:Hd (hapS v x=dblS v x.j):=by unfold hapS;rw [KJ (show¬x.k=1 by omega),KJ (show¬x.k=2 by omega),KJ (show¬x.k=9 by omega),KJ (show¬x.k=3 by omega),KJ (show¬x.k=4 by omega),KK hk];exact rfl
 have HC:=uH (zq4 F Z q m v x.j _ H1.o OK1.o.nn HWs.o);have z0:=zaa b1.o 0 _ rfl;have z2:=zaa b1.o 2 _ rfl;rw [HE.o];clear hk H1 OK1 HBO HGT HWs HNw HE;go_enter Tryz.func37,Tryz.ntmps37;go_wp2_with fail;refine(zae HC).mono ?_;intro e w3 hv;obtain ⟨z,-,rfl,hv2⟩:=zcn hv;have HV2:=uH (zdl hv2 hbF);clear hv hv2 HC;go_wp2_with fail;go_ret;exact HV2.o }
 by_cases hk:x.k=6
 {
 have dc: (x.k==6)=true:=by simpa using hk
 have d1: (x.k==1)=false:=by simp only [ke,ne_eq];omega
 have d2: (x.k==2)=false:=by simp only [ke,ne_eq];omega
 have d9: (x.k==9)=false:=by simp only [ke,ne_eq];omega
 have d3: (x.k==3)=false:=by simp only [ke,ne_eq];omega
 have d4: (x.k==4)=false:=by simp only [ke,ne_eq];omega
 have d5: (x.k==5)=false:=by simp only [ke,ne_eq];omega
 have HE:Hd (hapS v x=cutS v x.u x.j):=by unfold hapS;rw [KJ (show¬x.k=1 by omega),KJ (show¬x.k=2 by omega),KJ (show¬x.k=9 by omega),KJ (show¬x.k=3 by omega),KJ (show¬x.k=4 by omega),KJ (show¬x.k=5 by omega),KK hk];exact rfl
 have HC:=uH (vCut_any F Z q m v x.u x.j _ H1.o);have z0:=zaa b1.o 0 _ rfl;have z1:=zaa b1.o 1 _ rfl;have z2:=zaa b1.o 2 _ rfl;rw [HE.o];clear hk H1 OK1 HBO HGT HWs HNw HE;go_enter Tryz.func37,Tryz.ntmps37;go_wp2_with fail;refine(zae HC).mono ?_;intro e w3 hv;obtain ⟨z,-,rfl,hv2⟩:=zcn hv;have HV2:=uH (zdl hv2 hbF);clear hv hv2 HC;go_wp2_with fail;go_ret;exact HV2.o }
 by_cases hk:x.k=7
 {
 have dc: (x.k==7)=true:=by simpa using hk
 have d1: (x.k==1)=false:=by simp only [ke,ne_eq];omega
 have d2: (x.k==2)=false:=by simp only [ke,ne_eq];omega
 have d9: (x.k==9)=false:=by simp only [ke,ne_eq];omega
 have d3: (x.k==3)=false:=by simp only [ke,ne_eq];omega
 have d4: (x.k==4)=false:=by simp only [ke,ne_eq];omega
 have d5: (x.k==5)=false:=by simp only [ke,ne_eq];omega
 have d6: (x.k==6)=false:=by simp only [ke,ne_eq];omega
 have HE:Hd (hapS v x=bootV v x.u):=by unfold hapS;rw [KJ (show¬x.k=1 by omega),KJ (show¬x.k=2 by omega),KJ (show¬x.k=9 by omega),KJ (show¬x.k=3 by omega),KJ (show¬x.k=4 by omega),KJ (show¬x.k=5 by omega),KJ (show¬x.k=6 by omega),KK hk];exact rfl
 have HC:=uH (vBoot_any F Z q m v x.u _ H1.o OK1.o.big OK1.o.zs OK1.o.uns);have z0:=zaa b1.o 0 _ rfl;have z1:=zaa b1.o 1 _ rfl;rw [HE.o];clear hk H1 OK1 HBO HGT HWs HNw HE;go_enter Tryz.func37,Tryz.ntmps37;go_wp2_with fail;refine(zae HC).mono ?_;intro e w3 hv;obtain ⟨z,-,rfl,hv2⟩:=zcn hv;have HV2:=uH (zdl hv2 hbF);clear hv hv2 HC;go_wp2_with fail;go_ret;exact HV2.o }
 by_cases hk:x.k=8
 {
 have dc: (x.k==8)=true:=by simpa using hk
 have d1: (x.k==1)=false:=by simp only [ke,ne_eq];omega
 have d2: (x.k==2)=false:=by simp only [ke,ne_eq];omega
 have d9: (x.k==9)=false:=by simp only [ke,ne_eq];omega
 have d3: (x.k==3)=false:=by simp only [ke,ne_eq];omega
 have d4: (x.k==4)=false:=by simp only [ke,ne_eq];omega
 have d5: (x.k==5)=false:=by simp only [ke,ne_eq];omega
 have d6: (x.k==6)=false:=by simp only [ke,ne_eq];omega
 have d7: (x.k==7)=false:=by simp only [ke,ne_eq];omega
 have HE:Hd (hapS v x=gupS v):=by unfold hapS;rw [KJ (show¬x.k=1 by omega),KJ (show¬x.k=2 by omega),KJ (show¬x.k=9 by omega),KJ (show¬x.k=3 by omega),KJ (show¬x.k=4 by omega),KJ (show¬x.k=5 by omega),KJ (show¬x.k=6 by omega),KJ (show¬x.k=7 by omega),KK hk];exact rfl
 have HC:=uH (zpm F Z q m v _ H1.o);have z0:=zaa b1.o 0 _ rfl;rw [HE.o];clear hk H1 OK1 HBO HGT HWs HNw HE;go_enter Tryz.func37,Tryz.ntmps37;go_wp2_with fail;refine(zae HC).mono ?_;intro e w3 hv;obtain ⟨z,-,rfl,hv2⟩:=zcn hv;have HV2:=uH (zdl hv2 hbF);clear hv hv2 HC;go_wp2_with fail;go_ret;exact HV2.o }
 by_cases hk:x.k=10
 {
 have dc: (x.k==10)=true:=by simpa using hk
 have d1: (x.k==1)=false:=by simp only [ke,ne_eq];omega
 have d2: (x.k==2)=false:=by simp only [ke,ne_eq];omega
 have d9: (x.k==9)=false:=by simp only [ke,ne_eq];omega
 have d3: (x.k==3)=false:=by simp only [ke,ne_eq];omega
 have d4: (x.k==4)=false:=by simp only [ke,ne_eq];omega
 have d5: (x.k==5)=false:=by simp only [ke,ne_eq];omega
 have d6: (x.k==6)=false:=by simp only [ke,ne_eq];omega
 have d7: (x.k==7)=false:=by simp only [ke,ne_eq];omega
 have d8: (x.k==8)=false:=by simp only [ke,ne_eq];omega
 have HE:Hd (hapS v x=tckS v):=by unfold hapS;rw [KJ (show¬x.k=1 by omega),KJ (show¬x.k=2 by omega),KJ (show¬x.k=9 by omega),KJ (show¬x.k=3 by omega),KJ (show¬x.k=4 by omega),KJ (show¬x.k=5 by omega),KJ (show¬x.k=6 by omega),KJ (show¬x.k=7 by omega),KJ (show¬x.k=8 by omega),KK hk];exact rfl
 have HC:=uH (tick_any F Z q m v _ H1.o HNw.o);have z0:=zaa b1.o 0 _ rfl;rw [HE.o];clear hk H1 OK1 HBO HGT HWs HNw HE;go_enter Tryz.func37,Tryz.ntmps37;go_wp2_with fail;refine(zae HC).mono ?_;intro e w3 hv;obtain ⟨z,-,rfl,hv2⟩:=zcn hv;have HV2:=uH (zdl hv2 hbF);clear hv hv2 HC;go_wp2_with fail;go_ret;exact HV2.o }
 have d1: (x.k==1)=false:=by simp only [ke,ne_eq];omega
 have d2: (x.k==2)=false:=by simp only [ke,ne_eq];omega
 have d9: (x.k==9)=false:=by simp only [ke,ne_eq];omega
 have d3: (x.k==3)=false:=by simp only [ke,ne_eq];omega
 have d4: (x.k==4)=false:=by simp only [ke,ne_eq];omega
 have d5: (x.k==5)=false:=by simp only [ke,ne_eq];omega
 have d6: (x.k==6)=false:=by simp only [ke,ne_eq];omega
 have d7: (x.k==7)=false:=by simp only [ke,ne_eq];omega
 have d8: (x.k==8)=false:=by simp only [ke,ne_eq];omega
 have d10: (x.k==10)=false:=by simp only [ke,ne_eq];omega
 have HE:Hd ((hapS v x).2=4):=by unfold hapS;rw [KJ (show¬x.k=1 by omega),KJ (show¬x.k=2 by omega),KJ (show¬x.k=9 by omega),KJ (show¬x.k=3 by omega),KJ (show¬x.k=4 by omega),KJ (show¬x.k=5 by omega),KJ (show¬x.k=6 by omega),KJ (show¬x.k=7 by omega),KJ (show¬x.k=8 by omega),KJ (show¬x.k=10 by omega)];exact rfl
 have z0:=zaa b1.o 0 _ rfl;go_enter Tryz.func37,Tryz.ntmps37;go_wp2_with fail;go_ret;exact zbs HE.o (by decide) hbF
end
section
attribute [local go_sem ↓] kM kO
structure VSm (v:Vh):Prop where
 ss:v.ss.length<=1000000
 sg:v.sg.length<=1000000
 g1:v.g.ws.length<=1000000
 g2:v.g.t.r.ks.length<=1000000
 g3:v.g.vo.length<=1000000
 g4:v.g.di.length<=1000000
 us:v.us.length<=1000000
 uw: ∀u∈v.us,u.ws.length<=1000000
 cs:v.cs.length<=1000000
 cw: ∀x∈v.cs,CSm x
 net:v.net.length<=1000000
 nw: ∀m∈v.net,m.ws.length<=1000000
def KT (F bu bc bn:Nat) (b:Nat):Prop:=b<F\/b=bu\/b=bc\/b=bn
structure VTw (w:World) (F bu bc bn:Nat) (m:VA) (v:Vh):Prop where
 ss:BB w m.ab m.nb m.cb v.ss
 sg:BG w m.sa m.ns v.sg
 g:GIn w m.g v.g
 ob:Ao v.ss (KT F bu bc bn) m.ab
 os:Ao v.sg (KT F bu bc bn) m.sa
 og:GO (KT F bu bc bn) m.g v.g
 us:ROwn UR 5 82 w F (KT F bu bc bn) m.au m.nu m.cu bu v.us
 cs:ROwn CR 5 94 w F (KT F bu bc bn) m.ac m.nc m.cc bc v.cs
 net:ROwn MR 7 99 w F (KT F bu bc bn) m.an m.nn m.cn bn v.net
 n4:bu≠bc
 n5:bu≠bn
 n6:bc≠bn
 cap:m.cu=m.nu/\m.cc=m.nc/\m.cn=m.nn
def TwAns (w:World) (v:Vh) (e:Ending) (w' :World):Prop:=(∃m bu bc bn,e=.returned (vhv v m)/\VTw w' w.heap.size bu bc bn m v)/\bZ w w'
theorem zlx {α:Type} {R:World->(Nat->Prop)->α->LV->Prop} {k:Nat} {t:TypeId} {l:List α} {g:Nat} {us:LV} (hO: ∀{w:World} {K K' :Nat->Prop},(∀b,K' b->K b\/w.heap.size<=b)->∀x c,R w K x c->R w K' x c)
 (hF:F<=g) (hm:l.length<=1000000) (hb:w'.heap[g]?=some (.cells us.toArray t (0,0))) (hl:us.length=l.length * k) (hv:Vs (R w' (Out g)) l us):ROwn R k t w' F (fun b=>b<=g\/w'.heap.size<=b) (some ⟨g,0,none⟩) l.length l.length g l:=
 ⟨rfl,⟨us,⟨hl,.inr ⟨g,l.length,us.toArray,rfl,hF,hb,kQ _,by unfold maxLen;omega,by simpa using hl,by rw [<-hl];simp⟩⟩,hv.mono (hO fun b e=>e)⟩,rfl⟩
theorem zeg {W:World} {S g n c:Nat} (h:BB W (some ⟨g,0,none⟩) n c ss) (hc:Chg (fun b=>b<S+2) W W') (hg:S+2<=g):BB W' (some ⟨g,0,none⟩) n c ss:=⟨h.at_.chg hc (.at_ (by show¬g<S+2;omega)),h.len,h.cap,h.max,h.short⟩
theorem ze7 {W:World} {S g n:Nat} {ss:List S2} (h:BG W (some ⟨g,0,none⟩) n ss) (hc:Chg (fun b=>b<S+2) W W') (hg:S+2<=g):BG W' (some ⟨g,0,none⟩) n ss:=⟨h.at_.chg hc (.at_ (by show¬g<S+2;omega)),h.len,h.max⟩
theorem zfk {W:World} {S:Nat} {k:GA} {g:Gt} (h:GIn W k g) (hf:GFr (S+2) k) (hc:Chg (fun b=>b<S+2) W W'):GIn W' k g:=h.chg hc (.fresh hf fun _ e=>e)
theorem zcb {α:Type} {R:World->(Nat->Prop)->α->LV->Prop} {k:Nat} {t:TypeId} {W:World} {S g s n c:Nat} {l:List α} (hR: ∀{w w' :World} {K:Nat->Prop},Chg K w w' ->∀x c,R w K x c->R w' K x c) (h:ROwn R k t W F (fun b=>b<=g\/s<=b) (some ⟨g,0,none⟩) n c g l) (hc:Chg (fun b=>b<S+2) W W') (hg:S+2<=g):ROwn R k t W' F (fun b=>b<=g\/s<=b) (some ⟨g,0,none⟩) n c g l:=
 h.chg hR (hc.mono fun b e=>.inl (by show b<=g;have e:b<S+2:=e;omega)) (hc.block g h.lt.2 (by show¬g<S+2;omega))
theorem zhm (v:Vh) (m:VA) (K:Nat->Prop) (w:World) (h:VIn w K m v) (hs:VSm v):
 Cq 36 #[vhv v m] w (TwAns w v):=by
 have HB:=uH (fun W (hW:bZ w W)=>zhj v.ss m.ab m.nb m.cb W (h.ss.bl hW) (by rw [<-h.ss.len];exact hs.ss));have HS:=uH (fun W (hW:bZ w W)=>zip m.sa m.ns m.cs (sgs v.sg) W (sgs_row (h.sg.bl hW).at_) (by rw [sgs_len,h.sg.len]) (zlr _) (by rw [<-h.sg.len];exact hs.sg));have HG:=uH (fun W (hW:bZ w W)=>zns v.g m.g W (h.g.bl hW) (by rw [<-h.g.ws.len];exact hs.g1) (by rw [<-h.g.ks.len];exact hs.g2) (by rw [<-h.g.vo.len];exact hs.g3) (by rw [<-h.g.di.len];exact hs.g4));have HU:=uH (fun W (hW:bZ w W)=>zmp m.au m.nu m.cu m.cu K v.us W (h.us.chg UR.chg (.of hW K)) (by rw [<-h.us.len];exact hs.us) hs.uw);have HC:=uH (fun W (hW:bZ w W)=>zm5 m.ac m.nc m.cc m.cc K v.cs W (h.cs.chg CR.chg (.of hW K)) (by rw [<-h.cs.len];exact hs.cs) hs.cw);have HN:=uH (fun W (hW:bZ w W)=>zmo m.an m.nn m.cn m.cn K v.net W (h.net.chg MR.chg (.of hW K)) (by rw [<-h.net.len];exact hs.net) hs.nw);have HV:=uH h;have HM:=uH hs;clear h hs;have b0:=uH (zai (kP w (.cells (vhC v m) 40)) (.cells aZ 40));have b1:=uH (zau w (.cells (vhC v m) 40) (.cells aZ 40));have hw:=zdv w (.cells (vhC v m) 40) (.cells aZ 40);have hsz: ((w.alloc (.cells (vhC v m) 40)).alloc (.cells aZ 40)).heap.size=w.heap.size+1+1:=by simp
 unfold vhv;unfold vhC at hw b0 b1 hsz|-;unfold bookv at HB;unfold gtv at HG;have x0:=zaa b0.o 0 _ rfl;go_enter Tryz.func36,Tryz.ntmps36;go_wp2_with fail;generalize ((w.alloc (.cells (aV m v) 40)).alloc (.cells aZ 40))=W0 at *;clear x0;have hlo:w.heap.size+2<=W0.heap.size:=by omega
 clear hsz;refine(zae HB _ hw).mono ?_;rintro e w1 ⟨⟨g1,i1,j1,rfl,F1⟩,hb⟩;replace F1:=uH F1;obtain ⟨s1,hs1⟩: ∃s,s=w1.heap.size:=⟨_,rfl⟩;have hl1:W0.heap.size<=s1:=by rw [hs1];exact hb.size
 have HS1:=uH hs1;have hn1:g1<s1:=by rw [hs1];exact j1
 clear j1;clear hs1;replace b0:=uH (zab b0.o hb);replace b1:=uH (zab b1.o hb);replace hw:=bT hw hb;have x0:=zaa b0.o 0 _ rfl;have f0:=zad b0.o 0;go_upto_region 2 with fail
 have hc:Chg (fun b=>b<w.heap.size+2) W0 (w1.setCell ⟨w.heap.size,0,none⟩ (sV g1 m.nb m.nb)):=((Chg.of hb (fun b=>b<w.heap.size+2)).set (by show w.heap.size<w.heap.size+2;omega) _);have hc1:Chg (fun b=>b<w.heap.size+2) w1 (w1.setCell ⟨w.heap.size,0,none⟩ (sV g1 m.nb m.nb)):=((Chg.refl (fun b=>b<w.heap.size+2) w1).set (by show w.heap.size<w.heap.size+2;omega) _);have b0n:Hd ((w1.setCell ⟨w.heap.size,0,none⟩ (sV g1 m.nb m.nb)).heap[w.heap.size]?=some (.cells #[sV g1 m.nb m.nb,.slice m.sa m.ns m.cs,.slice m.g.a m.g.n m.g.c,iV v.g.fu,.bool v.g.up,iV v.g.t.r.v,.slice m.g.ak m.g.nk m.g.ck,iV v.g.t.r.t,iV v.g.t.ver,.slice m.g.av m.g.nv m.g.cv,.slice m.g.ad m.g.nd m.g.cd,.slice m.au m.nu m.cu,.slice m.ac m.nc m.cc,.slice m.an m.nn m.cn,iV v.now] 40 (0,0))):=zdu b0.o 0 _;have b1n:Hd ((w1.setCell ⟨w.heap.size,0,none⟩ (sV g1 m.nb m.nb)).heap[w.heap.size+1]?=some (.cells aZ 40 (0,0))):=by
  show _=_
  rw [ki _ _ _ _ (by show w.heap.size+1≠w.heap.size;omega)];exact b1.o
 replace hw:bZ w (w1.setCell ⟨w.heap.size,0,none⟩ (sV g1 m.nb m.nb)):=(hw.setCell (p:=⟨w.heap.size,0,none⟩) (kQ _) _);replace F1:=uH (zeg F1.o hc1 (by omega));have hz1:s1= (w1.setCell ⟨w.heap.size,0,none⟩ (sV g1 m.nb m.nb)).heap.size:=by rw [HS1.o];simp [World.setCell]
 clear x0 f0 b0 b1 hb hc hc1 HB;generalize (w1.setCell ⟨w.heap.size,0,none⟩ (sV g1 m.nb m.nb))=W1 at *;have b0:=b0n;have b1:=b1n;clear b0n b1n;have hy1:s1<=W1.heap.size:=Kg hz1;clear hz1 HS1;have x1:=zaa b0.o 1 _ rfl;go_wp2_with fail;clear x1;refine(zae HS _ hw).mono ?_;rintro e w1 ⟨rfl,hw1⟩;obtain ⟨g2,hg2⟩: ∃g2,g2=W1.heap.size:=⟨_,rfl⟩;have hb:bZ W1 w1:=by rw [hw1];exact bA1
 have F2:Hd (BG w1 (some ⟨g2,0,none⟩) m.ns v.sg):=by rw [hw1,hg2];exact⟨sgs_of (new_row _ _ _),HV.o.sg.len,HV.o.sg.max⟩
 have j2:g2<w1.heap.size:=by rw [hw1,hg2];simp
 have i2:W1.heap.size<=g2:=Kg hg2.symm;rw [<-hg2];clear hw1 hg2;obtain ⟨s2,hs2⟩: ∃s,s=w1.heap.size:=⟨_,rfl⟩;have hl2:W1.heap.size<=s2:=by rw [hs2];exact hb.size
 have HS2:=uH hs2;have hn2:g2<s2:=by rw [hs2];exact j2
 clear j2;clear hs2;replace b0:=uH (zab b0.o hb);replace b1:=uH (zab b1.o hb);replace hw:=bT hw hb;have x1:=zaa b0.o 1 _ rfl;have f1:=zad b0.o 1;go_upto_region 3 with fail
 have hc:Chg (fun b=>b<w.heap.size+2) W1 (w1.setCell ⟨w.heap.size,1,none⟩ (sV g2 m.ns m.ns)):=((Chg.of hb (fun b=>b<w.heap.size+2)).set (by show w.heap.size<w.heap.size+2;omega) _);have hc1:Chg (fun b=>b<w.heap.size+2) w1 (w1.setCell ⟨w.heap.size,1,none⟩ (sV g2 m.ns m.ns)):=((Chg.refl (fun b=>b<w.heap.size+2) w1).set (by show w.heap.size<w.heap.size+2;omega) _);have b0n:Hd ((w1.setCell ⟨w.heap.size,1,none⟩ (sV g2 m.ns m.ns)).heap[w.heap.size]?=some (.cells #[sV g1 m.nb m.nb,sV g2 m.ns m.ns,.slice m.g.a m.g.n m.g.c,iV v.g.fu,.bool v.g.up,iV v.g.t.r.v,.slice m.g.ak m.g.nk m.g.ck,iV v.g.t.r.t,iV v.g.t.ver,.slice m.g.av m.g.nv m.g.cv,.slice m.g.ad m.g.nd m.g.cd,.slice m.au m.nu m.cu,.slice m.ac m.nc m.cc,.slice m.an m.nn m.cn,iV v.now] 40 (0,0))):=zdu b0.o 1 _;have b1n:Hd ((w1.setCell ⟨w.heap.size,1,none⟩ (sV g2 m.ns m.ns)).heap[w.heap.size+1]?=some (.cells aZ 40 (0,0))):=by
  show _=_
  rw [ki _ _ _ _ (by show w.heap.size+1≠w.heap.size;omega)];exact b1.o
 replace hw:bZ w (w1.setCell ⟨w.heap.size,1,none⟩ (sV g2 m.ns m.ns)):=(hw.setCell (p:=⟨w.heap.size,1,none⟩) (kQ _) _);replace F1:=uH (zeg F1.o hc (by omega));replace F2:=uH (ze7 F2.o hc1 (by omega));have hz2:s2= (w1.setCell ⟨w.heap.size,1,none⟩ (sV g2 m.ns m.ns)).heap.size:=by rw [HS2.o];simp [World.setCell]
 clear x1 f1 b0 b1 hb hc hc1 HS;generalize (w1.setCell ⟨w.heap.size,1,none⟩ (sV g2 m.ns m.ns))=W2 at *;have b0:=b0n;have b1:=b1n;clear b0n b1n;have hy2:s2<=W2.heap.size:=Kg hz2;clear hz2 HS2;have x2:=zaa b0.o 2 _ rfl;have x3:=zaa b0.o 3 _ rfl;have x4:=zaa b0.o 4 _ rfl;have x5:=zaa b0.o 5 _ rfl;have x6:=zaa b0.o 6 _ rfl;have x7:=zaa b0.o 7 _ rfl;have x8:=zaa b0.o 8 _ rfl;have x9:=zaa b0.o 9 _ rfl;have x10:=zaa b0.o 10 _ rfl;go_wp2_with fail;clear x2 x3 x4 x5 x6 x7 x8 x9 x10;refine(zae HG _ hw).mono ?_;rintro e w1 ⟨⟨k3,rfl,F3,E3⟩,hb⟩;replace F3:=uH F3;replace E3:Hd (GFr (w.heap.size+2) k3):=E3.lower (by omega);obtain ⟨s3,hs3⟩: ∃s,s=w1.heap.size:=⟨_,rfl⟩;have hl3:W2.heap.size<=s3:=by rw [hs3];exact hb.size
 have HS3:=uH hs3;have O3:Hd (GO (fun b=>b<w.heap.size+2\/s3<=b) k3 v.g):=by rw [hs3];exact(GO.fresh (K:=fun b=>b<w.heap.size+2) E3.o fun _ e=>e).wide F3.o (fun _ e=>e)
 clear hs3;replace b0:=uH (zab b0.o hb);replace b1:=uH (zab b1.o hb);replace hw:=bT hw hb;have x2:=zaa b0.o 2 _ rfl;have f2:=zad b0.o 2;have x3:=zaa b0.o 3 _ rfl;have f3:=zad b0.o 3;have x4:=zaa b0.o 4 _ rfl;have f4:=zad b0.o 4;have x5:=zaa b0.o 5 _ rfl;have f5:=zad b0.o 5;have x6:=zaa b0.o 6 _ rfl;have f6:=zad b0.o 6;have x7:=zaa b0.o 7 _ rfl;have f7:=zad b0.o 7;have x8:=zaa b0.o 8 _ rfl;have f8:=zad b0.o 8;have x9:=zaa b0.o 9 _ rfl;have f9:=zad b0.o 9;have x10:=zaa b0.o 10 _ rfl;have f10:=zad b0.o 10;go_upto_region 4 with fail
 have hc:Chg (fun b=>b<w.heap.size+2) W2 (((((((((w1.setCell ⟨w.heap.size,2,none⟩ (.slice k3.a k3.n k3.c)).setCell ⟨w.heap.size,3,none⟩ (iV v.g.fu)).setCell ⟨w.heap.size,4,none⟩ (.bool v.g.up)).setCell ⟨w.heap.size,5,none⟩ (iV v.g.t.r.v)).setCell ⟨w.heap.size,6,none⟩ (.slice k3.ak k3.nk k3.ck)).setCell ⟨w.heap.size,7,none⟩ (iV v.g.t.r.t)).setCell ⟨w.heap.size,8,none⟩ (iV v.g.t.ver)).setCell ⟨w.heap.size,9,none⟩ (.slice k3.av k3.nv k3.cv)).setCell ⟨w.heap.size,10,none⟩ (.slice k3.ad k3.nd k3.cd)):=((((((((((Chg.of hb (fun b=>b<w.heap.size+2)).set (by show w.heap.size<w.heap.size+2;omega) _).set (by show w.heap.size<w.heap.size+2;omega) _).set (by show w.heap.size<w.heap.size+2;omega) _).set (by show w.heap.size<w.heap.size+2;omega) _).set (by show w.heap.size<w.heap.size+2;omega) _).set (by show w.heap.size<w.heap.size+2;omega) _).set (by show w.heap.size<w.heap.size+2;omega) _).set (by show w.heap.size<w.heap.size+2;omega) _).set (by show w.heap.size<w.heap.size+2;omega) _);have hc1:Chg (fun b=>b<w.heap.size+2) w1 (((((((((w1.setCell ⟨w.heap.size,2,none⟩ (.slice k3.a k3.n k3.c)).setCell ⟨w.heap.size,3,none⟩ (iV v.g.fu)).setCell ⟨w.heap.size,4,none⟩ (.bool v.g.up)).setCell ⟨w.heap.size,5,none⟩ (iV v.g.t.r.v)).setCell ⟨w.heap.size,6,none⟩ (.slice k3.ak k3.nk k3.ck)).setCell ⟨w.heap.size,7,none⟩ (iV v.g.t.r.t)).setCell ⟨w.heap.size,8,none⟩ (iV v.g.t.ver)).setCell ⟨w.heap.size,9,none⟩ (.slice k3.av k3.nv k3.cv)).setCell ⟨w.heap.size,10,none⟩ (.slice k3.ad k3.nd k3.cd)):=((((((((((Chg.refl (fun b=>b<w.heap.size+2) w1).set (by show w.heap.size<w.heap.size+2;omega) _).set (by show w.heap.size<w.heap.size+2;omega) _).set (by show w.heap.size<w.heap.size+2;omega) _).set (by show w.heap.size<w.heap.size+2;omega) _).set (by show w.heap.size<w.heap.size+2;omega) _).set (by show w.heap.size<w.heap.size+2;omega) _).set (by show w.heap.size<w.heap.size+2;omega) _).set (by show w.heap.size<w.heap.size+2;omega) _).set (by show w.heap.size<w.heap.size+2;omega) _);have b0n:Hd ((((((((((w1.setCell ⟨w.heap.size,2,none⟩ (.slice k3.a k3.n k3.c)).setCell ⟨w.heap.size,3,none⟩ (iV v.g.fu)).setCell ⟨w.heap.size,4,none⟩ (.bool v.g.up)).setCell ⟨w.heap.size,5,none⟩ (iV v.g.t.r.v)).setCell ⟨w.heap.size,6,none⟩ (.slice k3.ak k3.nk k3.ck)).setCell ⟨w.heap.size,7,none⟩ (iV v.g.t.r.t)).setCell ⟨w.heap.size,8,none⟩ (iV v.g.t.ver)).setCell ⟨w.heap.size,9,none⟩ (.slice k3.av k3.nv k3.cv)).setCell ⟨w.heap.size,10,none⟩ (.slice k3.ad k3.nd k3.cd)).heap[w.heap.size]?=some (.cells #[sV g1 m.nb m.nb,sV g2 m.ns m.ns,.slice k3.a k3.n k3.c,iV v.g.fu,.bool v.g.up,iV v.g.t.r.v,.slice k3.ak k3.nk k3.ck,iV v.g.t.r.t,iV v.g.t.ver,.slice k3.av k3.nv k3.cv,.slice k3.ad k3.nd k3.cd,.slice m.au m.nu m.cu,.slice m.ac m.nc m.cc,.slice m.an m.nn m.cn,iV v.now] 40 (0,0))):=by
  show _=_
  simp only [World.setCell,KP]
  simp [b0.o]
 have b1n:Hd ((((((((((w1.setCell ⟨w.heap.size,2,none⟩ (.slice k3.a k3.n k3.c)).setCell ⟨w.heap.size,3,none⟩ (iV v.g.fu)).setCell ⟨w.heap.size,4,none⟩ (.bool v.g.up)).setCell ⟨w.heap.size,5,none⟩ (iV v.g.t.r.v)).setCell ⟨w.heap.size,6,none⟩ (.slice k3.ak k3.nk k3.ck)).setCell ⟨w.heap.size,7,none⟩ (iV v.g.t.r.t)).setCell ⟨w.heap.size,8,none⟩ (iV v.g.t.ver)).setCell ⟨w.heap.size,9,none⟩ (.slice k3.av k3.nv k3.cv)).setCell ⟨w.heap.size,10,none⟩ (.slice k3.ad k3.nd k3.cd)).heap[w.heap.size+1]?=some (.cells aZ 40 (0,0))):=by
  show _=_
  rw [ki _ _ _ _ (by show w.heap.size+1≠w.heap.size;omega),ki _ _ _ _ (by show w.heap.size+1≠w.heap.size;omega),ki _ _ _ _ (by show w.heap.size+1≠w.heap.size;omega),ki _ _ _ _ (by show w.heap.size+1≠w.heap.size;omega),ki _ _ _ _ (by show w.heap.size+1≠w.heap.size;omega),ki _ _ _ _ (by show w.heap.size+1≠w.heap.size;omega),ki _ _ _ _ (by show w.heap.size+1≠w.heap.size;omega),ki _ _ _ _ (by show w.heap.size+1≠w.heap.size;omega),ki _ _ _ _ (by show w.heap.size+1≠w.heap.size;omega)];exact b1.o
 replace hw:bZ w (((((((((w1.setCell ⟨w.heap.size,2,none⟩ (.slice k3.a k3.n k3.c)).setCell ⟨w.heap.size,3,none⟩ (iV v.g.fu)).setCell ⟨w.heap.size,4,none⟩ (.bool v.g.up)).setCell ⟨w.heap.size,5,none⟩ (iV v.g.t.r.v)).setCell ⟨w.heap.size,6,none⟩ (.slice k3.ak k3.nk k3.ck)).setCell ⟨w.heap.size,7,none⟩ (iV v.g.t.r.t)).setCell ⟨w.heap.size,8,none⟩ (iV v.g.t.ver)).setCell ⟨w.heap.size,9,none⟩ (.slice k3.av k3.nv k3.cv)).setCell ⟨w.heap.size,10,none⟩ (.slice k3.ad k3.nd k3.cd)):=(((((((((hw.setCell (p:=⟨w.heap.size,2,none⟩) (kQ _) _).setCell (p:=⟨w.heap.size,3,none⟩) (kQ _) _).setCell (p:=⟨w.heap.size,4,none⟩) (kQ _) _).setCell (p:=⟨w.heap.size,5,none⟩) (kQ _) _).setCell (p:=⟨w.heap.size,6,none⟩) (kQ _) _).setCell (p:=⟨w.heap.size,7,none⟩) (kQ _) _).setCell (p:=⟨w.heap.size,8,none⟩) (kQ _) _).setCell (p:=⟨w.heap.size,9,none⟩) (kQ _) _).setCell (p:=⟨w.heap.size,10,none⟩) (kQ _) _);replace F1:=uH (zeg F1.o hc (by omega));replace F2:=uH (ze7 F2.o hc (by omega));replace F3:=uH (zfk F3.o E3.o hc1);have hz3:s3= (((((((((w1.setCell ⟨w.heap.size,2,none⟩ (.slice k3.a k3.n k3.c)).setCell ⟨w.heap.size,3,none⟩ (iV v.g.fu)).setCell ⟨w.heap.size,4,none⟩ (.bool v.g.up)).setCell ⟨w.heap.size,5,none⟩ (iV v.g.t.r.v)).setCell ⟨w.heap.size,6,none⟩ (.slice k3.ak k3.nk k3.ck)).setCell ⟨w.heap.size,7,none⟩ (iV v.g.t.r.t)).setCell ⟨w.heap.size,8,none⟩ (iV v.g.t.ver)).setCell ⟨w.heap.size,9,none⟩ (.slice k3.av k3.nv k3.cv)).setCell ⟨w.heap.size,10,none⟩ (.slice k3.ad k3.nd k3.cd)).heap.size:=by rw [HS3.o];simp [World.setCell]
 clear x2 f2 x3 f3 x4 f4 x5 f5 x6 f6 x7 f7 x8 f8 x9 f9 x10 f10 b0 b1 hb hc hc1 HG;generalize (((((((((w1.setCell ⟨w.heap.size,2,none⟩ (.slice k3.a k3.n k3.c)).setCell ⟨w.heap.size,3,none⟩ (iV v.g.fu)).setCell ⟨w.heap.size,4,none⟩ (.bool v.g.up)).setCell ⟨w.heap.size,5,none⟩ (iV v.g.t.r.v)).setCell ⟨w.heap.size,6,none⟩ (.slice k3.ak k3.nk k3.ck)).setCell ⟨w.heap.size,7,none⟩ (iV v.g.t.r.t)).setCell ⟨w.heap.size,8,none⟩ (iV v.g.t.ver)).setCell ⟨w.heap.size,9,none⟩ (.slice k3.av k3.nv k3.cv)).setCell ⟨w.heap.size,10,none⟩ (.slice k3.ad k3.nd k3.cd))=W3 at *;have b0:=b0n;have b1:=b1n;clear b0n b1n;have hy3:s3<=W3.heap.size:=Kg hz3;clear hz3 HS3;have x11:=zaa b0.o 11 _ rfl;go_wp2_with fail;clear x11;refine(zae HU _ hw).mono ?_;rintro e w1 ⟨⟨g4,us4,i4,j4,rfl,t4,l4,q4⟩,hb⟩;have F4:=uH (zlx (F:=w.heap.size) UR.off (by omega) HM.o.us t4 l4 q4);obtain ⟨s4,hs4⟩: ∃s,s=w1.heap.size:=⟨_,rfl⟩;rw [<-hs4] at F4;clear t4 l4 q4 us4;have hl4:W3.heap.size<=s4:=by rw [hs4];exact hb.size
 have HS4:=uH hs4;have hn4:g4<s4:=by rw [hs4];exact j4
 clear j4;clear hs4;replace b0:=uH (zab b0.o hb);replace b1:=uH (zab b1.o hb);replace hw:=bT hw hb;have x11:=zaa b0.o 11 _ rfl;have f11:=zad b0.o 11;go_upto_region 5 with fail
 have hc:Chg (fun b=>b<w.heap.size+2) W3 (w1.setCell ⟨w.heap.size,11,none⟩ (sV g4 v.us.length v.us.length)):=((Chg.of hb (fun b=>b<w.heap.size+2)).set (by show w.heap.size<w.heap.size+2;omega) _);have hc1:Chg (fun b=>b<w.heap.size+2) w1 (w1.setCell ⟨w.heap.size,11,none⟩ (sV g4 v.us.length v.us.length)):=((Chg.refl (fun b=>b<w.heap.size+2) w1).set (by show w.heap.size<w.heap.size+2;omega) _);have b0n:Hd ((w1.setCell ⟨w.heap.size,11,none⟩ (sV g4 v.us.length v.us.length)).heap[w.heap.size]?=some (.cells #[sV g1 m.nb m.nb,sV g2 m.ns m.ns,.slice k3.a k3.n k3.c,iV v.g.fu,.bool v.g.up,iV v.g.t.r.v,.slice k3.ak k3.nk k3.ck,iV v.g.t.r.t,iV v.g.t.ver,.slice k3.av k3.nv k3.cv,.slice k3.ad k3.nd k3.cd,sV g4 v.us.length v.us.length,.slice m.ac m.nc m.cc,.slice m.an m.nn m.cn,iV v.now] 40 (0,0))):=zdu b0.o 11 _;have b1n:Hd ((w1.setCell ⟨w.heap.size,11,none⟩ (sV g4 v.us.length v.us.length)).heap[w.heap.size+1]?=some (.cells aZ 40 (0,0))):=by
  show _=_
  rw [ki _ _ _ _ (by show w.heap.size+1≠w.heap.size;omega)];exact b1.o
 replace hw:bZ w (w1.setCell ⟨w.heap.size,11,none⟩ (sV g4 v.us.length v.us.length)):=(hw.setCell (p:=⟨w.heap.size,11,none⟩) (kQ _) _);replace F1:=uH (zeg F1.o hc (by omega));replace F2:=uH (ze7 F2.o hc (by omega));replace F3:=uH (zfk F3.o E3.o hc);replace F4:=uH (zcb UR.chg F4.o hc1 (by omega));have hz4:s4= (w1.setCell ⟨w.heap.size,11,none⟩ (sV g4 v.us.length v.us.length)).heap.size:=by rw [HS4.o];simp [World.setCell]
 clear x11 f11 b0 b1 hb hc hc1 HU;generalize (w1.setCell ⟨w.heap.size,11,none⟩ (sV g4 v.us.length v.us.length))=W4 at *;have b0:=b0n;have b1:=b1n;clear b0n b1n;have hy4:s4<=W4.heap.size:=Kg hz4;clear hz4 HS4;have x12:=zaa b0.o 12 _ rfl;go_wp2_with fail;clear x12;refine(zae HC _ hw).mono ?_;rintro e w1 ⟨⟨g5,us5,i5,j5,rfl,t5,l5,q5⟩,hb⟩;have F5:=uH (zlx (F:=w.heap.size) CR.off (by omega) HM.o.cs t5 l5 q5);obtain ⟨s5,hs5⟩: ∃s,s=w1.heap.size:=⟨_,rfl⟩;rw [<-hs5] at F5;clear t5 l5 q5 us5;have hl5:W4.heap.size<=s5:=by rw [hs5];exact hb.size
 have HS5:=uH hs5;have hn5:g5<s5:=by rw [hs5];exact j5
 clear j5;clear hs5;replace b0:=uH (zab b0.o hb);replace b1:=uH (zab b1.o hb);replace hw:=bT hw hb;have x12:=zaa b0.o 12 _ rfl;have f12:=zad b0.o 12;go_upto_region 6 with fail
 have hc:Chg (fun b=>b<w.heap.size+2) W4 (w1.setCell ⟨w.heap.size,12,none⟩ (sV g5 v.cs.length v.cs.length)):=((Chg.of hb (fun b=>b<w.heap.size+2)).set (by show w.heap.size<w.heap.size+2;omega) _);have hc1:Chg (fun b=>b<w.heap.size+2) w1 (w1.setCell ⟨w.heap.size,12,none⟩ (sV g5 v.cs.length v.cs.length)):=((Chg.refl (fun b=>b<w.heap.size+2) w1).set (by show w.heap.size<w.heap.size+2;omega) _);have b0n:Hd ((w1.setCell ⟨w.heap.size,12,none⟩ (sV g5 v.cs.length v.cs.length)).heap[w.heap.size]?=some (.cells #[sV g1 m.nb m.nb,sV g2 m.ns m.ns,.slice k3.a k3.n k3.c,iV v.g.fu,.bool v.g.up,iV v.g.t.r.v,.slice k3.ak k3.nk k3.ck,iV v.g.t.r.t,iV v.g.t.ver,.slice k3.av k3.nv k3.cv,.slice k3.ad k3.nd k3.cd,sV g4 v.us.length v.us.length,sV g5 v.cs.length v.cs.length,.slice m.an m.nn m.cn,iV v.now] 40 (0,0))):=zdu b0.o 12 _;have b1n:Hd ((w1.setCell ⟨w.heap.size,12,none⟩ (sV g5 v.cs.length v.cs.length)).heap[w.heap.size+1]?=some (.cells aZ 40 (0,0))):=by
  show _=_
  rw [ki _ _ _ _ (by show w.heap.size+1≠w.heap.size;omega)];exact b1.o
 replace hw:bZ w (w1.setCell ⟨w.heap.size,12,none⟩ (sV g5 v.cs.length v.cs.length)):=(hw.setCell (p:=⟨w.heap.size,12,none⟩) (kQ _) _);replace F1:=uH (zeg F1.o hc (by omega));replace F2:=uH (ze7 F2.o hc (by omega));replace F3:=uH (zfk F3.o E3.o hc);replace F4:=uH (zcb UR.chg F4.o hc (by omega));replace F5:=uH (zcb CR.chg F5.o hc1 (by omega));have hz5:s5= (w1.setCell ⟨w.heap.size,12,none⟩ (sV g5 v.cs.length v.cs.length)).heap.size:=by rw [HS5.o];simp [World.setCell]
 clear x12 f12 b0 b1 hb hc hc1 HC;generalize (w1.setCell ⟨w.heap.size,12,none⟩ (sV g5 v.cs.length v.cs.length))=W5 at *;have b0:=b0n;have b1:=b1n;clear b0n b1n;have hy5:s5<=W5.heap.size:=Kg hz5;clear hz5 HS5;have x13:=zaa b0.o 13 _ rfl;go_wp2_with fail;clear x13;refine(zae HN _ hw).mono ?_;rintro e w1 ⟨⟨g6,us6,i6,j6,rfl,t6,l6,q6⟩,hb⟩;have F6:=uH (zlx (F:=w.heap.size) MR.off (by omega) HM.o.net t6 l6 q6);obtain ⟨s6,hs6⟩: ∃s,s=w1.heap.size:=⟨_,rfl⟩;rw [<-hs6] at F6;clear t6 l6 q6 us6;have hl6:W5.heap.size<=s6:=by rw [hs6];exact hb.size
 have HS6:=uH hs6;have hn6:g6<s6:=by rw [hs6];exact j6
 clear j6;clear hs6;replace b0:=uH (zab b0.o hb);replace b1:=uH (zab b1.o hb);replace hw:=bT hw hb;have x13:=zaa b0.o 13 _ rfl;have f13:=zad b0.o 13;go_upto_region 7 with fail
 have hc:Chg (fun b=>b<w.heap.size+2) W5 (w1.setCell ⟨w.heap.size,13,none⟩ (sV g6 v.net.length v.net.length)):=((Chg.of hb (fun b=>b<w.heap.size+2)).set (by show w.heap.size<w.heap.size+2;omega) _);have hc1:Chg (fun b=>b<w.heap.size+2) w1 (w1.setCell ⟨w.heap.size,13,none⟩ (sV g6 v.net.length v.net.length)):=((Chg.refl (fun b=>b<w.heap.size+2) w1).set (by show w.heap.size<w.heap.size+2;omega) _);have b0n:Hd ((w1.setCell ⟨w.heap.size,13,none⟩ (sV g6 v.net.length v.net.length)).heap[w.heap.size]?=some (.cells #[sV g1 m.nb m.nb,sV g2 m.ns m.ns,.slice k3.a k3.n k3.c,iV v.g.fu,.bool v.g.up,iV v.g.t.r.v,.slice k3.ak k3.nk k3.ck,iV v.g.t.r.t,iV v.g.t.ver,.slice k3.av k3.nv k3.cv,.slice k3.ad k3.nd k3.cd,sV g4 v.us.length v.us.length,sV g5 v.cs.length v.cs.length,sV g6 v.net.length v.net.length,iV v.now] 40 (0,0))):=zdu b0.o 13 _;have b1n:Hd ((w1.setCell ⟨w.heap.size,13,none⟩ (sV g6 v.net.length v.net.length)).heap[w.heap.size+1]?=some (.cells aZ 40 (0,0))):=by
  show _=_
  rw [ki _ _ _ _ (by show w.heap.size+1≠w.heap.size;omega)];exact b1.o
 replace hw:bZ w (w1.setCell ⟨w.heap.size,13,none⟩ (sV g6 v.net.length v.net.length)):=(hw.setCell (p:=⟨w.heap.size,13,none⟩) (kQ _) _);replace F1:=uH (zeg F1.o hc (by omega));replace F2:=uH (ze7 F2.o hc (by omega));replace F3:=uH (zfk F3.o E3.o hc);replace F4:=uH (zcb UR.chg F4.o hc (by omega));replace F5:=uH (zcb CR.chg F5.o hc (by omega));replace F6:=uH (zcb MR.chg F6.o hc1 (by omega));have hz6:s6= (w1.setCell ⟨w.heap.size,13,none⟩ (sV g6 v.net.length v.net.length)).heap.size:=by rw [HS6.o];simp [World.setCell]
 clear x13 f13 b0 b1 hb hc hc1 HN;generalize (w1.setCell ⟨w.heap.size,13,none⟩ (sV g6 v.net.length v.net.length))=W6 at *;have b0:=b0n;have b1:=b1n;clear b0n b1n;have hy6:s6<=W6.heap.size:=Kg hz6;clear hz6 HS6;obtain ⟨x0,x1,x2,x3,x4,x5,x6,x7,x8,x9,x10,x11,x12,x13,x14⟩:=cl15 b0.o;obtain ⟨y0,y1,y2,y3,y4,y5,y6,y7,y8,y9,y10,y11,y12,y13,y14⟩:=cl15 b1.o;obtain ⟨f0,f1,f2,f3,f4,f5,f6,f7,f8,f9,f10,f11,f12,f13,f14⟩:=fr15 b1.o;clear b0 b1;go_wp2_with fail;refine kT (v:=.agg #[sV g1 m.nb m.nb,sV g2 m.ns m.ns,.slice k3.a k3.n k3.c,iV v.g.fu,.bool v.g.up,iV v.g.t.r.v,.slice k3.ak k3.nk k3.ck,iV v.g.t.r.t,iV v.g.t.ver,.slice k3.av k3.nv k3.cv,.slice k3.ad k3.nd k3.cd,sV g4 v.us.length v.us.length,sV g5 v.cs.length v.cs.length,sV g6 v.net.length v.net.length,iV v.now]) (by simp [results,Tryz.results36,go_sem,y0,y1,y2,y3,y4,y5,y6,y7,y8,y9,y10,y11,y12,y13,y14]) rfl ?_;have hc:Chg (fun b=>b<w.heap.size+2) W6 (puts W6 (w.heap.size+1) 0 [sV g1 m.nb m.nb,sV g2 m.ns m.ns,.slice k3.a k3.n k3.c,iV v.g.fu,.bool v.g.up,iV v.g.t.r.v,.slice k3.ak k3.nk k3.ck,iV v.g.t.r.t,iV v.g.t.ver,.slice k3.av k3.nv k3.cv,.slice k3.ad k3.nd k3.cd,sV g4 v.us.length v.us.length,sV g5 v.cs.length v.cs.length,sV g6 v.net.length v.net.length,iV v.now]):=(zbn _ _ _ _).mono fun b e=>by show b<w.heap.size+2;omega
 have hbel:bZ w (puts W6 (w.heap.size+1) 0 [sV g1 m.nb m.nb,sV g2 m.ns m.ns,.slice k3.a k3.n k3.c,iV v.g.fu,.bool v.g.up,iV v.g.t.r.v,.slice k3.ak k3.nk k3.ck,iV v.g.t.r.t,iV v.g.t.ver,.slice k3.av k3.nv k3.cv,.slice k3.ad k3.nd k3.cd,sV g4 v.us.length v.us.length,sV g5 v.cs.length v.cs.length,sV g6 v.net.length v.net.length,iV v.now]):=hw.trans ((zbn _ _ _ _).bl (fun b e=>by omega) hw.size);replace F1:=uH (zeg F1.o hc (by omega));replace F2:=uH (ze7 F2.o hc (by omega));replace F3:=uH (zfk F3.o E3.o hc);replace F4:=uH (zcb UR.chg F4.o hc (by omega));replace F5:=uH (zcb CR.chg F5.o hc (by omega));replace F6:=uH (zcb MR.chg F6.o hc (by omega));clear x0 y0 f0 x1 y1 f1 x2 y2 f2 x3 y3 f3 x4 y4 f4 x5 y5 f5 x6 y6 f6 x7 y7 f7 x8 y8 f8 x9 y9 f9 x10 y10 f10 x11 y11 f11 x12 y12 f12 x13 y13 f13 x14 y14 f14;have hfin:TwAns w v (.returned (vhv v ⟨some ⟨g1,0,none⟩,m.nb,m.nb,some ⟨g2,0,none⟩,m.ns,m.ns,k3,some ⟨g4,0,none⟩,v.us.length,v.us.length,some ⟨g5,0,none⟩,v.cs.length,v.cs.length,some ⟨g6,0,none⟩,v.net.length,v.net.length⟩)) (puts W6 (w.heap.size+1) 0 [sV g1 m.nb m.nb,sV g2 m.ns m.ns,.slice k3.a k3.n k3.c,iV v.g.fu,.bool v.g.up,iV v.g.t.r.v,.slice k3.ak k3.nk k3.ck,iV v.g.t.r.t,iV v.g.t.ver,.slice k3.av k3.nv k3.cv,.slice k3.ad k3.nd k3.cd,sV g4 v.us.length v.us.length,sV g5 v.cs.length v.cs.length,sV g6 v.net.length v.net.length,iV v.now]):=by
  generalize (puts W6 (w.heap.size+1) 0 [sV g1 m.nb m.nb,sV g2 m.ns m.ns,.slice k3.a k3.n k3.c,iV v.g.fu,.bool v.g.up,iV v.g.t.r.v,.slice k3.ak k3.nk k3.ck,iV v.g.t.r.t,iV v.g.t.ver,.slice k3.av k3.nv k3.cv,.slice k3.ad k3.nd k3.cd,sV g4 v.us.length v.us.length,sV g5 v.cs.length v.cs.length,sV g6 v.net.length v.net.length,iV v.now])=W7 at *;refine⟨⟨⟨some ⟨g1,0,none⟩,m.nb,m.nb,some ⟨g2,0,none⟩,m.ns,m.ns,k3,some ⟨g4,0,none⟩,v.us.length,v.us.length,some ⟨g5,0,none⟩,v.cs.length,v.cs.length,some ⟨g6,0,none⟩,v.net.length,v.net.length⟩,g4,g5,g6,rfl,⟨F1.o,F2.o,F3.o, ?_, ?_, ?_, ?_, ?_, ?_,by omega,by omega,by omega,rfl,rfl,rfl⟩⟩,hbel⟩
  { exact .at_ (by unfold KT;omega) }
  { exact .at_ (by unfold KT;omega) }
  { exact O3.o.wide F3.o (fun b e=>.inl (by unfold KT at e;omega)) }
  { exact F4.o.wide UR.off (fun b e=>.inl (by unfold KT at e;omega)) }
  { exact F5.o.wide CR.off (fun b e=>.inl (by unfold KT at e;omega)) }
  { exact F6.o.wide MR.off (fun b e=>.inl (by unfold KT at e;omega)) }
 exact hfin
end
section
attribute [local go_sem ↓] kM kO
theorem zbl {e:Int} {r:LI} (h:za0 (e::r)=0):e=0/\za0 r=0:=by
 unfold za0 at h
 by_cases he:e=0
 { rw [KJ (by simpa using he)] at h;exact⟨he,h⟩ }
 { rw [KK he] at h;exact absurd h he }
structure VFine (v:Vh):Prop where
 bk:bookE v.ss=0
 sg:sigE v.sg=0
 gt:gtE v.g=0
 us:unsE v.us v.g.vo.length=0
 many:v.cs.length<=8/\v.net.length<=24
 cs:cpsE v.us.length v.cs=0
 net:netE v.us.length v.net=0
 now:inB v.now 0 100000=true
theorem zec (h:vhE v=0):VFine v:=by
 rw [vhE_eq] at h;obtain ⟨h1,h⟩:=zbl h;obtain ⟨h2,h⟩:=zbl h;obtain ⟨h3,h⟩:=zbl h;obtain ⟨h4,h⟩:=zbl h;obtain ⟨h5,h⟩:=zbl h;obtain ⟨h6,h⟩:=zbl h;obtain ⟨h7,h⟩:=zbl h;obtain ⟨h8,h⟩:=zbl h;refine⟨h1,h2,h3,h4, ?_,h6,h7, ?_⟩
 {
 unfold manyE at h5
 split at h5
 { assumption }
 { cases h5 } }
 {
 unfold nowE at h8
 split at h8
 { assumption }
 { cases h8 } }
theorem cps_ok {units:Nat} {l:List Cp} (h:cpsE units l=0) {x:Cp} (hx:x∈l): ∃i,cpE units i x=0:=by
 have: ∀(l:List Cp) (k:Nat),za0 (l.mapIdx (fun i=>cpE units (i+k)))=0->∀x∈l,∃i,cpE units i x=0:=by
  intro l
  induction l with
  |nil=>intro _ _ x hx;cases hx
  |cons y r ih=>
   intro k h0 x hx;rw [List.mapIdx_cons] at h0;obtain ⟨h1,h2⟩:=zbl h0
   rcases kt.1 hx with e|e
   { rw [e];exact⟨_,h1⟩ }
   {
   refine ih (k+1) ?_ x e;rw [<-h2]
   congr 2
   funext i
   rw [show i+(k+1)=i+1+k by omega] }
 exact this l 0 (by simpa [cpsE] using h) x hx
theorem cp_small {units i:Nat} {x:Cp} (hu:units<=4) (h:cpE units i x=0):CSm x:=by
 unfold cpE at h
 split at h
 { cases h }
 {
 rename_i h1
 have h2:x.ims.length=units:=ky fun e=>h1 (.inr (.inl e))
 have h3:x.ts.length=units:=ky fun e=>h1 (.inr (.inr e))
 refine⟨by omega,by omega,fun r hr=> ?_⟩;have hz:za0 (x.ims.map imgE)=0:=ky fun e=>by rw [KK e] at h;exact e h
 have: ∀(l:LL),za0 (l.map imgE)=0->∀r∈l,imgE r=0:=by
  intro l
  induction l with
  |nil=>intro _ x hx;cases hx
  |cons y r ih=>
   intro h0 x hx;obtain ⟨g1,g2⟩:=zbl h0
   rcases kt.1 hx with e|e
   { rw [e];exact g1 }
   { exact ih g2 x e }
 have hi:=this _ hz r hr;unfold imgE at hi
 split at hi
 { rename_i h5;unfold inR at h5;simp at h5;omega }
 { cases hi } }
theorem VFine.small {K:Nat->Prop} {m:VA} (h:VFine v) (hv:VIn w K m v):VSm v:=by
 obtain ⟨s1,s2,s3,s4⟩:=hv.g.sizes h.gt;have l1:=hv.g.ws.len;have l2:=hv.g.ks.len;have l3:=hv.g.vo.len;have l4:=hv.g.di.len;have hul:v.us.length=v.g.vo.length:=by
  have:=h.us;unfold unsE at this
  split at this
  { cases this }
  { rename_i h1;exact ky fun e=>h1 e }
 have hm:=h.many;refine⟨?_, ?_,by omega,by omega,by omega,by omega,by omega,fun u hu=> ?_,by omega,fun x hx=> ?_,by omega,fun x hx=> ?_⟩
 {
 have:=h.bk;unfold bookE at this
 split at this
 { cases this }
 { omega } }
 {
 have:=h.sg;unfold sigE at this
 split at this
 { cases this }
 { omega } }
 {
 obtain ⟨k,hk⟩:=List.mem_iff_getElem?.1 hu;have:=zk0 (zj6 h.us hk);omega }
 {
 obtain ⟨i,hi⟩:=cps_ok h.cs hx;exact cp_small (by omega) hi }
 {
 have:=(zic (zhn h.net hx).1).2;omega }
theorem VTw.own {bu bc bn:Nat} {m:VA} (h:VTw w F bu bc bn m v) (hF:F<=w.heap.size) (hZ: ∀b,Z b->b<F):VOwn (w.alloc (.cells (vhC v m) 40)) F Z ⟨w.heap.size,bu,bc,bn⟩ m v:=by
 have hb:bZ w (w.alloc (.cells (vhC v m) 40)):=bA1;have l1:=h.us.lt;have l2:=h.cs.lt;have l3:=h.net.lt;have hK: ∀b,KV Z ⟨w.heap.size,bu,bc,bn⟩ b->KT F bu bc bn b\/w.heap.size<=b:=fun b e=>by
  rcases e with e|e|e|e|e
  { exact .inl (.inl (hZ b e)) }
  { exact .inr (Kg e.symm) }
  { exact .inl (.inr (.inl e)) }
  { exact .inl (.inr (.inr (.inl e))) }
  { exact .inl (.inr (.inr (.inr e))) }
 exact⟨kP w (.cells (vhC v m) 40),h.ss.bl hb,h.sg.bl hb,h.g.bl hb,h.ss.at_.wide h.ob hK,h.sg.at_.wide h.os hK,h.og.wide h.g hK,(h.us.wide UR.off hK).chg UR.chg (.of hb _) (hb.block _ l1.2),(h.cs.wide CR.off hK).chg CR.chg (.of hb _) (hb.block _ l2.2),(h.net.wide MR.off hK).chg MR.chg (.of hb _) (hb.block _ l3.2),hF,fun b e=>by have:=hZ b e;simp;omega,by dsimp only;omega,by dsimp only;omega,by dsimp only;omega,h.n4,h.n5,h.n6⟩
def DoAns (w:World) (r:Vh×Int) (e:Ending) (w' :World):Prop:=(∃m,e=.returned (.tuple #[vhv r.1 m,iV r.2])/\VIn w' (fun b=>b<w.heap.size) m r.1)/\bZ w w'
def va0:VA:=⟨none,0,0,none,0,0,ga0,none,0,0,none,0,0,none,0,0⟩
theorem vin0 (w:World) (K:Nat->Prop):VIn w K va0 vh0:=
 ⟨⟨.inl rfl,rfl,kQ _,by decide,fun s h=>by cases h⟩,⟨.inl rfl,rfl,by decide⟩,⟨⟨.inl rfl,rfl,kQ _,by decide⟩,⟨.inl rfl,rfl,by decide⟩,⟨.inl rfl,rfl,kQ _,by decide⟩,⟨.inl rfl,rfl,kQ _,by decide⟩⟩,⟨⟨[],.inl rfl,rfl,.inl rfl⟩,rfl,kQ _,by decide⟩,⟨⟨[],.inl rfl,rfl,.inl rfl⟩,rfl,kQ _,by decide⟩,⟨⟨[],.inl rfl,rfl,.inl rfl⟩,rfl,kQ _,by decide⟩,.inl rfl,.inl rfl,⟨.inl rfl,.inl rfl,.inl rfl,.inl rfl⟩⟩
theorem do_e1 {x:Hp} (h:vhE v≠0):doS' v x= (vh0,vhE v):=by unfold doS';rw [KK h]
theorem do_e2 {x:Hp} (h:vhE v=0) (h2: (hapS v x).2≠0):doS' v x= (vh0,(hapS v x).2):=by unfold doS';rw [KJ (by simpa using h),KK h2]
theorem do_0 {x:Hp} (h:vhE v=0) (h2: (hapS v x).2=0):doS' v x=hapS v x:=by unfold doS';rw [KJ (by simpa using h),KJ (by simpa using h2)]
end
end Go.Proofs.YthmekfcgdfckaaaGreatDoor
