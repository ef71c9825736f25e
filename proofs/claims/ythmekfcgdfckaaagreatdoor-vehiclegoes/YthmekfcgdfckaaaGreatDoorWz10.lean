/- Facts. -/
import Derived.Test.YthmekfcgdfckaaaGreatDoorWz8
import Derived.Test.YthmekfcgdfckaaaGreatDoorWz9
set_option maxRecDepth 1000000
set_option maxHeartbeats 0
namespace Go.Proofs.YthmekfcgdfckaaaGreatDoor
open Go.RowKit
variable {w:World} {bs:List Bool} {F B bv bd:Nat} {m:GA} {g:Gt} {a:oA}
section
attribute [local go_sem ↓] kM kO
def setVo (g:Gt) (u:Int):Gt:=⟨g.ws,g.fu,g.up,g.t,setB g.vo u,g.di⟩
def setDi (g:Gt) (u:Int):Gt:=⟨g.ws,g.fu,g.up,g.t,g.vo,setB g.di u⟩
theorem zgy (l:List Bool) (u:Int): (setB l u).length=l.length:=by unfold setB;simp
theorem OwnB.setB {b:Nat} (h:OwnB w b bs) (u:Nat):OwnB (w.setCell ⟨b,u,none⟩ (.bool true)) b (setB bs u):=by
 have:=h.set u true;unfold Go.Proofs.YthmekfcgdfckaaaGreatDoor.setB
 rwa [kp]
theorem GBox.setV (h:GBox w F B m g bv bd) (u:Nat):GBox (w.setCell ⟨bv,u,none⟩ (.bool true)) F B m (setVo g u) bv bd:=by
 have hT:w.grownBy (w.setCell ⟨bv,u,none⟩ (.bool true)) (some bv):=zaw _ _ _ _;have o:=h.own;exact⟨zar h.box hT h.nv,⟨o.ws.turns hT o.wv,o.ks.turns hT o.kv,o.av,o.ad,o.vo.setB u,o.di.turns hT (Ne.symm o.ne),⟨(zgy _ _).trans o.nv.1,o.nv.2⟩,o.nd,o.fv,o.fd,o.ne,o.wv,o.wd,o.kv,o.kd,o.fa,o.fk⟩,h.fB,h.nv,h.nd,h.oa,h.ok⟩
theorem GBox.setD (h:GBox w F B m g bv bd) (u:Nat):GBox (w.setCell ⟨bd,u,none⟩ (.bool true)) F B m (setDi g u) bv bd:=by
 have hT:w.grownBy (w.setCell ⟨bd,u,none⟩ (.bool true)) (some bd):=zaw _ _ _ _;have o:=h.own;exact⟨zar h.box hT h.nd,⟨o.ws.turns hT o.wd,o.ks.turns hT o.kd,o.av,o.ad,o.vo.turns hT o.ne,o.di.setB u,o.nv,⟨(zgy _ _).trans o.nd.1,o.nd.2⟩,o.fv,o.fd,o.ne,o.wv,o.wd,o.kv,o.kd,o.fa,o.fk⟩,h.fB,h.nv,h.nd,h.oa,h.ok⟩
theorem OwnB.cell {b:Nat} (h:OwnB w b bs) (i:Nat) (hi:i<bs.length):ce w b i=some (.bool (bs.getD i false))/\cZ w b i=false:=by
 obtain ⟨cur,h1,h2,h3⟩:=h;refine⟨zaa h1 i _ ?_,zad h1 i⟩;have:=zhw bs i hi;rw [<-h2,List.getElem?_take,KK hi] at this
 simpa using this
theorem zi7 (w:World) (x y:Int) (t:TypeId):BI (w.alloc (.cells #[iV x,iV y] t)) (some ⟨w.heap.size,0,none⟩) 2 [x,y]:=
 ⟨zk9 (zaa (kP _ _) 0 _ rfl) (zaa (kP _ _) 1 _ rfl),rfl,by decide⟩
def ctgV (g:Gt) (s:Gs) (u kind:Int):Gt:=if allB (setB g.vo u)=true then(noteG (setVo g u) s [kind,s.n]).1 else setVo g u
theorem zq1 (F B:Nat) (m:GA) (g:Gt) (bv bd:Nat) (s:Gs) (u:Nat) (kind:Int) (w:World) (h:GBox w F B m g bv bd) (hu:u<m.nv):
 Cq 277 #[.pointer (some ⟨B,0,none⟩),sV bv m.nv m.cv,iV u,gsv s,iV kind] w fun e w' =>e=.returned (.tuple #[])/\(∃m',GBox w' F B m' (ctgV g s u kind) bv bd)/\G3 w w' B bv bd:=by
 have h4:=h.own.nv.2.2.2;have hl:=h.own.nv.1;have hcl:=h.own.vo.cell u (by rw [hl];exact hu);have hT:w.grownBy (w.setCell ⟨bv,u,none⟩ (.bool true)) (some bv):=zaw _ _ _ _;have h1:=GBox.setV h u;have hw:Below (w.setCell ⟨bv,u,none⟩ (.bool true)).heap.size (w.setCell ⟨bv,u,none⟩ (.bool true)) ((w.setCell ⟨bv,u,none⟩ (.bool true)).alloc (.cells (aS s) 72)):=bA1;have h2:=uH (h1.bl hw);have hX:Hd (((w.setCell ⟨bv,u,none⟩ (.bool true)).alloc (.cells (aS s) 72)).heap[(w.setCell ⟨bv,u,none⟩ (.bool true)).heap.size]?=some (.cells (aS s) 72 (0,0))):=kP _ _;have G2:=uH ((g3_of (B:=B) (b1:=bv) (b2:=bd) hT (.inr (.inl rfl))).trans (zcw hw));have hltb:=h.own.vo.lt;have HC:=uH (zhb (some ⟨bv,0,none⟩) m.nv m.cv (setB g.vo u) _ ⟨h2.o.own.vo.bools,(zgy _ _).trans hl,h.own.nv.2.1,kc h4 (by decide)⟩ (by omega));have HN:=uH (fun ar nr cr r W (hb:GBox W F B m (setVo g u) bv bd) hr=>zgr F B m (setVo g u) bv bd s ar nr cr r W hb hr);have hsz: (w.setCell ⟨bv,u,none⟩ (.bool true)).heap.size=w.heap.size:=by simp
 rw [hsz] at hX;obtain ⟨c0,c1⟩:=hcl;unfold gsv at *;have huI: (u:Int)< (m.nv:Int):=by omega
 clear h h1 hw hl hT hsz;go_enter Tryz.func277,Tryz.ntmps277;go_wp2_with fail;refine(zae HC).mono ?_;rintro e w1 ⟨rfl,rfl⟩;clear HC;generalize ((w.setCell ⟨bv,u,none⟩ (.bool true)).alloc (.cells (aS s) 72))=W at *;clear c0 c1;cases z:allB (setB g.vo u)
 {
 have HE:Hd (ctgV g s u kind=setVo g u):=by show _=_;unfold ctgV;rw [z];rfl
 go_wp2_with fail
 go_end0
 rw [HE.o];exact⟨rfl,⟨m,h2.o⟩,G2.o⟩ }
 {
 have HE:Hd (ctgV g s u kind= (noteG (setVo g u) s [kind,s.n]).1):=by show _=_;unfold ctgV;rw [z];rfl
 obtain ⟨s0,s1,s2,s3,s4⟩:=cl5 hX.o;have hb3:=uH ((kS W.heap.size W).alloc (kQ _) (.cells #[iV kind,iV s.n] 3));have HR:=uH ((zae HN) (some ⟨W.heap.size,0,none⟩) 2 2 [kind,s.n] _ (h2.o.bl hb3.o) (zi7 W kind s.n 3));go_wp2_with fail;refine(zae HR).mono ?_;rintro e w2 ⟨rfl,hb2,hg2⟩;have HB2:=uH hb2;have HG2:=uH hg2;clear hb2 hg2 HR HN;go_wp2_with fail
 go_end0
 rw [HE.o];exact⟨rfl,HB2.o,(G2.o.trans (zcw hb3.o)).trans HG2.o⟩ }
def ctgD (g:Gt) (s:Gs) (u kind:Int):Gt:=if allB (setB g.di u)=true then(noteG (setDi g u) s [kind,s.n]).1 else setDi g u
theorem zrf (F B:Nat) (m:GA) (g:Gt) (bv bd:Nat) (s:Gs) (u:Nat) (kind:Int) (w:World) (h:GBox w F B m g bv bd) (hu:u<m.nd):
 Cq 277 #[.pointer (some ⟨B,0,none⟩),sV bd m.nd m.cd,iV u,gsv s,iV kind] w fun e w' =>e=.returned (.tuple #[])/\(∃m',GBox w' F B m' (ctgD g s u kind) bv bd)/\G3 w w' B bv bd:=by
 have h4:=h.own.nd.2.2.2;have hl:=h.own.nd.1;have hcl:=h.own.di.cell u (by rw [hl];exact hu);have hT:w.grownBy (w.setCell ⟨bd,u,none⟩ (.bool true)) (some bd):=zaw _ _ _ _;have h1:=GBox.setD h u;have hw:Below (w.setCell ⟨bd,u,none⟩ (.bool true)).heap.size (w.setCell ⟨bd,u,none⟩ (.bool true)) ((w.setCell ⟨bd,u,none⟩ (.bool true)).alloc (.cells (aS s) 72)):=bA1;have h2:=uH (h1.bl hw);have hX:Hd (((w.setCell ⟨bd,u,none⟩ (.bool true)).alloc (.cells (aS s) 72)).heap[(w.setCell ⟨bd,u,none⟩ (.bool true)).heap.size]?=some (.cells (aS s) 72 (0,0))):=kP _ _;have G2:=uH ((g3_of (B:=B) (b1:=bv) (b2:=bd) hT (.inr (.inr rfl))).trans (zcw hw));have hltb:=h.own.di.lt;have HC:=uH (zhb (some ⟨bd,0,none⟩) m.nd m.cd (setB g.di u) _ ⟨h2.o.own.di.bools,(zgy _ _).trans hl,h.own.nd.2.1,kc h4 (by decide)⟩ (by omega));have HN:=uH (fun ar nr cr r W (hb:GBox W F B m (setDi g u) bv bd) hr=>zgr F B m (setDi g u) bv bd s ar nr cr r W hb hr);have hsz: (w.setCell ⟨bd,u,none⟩ (.bool true)).heap.size=w.heap.size:=by simp
 rw [hsz] at hX;obtain ⟨c0,c1⟩:=hcl;unfold gsv at *;have huI: (u:Int)< (m.nd:Int):=by omega
 clear h h1 hw hl hT hsz;go_enter Tryz.func277,Tryz.ntmps277;go_wp2_with fail;refine(zae HC).mono ?_;rintro e w1 ⟨rfl,rfl⟩;clear HC;generalize ((w.setCell ⟨bd,u,none⟩ (.bool true)).alloc (.cells (aS s) 72))=W at *;clear c0 c1;cases z:allB (setB g.di u)
 {
 have HE:Hd (ctgD g s u kind=setDi g u):=by show _=_;unfold ctgD;rw [z];rfl
 go_wp2_with fail
 go_end0
 rw [HE.o];exact⟨rfl,⟨m,h2.o⟩,G2.o⟩ }
 {
 have HE:Hd (ctgD g s u kind= (noteG (setDi g u) s [kind,s.n]).1):=by show _=_;unfold ctgD;rw [z];rfl
 obtain ⟨s0,s1,s2,s3,s4⟩:=cl5 hX.o;have hb3:=uH ((kS W.heap.size W).alloc (kQ _) (.cells #[iV kind,iV s.n] 3));have HR:=uH ((zae HN) (some ⟨W.heap.size,0,none⟩) 2 2 [kind,s.n] _ (h2.o.bl hb3.o) (zi7 W kind s.n 3));go_wp2_with fail;refine(zae HR).mono ?_;rintro e w2 ⟨rfl,hb2,hg2⟩;have HB2:=uH hb2;have HG2:=uH hg2;clear hb2 hg2 HR HN;go_wp2_with fail
 go_end0
 rw [HE.o];exact⟨rfl,HB2.o,(G2.o.trans (zcw hb3.o)).trans HG2.o⟩ }
end
section
attribute [local go_sem ↓] kM kO
def ga0:GA:=⟨none,0,0,none,0,0,none,0,0,none,0,0⟩
theorem gin0 (w:World):GIn w ga0 gt0:=⟨⟨.inl rfl,rfl,kQ _,by decide⟩,⟨.inl rfl,rfl,by decide⟩,⟨.inl rfl,rfl,kQ _,by decide⟩,⟨.inl rfl,rfl,kQ _,by decide⟩⟩
structure GFr (F:Nat) (m:GA):Prop where
 a:zal F m.a
 ak:zal F m.ak
 av:zal F m.av
 ad:zal F m.ad
theorem gfr0 (F:Nat):GFr F ga0:=⟨zal.nil _,zal.nil _,zal.nil _,zal.nil _⟩
theorem zal.lower {F' :Nat} (h:zal F a) (hF:F' <=F):zal F' a:=fun ad e=>kc hF (h ad e)
theorem GFr.lower {F' :Nat} (h:GFr F m) (hF:F' <=F):GFr F' m:=⟨h.a.lower hF,h.ak.lower hF,h.av.lower hF,h.ad.lower hF⟩
theorem GOwn.fr {F' :Nat} (h:GOwn w F m g bv bd) (hF:F' <=F):GFr F' m:=
 ⟨h.fa.lower hF,h.fk.lower hF,fun ad e=>by rw [h.av] at e;cases e;exact kc hF h.fv,fun ad e=>by rw [h.ad] at e;cases e;exact kc hF h.fd⟩
def GAns (w:World) (r:Gt×Int) (e:Ending) (w' :World):Prop:=(∃m,e=.returned (.tuple #[gtv r.1 m,iV r.2])/\GIn w' m r.1/\GFr w.heap.size m)/\bZ w w'
theorem GOwn.gin (h:GOwn w F m g bv bd):GIn w m g:=
 ⟨h.ws,h.ks,⟨by rw [h.av];exact h.vo.bools,h.nv.1,h.nv.2.1,kc h.nv.2.2.2 (by decide)⟩,⟨by rw [h.ad];exact h.di.bools,h.nd.1,h.nd.2.1,kc h.nd.2.2.2 (by decide)⟩⟩
theorem GOwn.turns {w' :World} (h:GOwn w F m g bv bd) (hg:w.grownBy w' (some B)) (h1:Off B m.a) (h2:Off B m.ak) (h3:bv≠B) (h4:bd≠B):GOwn w' F m g bv bd:=
 ⟨h.ws.turns hg h1,h.ks.turns hg h2,h.av,h.ad,h.vo.turns hg h3,h.di.turns hg h4,h.nv,h.nd,h.fv,h.fd,h.ne,h.wv,h.wd,h.kv,h.kd,h.fa,h.fk⟩
theorem off_low (h:zal F a) (hB:B<F):Off B a:=za6 h hB
theorem GOwn.low {w' :World} (h:GOwn w F m g bv bd) (hg:w.grownBy w' (some B)) (hB:B<F):GOwn w' F m g bv bd:=
 h.turns hg (off_low h.fa hB) (off_low h.fk hB) (by have:=h.fv;omega) (by have:=h.fd;omega)
theorem GOwn.boxed {w5:World} {k:GA} (ho:GOwn w5 F k g bv bd) (hf:F<=w5.heap.size) (ha:Off w5.heap.size k.a/\Off w5.heap.size k.ak):GBox (w5.alloc (.cells (aG k g) 35)) F w5.heap.size k g bv bd:=
 ⟨kP _ _,ho.bl (zaf (kS w5.heap.size w5) _),hf,Nat.ne_of_gt ho.vo.lt,Nat.ne_of_gt ho.di.lt,ha.1,ha.2⟩
theorem gt_pow {W:World} {f:Int} {up:Bool} (h:W.heap[B]?=some (gtO g m)):
 ((W.setCell ⟨B,2,none⟩ (.bool up)).setCell ⟨B,1,none⟩ (iV f)).heap[B]?=some (gtO ⟨g.ws,f,up,g.t,g.vo,g.di⟩ m):=by
 unfold gtO at *;simp only [World.setCell,KP]
 simp [h]
theorem GBox.power (h:GBox w F B m g bv bd) (f:Int) (up:Bool):GBox ((w.setCell ⟨B,2,none⟩ (.bool up)).setCell ⟨B,1,none⟩ (iV f)) F B m ⟨g.ws,f,up,g.t,g.vo,g.di⟩ bv bd:=by
 have hT:w.grownBy ((w.setCell ⟨B,2,none⟩ (.bool up)).setCell ⟨B,1,none⟩ (iV f)) (some B):=zac (zac (kf _ _) _ _) _ _;have o:=h.own.turns hT h.oa h.ok (Ne.symm h.nv) (Ne.symm h.nd);exact⟨gt_pow h.box,⟨o.ws,o.ks,o.av,o.ad,o.vo,o.di,o.nv,o.nd,o.fv,o.fd,o.ne,o.wv,o.wd,o.kv,o.kd,o.fa,o.fk⟩,h.fB,h.nv,h.nd,h.oa,h.ok⟩
theorem GIn.sizes (h:GIn w m g) (h0:gtE g=0):m.n<=192/\m.nk<=1000/\(0<m.nv/\m.nv<=4)/\(0<m.nd/\m.nd<=4):=by
 obtain ⟨h1,h2,h3,h4⟩:=zen h0;have a1:=(zdm h1).2.2.1;have a2:g.t.r.e=0:=by
  cases z:inR g.t.ver 0 1000
  { rw [zla z] at h4;cases h4 }
  { rw [zkd z] at h4;exact h4 }
 rw [h.ws.len] at a1;rw [h.vo.len] at h2 h3;rw [h.di.len] at h3;refine⟨a1, ?_,by omega,by omega⟩;rw [<-h.ks.len];cases z1:inR g.t.r.v 1 1000
 { unfold Rt.e at a2;rw [zlw z1] at a2;cases a2 }
 cases z2:inR g.t.r.ks.length 1 6
 { unfold Rt.e at a2;rw [zle z1 z2] at a2;cases a2 }
 simp [inR] at z2
 omega
theorem gBootS_e (h:gtE g≠0):zdb g= (gt0,gtE g):=by unfold zdb;rw [KK h]
theorem gBootS_0 (h:gtE g=0):zdb g= (forgG ⟨g.ws,-1,true,g.t,g.vo,g.di⟩,0):=by unfold zdb;rw [KJ (by simpa using h)];rfl
theorem zol (g:Gt) (m:GA) (w:World) (h:GIn w m g):
 Cq 199 #[gtv g m] w (GAns w (zdb g)):=by
 have E1:=fun h=>gBootS_e (g:=g) h
 have E0:=fun h=>gBootS_0 (g:=g) h
 have hw:bZ w ((w.alloc (.cells (aG m g) 35)).alloc (.cells aY 35)):=bA2;have b1:Hd (((w.alloc (.cells (aG m g) 35)).alloc (.cells aY 35)).heap[w.heap.size+1]?=some (.cells aY 35 (0,0))):=by have:=kP (w.alloc (.cells (aG m g) 35)) (.cells aY 35);rw [show(w.alloc (.cells (aG m g) 35)).heap.size=w.heap.size+1 from by simp] at this;exact this
 have b0:Hd (((w.alloc (.cells (aG m g) 35)).alloc (.cells aY 35)).heap[w.heap.size]?=some (.cells (aG m g) 35 (0,0))):=zab (kP w (.cells (aG m g) 35)) (zaf (kS _ _) _);have HC:=uH (fun W (hW:bZ w W)=>zca g m W (h.bl hW));have HP:=uH h;have hx:w.heap.size<=w.heap.size+1:=by omega
 clear h;unfold gtv at HC;unfold gtv;go_enter Tryz.func199,Tryz.ntmps199;go_wp2_with fail;generalize ((w.alloc (.cells (aG m g) 35)).alloc (.cells aY 35))=W at *;refine(zae HC _ hw).mono ?_;rintro e w1 ⟨rfl,hb⟩;replace b0:=uH (zab b0.o hb);replace b1:=uH (zab b1.o hb);replace hw:=bT hw hb;clear hb HC
 by_cases z1:gtE g=0
 rotate_left
 {
 have HE:=uH (E1 z1);have d1: (gtE g !=0)=true:=by simpa using z1
 obtain ⟨y0,y1,y2,y3,y4,y5,y6,y7,y8⟩:=cl9 b1.o;obtain ⟨f0,f1,f2,f3,f4,f5,f6,f7,f8⟩:=fr9 b1.o;clear z1 E1 E0;generalize gtE g=q at *;go_wp2_with fail;refine kT (v:=.tuple #[gtv gt0 ga0,iV q]) (by simp [results,Tryz.results199,go_sem,gtv,gt0,ga0,y0,y1,y2,y3,y4,y5,y6,y7,y8]) rfl ?_;rw [HE.o];exact⟨⟨ga0,rfl,gin0 _,gfr0 _⟩,zam hw (zac (zac (zac (zac (zac (zac (zac (zac (zac (kf w1 (some (w.heap.size+1))) 0 (nV)) 1 (iV 0)) 2 (.bool false)) 3 (iV 0)) 4 (nV)) 5 (iV 0)) 6 (iV 0)) 7 (nV)) 8 (nV)) hx hw.size⟩ }
 have HE:=uH (E0 z1);obtain ⟨hlw,hlk,hlv,hld⟩:=HP.o.sizes z1;rw [z1];have HT:=uH (fun W (hW:bZ w W)=>zdc g m W (HP.o.bl hW) hlw hlk hlv hld);unfold gtv at HT;clear z1 E0 E1 hlw hlk hlv hld;obtain ⟨x0,x1,x2,x3,x4,x5,x6,x7,x8⟩:=cl9 b0.o;go_wp2_with fail;have hF0:=hw.size;refine(zae HT _ hw).mono ?_;rintro e w5 ⟨⟨k,bv,bd,rfl,ho,hoff⟩,hb5⟩;have hlt:=zak b1.o;replace b1:=uH (zab (zab b1.o hb5) (zaf (kS w5.heap.size w5) (.cells (aG k g) 35)));have hbx:=uH (ho.boxed hb5.size (hoff _ (.inr (kQ _))));have hw5:bZ w1 (w5.alloc (.cells (aG k g) 35)):=zaf hb5 _;have hB:=hb5.size;clear HT ho hoff hb5 b0 x0 x1 x2 x3 x4 x5 x6 x7 x8;unfold gtv;go_upto_region 5 with fail
 generalize (w5.alloc (.cells (aG k g) 35))=W5 at *;generalize w5.heap.size=B at *;have bB:=uH hbx.o.box;unfold gtO at bB;have x1:=zaa bB.o 1 _ rfl;have x2:=zaa bB.o 2 _ rfl;have f1:=zad bB.o 1;have f2:=zad bB.o 2;have hT:W5.grownBy ((W5.setCell ⟨B,2,none⟩ (.bool true)).setCell ⟨B,1,none⟩ (iV (-1))) (some B):=zac (zac (kf _ _) _ _) _ _;have hb6:=uH (hbx.o.power (-1) true);have HF:=uH (zgq _ _ _ _ _ _ _ hb6.o);go_wp2_with fail;refine(zae HF).mono ?_;rintro e w6 ⟨rfl,hb7,hg7⟩;have g7:=(g3_of (B:=B) (b1:=bv) (b2:=bd) hT (.inl rfl)).trans hg7;have hb8:=g7.bel hw5 hB hb7.own.fv hb7.own.fd hw5.size;replace b1:=uH (g7.blk b1.o (by omega) (by have:=hb7.own.fv;omega) (by have:=hb7.own.fd;omega));replace hw:=bT hw hb8;have bC:=uH hb7.box;unfold gtO at bC;have HB:=uH hb7;clear hb7 hg7 g7 hb8 HF x1 x2 f1 f2 bB hb6 hbx hT;obtain ⟨x0,x1,x2,x3,x4,x5,x6,x7,x8⟩:=cl9 bC.o;obtain ⟨y0,y1,y2,y3,y4,y5,y6,y7,y8⟩:=cl9 b1.o;obtain ⟨f0,f1,f2,f3,f4,f5,f6,f7,f8⟩:=fr9 b1.o;go_wp2_with fail;refine kT (v:=.tuple #[gtv (forgG ⟨g.ws,-1,true,g.t,g.vo,g.di⟩) k,iV 0]) (by simp [results,Tryz.results199,go_sem,gtv,forgG,y0,y1,y2,y3,y4,y5,y6,y7,y8]) rfl ?_;rw [HE.o];have hT:=zac (zac (zac (zac (zac (zac (zac (zac (zac (kf w6 (some (w.heap.size+1))) 0 (.slice k.a k.n k.c)) 1 (iV (-1))) 2 (.bool true)) 3 (iV g.t.r.v)) 4 (.slice k.ak k.nk k.ck)) 5 (iV g.t.r.t)) 6 (iV g.t.ver)) 7 (.slice k.av k.nv k.cv)) 8 (.slice k.ad k.nd k.cd);exact⟨⟨k,rfl,(HB.o.own.low hT hlt).gin,HB.o.own.fr hF0⟩,zam hw hT hx hw.size⟩
end
section
attribute [local go_sem ↓] kM kO
theorem gvUp_e (h:upE g≠0):gvUp g= (gt0,upE g):=by unfold gvUp;rw [KK h]
theorem gvUp_l (h:upE g=0) (h2: (decide ((gOf g.ws).n=0)||decG (gOf g.ws))=true):gvUp g= (gt0,12):=by unfold gvUp;rw [KJ (by simpa using h),KK h2]
theorem gvUp_0 (h:upE g=0) (h2: (decide ((gOf g.ws).n=0)||decG (gOf g.ws))=false):gvUp g= ((noteG g (gOf g.ws) [3,(gOf g.ws).n]).1,0):=by unfold gvUp;rw [KJ (by simpa using h),KJ (by rw [h2];decide)]
theorem zlf (h:upE g≠0):gUpS g= (gs0,upE g):=by unfold gUpS;rw [KK h]
theorem zld (h:upE g=0):gUpS g= (gOf g.ws,0):=by unfold gUpS;rw [KJ (by simpa using h)]
theorem zko (h:upE g=0):gtE g=0:=by
 rcases Decidable.em (gtE g=0) with h1|h1
 { exact h1 }
 {
 rw [upE_e h1] at h;exact absurd h h1 }
theorem zrg (g:Gt) (m:GA) (w:World) (h:GIn w m g):
 Cq 200 #[gtv g m] w (GAns w (gvUp g)):=by
 have E1:=fun h=>gvUp_e (g:=g) h
 have E2:=fun h h2=>gvUp_l (g:=g) h h2
 have E0:=fun h h2=>gvUp_0 (g:=g) h h2
 have hw:bZ w ((w.alloc (.cells (aG m g) 35)).alloc (.cells aY 35)):=bA2;have b1:Hd (((w.alloc (.cells (aG m g) 35)).alloc (.cells aY 35)).heap[w.heap.size+1]?=some (.cells aY 35 (0,0))):=by have:=kP (w.alloc (.cells (aG m g) 35)) (.cells aY 35);rw [show(w.alloc (.cells (aG m g) 35)).heap.size=w.heap.size+1 from by simp] at this;exact this
 have b0:Hd (((w.alloc (.cells (aG m g) 35)).alloc (.cells aY 35)).heap[w.heap.size]?=some (.cells (aG m g) 35 (0,0))):=zab (kP w (.cells (aG m g) 35)) (zaf (kS _ _) _);have HU:=uH (fun W (hW:bZ w W)=>zf8 g m W (h.bl hW));have HP:=uH h;have hx:w.heap.size<=w.heap.size+1:=by omega
 clear h;unfold gtv at HU;unfold gtv;go_enter Tryz.func200,Tryz.ntmps200;go_wp2_with fail;generalize ((w.alloc (.cells (aG m g) 35)).alloc (.cells aY 35))=W at *;refine(zae HU _ hw).mono ?_;rintro e w1 ⟨rfl,hb⟩;replace b0:=uH (zab b0.o hb);replace b1:=uH (zab b1.o hb);replace hw:=bT hw hb;clear hb HU
 by_cases z1:upE g=0
 rotate_left
 {
 have HE:=uH (E1 z1);have d1: (upE g !=0)=true:=by simpa using z1
 rw [zlf z1];unfold gsv gs0;replace b1:=uH (zab b1.o (zaf (kS w1.heap.size w1) (.cells aX 72)));have hw2:bZ w (w1.alloc (.cells aX 72)):=hw.alloc hw.size _;clear z1 E1 E0 E2;generalize upE g=q at *;go_upto_region 2 with fail
 generalize (w1.alloc (.cells aX 72))=W1 at *;obtain ⟨y0,y1,y2,y3,y4,y5,y6,y7,y8⟩:=cl9 b1.o;obtain ⟨f0,f1,f2,f3,f4,f5,f6,f7,f8⟩:=fr9 b1.o;go_wp2_with fail;refine kT (v:=.tuple #[gtv gt0 ga0,iV q]) (by simp [results,Tryz.results200,go_sem,gtv,gt0,ga0,y0,y1,y2,y3,y4,y5,y6,y7,y8]) rfl ?_;rw [HE.o];exact⟨⟨ga0,rfl,gin0 _,gfr0 _⟩,zam hw2 (zac (zac (zac (zac (zac (zac (zac (zac (zac (kf W1 (some (w.heap.size+1))) 0 (nV)) 1 (iV 0)) 2 (.bool false)) 3 (iV 0)) 4 (nV)) 5 (iV 0)) 6 (iV 0)) 7 (nV)) 8 (nV)) hx hw2.size⟩ }
 rw [zld z1];replace E2:=E2 z1;replace E0:=E0 z1;obtain ⟨hlw,hlk,hlv,hld⟩:=HP.o.sizes (zko z1);have HT:=uH (fun W (hW:bZ w W)=>zdc g m W (HP.o.bl hW) hlw hlk hlv hld);unfold gtv at HT;clear z1 E1 hlw hlk hlv hld;generalize gOf g.ws=s at *;have HD:=uH (fun W=>zej s W);unfold gsv at HD;unfold gsv;have bS:=uH (kP w1 (.cells (aS s) 72));replace b0:=uH (zab b0.o (zaf (kS w1.heap.size w1) (.cells (aS s) 72)));replace b1:=uH (zab b1.o (zaf (kS w1.heap.size w1) (.cells (aS s) 72)));replace hw:bZ w (w1.alloc (.cells (aS s) 72)):=hw.alloc hw.size _;go_upto_region 2 with fail
 generalize (w1.alloc (.cells (aS s) 72))=W1 at *;generalize w1.heap.size=S at *;obtain ⟨s0,s1,s2,s3,s4⟩:=cl5 bS.o
 by_cases z2:s.n=0
 {
 have HE:=uH (E2 (by simp [z2]));have d2: (s.n==0)=true:=by simpa using z2
 clear E2 E0 HT HD z2;obtain ⟨y0,y1,y2,y3,y4,y5,y6,y7,y8⟩:=cl9 b1.o;obtain ⟨f0,f1,f2,f3,f4,f5,f6,f7,f8⟩:=fr9 b1.o;go_wp2_with fail;refine kT (v:=.tuple #[gtv gt0 ga0,iV 12]) (by simp [results,Tryz.results200,go_sem,gtv,gt0,ga0,y0,y1,y2,y3,y4,y5,y6,y7,y8]) rfl ?_;rw [HE.o];exact⟨⟨ga0,rfl,gin0 _,gfr0 _⟩,zam hw (zac (zac (zac (zac (zac (zac (zac (zac (zac (kf W1 (some (w.heap.size+1))) 0 (nV)) 1 (iV 0)) 2 (.bool false)) 3 (iV 0)) 4 (nV)) 5 (iV 0)) 6 (iV 0)) 7 (nV)) 8 (nV)) hx hw.size⟩ }
 have d2: (s.n==0)=false:=by simpa using z2
 go_wp2_with fail;refine(zae HD _).mono ?_;rintro e w3 ⟨rfl,hb3⟩;replace b0:=uH (zab b0.o hb3);replace b1:=uH (zab b1.o hb3);replace bS:=uH (zab bS.o hb3);replace hw:=bT hw hb3;clear hb3 HD s0 s1 s2 s3 s4;cases z3:decG s;rotate_left
 {
 have HE:=uH (E2 (by simp [z3]));clear E2 E0 HT z2;obtain ⟨y0,y1,y2,y3,y4,y5,y6,y7,y8⟩:=cl9 b1.o;obtain ⟨f0,f1,f2,f3,f4,f5,f6,f7,f8⟩:=fr9 b1.o;go_wp2_with fail;refine kT (v:=.tuple #[gtv gt0 ga0,iV 12]) (by simp [results,Tryz.results200,go_sem,gtv,gt0,ga0,y0,y1,y2,y3,y4,y5,y6,y7,y8]) rfl ?_;rw [HE.o];exact⟨⟨ga0,rfl,gin0 _,gfr0 _⟩,zam hw (zac (zac (zac (zac (zac (zac (zac (zac (zac (kf w3 (some (w.heap.size+1))) 0 (nV)) 1 (iV 0)) 2 (.bool false)) 3 (iV 0)) 4 (nV)) 5 (iV 0)) 6 (iV 0)) 7 (nV)) 8 (nV)) hx hw.size⟩ }
 have HE:=uH (E0 (by simp [z2,z3]));clear E2 E0 z2 z3 d2;obtain ⟨x0,x1,x2,x3,x4,x5,x6,x7,x8⟩:=cl9 b0.o;go_wp2_with fail;have hF0:=hw.size;refine(zae HT _ hw).mono ?_;rintro e w5 ⟨⟨k,bv,bd,rfl,ho,hoff⟩,hb5⟩;have hlt:=zak b1.o;replace b1:=uH (zab (zab b1.o hb5) (zaf (kS w5.heap.size w5) (.cells (aG k g) 35)));replace bS:=uH (zab (zab bS.o hb5) (zaf (kS w5.heap.size w5) (.cells (aG k g) 35)));have hbx:=uH (ho.boxed hb5.size (hoff _ (.inr (kQ _))));have hw5:bZ w3 (w5.alloc (.cells (aG k g) 35)):=zaf hb5 _;have hB:=hb5.size;clear HT ho hoff hb5 b0 x0 x1 x2 x3 x4 x5 x6 x7 x8;unfold gtv;go_upto_region 7 with fail
 generalize (w5.alloc (.cells (aG k g) 35))=W5 at *;generalize w5.heap.size=B at *;obtain ⟨s0,s1,s2,s3,s4⟩:=cl5 bS.o;have hb3:=uH ((kS W5.heap.size W5).alloc (kQ _) (.cells #[iV 3,iV s.n] 3));have HN:=uH (zgr _ _ _ _ _ _ s (some ⟨W5.heap.size,0,none⟩) 2 2 [3,s.n] _ (hbx.o.bl hb3.o) (zi7 W5 3 s.n 3));unfold gsv at HN;go_wp2_with fail;refine(zae HN).mono ?_;rintro e w6 ⟨rfl,⟨k2,hb7⟩,hg7⟩;have g7:=(zcw (B:=B) (b1:=bv) (b2:=bd) hb3.o).trans hg7;have hb8:=g7.bel hw5 hB hb7.own.fv hb7.own.fd hw5.size;replace b1:=uH (g7.blk b1.o (by omega) (by have:=hb7.own.fv;omega) (by have:=hb7.own.fd;omega));replace hw:=bT hw hb8;replace HE:=HE.o;generalize (noteG g s [3,s.n]).1=g2 at *;have HE:=uH HE;have bC:=uH hb7.box;unfold gtO at bC;have HB:=uH hb7;clear hb7 hg7 g7 hb8 HN hbx bS s0 s1 s2 s3 s4;obtain ⟨x0,x1,x2,x3,x4,x5,x6,x7,x8⟩:=cl9 bC.o;obtain ⟨y0,y1,y2,y3,y4,y5,y6,y7,y8⟩:=cl9 b1.o;obtain ⟨f0,f1,f2,f3,f4,f5,f6,f7,f8⟩:=fr9 b1.o;go_wp2_with fail;refine kT (v:=.tuple #[gtv g2 k2,iV 0]) (by simp [results,Tryz.results200,go_sem,gtv,y0,y1,y2,y3,y4,y5,y6,y7,y8]) rfl ?_;rw [HE.o];have hT:=zac (zac (zac (zac (zac (zac (zac (zac (zac (kf w6 (some (w.heap.size+1))) 0 (.slice k2.a k2.n k2.c)) 1 (iV g2.fu)) 2 (.bool g2.up)) 3 (iV g2.t.r.v)) 4 (.slice k2.ak k2.nk k2.ck)) 5 (iV g2.t.r.t)) 6 (iV g2.t.ver)) 7 (.slice k2.av k2.nv k2.cv)) 8 (.slice k2.ad k2.nd k2.cd);exact⟨⟨k2,rfl,(HB.o.own.low hT hlt).gin,HB.o.own.fr hF0⟩,zam hw hT hx hw.size⟩
end
end Go.Proofs.YthmekfcgdfckaaaGreatDoor
