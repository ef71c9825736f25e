/- Facts. -/
import Derived.Test.YthmekfcgdfckaaaGreatDoorWz10
import Derived.Test.YthmekfcgdfckaaaGreatDoorWz11
import Derived.ProofKit
import Derived.Lib.SmallJoins
import Derived.SliceStrings
import Derived.Deep.Slices
import Derived.ChangeMaps5
import Derived.Test.YthmekfcgdfckaaaGreatDoorWz7
import Derived.Stop.LaidErr
import Derived.LaidMore
set_option maxRecDepth 1000000
set_option maxHeartbeats 0
namespace Go.Proofs.YthmekfcgdfckaaaGreatDoor
open Go.RowKit
variable {units cn u:Int} {W:World} {bs:List Bool} {g:Gt} {ts:List T3} {ims:LL} {a:oA} {n fuel:Nat} {cs:LV} {v:Value}
section
attribute [local go_sem ↓] kM kO
theorem ziq (s:Gs) (u n:Int) (w:World):
 Cq 245 #[gsv s,iV u,iV n] w fun e w' =>e=.returned (msv (verd s u n) none 0 0)/\bZ w w' :=by
 unfold gsv
 by_cases z:s.n=n
 {
 have d: (s.n==n)=true:=by simpa using z
 cases z2:s.co
 {
 have HE:Hd (verd s u n= ⟨5,u,n,0,0, [],false⟩):=by show _=_;unfold verd;rw [z2];simp
 go_enter Tryz.func245,Tryz.ntmps245;go_wp2_with fail;refine kT (v:=msv ⟨5,u,n,0,0, [],false⟩ none 0 0) (by simp [results,Tryz.results245,go_sem,msv]) rfl ?_;rw [HE.o];exact⟨rfl,bA2⟩ }
 {
 have HE:Hd (verd s u n= ⟨4,u,n,0,0, [],false⟩):=by show _=_;unfold verd;rw [z2];simp [z]
 go_enter Tryz.func245,Tryz.ntmps245;go_wp2_with fail;refine kT (v:=msv ⟨4,u,n,0,0, [],false⟩ none 0 0) (by simp [results,Tryz.results245,go_sem,msv]) rfl ?_;rw [HE.o];exact⟨rfl,bA2⟩ } }
 {
 have d: (s.n==n)=false:=by simpa using z
 have HE:Hd (verd s u n= ⟨5,u,n,0,0, [],false⟩):=by show _=_;unfold verd;simp [z]
 go_enter Tryz.func245,Tryz.ntmps245;go_wp2_with fail;refine kT (v:=msv ⟨5,u,n,0,0, [],false⟩ none 0 0) (by simp [results,Tryz.results245,go_sem,msv]) rfl ?_;rw [HE.o];exact⟨rfl,bA2⟩ }
theorem ze3 (b:Bool) (m:Ms) (hm:m.ws= []) (w:World):
 Cq 244 #[.bool b,msv m none 0 0] w fun e w' =>(∃a n c,e=.returned (.slice a n c)/\za9 w' a (if b=true then [] else [m])/\(if b=true then [] else [m]).length=n/\n<=c/\zal w.heap.size a)/\bZ w w' :=by
 unfold msv;cases b
 {
 go_enter Tryz.func244,Tryz.ntmps244;go_wp2_with fail;go_ret;have hs: (w.alloc (.cells #[iV m.k,iV m.u,iV m.n,iV m.at',iV m.im,nV,.bool m.y] 99)).heap.size=w.heap.size+1:=by simp
 have hl:=kP (w.alloc (.cells #[iV m.k,iV m.u,iV m.n,iV m.at',iV m.im,nV,.bool m.y] 99)) (.cells #[iV m.k,iV m.u,iV m.n,iV m.at',iV m.im,nV,.bool m.y] 99);rw [hs] at hl;exact⟨⟨_,1,1,rfl,zg1 hm hl,rfl,kQ _,fun ad e=>by cases e;exact Nat.le_succ _⟩,bA2⟩ }
 {
 go_enter Tryz.func244,Tryz.ntmps244;go_wp2_with fail;go_ret;exact⟨⟨none,0,0,rfl,.inl rfl,rfl,kQ _,zal.nil _⟩,bA1⟩ }
theorem zjj (g:Gt) (m:GA) (u:Int) (w:World) (h:GIn w m g):
 Cq 243 #[gtv g m,iV u] w fun e w' =>e=.returned (.bool (inB u 0 ((g.vo.length:Int)- 1)))/\bZ w w' :=by
 have hl:=h.vo.len;have hm:=h.vo.max;have HW:Hd (wrap64 ((m.nv:Int)- 1)= (m.nv:Int)- 1):=by show _=_;unfold maxLen at hm;unfold wrap64;omega
 unfold gtv;go_enter Tryz.func243,Tryz.ntmps243;go_wp2_with fail;rw [HW.o];refine(zbc _ _ _ _).mono ?_;rintro e w1 ⟨rfl,rfl⟩;go_wp2_with fail;go_ret;exact⟨zan (by rw [hl]),bA1⟩
end
section
attribute [local go_sem ↓] kM kO
def gw0:LI:=1::List.replicate 63 65535
def gNw (r:Rt) (units:Int):Gt:=⟨gw0,-1,true,⟨r,0⟩,List.replicate units.toNat false,List.replicate units.toNat false⟩
def gNew (r:Rt) (units:Int):Gt×Int:=if inB units 1 4=false then(gt0,3) else if gtE (gNw r units)≠0 then(gt0,gtE (gNw r units)) else(gNw r units,0)
theorem fmt0:fmtS (List.replicate 64 65535) (-1)= (gw0,-1,0):=by decide+kernel
theorem gNew_3 {r:Rt} (h:inB units 1 4=false):gNew r units= (gt0,3):=by unfold gNew;rw [KK h]
theorem gNew_e {r:Rt} (h:inB units 1 4=true) (h2:gtE (gNw r units)≠0):gNew r units= (gt0,gtE (gNw r units)):=by unfold gNew;rw [KJ (by rw [h];decide),KK h2]
theorem gNew_0 {r:Rt} (h:inB units 1 4=true) (h2:gtE (gNw r units)=0):gNew r units= (gNw r units,0):=by unfold gNew;rw [KJ (by rw [h];decide),KJ (by simpa using h2)]
theorem zp7 (n:Nat):madeCells (Value.bool false).cells n= (bvals (List.replicate n false)).toArray:=by
 apply Array.toList_inj.1
 show(madeCells #[Value.bool false] n).toList=_
 rw [toList_madeCells_one]
 simp [bvals]
theorem zqo (n:Nat) (w:World) (h:n<=4):
 (Instr.makeSlice 33 (iV n) (iV n)).run Tryz.prog w=.ok (sV w.heap.size n n) (w.alloc (.cells (bvals (List.replicate n false)).toArray 4)):=by
 obtain ⟨i0,hi,hz0,hz1,hz2⟩:=info_parts zf2;have:=run_make (P:=Tryz.prog) w 33 4 i0 (.bool false) Tryz.underlying33 hi hz0 .i64 .i64 n n (by omega) (by omega) (by rw [hz2];omega) (by omega);rw [hz1,kp,Ko,zp7] at this;exact this
theorem zbi {W' :World} {B F:Nat} {x0 x1 x2 y0 y1:Value} {t t2:TypeId} (hF:W.heap[F]?=some (.cells #[y0,y1] t (0,0))) (hB:W.heap[B]?=some (.cells #[x0,x1,x2] t2 (0,0))) (h:bZ W W'):
 ce W' F 0=some y0/\ce W' F 1=some y1/\ce W' B 0=some x0/\ce W' B 1=some x1/\ce W' B 2=some x2/\bZ W W' :=
 ⟨zaa (zab hF h) 0 _ rfl,zaa (zab hF h) 1 _ rfl,zaa (zab hB h) 0 _ rfl,zaa (zab hB h) 1 _ rfl,zaa (zab hB h) 2 _ rfl,h⟩
theorem zbq {b:Nat} (h:W.heap[b]?=some (.cells (bvals bs).toArray 4 (0,0))):OwnB W b bs:=⟨_,h,by rw [<-zh2 bs];simp,by simp [bvals]⟩
def NewR (W:World) (g:Gt) (k:GA) (v8:Value) (wc:World):Prop:=
 ∃G av ad n,v8=.pointer (some ⟨G,0,none⟩)/\n=g.vo.length/\g.di=g.vo/\wc.heap[G]?=some (gtO g ⟨k.a,k.n,k.c,k.ak,k.nk,k.ck,some ⟨av,0,none⟩,n,n,some ⟨ad,0,none⟩,n,n⟩)/\OwnB wc av g.vo/\OwnB wc ad g.vo/\bZ W wc
theorem zpt (r:Rt) (a:oA) (n c:Nat) (units:Int) (w:World) (h:BI w a n r.ks):
 Cq 40 #[.agg #[iV r.v,.slice a n c,iV r.t],iV units] w (GAns w (gNew r units)):=by
 have hw:bZ w ((w.alloc (.cells #[iV r.v,.slice a n c,iV r.t] 30)).alloc (.cells aY 35)):=bA2;have b0:Hd (((w.alloc (.cells #[iV r.v,.slice a n c,iV r.t] 30)).alloc (.cells aY 35)).heap[w.heap.size]?=some (.cells #[iV r.v,.slice a n c,iV r.t] 30 (0,0))):=zai (kP _ _) _;have b1:Hd (((w.alloc (.cells #[iV r.v,.slice a n c,iV r.t] 30)).alloc (.cells aY 35)).heap[w.heap.size+1]?=some (.cells aY 35 (0,0))):=zau _ _ _;have HP:=uH h;have hx:w.heap.size<=w.heap.size+1:=by omega
 clear h;go_enter Tryz.func40,Tryz.ntmps40;go_wp2_with fail;generalize ((w.alloc (.cells #[iV r.v,.slice a n c,iV r.t] 30)).alloc (.cells aY 35))=W at *;refine(zbc _ _ _ _).mono ?_;rintro e w1 ⟨rfl,hb⟩;subst hb;cases z1:inB units 1 4
 {
 have HE:=uH (gNew_3 (r:=r) z1);obtain ⟨y0,y1,y2,y3,y4,y5,y6,y7,y8⟩:=cl9 b1.o;obtain ⟨f0,f1,f2,f3,f4,f5,f6,f7,f8⟩:=fr9 b1.o;go_wp2_with fail;refine kT (v:=.tuple #[gtv gt0 ga0,iV 3]) (by simp [results,Tryz.results40,go_sem,gtv,gt0,ga0,y0,y1,y2,y3,y4,y5,y6,y7,y8]) rfl ?_;rw [HE.o];exact⟨⟨ga0,rfl,gin0 _,gfr0 _⟩,zam hw (zac (zac (zac (zac (zac (zac (zac (zac (zac (kf w1 (some (w.heap.size+1))) 0 (nV)) 1 (iV 0)) 2 (.bool false)) 3 (iV 0)) 4 (nV)) 5 (iV 0)) 6 (iV 0)) 7 (nV)) 8 (nV)) hx hw.size⟩ }
 have hq:=uH (new_any 2 w1);rw [show newS 2= (List.replicate 64 65535,-1,0) from rfl] at hq;go_wp2_with fail;refine(zae hq).mono ?_;rintro e w2 ⟨⟨a2,n2,c2,rfl,hi2,hn2,hc2,hf2⟩,hb2⟩;obtain rfl:n2=64:=by rw [<-hn2];simp
 have hFl:=zak (zab b1.o hb2);replace b0:=uH (zab b0.o (zaf hb2 (.cells #[.slice a2 64 c2,iV (-1)] 28)));replace b1:=uH (zab b1.o (zaf hb2 (.cells #[.slice a2 64 c2,iV (-1)] 28)));replace hw:=hw.trans ((zaf hb2 (.cells #[.slice a2 64 c2,iV (-1)] 28)).mono hw.size);have bF:=uH (kP w2 (.cells #[.slice a2 64 c2,iV (-1)] 28));have hf:=uH (zju a2 64 c2 (List.replicate 64 65535) (-1) (w2.alloc (.cells #[.slice a2 64 c2,iV (-1)] 28)) (hi2.alloc _) (by simp) (by decide));rw [fmt0] at hf;clear hb2 hi2 hf2 hn2 hq;go_upto_region 6 with fail
 generalize w2.alloc (.cells #[.slice a2 64 c2,iV (-1)] 28)=W2 at *;generalize w2.heap.size=F at *;have hFW:=zak bF.o;have q0:=zaa bF.o 0 _ rfl;have q1:=zaa bF.o 1 _ rfl;go_wp2_with fail;refine(zae hf).mono ?_;rintro e w3 ⟨⟨a3,n3,c3,rfl,hi3,hn3,hc3,hf3⟩,hb3⟩;obtain rfl:n3=64:=by rw [<-hn3];rfl
 replace b0:=uH (zab b0.o hb3);replace b1:=uH (zab b1.o hb3);replace bF:=uH (zab bF.o hb3);replace hw:=bT hw hb3;clear q0 q1 hf hb3;have q0:=zaa bF.o 0 _ rfl;have q1:=zaa bF.o 1 _ rfl;have f0:=zad bF.o 0;have f1:=zad bF.o 1;go_upto_region 9 with fail
 have hT:w3.grownBy ((w3.setCell ⟨F,0,none⟩ (.slice a3 64 c3)).setCell ⟨F,1,none⟩ (iV (-1))) (some F):=zac (zac (kf _ _) _ _) _ _;have bG:=uH (zk1 (x' :=.slice a3 64 c3) (y' :=iV (-1)) bF.o);replace b0:=uH (zar b0.o hT (by omega));replace b1:=uH (zar b1.o hT (by omega));have HI3:=uH (zax hi3 hT (za6 hf3 hFW));replace hw:=zam hw hT (by omega) hw.size;clear q0 q1 f0 f1 hi3 hf3 bF hT;generalize ((w3.setCell ⟨F,0,none⟩ (.slice a3 64 c3)).setCell ⟨F,1,none⟩ (iV (-1)))=W3 at *;have HK:=uH (HP.o.bl hw);obtain ⟨un,hun,hu1⟩: ∃v:Nat,units= (v:Int)/\v<=4:=⟨units.toNat,by unfold inB at z1;simp at z1;omega,by unfold inB at z1;simp at z1;omega⟩;subst hun;have Z1:=uH z1;clear z1
 go_cut [8] (fun v8 wx=>NewR W3 (gNw r un) ⟨a3,64,c3,a,n,c,none,0,0,none,0,0⟩ v8 wx)
 case first=>
  have q0:=zaa bG.o 0 _ rfl;have q1:=zaa bG.o 1 _ rfl;have r0:=zaa b0.o 0 _ rfl;have r1:=zaa b0.o 1 _ rfl;have r2:=zaa b0.o 2 _ rfl;have hmk:=fun W=>zqo un W hu1
  clear q0 q1 r0 r1 r2;refine km (S:=fun W' =>ce W' F 0=some (.slice a3 64 c3)/\ce W' F 1=some (iV (-1))/\ce W' w.heap.size 0=some (iV r.v)/\ce W' w.heap.size 1=some (.slice a n c)/\ce W' w.heap.size 2=some (iV r.t)/\bZ W3 W') (by kernel_rfl) (zbi bG.o b0.o (kS _ _).drew) ?_;intro hHeld;refine Htk 0 ?_
  refine Htk 1 ?_
  refine Htk 2 ?_
  refine Htk 3 ?_
  refine Htk 5 ?_
  try simp only [sq]
  refine kZ (rs:= [4,6,8]) (by kernel_rfl) (by simp) ?_;refine(kU (by rfl) (fun K hK=> ?_) (kU (by rfl) (fun K hK=> ?_) (kU (by rfl) (fun K hK=> ?_) kW)))
  {
  go_simp;refine hK.out _ _ (zbi bG.o b0.o (zaf ((kS W3.heap.size W3).drew) (.cells (bvals (List.replicate un false)).toArray 4))) (fun hHeld=> ?_);clear hK K
  try simp only [sq]
  refine kZ (rs:= [6,8]) (by kernel_rfl) (by simp) ?_;refine(kU (by rfl) (fun K hK=> ?_) (kU (by rfl) (fun K hK=> ?_) kW))
  {
  go_simp;refine hK.out _ _ (zbi bG.o b0.o (zaf (zaf ((kS W3.heap.size W3).drew) (.cells (bvals (List.replicate un false)).toArray 4)) (.cells (bvals (List.replicate un false)).toArray 4))) (fun hHeld=> ?_);clear hK K
  refine Htk 7 ?_
  try simp only [sq]
  refine kZ (rs:= [8]) (by kernel_rfl) (by simp) ?_;refine(kU (by rfl) (fun K hK=> ?_) kW)
  {
  go_simp;refine hK.out _ _ (zbi bG.o b0.o (zaf (zaf (zaf ((kS W3.heap.size W3).drew) (.cells (bvals (List.replicate un false)).toArray 4)) (.cells (bvals (List.replicate un false)).toArray 4)) (.cells aY 35))) (fun hHeld=> ?_);clear hK K
  refine wr1 9 (fun K hK=> ?_);go_simp;refine hK.out _ _ (zbi bG.o b0.o ((zaf (zaf (zaf ((kS W3.heap.size W3)) (.cells (bvals (List.replicate un false)).toArray 4)) (.cells (bvals (List.replicate un false)).toArray 4)) (.cells #[.slice a3 64 c3,iV (-1),.bool true,iV r.v,.slice a n c,iV r.t,iV 0,sV W3.heap.size un un,sV (W3.heap.size+1) un un] 35)).drew)) (fun hHeld=> ?_);clear hK K
  try simp only [sq]
  refine KE (by kernel_rfl) ?_ _;go_wp2_with fail
  go_meet
  case rel=>exact⟨W3.heap.size+1+1,W3.heap.size,W3.heap.size+1,un,rfl,by simp [gNw],rfl,bk3.2.2,zbq bk3.1,zbq bk3.2.1,(zaf (zaf (zaf ((kS W3.heap.size W3)) (.cells (bvals (List.replicate un false)).toArray 4)) (.cells (bvals (List.replicate un false)).toArray 4)) (.cells #[.slice a3 64 c3,iV (-1),.bool true,iV r.v,.slice a n c,iV r.t,iV 0,sV W3.heap.size un un,sV (W3.heap.size+1) un un] 35)).drew⟩ } }
  {
  go_simp;refine hK.out _ _ (zbi bG.o b0.o (zaf (zaf ((kS W3.heap.size W3).drew) (.cells (bvals (List.replicate un false)).toArray 4)) (.cells aY 35))) (fun hHeld=> ?_);clear hK K
  try simp only [sq]
  refine kZ (rs:= [6]) (by kernel_rfl) (by simp) ?_;refine(kU (by rfl) (fun K hK=> ?_) kW)
  {
  go_simp;refine hK.out _ _ (zbi bG.o b0.o (zaf (zaf (zaf ((kS W3.heap.size W3).drew) (.cells (bvals (List.replicate un false)).toArray 4)) (.cells aY 35)) (.cells (bvals (List.replicate un false)).toArray 4))) (fun hHeld=> ?_);clear hK K
  refine Htk 7 ?_
  refine wr1 9 (fun K hK=> ?_);go_simp;refine hK.out _ _ (zbi bG.o b0.o ((zaf (zaf (zaf ((kS W3.heap.size W3)) (.cells (bvals (List.replicate un false)).toArray 4)) (.cells #[.slice a3 64 c3,iV (-1),.bool true,iV r.v,.slice a n c,iV r.t,iV 0,sV W3.heap.size un un,sV (W3.heap.size+1+1) un un] 35)) (.cells (bvals (List.replicate un false)).toArray 4)).drew)) (fun hHeld=> ?_);clear hK K
  try simp only [sq]
  refine KE (by kernel_rfl) ?_ _;go_wp2_with fail
  go_meet
  case rel=>exact⟨W3.heap.size+1,W3.heap.size,W3.heap.size+1+1,un,rfl,by simp [gNw],rfl,bk3.2.1,zbq bk3.1,zbq bk3.2.2,(zaf (zaf (zaf ((kS W3.heap.size W3)) (.cells (bvals (List.replicate un false)).toArray 4)) (.cells #[.slice a3 64 c3,iV (-1),.bool true,iV r.v,.slice a n c,iV r.t,iV 0,sV W3.heap.size un un,sV (W3.heap.size+1+1) un un] 35)) (.cells (bvals (List.replicate un false)).toArray 4)).drew⟩ } } }
  {
  go_simp;refine hK.out _ _ (zbi bG.o b0.o (zaf ((kS W3.heap.size W3).drew) (.cells (bvals (List.replicate un false)).toArray 4))) (fun hHeld=> ?_);clear hK K
  try simp only [sq]
  refine kZ (rs:= [4,8]) (by kernel_rfl) (by simp) ?_;refine(kU (by rfl) (fun K hK=> ?_) (kU (by rfl) (fun K hK=> ?_) kW))
  {
  go_simp;refine hK.out _ _ (zbi bG.o b0.o (zaf (zaf ((kS W3.heap.size W3).drew) (.cells (bvals (List.replicate un false)).toArray 4)) (.cells (bvals (List.replicate un false)).toArray 4))) (fun hHeld=> ?_);clear hK K
  refine Htk 7 ?_
  try simp only [sq]
  refine kZ (rs:= [8]) (by kernel_rfl) (by simp) ?_;refine(kU (by rfl) (fun K hK=> ?_) kW)
  {
  go_simp;refine hK.out _ _ (zbi bG.o b0.o (zaf (zaf (zaf ((kS W3.heap.size W3).drew) (.cells (bvals (List.replicate un false)).toArray 4)) (.cells (bvals (List.replicate un false)).toArray 4)) (.cells aY 35))) (fun hHeld=> ?_);clear hK K
  refine wr1 9 (fun K hK=> ?_);go_simp;refine hK.out _ _ (zbi bG.o b0.o ((zaf (zaf (zaf ((kS W3.heap.size W3)) (.cells (bvals (List.replicate un false)).toArray 4)) (.cells (bvals (List.replicate un false)).toArray 4)) (.cells #[.slice a3 64 c3,iV (-1),.bool true,iV r.v,.slice a n c,iV r.t,iV 0,sV (W3.heap.size+1) un un,sV W3.heap.size un un] 35)).drew)) (fun hHeld=> ?_);clear hK K
  try simp only [sq]
  refine KE (by kernel_rfl) ?_ _;go_wp2_with fail
  go_meet
  case rel=>exact⟨W3.heap.size+1+1,W3.heap.size+1,W3.heap.size,un,rfl,by simp [gNw],rfl,bk3.2.2,zbq bk3.2.1,zbq bk3.1,(zaf (zaf (zaf ((kS W3.heap.size W3)) (.cells (bvals (List.replicate un false)).toArray 4)) (.cells (bvals (List.replicate un false)).toArray 4)) (.cells #[.slice a3 64 c3,iV (-1),.bool true,iV r.v,.slice a n c,iV r.t,iV 0,sV (W3.heap.size+1) un un,sV W3.heap.size un un] 35)).drew⟩ } }
  {
  go_simp;refine hK.out _ _ (zbi bG.o b0.o (zaf (zaf ((kS W3.heap.size W3).drew) (.cells (bvals (List.replicate un false)).toArray 4)) (.cells aY 35))) (fun hHeld=> ?_);clear hK K
  try simp only [sq]
  refine kZ (rs:= [4]) (by kernel_rfl) (by simp) ?_;refine(kU (by rfl) (fun K hK=> ?_) kW)
  {
  go_simp;refine hK.out _ _ (zbi bG.o b0.o (zaf (zaf (zaf ((kS W3.heap.size W3).drew) (.cells (bvals (List.replicate un false)).toArray 4)) (.cells aY 35)) (.cells (bvals (List.replicate un false)).toArray 4))) (fun hHeld=> ?_);clear hK K
  refine Htk 7 ?_
  refine wr1 9 (fun K hK=> ?_);go_simp;refine hK.out _ _ (zbi bG.o b0.o ((zaf (zaf (zaf ((kS W3.heap.size W3)) (.cells (bvals (List.replicate un false)).toArray 4)) (.cells #[.slice a3 64 c3,iV (-1),.bool true,iV r.v,.slice a n c,iV r.t,iV 0,sV (W3.heap.size+1+1) un un,sV W3.heap.size un un] 35)) (.cells (bvals (List.replicate un false)).toArray 4)).drew)) (fun hHeld=> ?_);clear hK K
  try simp only [sq]
  refine KE (by kernel_rfl) ?_ _;go_wp2_with fail
  go_meet
  case rel=>exact⟨W3.heap.size+1,W3.heap.size+1+1,W3.heap.size,un,rfl,by simp [gNw],rfl,bk3.2.1,zbq bk3.2.2,zbq bk3.1,(zaf (zaf (zaf ((kS W3.heap.size W3)) (.cells (bvals (List.replicate un false)).toArray 4)) (.cells #[.slice a3 64 c3,iV (-1),.bool true,iV r.v,.slice a n c,iV r.t,iV 0,sV (W3.heap.size+1+1) un un,sV W3.heap.size un un] 35)) (.cells (bvals (List.replicate un false)).toArray 4)).drew⟩ } } }
  {
  go_simp;refine hK.out _ _ (zbi bG.o b0.o (zaf ((kS W3.heap.size W3).drew) (.cells aY 35))) (fun hHeld=> ?_);clear hK K
  try simp only [sq]
  refine kZ (rs:= [4,6]) (by kernel_rfl) (by simp) ?_;refine(kU (by rfl) (fun K hK=> ?_) (kU (by rfl) (fun K hK=> ?_) kW))
  {
  go_simp;refine hK.out _ _ (zbi bG.o b0.o (zaf (zaf ((kS W3.heap.size W3).drew) (.cells aY 35)) (.cells (bvals (List.replicate un false)).toArray 4))) (fun hHeld=> ?_);clear hK K
  try simp only [sq]
  refine kZ (rs:= [6]) (by kernel_rfl) (by simp) ?_;refine(kU (by rfl) (fun K hK=> ?_) kW)
  {
  go_simp;refine hK.out _ _ (zbi bG.o b0.o (zaf (zaf (zaf ((kS W3.heap.size W3).drew) (.cells aY 35)) (.cells (bvals (List.replicate un false)).toArray 4)) (.cells (bvals (List.replicate un false)).toArray 4))) (fun hHeld=> ?_);clear hK K
  refine Htk 7 ?_
  refine wr1 9 (fun K hK=> ?_);go_simp;refine hK.out _ _ (zbi bG.o b0.o ((zaf (zaf (zaf ((kS W3.heap.size W3)) (.cells #[.slice a3 64 c3,iV (-1),.bool true,iV r.v,.slice a n c,iV r.t,iV 0,sV (W3.heap.size+1) un un,sV (W3.heap.size+1+1) un un] 35)) (.cells (bvals (List.replicate un false)).toArray 4)) (.cells (bvals (List.replicate un false)).toArray 4)).drew)) (fun hHeld=> ?_);clear hK K
  try simp only [sq]
  refine KE (by kernel_rfl) ?_ _;go_wp2_with fail
  go_meet
  case rel=>exact⟨W3.heap.size,W3.heap.size+1,W3.heap.size+1+1,un,rfl,by simp [gNw],rfl,bk3.1,zbq bk3.2.1,zbq bk3.2.2,(zaf (zaf (zaf ((kS W3.heap.size W3)) (.cells #[.slice a3 64 c3,iV (-1),.bool true,iV r.v,.slice a n c,iV r.t,iV 0,sV (W3.heap.size+1) un un,sV (W3.heap.size+1+1) un un] 35)) (.cells (bvals (List.replicate un false)).toArray 4)) (.cells (bvals (List.replicate un false)).toArray 4)).drew⟩ } }
  {
  go_simp;refine hK.out _ _ (zbi bG.o b0.o (zaf (zaf ((kS W3.heap.size W3).drew) (.cells aY 35)) (.cells (bvals (List.replicate un false)).toArray 4))) (fun hHeld=> ?_);clear hK K
  try simp only [sq]
  refine kZ (rs:= [4]) (by kernel_rfl) (by simp) ?_;refine(kU (by rfl) (fun K hK=> ?_) kW)
  {
  go_simp;refine hK.out _ _ (zbi bG.o b0.o (zaf (zaf (zaf ((kS W3.heap.size W3).drew) (.cells aY 35)) (.cells (bvals (List.replicate un false)).toArray 4)) (.cells (bvals (List.replicate un false)).toArray 4))) (fun hHeld=> ?_);clear hK K
  refine Htk 7 ?_
  refine wr1 9 (fun K hK=> ?_);go_simp;refine hK.out _ _ (zbi bG.o b0.o ((zaf (zaf (zaf ((kS W3.heap.size W3)) (.cells #[.slice a3 64 c3,iV (-1),.bool true,iV r.v,.slice a n c,iV r.t,iV 0,sV (W3.heap.size+1+1) un un,sV (W3.heap.size+1) un un] 35)) (.cells (bvals (List.replicate un false)).toArray 4)) (.cells (bvals (List.replicate un false)).toArray 4)).drew)) (fun hHeld=> ?_);clear hK K
  try simp only [sq]
  refine KE (by kernel_rfl) ?_ _;go_wp2_with fail
  go_meet
  case rel=>exact⟨W3.heap.size,W3.heap.size+1+1,W3.heap.size+1,un,rfl,by simp [gNw],rfl,bk3.1,zbq bk3.2.2,zbq bk3.2.1,(zaf (zaf (zaf ((kS W3.heap.size W3)) (.cells #[.slice a3 64 c3,iV (-1),.bool true,iV r.v,.slice a n c,iV r.t,iV 0,sV (W3.heap.size+1+1) un un,sV (W3.heap.size+1) un un] 35)) (.cells (bvals (List.replicate un false)).toArray 4)) (.cells (bvals (List.replicate un false)).toArray 4)).drew⟩ } } }
 obtain ⟨G,av,ad,nn,rfl,hnn,hdv,bGt,ov,od,hbc⟩:=hcut;have hlv: (gNw r un).vo.length<=4:=by rw [<-hnn];rw [hnn];simp [gNw];exact hu1
 have HIn:Hd (GIn wc ⟨a3,64,c3,a,n,c,some ⟨av,0,none⟩,nn,nn,some ⟨ad,0,none⟩,nn,nn⟩ (gNw r un)):=⟨⟨HI3.o.bl hbc,hn3,hc3,by show 64<=maxLen;decide⟩,HK.o.bl hbc,⟨ov.bools,hnn.symm,kQ _,by show nn<=maxLen;unfold maxLen;omega⟩,⟨by rw [hdv];exact od.bools,by rw [hdv];exact hnn.symm,kQ _,by show nn<=maxLen;unfold maxLen;omega⟩⟩;replace b1:=uH (zab b1.o hbc);replace hw:=bT hw hbc;have E1:=uH (fun h2=>gNew_e (r:=r) Z1.o h2);have E0:=uH (fun h2=>gNew_0 (r:=r) Z1.o h2);have BG:=uH bGt;clear bGt ov od hbc hlv hdv hnn HI3 HK HP b0 bG Z1;generalize gNw r un=g at *;unfold gtO at BG;generalize hk: (⟨a3,64,c3,a,n,c,some ⟨av,0,none⟩,nn,nn,some ⟨ad,0,none⟩,nn,nn⟩:GA)=k at *;clear hk;have HC:=uH (zca g k wc HIn.o);unfold gtv at HC;obtain ⟨x0,x1,x2,x3,x4,x5,x6,x7,x8⟩:=cl9 BG.o;go_wp2_with fail;refine(zae HC).mono ?_;rintro e w5 ⟨rfl,hb⟩;replace b1:=uH (zab b1.o hb);replace BG:=uH (zab BG.o hb);replace hw:=bT hw hb;replace HIn:=uH (HIn.o.bl hb);clear HC hb x0 x1 x2 x3 x4 x5 x6 x7 x8
 by_cases z2:gtE g=0
 rotate_left
 {
 have HE:=uH (E1.o z2);have d1: (gtE g !=0)=true:=by simpa using z2
 clear z2 E1 E0 HIn;generalize gtE g=q at *;obtain ⟨y0,y1,y2,y3,y4,y5,y6,y7,y8⟩:=cl9 b1.o;obtain ⟨f0,f1,f2,f3,f4,f5,f6,f7,f8⟩:=fr9 b1.o;go_wp2_with fail;refine kT (v:=.tuple #[gtv gt0 ga0,iV q]) (by simp [results,Tryz.results40,go_sem,gtv,gt0,ga0,y0,y1,y2,y3,y4,y5,y6,y7,y8]) rfl ?_;rw [HE.o];exact⟨⟨ga0,rfl,gin0 _,gfr0 _⟩,zam hw (zac (zac (zac (zac (zac (zac (zac (zac (zac (kf w5 (some (w.heap.size+1))) 0 (nV)) 1 (iV 0)) 2 (.bool false)) 3 (iV 0)) 4 (nV)) 5 (iV 0)) 6 (iV 0)) 7 (nV)) 8 (nV)) hx hw.size⟩ }
 rw [z2];have HE:=uH (E0.o z2);obtain ⟨hlw,hlk,hlv,hld⟩:=HIn.o.sizes z2;have HT:=uH (zdc g k w5 HIn.o hlw hlk hlv hld);unfold gtv at HT;clear z2 E0 E1 hlw hlk hlv hld HIn;obtain ⟨x0,x1,x2,x3,x4,x5,x6,x7,x8⟩:=cl9 BG.o;go_wp2_with fail;have hF0:=hw.size;have hlt:=zak b1.o;refine(zae HT).mono ?_;rintro e w6 ⟨⟨k2,bv,bd,rfl,ho,hoff⟩,hb6⟩;replace b1:=uH (zab b1.o hb6);replace hw:=bT hw hb6;have HO:=uH ho;clear HT ho hoff hb6 BG x0 x1 x2 x3 x4 x5 x6 x7 x8;unfold gtv;obtain ⟨y0,y1,y2,y3,y4,y5,y6,y7,y8⟩:=cl9 b1.o;obtain ⟨f0,f1,f2,f3,f4,f5,f6,f7,f8⟩:=fr9 b1.o;go_wp2_with fail;refine kT (v:=.tuple #[gtv g k2,iV 0]) (by simp [results,Tryz.results40,go_sem,gtv,y0,y1,y2,y3,y4,y5,y6,y7,y8]) rfl ?_;rw [HE.o];have hT:=zac (zac (zac (zac (zac (zac (zac (zac (zac (kf w6 (some (w.heap.size+1))) 0 (.slice k2.a k2.n k2.c)) 1 (iV g.fu)) 2 (.bool g.up)) 3 (iV g.t.r.v)) 4 (.slice k2.ak k2.nk k2.ck)) 5 (iV g.t.r.t)) 6 (iV g.t.ver)) 7 (.slice k2.av k2.nv k2.cv)) 8 (.slice k2.ad k2.nd k2.cd);exact⟨⟨k2,rfl,(HO.o.low hT hlt).gin,HO.o.fr hF0⟩,zam hw hT hx hw.size⟩
end
section
attribute [local go_sem ↓] kM kO
def DuAnF (w:World) (r:List Ms×Int) (e:Ending) (w' :World):Prop:=(∃a n c,e=.returned (.tuple #[.slice a n c,iV r.2])/\zep w' w.heap.size a r.1/\r.1.length=n/\n<=c/\zal w.heap.size a)/\bZ w w'
theorem zcg {w w' :World} {q:Int} {r:List Ms×Int} (hr:r= ([],q)) (h:bZ w w'):DuAnF w r (.returned (.tuple #[nV,iV q])) w' :=by
 subst hr;exact⟨⟨none,0,0,rfl,.inl rfl,rfl,kQ _,zal.nil _⟩,h⟩
theorem zfs {q:Int} (h:dueE g cn ts ims u=q) (hq:q≠0):gDue g cn ts ims u= ([],q):=by unfold gDue;rw [h,KK hq]
theorem dueE_1 (h:upE g≠0):dueE g cn ts ims u=upE g:=by unfold dueE;rw [KK h]
theorem dueE_2 (h:upE g=0) (h2: (gOf g.ws).n=0\/(gOf g.ws).en=true):dueE g cn ts ims u=12:=by
 unfold dueE;rw [KJ (by simpa using h),KK (by rcases h2 with h2|h2<;>simp [h2])]
theorem zjn (h:upE g=0) (h2: (gOf g.ws).n≠0) (h3: (gOf g.ws).en=false) (h4:inB u 0 ((g.vo.length:Int)- 1)=false\/cn≠(gOf g.ws).n\/(ims.length:Int)<=u\/(ts.length:Int)<=u):dueE g cn ts ims u=5:=by
 unfold dueE;rw [KJ (by simpa using h),KJ (by simp [h2,h3]),KJ]
 rcases h4 with h4|h4|h4|h4
 { simp [h4] }
 { simp [h4] }
 { simp [show¬u< (ims.length:Int) by omega] }
 { simp [show¬u< (ts.length:Int) by omega] }
theorem dueE_0 (h:upE g=0) (h2: (gOf g.ws).n≠0) (h3: (gOf g.ws).en=false) (h4:inB u 0 ((g.vo.length:Int)- 1)=true) (h5:cn= (gOf g.ws).n) (h6:u< (ims.length:Int)) (h7:u< (ts.length:Int)):dueE g cn ts ims u=0:=by
 unfold dueE;rw [KJ (by simpa using h),KJ (by simp [h2,h3]),KK (by simp [h4,h5,h6,h7])]
theorem gDue_d (h:dueE g cn ts ims u=0) (h2:decG (gOf g.ws)=true):gDue g cn ts ims u= (if g.di.getD u.toNat false=true then [] else [verd (gOf g.ws) u (gOf g.ws).n],0):=by unfold gDue;rw [KJ (by simpa using h),KK h2]
theorem gDue_v (h:dueE g cn ts ims u=0) (h2:decG (gOf g.ws)=false) (h3:g.vo.getD u.toNat false=true):gDue g cn ts ims u= ([],0):=by unfold gDue;rw [KJ (by simpa using h),KJ (by rw [h2];decide),KK h3]
theorem gDue_m (h:dueE g cn ts ims u=0) (h2:decG (gOf g.ws)=false) (h3:g.vo.getD u.toNat false=false) (h4:40< (ims.getD u.toNat []).length):gDue g cn ts ims u= ([],2):=by unfold gDue;rw [KJ (by simpa using h),KJ (by rw [h2];decide),KJ (by rw [h3];decide),KK h4]
theorem gDue_p (h:dueE g cn ts ims u=0) (h2:decG (gOf g.ws)=false) (h3:g.vo.getD u.toNat false=false) (h4: ¬40< (ims.getD u.toNat []).length):gDue g cn ts ims u= (delG cn u (ts.getD u.toNat (0,0,0)).2.1 (ims.getD u.toNat []),0):=by unfold gDue;rw [KJ (by simpa using h),KJ (by rw [h2];decide),KJ (by rw [h3];decide),KJ h4]
theorem zor {w:World} {c:Nat} (h:BV w a n c bs) (u:Nat) (hu:u<bs.length): ∃b off,a=some ⟨b,off,none⟩/\w.cell? ⟨b,off+u,none⟩=some (.bool (bs.getD u false)):=by
 rcases h.at_ with h| ⟨b,off,ha,hc⟩
 { subst h;simp at hu }
 { exact⟨b,off,ha,hc u hu⟩ }
theorem dueR {W' :World} {B S bd od:Nat} {cs:Array Value} {t:TypeId} {vd:Value} {s:Gs} {x:Bool} (hB:W.heap[B]?=some (.cells cs t (0,0))) (h8:cs[8]?=some vd) (hS:W.heap[S]?=some (gsO s)) (hd:ce W bd od=some (.bool x)) (h:bZ W W'):
 ce W' B 8=some vd/\ce W' bd od=some (.bool x)/\(ce W' S 0=some (iV s.n)/\ce W' S 1=some (iV s.v)/\ce W' S 2=some (.bool s.co)/\ce W' S 3=some (.bool s.ab)/\ce W' S 4=some (.bool s.en))/\bZ W W' :=by
 have x:=zab hS h;unfold gsO at x;exact⟨zaa (zab hB h) 8 _ h8,(h.cell (zah hd)).trans hd,⟨zaa x 0 _ rfl,zaa x 1 _ rfl,zaa x 2 _ rfl,zaa x 3 _ rfl,zaa x 4 _ rfl⟩,h⟩
theorem znj (g:Gt) (k0:GA) (cn cv cu:Int) (m:CA) (ts:List T3) (ims:LL) (u:Int) (w:World) (h:GIn w k0 g) (ht:BT w m.at_ m.nt ts) (hi:BL w m.ai m.ni ims):
 Cq 192 #[gtv g k0,cpv cn cv cu m,iV u] w (DuAnF w (gDue g cn ts ims u)):=by
 have hw:bZ w ((w.alloc (.cells (aG k0 g) 35)).alloc (.cells #[iV cn,iV cv,iV cu,.slice m.at_ m.nt m.ct,.slice m.ai m.ni m.ci] 94)):=bA2;have b0:Hd (((w.alloc (.cells (aG k0 g) 35)).alloc (.cells #[iV cn,iV cv,iV cu,.slice m.at_ m.nt m.ct,.slice m.ai m.ni m.ci] 94)).heap[w.heap.size]?=some (.cells (aG k0 g) 35 (0,0))):=zai (kP _ _) _;have b1:Hd (((w.alloc (.cells (aG k0 g) 35)).alloc (.cells #[iV cn,iV cv,iV cu,.slice m.at_ m.nt m.ct,.slice m.ai m.ni m.ci] 94)).heap[w.heap.size+1]?=some (.cells #[iV cn,iV cv,iV cu,.slice m.at_ m.nt m.ct,.slice m.ai m.ni m.ci] 94 (0,0))):=zau _ _ _;have HU:=uH (fun W (hW:bZ w W)=>zf8 g k0 W (h.bl hW));have HN:=uH (fun W (hW:bZ w W)=>zjj g k0 u W (h.bl hW));have HP:=uH h;have HTs:=uH ht;have HIs:=uH hi;clear h ht hi;unfold gtv at HU HN;unfold gtv cpv;go_enter Tryz.func192,Tryz.ntmps192;go_wp2_with fail;generalize ((w.alloc (.cells (aG k0 g) 35)).alloc (.cells #[iV cn,iV cv,iV cu,.slice m.at_ m.nt m.ct,.slice m.ai m.ni m.ci] 94))=W at *;refine(zae HU _ hw).mono ?_;rintro e w1 ⟨rfl,hb⟩;replace b0:=uH (zab b0.o hb);replace b1:=uH (zab b1.o hb);replace hw:=bT hw hb;clear hb HU
 by_cases z1:upE g=0
 rotate_left
 {
 have HE:=uH (zfs (dueE_1 (cn:=cn) (ts:=ts) (ims:=ims) (u:=u) z1) z1);have d1: (upE g !=0)=true:=by simpa using z1
 rw [zlf z1];unfold gsv gs0;replace hw:bZ w (w1.alloc (.cells aX 72)):=hw.alloc hw.size _;clear z1 HN HP HTs HIs;generalize upE g=q at *;go_wp2_with fail;refine kT (v:=.tuple #[nV,iV q]) (by simp [results,Tryz.results192,go_sem]) rfl ?_;exact zcg HE.o hw }
 rw [zld z1];have Z1:=uH z1;obtain ⟨hlw,hlk,hlv,hld⟩:=HP.o.sizes (zko z1);have hnd:=(zen (zko z1)).2.2.1;clear z1 hlw hlk;obtain ⟨s,hs⟩: ∃s,s=gOf g.ws:=⟨_,rfl⟩;rw [<-hs];have HS:=uH hs;clear hs;unfold gsv;have bS:=uH (kP w1 (.cells (aS s) 72));have hb7:bZ w1 (w1.alloc (.cells (aS s) 72)):=zaf (kS _ _) _;replace b0:=uH (zab b0.o hb7);replace b1:=uH (zab b1.o hb7);replace hw:=bT hw hb7;clear hb7;go_upto_region 4 with fail
 generalize (w1.alloc (.cells (aS s) 72))=W1 at *;generalize w1.heap.size=S at *;obtain ⟨s0,s1,s2,s3,s4⟩:=cl5 bS.o
 by_cases z2:s.n=0
 {
 have HE:=uH (zfs (dueE_2 (cn:=cn) (ts:=ts) (ims:=ims) (u:=u) Z1.o (.inl (by rw [<-HS.o];exact z2))) (by decide));have d2: (s.n==0)=true:=by simpa using z2
 clear z2 HN HP HTs HIs;go_wp2_with fail;refine kT (v:=.tuple #[nV,iV 12]) (by simp [results,Tryz.results192,go_sem]) rfl ?_;exact zcg HE.o hw }
 have d2: (s.n==0)=false:=by simpa using z2
 have Z2:=uH z2;clear z2;cases z3:s.en;rotate_left
 {
 have HE:=uH (zfs (dueE_2 (cn:=cn) (ts:=ts) (ims:=ims) (u:=u) Z1.o (.inr (by rw [<-HS.o];exact z3))) (by decide))
 (try dsimp only [aS] at s4);rw [z3] at s4
 clear z3 HN HP HTs HIs;go_wp2_with fail;refine kT (v:=.tuple #[nV,iV 12]) (by simp [results,Tryz.results192,go_sem]) rfl ?_;exact zcg HE.o hw }
 (try dsimp only [aS] at s4);rw [z3] at s4
 have Z3:=uH z3;clear z3;obtain ⟨x0,x1,x2,x3,x4,x5,x6,x7,x8⟩:=cl9 b0.o;go_wp2_with fail;refine(zae HN _ hw).mono ?_;rintro e w2 ⟨rfl,hb⟩;replace b0:=uH (zab b0.o hb);replace b1:=uH (zab b1.o hb);replace bS:=uH (zab bS.o hb);replace hw:=bT hw hb;clear hb HN d2 x0 x1 x2 x3 x4 x5 x6 x7 x8 s0 s1 s2 s3 s4;cases z4:inB u 0 ((g.vo.length:Int)- 1)
 {
 have HE:=uH (zfs (zjn (cn:=cn) (ts:=ts) (ims:=ims) (u:=u) Z1.o (by rw [<-HS.o];exact Z2.o) (by rw [<-HS.o];exact Z3.o) (.inl z4)) (by decide));clear z4 HP HTs HIs;go_wp2_with fail;refine kT (v:=.tuple #[nV,iV 5]) (by simp [results,Tryz.results192,go_sem]) rfl ?_;exact zcg HE.o hw }
 have c0:=zaa b1.o 0 _ rfl;have s0:=zaa bS.o 0 _ rfl;have Z4:=uH z4;obtain ⟨un,hun⟩: ∃v:Nat,u= (v:Int):=⟨u.toNat,by unfold inB at z4;simp at z4;omega⟩;subst hun;have hul:un<g.vo.length:=by unfold inB at z4;simp at z4;omega
 clear z4;have c4:=zaa b1.o 4 _ rfl;have c3:=zaa b1.o 3 _ rfl
 by_cases z5:cn=s.n
 rotate_left
 {
 have HE:=uH (zfs (zjn (cn:=cn) (ts:=ts) (ims:=ims) (u:=un) Z1.o (by rw [<-HS.o];exact Z2.o) (by rw [<-HS.o];exact Z3.o) (.inr (.inl (by rw [<-HS.o];exact z5)))) (by decide));have d5: (cn !=s.n)=true:=by simpa using z5
 clear z5 HP HTs HIs;go_wp2_with fail;refine kT (v:=.tuple #[nV,iV 5]) (by simp [results,Tryz.results192,go_sem]) rfl ?_;exact zcg HE.o hw }
 have d5: (cn !=s.n)=false:=by simpa using z5
 have Z5:=uH z5;clear z5
 by_cases z6: (m.ni:Int)<=un
 {
 have HE:=uH (zfs (zjn (cn:=cn) (ts:=ts) (ims:=ims) (u:=un) Z1.o (by rw [<-HS.o];exact Z2.o) (by rw [<-HS.o];exact Z3.o) (.inr (.inr (.inl (by rw [HIs.o.len];exact z6))))) (by decide));clear HP HTs HIs;go_wp2_with fail;refine kT (v:=.tuple #[nV,iV 5]) (by simp [results,Tryz.results192,go_sem]) rfl ?_;exact zcg HE.o hw }
 have z6' : (un:Int)< (m.ni:Int):=by omega
 by_cases z7: (m.nt:Int)<=un
 {
 have HE:=uH (zfs (zjn (cn:=cn) (ts:=ts) (ims:=ims) (u:=un) Z1.o (by rw [<-HS.o];exact Z2.o) (by rw [<-HS.o];exact Z3.o) (.inr (.inr (.inr (by rw [HTs.o.len];exact z7))))) (by decide));clear HP HTs HIs;go_wp2_with fail;refine kT (v:=.tuple #[nV,iV 5]) (by simp [results,Tryz.results192,go_sem]) rfl ?_;exact zcg HE.o hw }
 have z7' : (un:Int)< (m.nt:Int):=by omega
 have HE0:=uH (dueE_0 (cn:=cn) (ts:=ts) (ims:=ims) (u:=un) Z1.o (by rw [<-HS.o];exact Z2.o) (by rw [<-HS.o];exact Z3.o) Z4.o (by rw [<-HS.o];exact Z5.o) (by rw [HIs.o.len];exact z6') (by rw [HTs.o.len];exact z7'));have hui:un<ims.length:=by have:=HIs.o.len;omega
 have hut:un<ts.length:=by have:=HTs.o.len;omega
 clear Z1 Z2 Z3 Z4 Z5;have s1:=zaa bS.o 1 _ rfl;have s2:=zaa bS.o 2 _ rfl;have s3:=zaa bS.o 3 _ rfl;have s4:=zaa bS.o 4 _ rfl;have HD:=uH (fun W=>zej s W);unfold gsv at HD;go_wp2_with fail;refine(zae HD _).mono ?_;rintro e w3 ⟨rfl,hb⟩;replace b0:=uH (zab b0.o hb);replace b1:=uH (zab b1.o hb);replace bS:=uH (zab bS.o hb);replace hw:=bT hw hb;clear hb HD d5 c0 c3 c4 z6 z7 s0 s1 s2 s3 s4;cases z8:decG s;rotate_left
 {
 have HE:Hd (gDue g cn ts ims un= (if g.di.getD un false=true then [] else [verd s un s.n],0)):=by have e:=gDue_d HE0.o (by rw [<-HS.o];exact z8);rw [<-HS.o] at e;exact uH e
 obtain ⟨bd,od,had,hdc⟩:=zor (HP.o.di.bl hw) un (by omega);have hud: (un:Int)< (k0.nd:Int):=by have:=HP.o.di.len;omega
 have HV:=uH (fun W=>ziq s un s.n W);unfold gsv at HV;clear z8 HP HTs HIs HE0 HS;generalize g.di.getD un false=x at *;go_upto_region 9 with fail
 (try dsimp only [aG] at b0);rw [had] at b0
 refine km (S:=fun W' =>ce W' w.heap.size 8=some (.slice (some ⟨bd,od,none⟩) k0.nd k0.cd)/\ce W' bd (od+un)=some (.bool x)/\(ce W' S 0=some (iV s.n)/\ce W' S 1=some (iV s.v)/\ce W' S 2=some (.bool s.co)/\ce W' S 3=some (.bool s.ab)/\ce W' S 4=some (.bool s.en))/\bZ w3 W') (by kernel_rfl) (dueR b0.o rfl bS.o hdc (kS _ _).drew) ?_;intro hHeld;refine Htk 0 ?_
 refine Htk 1 ?_
 refine Htk 2 ?_
 refine Htk 3 ?_
 refine Htk 4 ?_
 refine Htk 5 ?_
 refine Htk 6 ?_
 refine Htk 7 ?_
 refine Htk 8 ?_
 refine wr1 9 (fun K hK=> ?_);go_simp;refine(zae HV _).mono ?_;rintro e w4 ⟨rfl,hb4⟩;have hk4:=((kS w3.heap.size w3).drew).trans (hb4.mono ((kS w3.heap.size w3).drew).size);go_wp2_with fail;refine hK.out _ _ (dueR b0.o rfl bS.o hdc hk4) (fun hHeld=> ?_);clear hK K
 refine wr1 10 (fun K hK=> ?_);go_simp;refine(ze3 x (verd s un s.n) rfl _).mono ?_;rintro e w5 ⟨⟨al,nl,cl,rfl,hml,hnl,hcl,hfl⟩,hb5⟩;have hk5:=bT hk4 hb5;go_wp2_with fail;refine hK.out _ _ (dueR b0.o rfl bS.o hdc hk5) (fun hHeld=> ?_);clear hK K
 refine Htk 11 ?_
 refine Htk 12 ?_
 try simp only [sq]
 refine KE (by kernel_rfl) ?_ _;go_wp2_with fail;refine kT (v:=.tuple #[.slice al nl cl,iV 0]) (by simp [results,Tryz.results192,go_sem]) rfl ?_;rw [HE.o];exact⟨⟨al,nl,cl,rfl,hml.mswF,hnl,hcl,hfl.lower (kc hw.size hk4.size)⟩,(bT hw hk5)⟩ }
 have Z8:Hd (decG (gOf g.ws)=false):=by show _=_;rw [<-HS.o];exact z8
 clear z8 HS bS;obtain ⟨bv,ov,hav,hvc⟩:=zor (HP.o.vo.bl hw) un hul;have huv: (un:Int)< (k0.nv:Int):=by have:=HP.o.vo.len;omega
 have x7:=zaa b0.o 7 _ rfl
 (try dsimp only [aG] at x7);rw [hav] at x7
 clear hav;cases z9:g.vo.getD un false;rotate_left
 {
 have HE:=uH (gDue_v HE0.o Z8.o z9);rw [z9] at hvc;clear z9 HP HTs HIs HE0 Z8;go_wp2_with fail;refine kT (v:=.tuple #[nV,iV 0]) (by simp [results,Tryz.results192,go_sem]) rfl ?_;exact zcg HE.o hw }
 rw [z9] at hvc;have Z9:=uH z9;clear z9;obtain ⟨bi,oi,a5,c5,hai,hcell,-,-,-⟩:=zfd (HIs.o.at_.bl hw) un hui;have c4:=zaa b1.o 4 _ rfl;rw [hai] at c4;clear hai;have hgd:ims.getD un []=ims[un]:=by simp [hui]
 by_cases za:40<ims[un].length
 {
 have HE:=uH (gDue_m HE0.o Z8.o Z9.o (by rw [kp,hgd];exact za));have zaI: (40:Int)< (ims[un].length:Int):=by omega
 clear HP HTs HIs HE0 Z8 Z9 za hgd;generalize ims[un].length=L5 at *;go_wp2_with fail;refine kT (v:=.tuple #[nV,iV 2]) (by simp [results,Tryz.results192,go_sem]) rfl ?_;exact zcg HE.o hw }
 have HE:=uH (gDue_p HE0.o Z8.o Z9.o (by rw [kp,hgd];exact za));have zaI: ¬(40:Int)< (ims[un].length:Int):=by omega
 have HL:=uH (znd cn cv cu m ts ims un w3 (HTs.o.bl hw) (HIs.o.bl hw) hui hut (by rw [hgd];omega));unfold cpv at HL;rw [kp] at HE;clear HP HTs HIs HE0 Z8 Z9 za hgd;generalize ims[un].length=L5 at *;have c0:=zaa b1.o 0 _ rfl;have c1:=zaa b1.o 1 _ rfl;have c2:=zaa b1.o 2 _ rfl;have c3:=zaa b1.o 3 _ rfl;go_upto_region 14 with fail
 clear c4;have c4:=zaa b1.o 4 _ rfl;go_wp2_with fail;refine(zae HL).mono ?_;rintro e w4 ⟨⟨al,nl,cl,rfl,hml,hnl,hcl,hfl⟩,hb4⟩;go_wp2_with fail;refine kT (v:=.tuple #[.slice al nl cl,iV 0]) (by simp [results,Tryz.results192,go_sem]) rfl ?_;rw [HE.o];exact⟨⟨al,nl,cl,rfl,hml.lower hw.size,hnl,hcl,hfl.lower hw.size⟩,(bT hw hb4)⟩
end
section
open Go.ChangeShapes Go.WideShapes Go.ChangeAt Go.RowKit Go.Joins
theorem own:ownKnob Tryz.prog.godebug=none:=by kernel_rfl
theorem zy6:laidOutB Tryz.prog=true:=by kernel_rfl
theorem zbo:Tryz.prog.cellsOf 3=1:=by kernel_rfl
structure InInts (W:World) (a:oA) (n c:Nat) (xs:LI):Prop where
 ints:zag W a xs
 len:xs.length=n
 cap:n<=c
 max:n<=maxLen
structure InTgts (W:World) (a:oA) (n c:Nat) (ts:List T3):Prop where
 tgts:zbm W a ts
 len:ts.length=n
 cap:n<=c
 max:n<=maxLen
theorem ad_spot {ad:Addr} (h:W.cell? (ad.add 0)=some v):ad.spot=none:=by
 simpa [Addr.add] using World.cell?_spot h
theorem zeb {b off i:Nat} (h:W.cell? ((⟨b,off,none⟩:Addr).add i)=some v):W.cell? ⟨b,off+i,none⟩=some v:=by
 by_cases hi0:i=0
 { subst hi0;simpa [Addr.add] using h }
 {
 simpa [Addr.add,hi0] using h }
theorem zfy {H:Type} {enc:TypeId×Value->H} {x:DataW H×List MemPlace}
 (h:DataW.trod enc Tryz.prog W 0 (fun _=>true) true fuel 26 [v]=some x):
 ∃a n c xs,v=.slice a n c/\InInts W a n c xs:=by
 rcases open_ints Tryz.underlying26 Tryz.underlying3 zbo h with ⟨hcs,hx⟩| ⟨ad,len,cap,zs,hcs,_,hl,hm,hz,hx,hcell,_⟩
 {
 simp at hcs
 subst hcs hx;exact⟨none,0,0, [],rfl,⟨.inl rfl,rfl,kQ _,by decide⟩⟩ }
 {
 simp at hcs hz
 subst hcs hx;refine⟨some ad,len,cap,zs.take len,rfl, ?_,by simp;omega,hl,kc hl hm⟩
 by_cases h0:len=0
 { exact .inl (by simp [h0]) }
 obtain ⟨b,off,spot⟩:=ad;have hs:spot=none:=ad_spot (hcell 0 (by omega));subst hs;refine .inr ⟨b,off,rfl,fun i hi=> ?_⟩
 simp at hi
 rw [zeb (hcell i (by omega))]
 simp [show i<len by omega] }
theorem zmi:Tryz.prog.cellsOf 163=3:=by kernel_rfl
theorem open_tgt {H:Type} {enc:TypeId×Value->H} {x:DataW H×List MemPlace} (h:DataW.trod enc Tryz.prog W 0 (fun _=>true) true n 163 cs=some x):
 ∃t:T3,cs=zj8 t:=by
 obtain ⟨xs,k,hk,hxy,hl,hxl,hf⟩:=DataW.trod_struct Tryz.underlying163 h;rw [zmi] at hl
 match cs,hl with
 | [v0,v1,v2],_=>
  match xs,hxl with
  | [y0,y1,y2],_=>
   have g0:=hf 0 _ rfl;have g1:=hf 1 _ rfl;have g2:=hf 2 _ rfl
   simp [zbo] at g0 g1 g2
   obtain ⟨z0,e0,_⟩:=DataW.trod_int Tryz.underlying3 g0;obtain ⟨z1,e1,_⟩:=DataW.trod_int Tryz.underlying3 g1;obtain ⟨z2,e2,_⟩:=DataW.trod_int Tryz.underlying3 g2
   simp at e0 e1 e2
   exact⟨(z0,z1,z2),by rw [e0,e1,e2];rfl⟩
theorem zjm {H:Type} {enc:TypeId×Value->H} {x:DataW H×List MemPlace}
 (h:DataW.trod enc Tryz.prog W 0 (fun _=>true) true fuel 43 [v]=some x):
 ∃a n c ts,v=.slice a n c/\InTgts W a n c ts:=by
 rcases Go.Deep.open_slice Tryz.underlying43 h with ⟨hcs,hx⟩| ⟨ad,len,cap,m,n,D,Pl,hcs,_,hl,hm,hmm,hx,hV⟩
 {
 simp at hcs
 subst hcs;exact⟨none,0,0, [],rfl,⟨.inl rfl,rfl,kQ _,by decide⟩⟩ }
 {
 simp at hcs hmm
 subst hcs hmm;have hone: ∀i,∃t:T3,i<len->∀j u,(zj8 t)[j]?=some u->W.cell? ((ad.add (i * 3)).add j)=some u:=by
  intro i
  by_cases hi:i<len
  {
  obtain ⟨cs',h1,h2⟩:=hV i (by omega);obtain ⟨t,rfl⟩:=open_tgt h2;rw [zmi] at h1;obtain ⟨_,hlen,hcell⟩:=World.cells?_some h1;refine⟨t,fun _ j u hj=> ?_⟩;have hj3:j<3:=by
   have:=(kY.1 hj).1
   simpa [zj8] using this
  rw [hcell j (by simpa [zj8] using hj3)];exact hj }
  { exact⟨(0,0,0),fun h=>absurd h hi⟩ }
 obtain ⟨R,hR⟩:=Classical.axiomOfChoice hone;refine⟨some ad,len,m,(List.range len).map R,rfl, ?_,by simp,hl,kc hl hm⟩
 by_cases h0:len=0
 { exact .inl (by simp [h0]) }
 obtain ⟨b,off,spot⟩:=ad;have hs:spot=none:=by
  have:=hR 0 (by omega) 0 _ rfl;rw [Nat.zero_mul] at this;have:=World.cell?_spot this
  simpa [Addr.add] using this
 subst hs;refine .inr ⟨b,off,rfl,fun i t hi=> ?_⟩;have hi2:i<len:=by
  have:=(kY.1 hi).1
  simpa using this
 have hri:R i=t:=by simpa [hi2] using hi
 have hc:=hR i hi2;rw [hri] at hc;have hadd: (⟨b,off,none⟩:Addr).add (i * 3)= ⟨b,off+i * 3,none⟩:=by unfold Addr.add;split<;>simp_all
 rw [hadd] at hc;exact⟨by simpa [Addr.add] using hc 0 _ rfl,zeb (hc 1 _ rfl),zeb (hc 2 _ rfl)⟩ }
end
section
open Go.ChangeShapes Go.WideShapes Go.ChangeAt Go.RowKit Go.Joins
theorem zjr:Tryz.prog.cellsOf 26=1:=by kernel_rfl
theorem zkn:Tryz.prog.cellsOf 30=3:=by kernel_rfl
theorem zlz:Tryz.prog.cellsOf 45=3:=by kernel_rfl
theorem ztu:Tryz.prog.cellsOf 47=7:=by kernel_rfl
theorem zqm:Tryz.prog.cellsOf 43=1:=by kernel_rfl
theorem zv2:Tryz.prog.cellsOf 41=1:=by kernel_rfl
theorem zpx:Tryz.prog.cellsOf 42=1:=by kernel_rfl
theorem InInts.bi {c:Nat} {xs:LI} (h:InInts W a n c xs):BI W a n xs:=⟨h.ints,h.len,h.max⟩
theorem InTgts.bt {c:Nat} (h:InTgts W a n c ts):BT W a n ts:=⟨h.tgts,h.len,h.max⟩
theorem zln {H:Type} {enc:TypeId×Value->H} {x:DataW H×List MemPlace}
 (h:DataW.trod enc Tryz.prog W 0 (fun _=>true) true fuel 26 [v]=some x):
 ∃a n c xs,v=.slice a n c/\BI W a n xs/\n<=c/\c<=maxLen:=by
 obtain ⟨a,n,c,xs,rfl,hi⟩:=zfy h;refine⟨a,n,c,xs,rfl,hi.bi,hi.cap, ?_⟩
 rcases open_ints Tryz.underlying26 Tryz.underlying3 zbo h with ⟨hcs,hx⟩| ⟨ad,len,cap,zs,hcs,_,hl,hm,hz,hx,hcell,_⟩
 {
 simp at hcs
 rw [hcs.2.2];decide }
 {
 simp at hcs
 rw [hcs.2.2];exact hm }
theorem zkm {H:Type} {enc:TypeId×Value->H} {x:DataW H×List MemPlace} (h:DataW.trod enc Tryz.prog W 0 (fun _=>true) true n 30 cs=some x):
 ∃(r:Rt) (a:oA) (m c:Nat),cs= [iV r.v,.slice a m c,iV r.t]/\BI W a m r.ks/\m<=c/\c<=maxLen:=by
 obtain ⟨xs,k,hk,hxy,hl,hxl,hf⟩:=DataW.trod_struct Tryz.underlying30 h;rw [zkn] at hl
 match cs,hl with
 | [v0,v1,v2],_=>
  match xs,hxl with
  | [y0,y1,y2],_=>
   have g0:=hf 0 _ rfl;have g1:=hf 1 _ rfl;have g2:=hf 2 _ rfl
   simp [zbo,zjr] at g0 g1 g2
   obtain ⟨z0,e0,_⟩:=DataW.trod_int Tryz.underlying3 g0;obtain ⟨z2,e2,_⟩:=DataW.trod_int Tryz.underlying3 g2;obtain ⟨a,m,c,ks,rfl,hi,h1,h2⟩:=zln g1
   simp at e0 e2
   exact⟨⟨z0,ks,z2⟩,a,m,c,by rw [e0,e2],hi,h1,h2⟩
theorem zkx {H:Type} {enc:TypeId×Value->H} {x:DataW H×List MemPlace} (h:DataW.trod enc Tryz.prog W 0 (fun _=>true) true n 45 cs=some x):
 ∃(v u:Int) (a:oA) (m c:Nat) (ts:List T3),cs= [iV v,iV u,.slice a m c]/\BT W a m ts:=by
 obtain ⟨xs,k,hk,hxy,hl,hxl,hf⟩:=DataW.trod_struct Tryz.underlying45 h;rw [zlz] at hl
 match cs,hl with
 | [v0,v1,v2],_=>
  match xs,hxl with
  | [y0,y1,y2],_=>
   have g0:=hf 0 _ rfl;have g1:=hf 1 _ rfl;have g2:=hf 2 _ rfl
   simp [zbo,zqm] at g0 g1 g2
   obtain ⟨z0,e0,_⟩:=DataW.trod_int Tryz.underlying3 g0;obtain ⟨z1,e1,_⟩:=DataW.trod_int Tryz.underlying3 g1;obtain ⟨a,m,c,ts,rfl,hi⟩:=zjm g2
   simp at e0 e1
   exact⟨z0,z1,a,m,c,ts,by rw [e0,e1],hi.bt⟩
theorem zsp {H:Type} {enc:TypeId×Value->H} {x:DataW H×List MemPlace}
 (h:DataW.trod enc Tryz.prog W 0 (fun _=>true) true fuel 42 [v]=some x):
 ∃a n c ls,v=.slice a n c/\BL W a n ls:=by
 rcases Go.Deep.open_slice Tryz.underlying42 h with ⟨hcs,hx⟩| ⟨ad,len,cap,m,n,D,Pl,hcs,_,hl,hm,hmm,hx,hV⟩
 {
 simp at hcs
 subst hcs;exact⟨none,0,0, [],rfl,⟨.inl rfl,rfl,by decide⟩⟩ }
 {
 simp at hcs hmm
 subst hcs hmm;have hone: ∀i,∃t:LI×oA×Nat,i<len->W.cell? (ad.add i)=some (.slice t.2.1 t.1.length t.2.2)/\zag W t.2.1 t.1/\t.1.length<=t.2.2/\t.2.2<=maxLen:=by
  intro i
  by_cases hi:i<len
  {
  obtain ⟨cs',h1,h2⟩:=hV i (by omega);rw [zjr] at h1;obtain ⟨_,hlen,hcell⟩:=World.cells?_some h1
  match cs',hlen with
  | [u0],_=>
   obtain ⟨a,n',c,xs,rfl,hi',g1,g2⟩:=zln h2;refine⟨(xs,a,c),fun _=>⟨?_,hi'.at_,by rw [hi'.len];exact g1,g2⟩⟩;have:=hcell 0 (by simp);rw [Ko] at this;rw [hi'.len]
   simpa [Addr.add] using this }
  { exact⟨([],none,0),fun h=>absurd h hi⟩ }
 obtain ⟨R,hR⟩:=Classical.axiomOfChoice hone;refine⟨some ad,len,m,(List.range len).map (fun i=>(R i).1),rfl, ?_,by simp,kc hl hm⟩
 by_cases h0:len=0
 { exact .inl (by simp [h0]) }
 obtain ⟨b,off,spot⟩:=ad;have hs:spot=none:=by
  have:=(hR 0 (by omega)).1;have:=World.cell?_spot this
  simpa [Addr.add] using this
 subst hs;refine .inr ⟨b,off,rfl,fun i t hi=> ?_⟩;have hi2:i<len:=by
  have:=(kY.1 hi).1
  simpa using this
 have hri: (R i).1=t:=by simpa [hi2] using hi
 obtain ⟨c1,c2,c3,c4⟩:=hR i hi2;rw [hri] at c1 c2 c3;exact⟨(R i).2.1,(R i).2.2,zeb c1,c2,c3,c4⟩ }
theorem zt3 {H:Type} {enc:TypeId×Value->H} {x:DataW H×List MemPlace}
 (h:DataW.trod enc Tryz.prog W 0 (fun _=>true) true fuel 41 [v]=some x):
 ∃a n c rs,v=.slice a n c/\BR W a n rs:=by
 rcases Go.Deep.open_slice Tryz.underlying41 h with ⟨hcs,hx⟩| ⟨ad,len,cap,m,n,D,Pl,hcs,_,hl,hm,hmm,hx,hV⟩
 {
 simp at hcs
 subst hcs;exact⟨none,0,0, [],rfl,⟨.inl rfl,rfl,by decide⟩⟩ }
 {
 simp at hcs hmm
 subst hcs hmm;have hone: ∀i,∃t:Rt×oA×Nat,i<len->(∀j u,([iV t.1.v,.slice t.2.1 t.1.ks.length t.2.2,iV t.1.t]:LV)[j]?=some u->W.cell? ((ad.add (i * 3)).add j)=some u)/\zag W t.2.1 t.1.ks/\t.1.ks.length<=t.2.2/\t.2.2<=maxLen:=by
  intro i
  by_cases hi:i<len
  {
  obtain ⟨cs',h1,h2⟩:=hV i (by omega);obtain ⟨r,a,n',c,rfl,hi',g1,g2⟩:=zkm h2;rw [zkn] at h1;obtain ⟨_,hlen,hcell⟩:=World.cells?_some h1;refine⟨(r,a,c),fun _=>⟨fun j u hj=> ?_,hi'.at_,by rw [hi'.len];exact g1,g2⟩⟩;have hj3:j<3:=by
   have:=(kY.1 hj).1
   simpa using this
  rw [hcell j (by simpa using hj3)];rw [hi'.len] at hj;exact hj }
  { exact⟨(⟨0, [],0⟩,none,0),fun h=>absurd h hi⟩ }
 obtain ⟨R,hR⟩:=Classical.axiomOfChoice hone;refine⟨some ad,len,m,(List.range len).map (fun i=>(R i).1),rfl, ?_,by simp,kc hl hm⟩
 by_cases h0:len=0
 { exact .inl (by simp [h0]) }
 obtain ⟨b,off,spot⟩:=ad;have hs:spot=none:=by
  have:=(hR 0 (by omega)).1 0 _ rfl;rw [Nat.zero_mul] at this;have:=World.cell?_spot this
  simpa [Addr.add] using this
 subst hs;refine .inr ⟨b,off,rfl,fun i t hi=> ?_⟩;have hi2:i<len:=by
  have:=(kY.1 hi).1
  simpa using this
 have hri: (R i).1=t:=by simpa [hi2] using hi
 obtain ⟨hc,c2,c3,c4⟩:=hR i hi2;rw [hri] at hc c2 c3;have hadd: (⟨b,off,none⟩:Addr).add (i * 3)= ⟨b,off+i * 3,none⟩:=by unfold Addr.add;split<;>simp_all
 rw [hadd] at hc;exact⟨(R i).2.1,(R i).2.2,by simpa [Addr.add] using hc 0 _ rfl,zeb (hc 1 _ rfl),zeb (hc 2 _ rfl),c2,c3,c4⟩ }
end
theorem gTab:Tryz.prog.globalNamed "internal/strconv.uint64pow10"=some 1:=by kernel_rfl
theorem gTabType: (Tryz.prog.globals[1]?).map (·.type)=some 356:=by kernel_rfl
theorem cells_tab:Tryz.prog.cellsOf 356=20:=by kernel_rfl
theorem cells_u64:Tryz.prog.cellsOf 279=1:=by kernel_rfl
theorem zu9 {r:List (String×DataW Unit)} (h:laidMet Tryz.prog (("internal/strconv.uint64pow10",Rows.laid_internal_strconv_uint64pow10)::r) W):Tab W:=
 Lib.tabIs_of_head (zs:=Lib.pow10Tab) gTab gTabType Tryz.underlying356 Tryz.underlying279 cells_u64 cells_tab h
end Go.Proofs.YthmekfcgdfckaaaGreatDoor
