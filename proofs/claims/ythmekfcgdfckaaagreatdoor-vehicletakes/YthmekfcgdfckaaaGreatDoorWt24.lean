/- The contract of gate.New. The contract of unit.New. -/
import Derived.Test.YthmekfcgdfckaaaGreatDoorWt17
import Derived.Test.YthmekfcgdfckaaaGreatDoorWt2
import Derived.Test.YthmekfcgdfckaaaGreatDoorWt3
import Derived.Deep.DeepCutAuto
import Derived.Test.YthmekfcgdfckaaaGreatDoorWt22
set_option maxRecDepth 1000000
set_option maxHeartbeats 0
namespace Go.Proofs.YthmekfcgdfckaaaGreatDoor
variable {units name:Int} {image:List Int}
section
open Go.RowKit
attribute [local go_sem ↓] Go.wp_at_zero Go.wp_at_succ
def gw0:List Int:=1::List.replicate 63 65535
def gNw (r:Rt) (units:Int):Gt:=⟨gw0,-1,true,⟨r,0⟩,List.replicate units.toNat false,List.replicate units.toNat false⟩
def gNew (r:Rt) (units:Int):Gt×Int:=if inB units 1 4=false then(gt0,3) else if gtE (gNw r units)≠0 then(gt0,gtE (gNw r units)) else(gNw r units,0)
theorem fmt0:fmtS (List.replicate 64 65535) (-1)= (gw0,-1,0):=by decide+kernel
theorem gNew_3 {r:Rt} (h:inB units 1 4=false):gNew r units= (gt0,3):=by unfold gNew;rw [if_pos h]
theorem gNew_e {r:Rt} (h:inB units 1 4=true) (h2:gtE (gNw r units)≠0):gNew r units= (gt0,gtE (gNw r units)):=by unfold gNew;rw [if_neg (by rw [h];decide),if_pos h2]
theorem gNew_0 {r:Rt} (h:inB units 1 4=true) (h2:gtE (gNw r units)=0):gNew r units= (gNw r units,0):=by unfold gNew;rw [if_neg (by rw [h];decide),if_neg (by simpa using h2)]
theorem zp7 (n:Nat):madeCells (Value.bool false).cells n= (bvals (List.replicate n false)).toArray:=by
  apply Array.toList_inj.1
  show(madeCells #[Value.bool false] n).toList=_
  rw [toList_madeCells_one]
  simp [bvals]
theorem zqo (n:Nat) (w:World) (h:n≤4):
    (Instr.makeSlice 33 (.int .i64 n) (.int .i64 n)).run Tryz.prog w=.ok (.slice (some ⟨w.heap.size,0,none⟩) n n) (w.alloc (.cells (bvals (List.replicate n false)).toArray 4)):=by
  obtain ⟨i0,hi,hz0,hz1,hz2⟩:=info_parts zf2;have:=run_make (P:=Tryz.prog) w 33 4 i0 (.bool false) Tryz.underlying33 hi hz0 .i64 .i64 n n (by omega) (by omega) (by rw [hz2];omega) (by omega);rw [hz1,Int.toNat_natCast,Nat.mul_one,zp7] at this;exact this
theorem zbi {W W' :World} {B F:Nat} {x0 x1 x2 y0 y1:Value} {t t2:TypeId} (hF:W.heap[F]?=some (.cells #[y0,y1] t (0,0))) (hB:W.heap[B]?=some (.cells #[x0,x1,x2] t2 (0,0))) (h:Below W.heap.size W W'):
    W'.cell? ⟨F,0,none⟩=some y0∧W'.cell? ⟨F,1,none⟩=some y1∧W'.cell? ⟨B,0,none⟩=some x0∧W'.cell? ⟨B,1,none⟩=some x1∧W'.cell? ⟨B,2,none⟩=some x2∧Below W.heap.size W W' :=
  ⟨zaa (zab hF h) 0 _ rfl,zaa (zab hF h) 1 _ rfl,zaa (zab hB h) 0 _ rfl,zaa (zab hB h) 1 _ rfl,zaa (zab hB h) 2 _ rfl,h⟩
theorem zbq {W:World} {b:Nat} {bs:List Bool} (h:W.heap[b]?=some (.cells (bvals bs).toArray 4 (0,0))):OwnB W b bs:=⟨_,h,by rw [←zh2 bs];simp,by simp [bvals]⟩
def NewR (W:World) (g:Gt) (k:GA) (v8:Value) (wc:World):Prop:=
  ∃G av ad n,v8=.pointer (some ⟨G,0,none⟩)∧n=g.vo.length∧g.di=g.vo∧wc.heap[G]?=some (gtO g ⟨k.a,k.n,k.c,k.ak,k.nk,k.ck,some ⟨av,0,none⟩,n,n,some ⟨ad,0,none⟩,n,n⟩)∧OwnB wc av g.vo∧OwnB wc ad g.vo∧Below W.heap.size W wc
theorem zpt (r:Rt) (a:Option Addr) (n c:Nat) (units:Int) (w:World) (h:BI w a n r.ks):
    Calls Tryz.prog 40 #[.agg #[.int .i64 r.v,.slice a n c,.int .i64 r.t],.int .i64 units] w (GAns w (gNew r units)):=by
  have hw:Below w.heap.size w ((w.alloc (.cells #[.int .i64 r.v,.slice a n c,.int .i64 r.t] 30)).alloc (.cells aY 35)):=bA2;have b0:Hid (((w.alloc (.cells #[.int .i64 r.v,.slice a n c,.int .i64 r.t] 30)).alloc (.cells aY 35)).heap[w.heap.size]?=some (.cells #[.int .i64 r.v,.slice a n c,.int .i64 r.t] 30 (0,0))):=zai (heap_alloc_last _ _) _;have b1:Hid (((w.alloc (.cells #[.int .i64 r.v,.slice a n c,.int .i64 r.t] 30)).alloc (.cells aY 35)).heap[w.heap.size+1]?=some (.cells aY 35 (0,0))):=zau _ _ _;have HP:=hide h;have hx:w.heap.size≤w.heap.size+1:=by omega
  clear h;go_enter Tryz.func40,Tryz.ntmps40;go_wp2_with fail;generalize ((w.alloc (.cells #[.int .i64 r.v,.slice a n c,.int .i64 r.t] 30)).alloc (.cells aY 35))=W at *;refine(zbc _ _ _ _).mono ?_;rintro e w1 ⟨rfl,hb⟩;subst hb;cases z1:inB units 1 4
  {
  have HE:=hide (gNew_3 (r:=r) z1);obtain ⟨y0,y1,y2,y3,y4,y5,y6,y7,y8⟩:=cl9 b1.out;obtain ⟨f0,f1,f2,f3,f4,f5,f6,f7,f8⟩:=fr9 b1.out;go_wp2_with fail;refine bodyPost_ret (v:=.tuple #[gtv gt0 ga0,.int .i64 3]) (by simp [results,Tryz.results40,go_sem,gtv,gt0,ga0,y0,y1,y2,y3,y4,y5,y6,y7,y8]) rfl ?_;rw [HE.out];exact⟨⟨ga0,rfl,gin0 _,gfr0 _⟩,zam hw (zac (zac (zac (zac (zac (zac (zac (zac (zac (World.grownBy.refl w1 (some (w.heap.size+1))) 0 (.slice none 0 0)) 1 (.int .i64 0)) 2 (.bool false)) 3 (.int .i64 0)) 4 (.slice none 0 0)) 5 (.int .i64 0)) 6 (.int .i64 0)) 7 (.slice none 0 0)) 8 (.slice none 0 0)) hx hw.size⟩
  }
  have hq:=hide (new_any 2 w1);rw [show newS 2= (List.replicate 64 65535,-1,0) from rfl] at hq;go_wp2_with fail;refine(zae hq).mono ?_;rintro e w2 ⟨⟨a2,n2,c2,rfl,hi2,hn2,hc2,hf2⟩,hb2⟩;obtain rfl:n2=64:=by rw [←hn2];simp
  have hFl:=zak (zab b1.out hb2);replace b0:=hide (zab b0.out (zaf hb2 (.cells #[.slice a2 64 c2,.int .i64 (-1)] 28)));replace b1:=hide (zab b1.out (zaf hb2 (.cells #[.slice a2 64 c2,.int .i64 (-1)] 28)));replace hw:=hw.trans ((zaf hb2 (.cells #[.slice a2 64 c2,.int .i64 (-1)] 28)).mono hw.size);have bF:=hide (heap_alloc_last w2 (.cells #[.slice a2 64 c2,.int .i64 (-1)] 28));have hf:=hide (zju a2 64 c2 (List.replicate 64 65535) (-1) (w2.alloc (.cells #[.slice a2 64 c2,.int .i64 (-1)] 28)) (hi2.alloc _) (by simp) (by decide));rw [fmt0] at hf;clear hb2 hi2 hf2 hn2 hq;go_upto_region 6 with fail
  generalize w2.alloc (.cells #[.slice a2 64 c2,.int .i64 (-1)] 28)=W2 at *;generalize w2.heap.size=F at *;have hFW:=zak bF.out;have q0:=zaa bF.out 0 _ rfl;have q1:=zaa bF.out 1 _ rfl;go_wp2_with fail;refine(zae hf).mono ?_;rintro e w3 ⟨⟨a3,n3,c3,rfl,hi3,hn3,hc3,hf3⟩,hb3⟩;obtain rfl:n3=64:=by rw [←hn3];rfl
  replace b0:=hide (zab b0.out hb3);replace b1:=hide (zab b1.out hb3);replace bF:=hide (zab bF.out hb3);replace hw:=bT hw hb3;clear q0 q1 hf hb3;have q0:=zaa bF.out 0 _ rfl;have q1:=zaa bF.out 1 _ rfl;have f0:=zad bF.out 0;have f1:=zad bF.out 1;go_upto_region 9 with fail
  have hT:w3.grownBy ((w3.setCell ⟨F,0,none⟩ (.slice a3 64 c3)).setCell ⟨F,1,none⟩ (.int .i64 (-1))) (some F):=zac (zac (World.grownBy.refl _ _) _ _) _ _;have bG:=hide (zk1 (x' :=.slice a3 64 c3) (y' :=.int .i64 (-1)) bF.out);replace b0:=hide (zar b0.out hT (by omega));replace b1:=hide (zar b1.out hT (by omega));have HI3:=hide (zax hi3 hT (za6 hf3 hFW));replace hw:=zam hw hT (by omega) hw.size;clear q0 q1 f0 f1 hi3 hf3 bF hT;generalize ((w3.setCell ⟨F,0,none⟩ (.slice a3 64 c3)).setCell ⟨F,1,none⟩ (.int .i64 (-1)))=W3 at *;have HK:=hide (HP.out.below hw);obtain ⟨un,hun,hu1⟩: ∃v:Nat,units= (v:Int)∧v≤4:=⟨units.toNat,by unfold inB at z1;simp at z1;omega,by unfold inB at z1;simp at z1;omega⟩;subst hun;have Z1:=hide z1;clear z1
  go_cut [8] (fun v8 wx=>NewR W3 (gNw r un) ⟨a3,64,c3,a,n,c,none,0,0,none,0,0⟩ v8 wx)
  case first=>
    have q0:=zaa bG.out 0 _ rfl;have q1:=zaa bG.out 1 _ rfl;have r0:=zaa b0.out 0 _ rfl;have r1:=zaa b0.out 1 _ rfl;have r2:=zaa b0.out 2 _ rfl;have hmk:=fun W=>zqo un W hu1
    clear q0 q1 r0 r1 r2;refine wp_region_held_drew (S:=fun W' =>W'.cell? ⟨F,0,none⟩=some (.slice a3 64 c3)∧W'.cell? ⟨F,1,none⟩=some (.int .i64 (-1))∧W'.cell? ⟨w.heap.size,0,none⟩=some (.int .i64 r.v)∧W'.cell? ⟨w.heap.size,1,none⟩=some (.slice a n c)∧W'.cell? ⟨w.heap.size,2,none⟩=some (.int .i64 r.t)∧Below W3.heap.size W3 W') (by kernel_rfl) (zbi bG.out b0.out (Below.refl _ _).drew) ?_;intro hHeld;refine Htk (i:=0) ?_
    try simp only [sq]
    refine Htk (i:=1) ?_
    try simp only [sq]
    refine Htk (i:=2) ?_
    try simp only [sq]
    refine Htk (i:=3) ?_
    try simp only [sq]
    refine Htk (i:=5) ?_
    try simp only [sq]
    refine wpAnyH_ready (rs:= [4,6,8]) (by kernel_rfl) (by simp) ?_;refine(AllReadyH.cons (by rfl) (fun K hK=> ?_) (AllReadyH.cons (by rfl) (fun K hK=> ?_) (AllReadyH.cons (by rfl) (fun K hK=> ?_) AllReadyH.nil)))
    {
    go_simp;refine hK.out _ _ (zbi bG.out b0.out (zaf ((Below.refl W3.heap.size W3).drew) (.cells (bvals (List.replicate un false)).toArray 4))) (fun hHeld=> ?_);clear hK K
    try simp only [sq]
    refine wpAnyH_ready (rs:= [6,8]) (by kernel_rfl) (by simp) ?_;refine(AllReadyH.cons (by rfl) (fun K hK=> ?_) (AllReadyH.cons (by rfl) (fun K hK=> ?_) AllReadyH.nil))
    {
    go_simp;refine hK.out _ _ (zbi bG.out b0.out (zaf (zaf ((Below.refl W3.heap.size W3).drew) (.cells (bvals (List.replicate un false)).toArray 4)) (.cells (bvals (List.replicate un false)).toArray 4))) (fun hHeld=> ?_);clear hK K
    try simp only [sq]
    refine Htk (i:=7) ?_
    try simp only [sq]
    refine wpAnyH_ready (rs:= [8]) (by kernel_rfl) (by simp) ?_;refine(AllReadyH.cons (by rfl) (fun K hK=> ?_) AllReadyH.nil)
    {
    go_simp;refine hK.out _ _ (zbi bG.out b0.out (zaf (zaf (zaf ((Below.refl W3.heap.size W3).drew) (.cells (bvals (List.replicate un false)).toArray 4)) (.cells (bvals (List.replicate un false)).toArray 4)) (.cells aY 35))) (fun hHeld=> ?_);clear hK K
    try simp only [sq]
    refine wpAnyH_ready (rs:= [9]) (by kernel_rfl) (by simp) ?_;refine AllReadyH.cons (by rfl) (fun K hK=> ?_) AllReadyH.nil;go_simp;refine hK.out _ _ (zbi bG.out b0.out ((zaf (zaf (zaf ((Below.refl W3.heap.size W3)) (.cells (bvals (List.replicate un false)).toArray 4)) (.cells (bvals (List.replicate un false)).toArray 4)) (.cells #[.slice a3 64 c3,.int .i64 (-1),.bool true,.int .i64 r.v,.slice a n c,.int .i64 r.t,.int .i64 0,.slice (some ⟨W3.heap.size,0,none⟩) un un,.slice (some ⟨W3.heap.size+1,0,none⟩) un un] 35)).drew)) (fun hHeld=> ?_);clear hK K
    try simp only [sq]
    refine wpAnyH_done (by kernel_rfl) ?_ _;go_wp2_with fail
    go_meet
    case rel=>exact⟨W3.heap.size+1+1,W3.heap.size,W3.heap.size+1,un,rfl,by simp [gNw],rfl,bk3.2.2,zbq bk3.1,zbq bk3.2.1,(zaf (zaf (zaf ((Below.refl W3.heap.size W3)) (.cells (bvals (List.replicate un false)).toArray 4)) (.cells (bvals (List.replicate un false)).toArray 4)) (.cells #[.slice a3 64 c3,.int .i64 (-1),.bool true,.int .i64 r.v,.slice a n c,.int .i64 r.t,.int .i64 0,.slice (some ⟨W3.heap.size,0,none⟩) un un,.slice (some ⟨W3.heap.size+1,0,none⟩) un un] 35)).drew⟩
    }
    }
    {
    go_simp;refine hK.out _ _ (zbi bG.out b0.out (zaf (zaf ((Below.refl W3.heap.size W3).drew) (.cells (bvals (List.replicate un false)).toArray 4)) (.cells aY 35))) (fun hHeld=> ?_);clear hK K
    try simp only [sq]
    refine wpAnyH_ready (rs:= [6]) (by kernel_rfl) (by simp) ?_;refine(AllReadyH.cons (by rfl) (fun K hK=> ?_) AllReadyH.nil)
    {
    go_simp;refine hK.out _ _ (zbi bG.out b0.out (zaf (zaf (zaf ((Below.refl W3.heap.size W3).drew) (.cells (bvals (List.replicate un false)).toArray 4)) (.cells aY 35)) (.cells (bvals (List.replicate un false)).toArray 4))) (fun hHeld=> ?_);clear hK K
    try simp only [sq]
    refine Htk (i:=7) ?_
    try simp only [sq]
    refine wpAnyH_ready (rs:= [9]) (by kernel_rfl) (by simp) ?_;refine AllReadyH.cons (by rfl) (fun K hK=> ?_) AllReadyH.nil;go_simp;refine hK.out _ _ (zbi bG.out b0.out ((zaf (zaf (zaf ((Below.refl W3.heap.size W3)) (.cells (bvals (List.replicate un false)).toArray 4)) (.cells #[.slice a3 64 c3,.int .i64 (-1),.bool true,.int .i64 r.v,.slice a n c,.int .i64 r.t,.int .i64 0,.slice (some ⟨W3.heap.size,0,none⟩) un un,.slice (some ⟨W3.heap.size+1+1,0,none⟩) un un] 35)) (.cells (bvals (List.replicate un false)).toArray 4)).drew)) (fun hHeld=> ?_);clear hK K
    try simp only [sq]
    refine wpAnyH_done (by kernel_rfl) ?_ _;go_wp2_with fail
    go_meet
    case rel=>exact⟨W3.heap.size+1,W3.heap.size,W3.heap.size+1+1,un,rfl,by simp [gNw],rfl,bk3.2.1,zbq bk3.1,zbq bk3.2.2,(zaf (zaf (zaf ((Below.refl W3.heap.size W3)) (.cells (bvals (List.replicate un false)).toArray 4)) (.cells #[.slice a3 64 c3,.int .i64 (-1),.bool true,.int .i64 r.v,.slice a n c,.int .i64 r.t,.int .i64 0,.slice (some ⟨W3.heap.size,0,none⟩) un un,.slice (some ⟨W3.heap.size+1+1,0,none⟩) un un] 35)) (.cells (bvals (List.replicate un false)).toArray 4)).drew⟩
    }
    }
    }
    {
    go_simp;refine hK.out _ _ (zbi bG.out b0.out (zaf ((Below.refl W3.heap.size W3).drew) (.cells (bvals (List.replicate un false)).toArray 4))) (fun hHeld=> ?_);clear hK K
    try simp only [sq]
    refine wpAnyH_ready (rs:= [4,8]) (by kernel_rfl) (by simp) ?_;refine(AllReadyH.cons (by rfl) (fun K hK=> ?_) (AllReadyH.cons (by rfl) (fun K hK=> ?_) AllReadyH.nil))
    {
    go_simp;refine hK.out _ _ (zbi bG.out b0.out (zaf (zaf ((Below.refl W3.heap.size W3).drew) (.cells (bvals (List.replicate un false)).toArray 4)) (.cells (bvals (List.replicate un false)).toArray 4))) (fun hHeld=> ?_);clear hK K
    try simp only [sq]
    refine Htk (i:=7) ?_
    try simp only [sq]
    refine wpAnyH_ready (rs:= [8]) (by kernel_rfl) (by simp) ?_;refine(AllReadyH.cons (by rfl) (fun K hK=> ?_) AllReadyH.nil)
    {
    go_simp;refine hK.out _ _ (zbi bG.out b0.out (zaf (zaf (zaf ((Below.refl W3.heap.size W3).drew) (.cells (bvals (List.replicate un false)).toArray 4)) (.cells (bvals (List.replicate un false)).toArray 4)) (.cells aY 35))) (fun hHeld=> ?_);clear hK K
    try simp only [sq]
    refine wpAnyH_ready (rs:= [9]) (by kernel_rfl) (by simp) ?_;refine AllReadyH.cons (by rfl) (fun K hK=> ?_) AllReadyH.nil;go_simp;refine hK.out _ _ (zbi bG.out b0.out ((zaf (zaf (zaf ((Below.refl W3.heap.size W3)) (.cells (bvals (List.replicate un false)).toArray 4)) (.cells (bvals (List.replicate un false)).toArray 4)) (.cells #[.slice a3 64 c3,.int .i64 (-1),.bool true,.int .i64 r.v,.slice a n c,.int .i64 r.t,.int .i64 0,.slice (some ⟨W3.heap.size+1,0,none⟩) un un,.slice (some ⟨W3.heap.size,0,none⟩) un un] 35)).drew)) (fun hHeld=> ?_);clear hK K
    try simp only [sq]
    refine wpAnyH_done (by kernel_rfl) ?_ _;go_wp2_with fail
    go_meet
    case rel=>exact⟨W3.heap.size+1+1,W3.heap.size+1,W3.heap.size,un,rfl,by simp [gNw],rfl,bk3.2.2,zbq bk3.2.1,zbq bk3.1,(zaf (zaf (zaf ((Below.refl W3.heap.size W3)) (.cells (bvals (List.replicate un false)).toArray 4)) (.cells (bvals (List.replicate un false)).toArray 4)) (.cells #[.slice a3 64 c3,.int .i64 (-1),.bool true,.int .i64 r.v,.slice a n c,.int .i64 r.t,.int .i64 0,.slice (some ⟨W3.heap.size+1,0,none⟩) un un,.slice (some ⟨W3.heap.size,0,none⟩) un un] 35)).drew⟩
    }
    }
    {
    go_simp;refine hK.out _ _ (zbi bG.out b0.out (zaf (zaf ((Below.refl W3.heap.size W3).drew) (.cells (bvals (List.replicate un false)).toArray 4)) (.cells aY 35))) (fun hHeld=> ?_);clear hK K
    try simp only [sq]
    refine wpAnyH_ready (rs:= [4]) (by kernel_rfl) (by simp) ?_;refine(AllReadyH.cons (by rfl) (fun K hK=> ?_) AllReadyH.nil)
    {
    go_simp;refine hK.out _ _ (zbi bG.out b0.out (zaf (zaf (zaf ((Below.refl W3.heap.size W3).drew) (.cells (bvals (List.replicate un false)).toArray 4)) (.cells aY 35)) (.cells (bvals (List.replicate un false)).toArray 4))) (fun hHeld=> ?_);clear hK K
    try simp only [sq]
    refine Htk (i:=7) ?_
    try simp only [sq]
    refine wpAnyH_ready (rs:= [9]) (by kernel_rfl) (by simp) ?_;refine AllReadyH.cons (by rfl) (fun K hK=> ?_) AllReadyH.nil;go_simp;refine hK.out _ _ (zbi bG.out b0.out ((zaf (zaf (zaf ((Below.refl W3.heap.size W3)) (.cells (bvals (List.replicate un false)).toArray 4)) (.cells #[.slice a3 64 c3,.int .i64 (-1),.bool true,.int .i64 r.v,.slice a n c,.int .i64 r.t,.int .i64 0,.slice (some ⟨W3.heap.size+1+1,0,none⟩) un un,.slice (some ⟨W3.heap.size,0,none⟩) un un] 35)) (.cells (bvals (List.replicate un false)).toArray 4)).drew)) (fun hHeld=> ?_);clear hK K
    try simp only [sq]
    refine wpAnyH_done (by kernel_rfl) ?_ _;go_wp2_with fail
    go_meet
    case rel=>exact⟨W3.heap.size+1,W3.heap.size+1+1,W3.heap.size,un,rfl,by simp [gNw],rfl,bk3.2.1,zbq bk3.2.2,zbq bk3.1,(zaf (zaf (zaf ((Below.refl W3.heap.size W3)) (.cells (bvals (List.replicate un false)).toArray 4)) (.cells #[.slice a3 64 c3,.int .i64 (-1),.bool true,.int .i64 r.v,.slice a n c,.int .i64 r.t,.int .i64 0,.slice (some ⟨W3.heap.size+1+1,0,none⟩) un un,.slice (some ⟨W3.heap.size,0,none⟩) un un] 35)) (.cells (bvals (List.replicate un false)).toArray 4)).drew⟩
    }
    }
    }
    {
    go_simp;refine hK.out _ _ (zbi bG.out b0.out (zaf ((Below.refl W3.heap.size W3).drew) (.cells aY 35))) (fun hHeld=> ?_);clear hK K
    try simp only [sq]
    refine wpAnyH_ready (rs:= [4,6]) (by kernel_rfl) (by simp) ?_;refine(AllReadyH.cons (by rfl) (fun K hK=> ?_) (AllReadyH.cons (by rfl) (fun K hK=> ?_) AllReadyH.nil))
    {
    go_simp;refine hK.out _ _ (zbi bG.out b0.out (zaf (zaf ((Below.refl W3.heap.size W3).drew) (.cells aY 35)) (.cells (bvals (List.replicate un false)).toArray 4))) (fun hHeld=> ?_);clear hK K
    try simp only [sq]
    refine wpAnyH_ready (rs:= [6]) (by kernel_rfl) (by simp) ?_;refine(AllReadyH.cons (by rfl) (fun K hK=> ?_) AllReadyH.nil)
    {
    go_simp;refine hK.out _ _ (zbi bG.out b0.out (zaf (zaf (zaf ((Below.refl W3.heap.size W3).drew) (.cells aY 35)) (.cells (bvals (List.replicate un false)).toArray 4)) (.cells (bvals (List.replicate un false)).toArray 4))) (fun hHeld=> ?_);clear hK K
    try simp only [sq]
    refine Htk (i:=7) ?_
    try simp only [sq]
    refine wpAnyH_ready (rs:= [9]) (by kernel_rfl) (by simp) ?_;refine AllReadyH.cons (by rfl) (fun K hK=> ?_) AllReadyH.nil;go_simp;refine hK.out _ _ (zbi bG.out b0.out ((zaf (zaf (zaf ((Below.refl W3.heap.size W3)) (.cells #[.slice a3 64 c3,.int .i64 (-1),.bool true,.int .i64 r.v,.slice a n c,.int .i64 r.t,.int .i64 0,.slice (some ⟨W3.heap.size+1,0,none⟩) un un,.slice (some ⟨W3.heap.size+1+1,0,none⟩) un un] 35)) (.cells (bvals (List.replicate un false)).toArray 4)) (.cells (bvals (List.replicate un false)).toArray 4)).drew)) (fun hHeld=> ?_);clear hK K
    try simp only [sq]
    refine wpAnyH_done (by kernel_rfl) ?_ _;go_wp2_with fail
    go_meet
    case rel=>exact⟨W3.heap.size,W3.heap.size+1,W3.heap.size+1+1,un,rfl,by simp [gNw],rfl,bk3.1,zbq bk3.2.1,zbq bk3.2.2,(zaf (zaf (zaf ((Below.refl W3.heap.size W3)) (.cells #[.slice a3 64 c3,.int .i64 (-1),.bool true,.int .i64 r.v,.slice a n c,.int .i64 r.t,.int .i64 0,.slice (some ⟨W3.heap.size+1,0,none⟩) un un,.slice (some ⟨W3.heap.size+1+1,0,none⟩) un un] 35)) (.cells (bvals (List.replicate un false)).toArray 4)) (.cells (bvals (List.replicate un false)).toArray 4)).drew⟩
    }
    }
    {
    go_simp;refine hK.out _ _ (zbi bG.out b0.out (zaf (zaf ((Below.refl W3.heap.size W3).drew) (.cells aY 35)) (.cells (bvals (List.replicate un false)).toArray 4))) (fun hHeld=> ?_);clear hK K
    try simp only [sq]
    refine wpAnyH_ready (rs:= [4]) (by kernel_rfl) (by simp) ?_;refine(AllReadyH.cons (by rfl) (fun K hK=> ?_) AllReadyH.nil)
    {
    go_simp;refine hK.out _ _ (zbi bG.out b0.out (zaf (zaf (zaf ((Below.refl W3.heap.size W3).drew) (.cells aY 35)) (.cells (bvals (List.replicate un false)).toArray 4)) (.cells (bvals (List.replicate un false)).toArray 4))) (fun hHeld=> ?_);clear hK K
    try simp only [sq]
    refine Htk (i:=7) ?_
    try simp only [sq]
    refine wpAnyH_ready (rs:= [9]) (by kernel_rfl) (by simp) ?_;refine AllReadyH.cons (by rfl) (fun K hK=> ?_) AllReadyH.nil;go_simp;refine hK.out _ _ (zbi bG.out b0.out ((zaf (zaf (zaf ((Below.refl W3.heap.size W3)) (.cells #[.slice a3 64 c3,.int .i64 (-1),.bool true,.int .i64 r.v,.slice a n c,.int .i64 r.t,.int .i64 0,.slice (some ⟨W3.heap.size+1+1,0,none⟩) un un,.slice (some ⟨W3.heap.size+1,0,none⟩) un un] 35)) (.cells (bvals (List.replicate un false)).toArray 4)) (.cells (bvals (List.replicate un false)).toArray 4)).drew)) (fun hHeld=> ?_);clear hK K
    try simp only [sq]
    refine wpAnyH_done (by kernel_rfl) ?_ _;go_wp2_with fail
    go_meet
    case rel=>exact⟨W3.heap.size,W3.heap.size+1+1,W3.heap.size+1,un,rfl,by simp [gNw],rfl,bk3.1,zbq bk3.2.2,zbq bk3.2.1,(zaf (zaf (zaf ((Below.refl W3.heap.size W3)) (.cells #[.slice a3 64 c3,.int .i64 (-1),.bool true,.int .i64 r.v,.slice a n c,.int .i64 r.t,.int .i64 0,.slice (some ⟨W3.heap.size+1+1,0,none⟩) un un,.slice (some ⟨W3.heap.size+1,0,none⟩) un un] 35)) (.cells (bvals (List.replicate un false)).toArray 4)) (.cells (bvals (List.replicate un false)).toArray 4)).drew⟩
    }
    }
    }
  obtain ⟨G,av,ad,nn,rfl,hnn,hdv,bGt,ov,od,hbc⟩:=hcut;have hlv: (gNw r un).vo.length≤4:=by rw [←hnn];rw [hnn];simp [gNw];exact hu1
  have HIn:Hid (GIn wc ⟨a3,64,c3,a,n,c,some ⟨av,0,none⟩,nn,nn,some ⟨ad,0,none⟩,nn,nn⟩ (gNw r un)):=⟨⟨HI3.out.below hbc,hn3,hc3,by show 64≤maxLen;decide⟩,HK.out.below hbc,⟨ov.bools,hnn.symm,Nat.le_refl _,by show nn≤maxLen;unfold maxLen;omega⟩,⟨by rw [hdv];exact od.bools,by rw [hdv];exact hnn.symm,Nat.le_refl _,by show nn≤maxLen;unfold maxLen;omega⟩⟩;replace b1:=hide (zab b1.out hbc);replace hw:=bT hw hbc;have E1:=hide (fun h2=>gNew_e (r:=r) Z1.out h2);have E0:=hide (fun h2=>gNew_0 (r:=r) Z1.out h2);have BG:=hide bGt;clear bGt ov od hbc hlv hdv hnn HI3 HK HP b0 bG Z1;generalize gNw r un=g at *;unfold gtO at BG;generalize hk: (⟨a3,64,c3,a,n,c,some ⟨av,0,none⟩,nn,nn,some ⟨ad,0,none⟩,nn,nn⟩:GA)=k at *;clear hk;have HC:=hide (zca g k wc HIn.out);unfold gtv at HC;obtain ⟨x0,x1,x2,x3,x4,x5,x6,x7,x8⟩:=cl9 BG.out;go_wp2_with fail;refine(zae HC).mono ?_;rintro e w5 ⟨rfl,hb⟩;replace b1:=hide (zab b1.out hb);replace BG:=hide (zab BG.out hb);replace hw:=bT hw hb;replace HIn:=hide (HIn.out.below hb);clear HC hb x0 x1 x2 x3 x4 x5 x6 x7 x8
  by_cases z2:gtE g=0
  rotate_left
  {
  have HE:=hide (E1.out z2);have d1: (gtE g !=0)=true:=by simpa using z2
  clear z2 E1 E0 HIn;generalize gtE g=q at *;obtain ⟨y0,y1,y2,y3,y4,y5,y6,y7,y8⟩:=cl9 b1.out;obtain ⟨f0,f1,f2,f3,f4,f5,f6,f7,f8⟩:=fr9 b1.out;go_wp2_with fail;refine bodyPost_ret (v:=.tuple #[gtv gt0 ga0,.int .i64 q]) (by simp [results,Tryz.results40,go_sem,gtv,gt0,ga0,y0,y1,y2,y3,y4,y5,y6,y7,y8]) rfl ?_;rw [HE.out];exact⟨⟨ga0,rfl,gin0 _,gfr0 _⟩,zam hw (zac (zac (zac (zac (zac (zac (zac (zac (zac (World.grownBy.refl w5 (some (w.heap.size+1))) 0 (.slice none 0 0)) 1 (.int .i64 0)) 2 (.bool false)) 3 (.int .i64 0)) 4 (.slice none 0 0)) 5 (.int .i64 0)) 6 (.int .i64 0)) 7 (.slice none 0 0)) 8 (.slice none 0 0)) hx hw.size⟩
  }
  rw [z2];have HE:=hide (E0.out z2);obtain ⟨hlw,hlk,hlv,hld⟩:=HIn.out.sizes z2;have HT:=hide (zdc g k w5 HIn.out hlw hlk hlv hld);unfold gtv at HT;clear z2 E0 E1 hlw hlk hlv hld HIn;obtain ⟨x0,x1,x2,x3,x4,x5,x6,x7,x8⟩:=cl9 BG.out;go_wp2_with fail;have hF0:=hw.size;have hlt:=zak b1.out;refine(zae HT).mono ?_;rintro e w6 ⟨⟨k2,bv,bd,rfl,ho,hoff⟩,hb6⟩;replace b1:=hide (zab b1.out hb6);replace hw:=bT hw hb6;have HO:=hide ho;clear HT ho hoff hb6 BG x0 x1 x2 x3 x4 x5 x6 x7 x8;unfold gtv;obtain ⟨y0,y1,y2,y3,y4,y5,y6,y7,y8⟩:=cl9 b1.out;obtain ⟨f0,f1,f2,f3,f4,f5,f6,f7,f8⟩:=fr9 b1.out;go_wp2_with fail;refine bodyPost_ret (v:=.tuple #[gtv g k2,.int .i64 0]) (by simp [results,Tryz.results40,go_sem,gtv,y0,y1,y2,y3,y4,y5,y6,y7,y8]) rfl ?_;rw [HE.out];have hT:=zac (zac (zac (zac (zac (zac (zac (zac (zac (World.grownBy.refl w6 (some (w.heap.size+1))) 0 (.slice k2.a k2.n k2.c)) 1 (.int .i64 g.fu)) 2 (.bool g.up)) 3 (.int .i64 g.t.r.v)) 4 (.slice k2.ak k2.nk k2.ck)) 5 (.int .i64 g.t.r.t)) 6 (.int .i64 g.t.ver)) 7 (.slice k2.av k2.nv k2.cv)) 8 (.slice k2.ad k2.nd k2.cd);exact⟨⟨k2,rfl,(HO.out.low hT hlt).gin,HO.out.fr hF0⟩,zam hw hT hx hw.size⟩
end
section
open Go.RowKit
attribute [local go_sem ↓] Go.wp_at_zero Go.wp_at_succ
theorem turnU_lk (sts:List Stu): ∀u:Un,Lk u.ws (turnU sts u).1.ws:=by
  induction sts with
  |nil=>intro u;exact Lk.refl _
  |cons st r ih=>
    intro u
    by_cases h: (doV u st).2=true
    { rw [ziy h];exact(zco _ _).trans (ih _) }
    {
    rw [zez (by simpa using h)];exact zco _ _
    }
def zdx (image:List Int) (name:Int):List Stu:= [.fmt,.fil 0 0 image,.sea 0 image.length name,.not us0 [1,0,0]]
def newF:Un:=⟨List.replicate 192 65535,-1,true,0,0⟩
def newU (image:List Int) (name:Int):Un×Int:=
  if imgE image≠0 then(un0,imgE image) else if inB name 1 60=false then(un0,3) else((turnU (zdx image name) newF).1,0)
theorem newU_e (h:imgE image≠0):newU image name= (un0,imgE image):=by unfold newU;rw [if_pos h]
theorem newU_3 (h:imgE image=0) (h2:inB name 1 60=false):newU image name= (un0,3):=by unfold newU;rw [if_neg (by simpa using h),if_pos h2]
theorem newU_0 (h:imgE image=0) (h2:inB name 1 60=true):newU image name= ((turnU (zdx image name) newF).1,0):=by unfold newU;rw [if_neg (by simpa using h),if_neg (by rw [h2];decide)]
theorem zga (B:Nat) (u:Un) (v1 v2 v3:Value) (s1 s2 s3:Stu) (t:TypeId) (w:World) (hU:OwnU w B u) (h1:IsStu w B v1 s1) (h2:IsStu w B v2 s2) (h3:IsStu w B v3 s3):
    Calls Tryz.prog 206 #[.pointer (some ⟨B,0,none⟩),.slice (some ⟨w.heap.size,0,none⟩) 4 4] (w.alloc (.cells #[.func (.func 137) #[] #[],v1,v2,v3] t)) fun e w' =>e=.returned (.bool (turnU [.fmt,s1,s2,s3] u).2)∧OwnU w' B (turnU [.fmt,s1,s2,s3] u).1∧w.grownBy w' (some B):=by
  have hb:=heap_alloc_last w (.cells #[.func (.func 137) #[] #[],v1,v2,v3] t);have hbA:Below w.heap.size w (w.alloc (.cells #[.func (.func 137) #[] #[],v1,v2,v3] t)):=bA1;refine(zgg B w.heap.size 4 4 [.fmt,s1,s2,s3] u _ (hU.below hbA) (fun i x hx=> ?_) (by have:=hU.lt;omega) rfl (by decide)).mono ?_
  {
  match i with
  |0=>simp at hx;subst hx;exact⟨_,zaa hb 0 _ rfl,fun _ _=>rfl⟩
  |1=>simp at hx;subst hx;exact⟨v1,zaa hb 1 _ rfl,h1.turns (zaj hbA B)⟩
  |2=>simp at hx;subst hx;exact⟨v2,zaa hb 2 _ rfl,h2.turns (zaj hbA B)⟩
  |3=>simp at hx;subst hx;exact⟨v3,zaa hb 3 _ rfl,h3.turns (zaj hbA B)⟩
  |i+4=>simp at hx
  }
  {
  rintro e w' ⟨rfl,hq,hg⟩;exact⟨rfl,hq,(zaj hbA B).trans hg⟩
  }
theorem zo0 (a:Option Addr) (n c:Nat) (image:List Int) (name:Int) (w:World) (h:BI w a n image):
    Calls Tryz.prog 140 #[.slice a n c,.int .i64 name] w (UnAns w (newU image name)):=by
  have hw0:Below w.heap.size w (w.alloc (.cells #[.slice none 0 0,.int .i64 0,.bool false,.int .i64 0,.int .i64 0] 82)):=bA1;have b0:=hide (heap_alloc_last w (.cells #[.slice none 0 0,.int .i64 0,.bool false,.int .i64 0,.int .i64 0] 82));have HC:=hide (fun W (hW:Below w.heap.size w W)=>zd9 a n c image W (h.below hW).at_ h.len h.max);have HB:=hide h;have LN:=hide h.len;have E1:=hide (fun h=>newU_e (image:=image) (name:=name) h);have E3:=hide (fun h h2=>newU_3 (image:=image) (name:=name) h h2);have E0:=hide (fun h h2=>newU_0 (image:=image) (name:=name) h h2);have hm:=h.max;unfold maxLen at hm;have hx:w.heap.size≤w.heap.size:=Nat.le_refl _;clear h;go_enter Tryz.func140,Tryz.ntmps140;go_wp2_with fail;generalize w.alloc (.cells #[.slice none 0 0,.int .i64 0,.bool false,.int .i64 0,.int .i64 0] 82)=W at *;refine(zae HC _ hw0).mono ?_;rintro e w1 ⟨rfl,rfl⟩;clear HC;obtain ⟨y0,y1,y2,y3,y4⟩:=cl5 b0.out;obtain ⟨f0,f1,f2,f3,f4⟩:=fr5 b0.out
  by_cases z1:imgE image=0
  rotate_left
  {
  have HE:=hide (E1.out z1);have d1: (imgE image !=0)=true:=by simpa using z1
  clear z1;generalize imgE image=q at *;go_wp2_with fail;refine bodyPost_ret (v:=.tuple #[unv un0 none 0 0,.int .i64 q]) (by simp [results,Tryz.results140,go_sem,unv,un0,y0,y1,y2,y3,y4]) rfl ?_;rw [HE.out];exact⟨⟨none,0,0,rfl,⟨.inl rfl,rfl,Nat.le_refl _,by decide⟩⟩,((((hw0.setCell hx _).setCell hx _).setCell hx _).setCell hx _).setCell hx _⟩
  }
  replace E3:=hide (E3.out z1);replace E0:=hide (E0.out z1);rw [z1];clear z1 E1;cases g1:inB name 1 60
  {
  have HE:=hide (E3.out g1)
  go_wp2_with (go_at_call 176;refine(zbb _ _ _ _).mono ?_;rintro e w' ⟨rfl,rfl⟩)
  refine bodyPost_ret (v:=.tuple #[unv un0 none 0 0,.int .i64 3]) (by simp [results,Tryz.results140,go_sem,unv,un0,y0,y1,y2,y3,y4]) rfl ?_;rw [HE.out];exact⟨⟨none,0,0,rfl,⟨.inl rfl,rfl,Nat.le_refl _,by decide⟩⟩,((((hw0.setCell hx _).setCell hx _).setCell hx _).setCell hx _).setCell hx _⟩
  }
  have HE:=hide (E0.out g1);clear y0 y1 y2 y3 y4 f0 f1 f2 f3 f4 E3 E0;have hq:=hide (new_any 6 w1);rw [show newS 6= (List.replicate 192 65535,-1,0) from rfl] at hq;go_upto_region 6 with (go_at_call 176;refine(zbb _ _ _ _).mono ?_;rintro e w' ⟨rfl,rfl⟩)
  go_wp2_with fail;refine(zae hq).mono ?_;rintro e w2 ⟨⟨a2,n2,c2,rfl,hi2,hn2,hc2,hf2⟩,hb2⟩;obtain rfl:n2=192:=by rw [←hn2];simp
  replace b0:=hide (zab b0.out hb2);replace hw0:=bT hw0 hb2;have hX:w.heap.size<w2.heap.size:=zak b0.out;have HI2:=hide hi2;clear hb2 hi2 hf2 hn2 hq g1;go_upto_region 11 with fail
  have S0:Hid ((((w2.alloc (.cells #[.slice a2 192 c2,.int .i64 (-1)] 28)).alloc (.cells #[.slice a2 192 c2,.int .i64 (-1),.bool true,.int .i64 0,.int .i64 0] 82)).alloc (.cells #[.int .i64 0,.int .i64 0,.int .i64 0] 84)).heap[w2.heap.size+1]?=some (.cells #[.slice a2 192 c2,.int .i64 (-1),.bool true,.int .i64 0,.int .i64 0] 82 (0,0))):=bk3.2.1;have S1:Hid ((((w2.alloc (.cells #[.slice a2 192 c2,.int .i64 (-1)] 28)).alloc (.cells #[.slice a2 192 c2,.int .i64 (-1),.bool true,.int .i64 0,.int .i64 0] 82)).alloc (.cells #[.int .i64 0,.int .i64 0,.int .i64 0] 84)).heap[w2.heap.size+1+1]?=some (.cells #[.int .i64 0,.int .i64 0,.int .i64 0] 84 (0,0))):=bk3.2.2;have hb3:Below w2.heap.size w2 (((w2.alloc (.cells #[.slice a2 192 c2,.int .i64 (-1)] 28)).alloc (.cells #[.slice a2 192 c2,.int .i64 (-1),.bool true,.int .i64 0,.int .i64 0] 82)).alloc (.cells #[.int .i64 0,.int .i64 0,.int .i64 0] 84)):=(bA2).alloc (by simp;omega) _;have ho2:Off (w2.heap.size+1) a2:=by
    rcases zcu HI2.out (w2.heap.size+1) (by omega) with e|h
    { simp at e }
    { exact h }
  have HOw:Hid (OwnU (((w2.alloc (.cells #[.slice a2 192 c2,.int .i64 (-1)] 28)).alloc (.cells #[.slice a2 192 c2,.int .i64 (-1),.bool true,.int .i64 0,.int .i64 0] 82)).alloc (.cells #[.int .i64 0,.int .i64 0,.int .i64 0] 84)) (w2.heap.size+1) newF):=⟨a2,192,c2,S0.out,HI2.out.below hb3,rfl,hc2,by decide,ho2⟩;replace b0:=hide (zab b0.out hb3);have HOI:=hide (zcu HB.out.at_ (w2.heap.size+1) (by have:=hw0.size;omega));have hBw:w.heap.size<w2.heap.size+1:=by omega
  have hBW:w2.heap.size+1< (((w2.alloc (.cells #[.slice a2 192 c2,.int .i64 (-1)] 28)).alloc (.cells #[.slice a2 192 c2,.int .i64 (-1),.bool true,.int .i64 0,.int .i64 0] 82)).alloc (.cells #[.int .i64 0,.int .i64 0,.int .i64 0] 84)).heap.size:=by simp
  replace hw0:=bT hw0 hb3;clear hb3 HI2 ho2 S0 hX;generalize ((w2.alloc (.cells #[.slice a2 192 c2,.int .i64 (-1)] 28)).alloc (.cells #[.slice a2 192 c2,.int .i64 (-1),.bool true,.int .i64 0,.int .i64 0] 82)).alloc (.cells #[.int .i64 0,.int .i64 0,.int .i64 0] 84)=W3 at *;generalize w2.heap.size+1=B at *;have HSf:=hide (fun W' (hW:Below W3.heap.size W3 W')=>(show W'.cell? ⟨B+1,0,none⟩=some (.int .i64 0)∧W'.cell? ⟨B+1,1,none⟩=some (.int .i64 0)∧W'.cell? ⟨B+1,2,none⟩=some (.int .i64 0) from⟨zaa (zab S1.out hW) 0 _ rfl,zaa (zab S1.out hW) 1 _ rfl,zaa (zab S1.out hW) 2 _ rfl⟩));have HSt:=hide (fun W' (hW:W3.grownBy W' (some B))=>(show W'.cell? ⟨B+1,0,none⟩=some (.int .i64 0)∧W'.cell? ⟨B+1,1,none⟩=some (.int .i64 0)∧W'.cell? ⟨B+1,2,none⟩=some (.int .i64 0) from⟨zaa (zar S1.out hW (by omega)) 0 _ rfl,zaa (zar S1.out hW (by omega)) 1 _ rfl,zaa (zar S1.out hW (by omega)) 2 _ rfl⟩));have HF:=hide (fun W' (hW:Below W3.heap.size W3 W')=>zel 0 0 a n c image B W' (by have:=hW.size;omega) (HB.out.below ((bT hw0 hW))) HOI.out);have HSe:=hide (fun W' (hW:Below W3.heap.size W3 W')=>ziv 0 n name B W' (by have:=hW.size;omega));have HN:=hide (fun W' (hW:Below W3.heap.size W3 W') y (hy:BI W' (some ⟨y,0,none⟩) 3 [1,0,0]) (hne:y≠B)=>ze0 us0 (some ⟨y,0,none⟩) 3 3 [1,0,0] B W' (by have:=hW.size;omega) hy (fun ad e=>by cases e;exact hne));unfold usv us0 at HN;have HQ:Hid (∀p,turnU [.fmt,.fil 0 0 image,.sea 0 n name,.not us0 [1,0,0]] newF=p→p=turnU (zdx image name) newF):=fun p hp=>by rw [←hp];unfold zdx;rw [LN.out]
  unfold us0 at HQ
  go_cut [9] (fun v9 wc=>v9=.pointer (some ⟨B,0,none⟩)∧OwnU wc B (turnU [.fmt,.fil 0 0 image,.sea 0 n name,.not ⟨0,0,0⟩ [1,0,0]] newF).1∧W3.grownBy wc (some B))
  case first=>
    refine wp_region_held_drew (S:=fun W' =>W'.cell? ⟨B+1,0,none⟩=some (.int .i64 0)∧W'.cell? ⟨B+1,1,none⟩=some (.int .i64 0)∧W'.cell? ⟨B+1,2,none⟩=some (.int .i64 0)) (by kernel_rfl) (HSf.out _ (Below.refl _ _).drew) ?_;intro hHeld;refine Htk (i:=0) ?_
    try simp only [sq]
    refine Htk (i:=1) ?_
    try simp only [sq]
    refine Htk (i:=2) ?_
    try simp only [sq]
    refine Htk (i:=4) ?_
    try simp only [sq]
    refine Htk (i:=5) ?_
    try simp only [sq]
    refine Htk (i:=6) ?_
    try simp only [sq]
    refine Htk (i:=7) ?_
    try simp only [sq]
    refine Htk (i:=8) ?_
    try simp only [sq]
    refine Htk (i:=10) ?_
    try simp only [sq]
    refine Htk (i:=11) ?_
    try simp only [sq]
    refine Htk (i:=12) ?_
    try simp only [sq]
    refine Htk (i:=13) ?_
    try simp only [sq]
    refine Htk (i:=14) ?_
    try simp only [sq]
    have hk0:Below W3.heap.size W3 W3.drew:=(Below.refl _ _).drew;refine wpAnyH_ready (rs:= [3,15]) (by kernel_rfl) (by simp) ?_;refine AllReadyH.cons (by rfl) (fun K hK=> ?_) (AllReadyH.cons (by rfl) (fun K hK=> ?_) AllReadyH.nil)
    {
    go_simp;refine(zae HF _ hk0).mono ?_;rintro e wf1 ⟨⟨fnf,capsf,rfl,hvf⟩,hb1⟩;have hk1:=bT hk0 hb1;have hr1:=Below.refl wf1.heap.size wf1;go_wp2_with fail;refine hK.out _ _ ((HSf.out _ hk1)) (fun hHeld=> ?_);clear hK K
    try simp only [sq]
    refine wpAnyH_ready (rs:= [9,15]) (by kernel_rfl) (by simp) ?_;refine AllReadyH.cons (by rfl) (fun K hK=> ?_) (AllReadyH.cons (by rfl) (fun K hK=> ?_) AllReadyH.nil)
    {
    go_simp;refine(zae HSe _ hk1).mono ?_;rintro e ws2 ⟨⟨fns,capss,rfl,hvs⟩,hb2⟩;have hk2:=bT hk1 hb2;have tf2:=bT hr1 hb2;have hr2:=Below.refl ws2.heap.size ws2;go_wp2_with fail;refine hK.out _ _ ((HSf.out _ hk2)) (fun hHeld=> ?_);clear hK K
    try simp only [sq]
    refine wpAnyH_ready (rs:= [15]) (by kernel_rfl) (by simp) ?_;refine AllReadyH.cons (by rfl) (fun K hK=> ?_) AllReadyH.nil;go_simp;have hk3:=zaf hk2 (.cells #[.int .i64 1,.int .i64 0,.int .i64 0] 3);have tf3:=zaf tf2 (.cells #[.int .i64 1,.int .i64 0,.int .i64 0] 3);have ts3:=zaf hr2 (.cells #[.int .i64 1,.int .i64 0,.int .i64 0] 3);have hr3:=Below.refl (ws2.alloc (.cells #[.int .i64 1,.int .i64 0,.int .i64 0] 3)).heap.size (ws2.alloc (.cells #[.int .i64 1,.int .i64 0,.int .i64 0] 3));have rec3:=zgt ws2 1 0 0 3;refine hK.out _ _ ((HSf.out _ hk3)) (fun hHeld=> ?_);clear hK K
    try simp only [sq]
    refine wpAnyH_ready (rs:= [16]) (by kernel_rfl) (by simp) ?_;refine AllReadyH.cons (by rfl) (fun K hK=> ?_) AllReadyH.nil;go_simp;refine(zae HN _ hk3 ws2.heap.size (BI.below rec3 hr3) (by have:=hk2.size;omega)).mono ?_;rintro e wn4 ⟨⟨fnn,capsn,rfl,hvn⟩,hb4⟩;have hk4:=bT hk3 hb4;have tf4:=bT tf3 hb4;have ts4:=bT ts3 hb4;go_wp2_with fail;refine hK.out _ _ ((HSf.out _ hk4)) (fun hHeld=> ?_);clear hK K
    try simp only [sq]
    refine wpAnyH_ready (rs:= [17]) (by kernel_rfl) (by simp) ?_;refine AllReadyH.cons (by rfl) (fun K hK=> ?_) AllReadyH.nil;go_simp;refine hK.out _ _ ((HSf.out _ (zaf hk4 (.cells #[.func (.func 137) #[] #[],.func (.func fnf) #[] capsf,.func (.func fns) #[] capss,.func (.func fnn) #[] capsn] 258)))) (fun hHeld=> ?_);clear hK K
    try simp only [sq]
    refine wpAnyH_ready (rs:= [18]) (by kernel_rfl) (by simp) ?_;refine AllReadyH.cons (by rfl) (fun K hK=> ?_) AllReadyH.nil;go_simp;refine(zga B newF _ _ _ _ _ _ 258 wn4 (HOw.out.below hk4) (hvf.turns (zaj tf4 B)) (hvs.turns (zaj ts4 B)) hvn).mono ?_;rintro e wz ⟨rfl,hUz,hgz⟩;have hg:=(zaj hk4 B).trans hgz;go_wp2_with fail;refine hK.out _ _ ((HSt.out _ hg)) (fun hHeld=> ?_);clear hK K
    try simp only [sq]
    refine wpAnyH_done (by kernel_rfl) ?_ _;go_wp2_with fail
    go_meet
    case rel=>exact⟨rfl,hUz,hg⟩
    }
    {
    go_simp;have hk5:=zaf hk1 (.cells #[.int .i64 1,.int .i64 0,.int .i64 0] 3);have tf5:=zaf hr1 (.cells #[.int .i64 1,.int .i64 0,.int .i64 0] 3);have hr5:=Below.refl (wf1.alloc (.cells #[.int .i64 1,.int .i64 0,.int .i64 0] 3)).heap.size (wf1.alloc (.cells #[.int .i64 1,.int .i64 0,.int .i64 0] 3));have rec5:=zgt wf1 1 0 0 3;refine hK.out _ _ ((HSf.out _ hk5)) (fun hHeld=> ?_);clear hK K
    try simp only [sq]
    refine wpAnyH_ready (rs:= [9]) (by kernel_rfl) (by simp) ?_;refine AllReadyH.cons (by rfl) (fun K hK=> ?_) AllReadyH.nil;go_simp;refine(zae HSe _ hk5).mono ?_;rintro e ws6 ⟨⟨fns,capss,rfl,hvs⟩,hb6⟩;have hk6:=bT hk5 hb6;have tf6:=bT tf5 hb6;have tr6:=bT hr5 hb6;have hr6:=Below.refl ws6.heap.size ws6;go_wp2_with fail;refine hK.out _ _ ((HSf.out _ hk6)) (fun hHeld=> ?_);clear hK K
    try simp only [sq]
    refine wpAnyH_ready (rs:= [16]) (by kernel_rfl) (by simp) ?_;refine AllReadyH.cons (by rfl) (fun K hK=> ?_) AllReadyH.nil;go_simp;refine(zae HN _ hk6 wf1.heap.size (BI.below rec5 tr6) (by have:=hk1.size;omega)).mono ?_;rintro e wn7 ⟨⟨fnn,capsn,rfl,hvn⟩,hb7⟩;have hk7:=bT hk6 hb7;have tf7:=bT tf6 hb7;have ts7:=bT hr6 hb7;go_wp2_with fail;refine hK.out _ _ ((HSf.out _ hk7)) (fun hHeld=> ?_);clear hK K
    try simp only [sq]
    refine wpAnyH_ready (rs:= [17]) (by kernel_rfl) (by simp) ?_;refine AllReadyH.cons (by rfl) (fun K hK=> ?_) AllReadyH.nil;go_simp;refine hK.out _ _ ((HSf.out _ (zaf hk7 (.cells #[.func (.func 137) #[] #[],.func (.func fnf) #[] capsf,.func (.func fns) #[] capss,.func (.func fnn) #[] capsn] 258)))) (fun hHeld=> ?_);clear hK K
    try simp only [sq]
    refine wpAnyH_ready (rs:= [18]) (by kernel_rfl) (by simp) ?_;refine AllReadyH.cons (by rfl) (fun K hK=> ?_) AllReadyH.nil;go_simp;refine(zga B newF _ _ _ _ _ _ 258 wn7 (HOw.out.below hk7) (hvf.turns (zaj tf7 B)) (hvs.turns (zaj ts7 B)) hvn).mono ?_;rintro e wz ⟨rfl,hUz,hgz⟩;have hg:=(zaj hk7 B).trans hgz;go_wp2_with fail;refine hK.out _ _ ((HSt.out _ hg)) (fun hHeld=> ?_);clear hK K
    try simp only [sq]
    refine wpAnyH_done (by kernel_rfl) ?_ _;go_wp2_with fail
    go_meet
    case rel=>exact⟨rfl,hUz,hg⟩
    }
    }
    {
    go_simp;have hk8:=zaf hk0 (.cells #[.int .i64 1,.int .i64 0,.int .i64 0] 3);have hr8:=Below.refl (W3.drew.alloc (.cells #[.int .i64 1,.int .i64 0,.int .i64 0] 3)).heap.size (W3.drew.alloc (.cells #[.int .i64 1,.int .i64 0,.int .i64 0] 3));have rec8:=zgt W3.drew 1 0 0 3;refine hK.out _ _ ((HSf.out _ hk8)) (fun hHeld=> ?_);clear hK K
    try simp only [sq]
    refine wpAnyH_ready (rs:= [3]) (by kernel_rfl) (by simp) ?_;refine AllReadyH.cons (by rfl) (fun K hK=> ?_) AllReadyH.nil;go_simp;refine(zae HF _ hk8).mono ?_;rintro e wf9 ⟨⟨fnf,capsf,rfl,hvf⟩,hb9⟩;have hk9:=bT hk8 hb9;have tr9:=bT hr8 hb9;have hr9:=Below.refl wf9.heap.size wf9;go_wp2_with fail;refine hK.out _ _ ((HSf.out _ hk9)) (fun hHeld=> ?_);clear hK K
    try simp only [sq]
    refine wpAnyH_ready (rs:= [9]) (by kernel_rfl) (by simp) ?_;refine AllReadyH.cons (by rfl) (fun K hK=> ?_) AllReadyH.nil;go_simp;refine(zae HSe _ hk9).mono ?_;rintro e ws10 ⟨⟨fns,capss,rfl,hvs⟩,hb10⟩;have hk10:=bT hk9 hb10;have tr10:=bT tr9 hb10;have tf10:=bT hr9 hb10;have hr10:=Below.refl ws10.heap.size ws10;go_wp2_with fail;refine hK.out _ _ ((HSf.out _ hk10)) (fun hHeld=> ?_);clear hK K
    try simp only [sq]
    refine wpAnyH_ready (rs:= [16]) (by kernel_rfl) (by simp) ?_;refine AllReadyH.cons (by rfl) (fun K hK=> ?_) AllReadyH.nil;go_simp;refine(zae HN _ hk10 W3.drew.heap.size (BI.below rec8 tr10) (by have:=hk0.size;omega)).mono ?_;rintro e wn11 ⟨⟨fnn,capsn,rfl,hvn⟩,hb11⟩;have hk11:=bT hk10 hb11;have tf11:=bT tf10 hb11;have ts11:=bT hr10 hb11;go_wp2_with fail;refine hK.out _ _ ((HSf.out _ hk11)) (fun hHeld=> ?_);clear hK K
    try simp only [sq]
    refine wpAnyH_ready (rs:= [17]) (by kernel_rfl) (by simp) ?_;refine AllReadyH.cons (by rfl) (fun K hK=> ?_) AllReadyH.nil;go_simp;refine hK.out _ _ ((HSf.out _ (zaf hk11 (.cells #[.func (.func 137) #[] #[],.func (.func fnf) #[] capsf,.func (.func fns) #[] capss,.func (.func fnn) #[] capsn] 258)))) (fun hHeld=> ?_);clear hK K
    try simp only [sq]
    refine wpAnyH_ready (rs:= [18]) (by kernel_rfl) (by simp) ?_;refine AllReadyH.cons (by rfl) (fun K hK=> ?_) AllReadyH.nil;go_simp;refine(zga B newF _ _ _ _ _ _ 258 wn11 (HOw.out.below hk11) (hvf.turns (zaj tf11 B)) (hvs.turns (zaj ts11 B)) hvn).mono ?_;rintro e wz ⟨rfl,hUz,hgz⟩;have hg:=(zaj hk11 B).trans hgz;go_wp2_with fail;refine hK.out _ _ ((HSt.out _ hg)) (fun hHeld=> ?_);clear hK K
    try simp only [sq]
    refine wpAnyH_done (by kernel_rfl) ?_ _;go_wp2_with fail
    go_meet
    case rel=>exact⟨rfl,hUz,hg⟩
    }
  case rest=>
  obtain ⟨rfl,⟨ua,un,uc,ub,ui,ul,ucap,umax,uoff⟩,hg⟩:=hcut;obtain ⟨w4,rfl⟩: ∃w4:World,w4=wc:=⟨_,rfl⟩;have B3:=hide (zar b0.out hg (by omega));have hk4:=zam hw0 hg (by omega) hw0.size;have UB:=hide ub;have hq:=HQ.out _ rfl;rw [hq] at ui ul UB;have HLk:=hide (turnU_lk (zdx image name) newF);have UW:=hide (show BW w4 ua un uc (turnU (zdx image name) newF).1.ws from⟨ui,ul,ucap,umax⟩);have ho:=hide (zfz ui (by rcases HLk.out with h|h;(· right;rw [h];show 3≤(List.replicate 192 (65535:Int)).length;simp);(· exact .inl h)) B3.out rfl);clear ub ui ul uoff hg hq HLk HQ HN HSe HF HSt HSf HOw HOI;generalize turnU (zdx image name) newF=r at *;unfold unO at UB;obtain ⟨y0,y1,y2,y3,y4⟩:=cl5 B3.out;obtain ⟨f0,f1,f2,f3,f4⟩:=fr5 B3.out;obtain ⟨s0,s1,s2,s3,s4⟩:=cl5 UB.out;go_wp2_with fail;refine bodyPost_ret (v:=.tuple #[unv r.1 ua un uc,.int .i64 0]) (by simp [results,Tryz.results140,go_sem,unv,y0,y1,y2,y3,y4]) rfl ?_;rw [HE.out];exact⟨⟨ua,un,uc,rfl,((((UW.out.ne ho.out _ _).ne ho.out _ _).ne ho.out _ _).ne ho.out _ _).ne ho.out _ _⟩,((((hk4.setCell hx _).setCell hx _).setCell hx _).setCell hx _).setCell hx _⟩
end
end Go.Proofs.YthmekfcgdfckaaaGreatDoor
