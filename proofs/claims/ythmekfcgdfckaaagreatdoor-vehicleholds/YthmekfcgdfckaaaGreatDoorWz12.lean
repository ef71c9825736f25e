/- Facts. -/
import Derived.Test.YthmekfcgdfckaaaGreatDoorWz8
import Derived.Test.YthmekfcgdfckaaaGreatDoorWz9
import Derived.Test.YthmekfcgdfckaaaGreatDoorWz7
set_option maxRecDepth 1000000
set_option maxHeartbeats 0
namespace Go.Proofs.YthmekfcgdfckaaaGreatDoor
open Go.RowKit
variable {W w:World} {X nb cb n c b:Nat} {ab a x:oA} {s:Us} {m:Ms} {u:Un} {ss:LB} {words r ws xs image:LI} {cs:Array Value} {t name:Int} {g:Gt}
section
attribute [local go_sem ↓] kM kO
structure PB (W:World) (X:Nat) (ab:oA) (nb cb:Nat) (s:Us) (m:Ms) (a:oA) (n c:Nat):Prop where
 b0:W.heap[X]?=some (.cells #[.slice ab nb cb] 24 (0,0))
 b1:W.heap[X+1]?=some (.cells #[iV s.slot,iV s.by',iV s.rdy] 84 (0,0))
 b2:W.heap[X+1+1]?=some (.cells (aM m a n c) 99 (0,0))
theorem PB.turns {W' :World} {B:Nat} (h:PB W X ab nb cb s m a n c) (hg:W.grownBy W' (some B)) (hX:B<X):PB W' X ab nb cb s m a n c:=⟨zar h.b0 hg (by omega),zar h.b1 hg (by omega),zar h.b2 hg (by omega)⟩
theorem PB.bl {W' :World} (h:PB W X ab nb cb s m a n c) (hb:bZ W W'):PB W' X ab nb cb s m a n c:=⟨zab h.b0 hb,zab h.b1 hb,zab h.b2 hb⟩
theorem PB.ps (h:PB W X ab nb cb s m a n c):
 ce W X 0=some (.slice ab nb cb)/\ce W (X+1) 0=some (iV s.slot)/\ce W (X+1) 1=some (iV s.by')/\ce W (X+1) 2=some (iV s.rdy)/\ce W (X+1+1) 0=some (iV m.k)/\ce W (X+1+1) 1=some (iV m.u)/\ce W (X+1+1) 2=some (iV m.n)/\ce W (X+1+1) 3=some (iV m.at')/\ce W (X+1+1) 4=some (iV m.im)/\ce W (X+1+1) 5=some (.slice a n c)/\ce W (X+1+1) 6=some (.bool m.y):=
 ⟨zaa h.b0 0 _ rfl,zaa h.b1 0 _ rfl,zaa h.b1 1 _ rfl,zaa h.b1 2 _ rfl,zaa h.b2 0 _ rfl,zaa h.b2 1 _ rfl,zaa h.b2 2 _ rfl,zaa h.b2 3 _ rfl,zaa h.b2 4 _ rfl,zaa h.b2 5 _ rfl,zaa h.b2 6 _ rfl⟩
theorem PB.psb {B:Nat} {ua:oA} {un uc:Nat} (h:PB W X ab nb cb s m a n c) (hu:W.heap[B]?=some (unO u ua un uc)):
 ce W X 0=some (.slice ab nb cb)/\ce W (X+1) 0=some (iV s.slot)/\ce W (X+1) 1=some (iV s.by')/\ce W (X+1) 2=some (iV s.rdy)/\ce W (X+1+1) 0=some (iV m.k)/\ce W (X+1+1) 1=some (iV m.u)/\ce W (X+1+1) 2=some (iV m.n)/\ce W (X+1+1) 3=some (iV m.at')/\ce W (X+1+1) 4=some (iV m.im)/\ce W (X+1+1) 5=some (.slice a n c)/\ce W (X+1+1) 6=some (.bool m.y)/\ce W B 0=some (.slice ua un uc)/\ce W B 1=some (iV u.fu):=by
 unfold unO at hu;exact⟨zaa h.b0 0 _ rfl,zaa h.b1 0 _ rfl,zaa h.b1 1 _ rfl,zaa h.b1 2 _ rfl,zaa h.b2 0 _ rfl,zaa h.b2 1 _ rfl,zaa h.b2 2 _ rfl,zaa h.b2 3 _ rfl,zaa h.b2 4 _ rfl,zaa h.b2 5 _ rfl,zaa h.b2 6 _ rfl,zaa hu 0 _ rfl,zaa hu 1 _ rfl⟩
def pW (w:World) (ab:oA) (nb cb:Nat) (s:Us) (m:Ms) (a:oA) (n c:Nat):World:=
 ((w.alloc (.cells #[.slice ab nb cb] 24)).alloc (.cells #[iV s.slot,iV s.by',iV s.rdy] 84)).alloc (.cells (aM m a n c) 99)
theorem pW_pb (w:World) (ab:oA) (nb cb:Nat) (s:Us) (m:Ms) (a:oA) (n c:Nat):PB (pW w ab nb cb s m a n c) w.heap.size ab nb cb s m a n c:=⟨bk3.1,bk3.2.1,bk3.2.2⟩
theorem pW_below (w:World) (ab:oA) (nb cb:Nat) (s:Us) (m:Ms) (a:oA) (n c:Nat):bZ w (pW w ab nb cb s m a n c):=(bA2).alloc (by simp;omega) _
theorem one_set {v0 v:Value} {ty:TypeId} (h:W.heap[b]?=some (.cells #[v0] ty (0,0))): (W.setCell ⟨b,0,none⟩ v).heap[b]?=some (.cells #[v] ty (0,0)):=by
 simp only [World.setCell,KP]
 simp [h]
theorem prepS_1 (h:m.n<=s.by'):prepS ss u s m= (u, [doneM m]):=by unfold prepS;rw [KK h]
theorem prepS_2 (h: ¬m.n<=s.by') (h2: ¬s.rdy=0):prepS ss u s m= (u, [voteM m (decide (s.rdy=m.n))]):=by unfold prepS;rw [KJ h,KK h2]
theorem prepS_3 (h: ¬m.n<=s.by') (h2:s.rdy=0) (h3: ¬(u.n=m.n/\u.hv=m.at' /\zh6 ss u s m=true)):prepS ss u s m= (u, [voteM m false]):=by unfold prepS;rw [KJ h,KJ (by simpa using h2),KJ h3]
theorem prepS_4 (h: ¬m.n<=s.by') (h2:s.rdy=0) (h3:u.n=m.n/\u.hv=m.at' /\zh6 ss u s m=true):prepS ss u s m=prepB u s m (zfm u s m):=by unfold prepS;rw [KJ h,KJ (by simpa using h2),KK h3]
theorem prepB_1 (h: (doV u (.sea (oth s) m.at' m.im)).2=false):prepB u s m words= ((doV u (.sea (oth s) m.at' m.im)).1, []):=by unfold prepB;rw [KJ (by rw [h];decide)]
theorem prepB_2 (h: (doV u (.sea (oth s) m.at' m.im)).2=true) (h2:zj4 (mind (doV u (.sea (oth s) m.at' m.im)).1 0 0) s m words=false):prepB u s m words= (mind (doV u (.sea (oth s) m.at' m.im)).1 0 0, [voteM m false]):=by unfold prepB;rw [KK h,KJ (by rw [h2];decide)]
theorem prepB_3 (h: (doV u (.sea (oth s) m.at' m.im)).2=true) (h2:zj4 (mind (doV u (.sea (oth s) m.at' m.im)).1 0 0) s m words=true):prepB u s m words=prepC (mind (doV u (.sea (oth s) m.at' m.im)).1 0 0) s m:=by unfold prepB;rw [KK h,KK h2]
theorem prepC_1 (h: (doV u (.not s [2,m.n])).2=true):prepC u s m= ((doV u (.not s [2,m.n])).1, [voteM m true]):=by unfold prepC;rw [KK h]
theorem prepC_2 (h: (doV u (.not s [2,m.n])).2=false):prepC u s m= ((doV u (.not s [2,m.n])).1, []):=by unfold prepC;rw [KJ (by rw [h];decide)]
theorem zyg (ws:LI) (fu s:Int): (imgS ws fu s).1.length<=ws.length:=by
 unfold imgS
 split
 { simp }
 {
 split
 { simp }
 {
 simp
 omega } }
theorem zkl {F:Nat} (ab:oA) (nb cb:Nat) (ss:LB) (B:Nat) (u:Un) (s:Us) (m:Ms) (a:oA) (n c:Nat) (w:World) (hTB: ∀w' :World,w.grownBy w' (some B)->BB w' ab nb cb ss/\Tab w') (hU:OwnU F w B u) (hs0:0<=s.slot) (hs1:s.slot<=1):
 Cq 298 #[bookv ab nb cb,.pointer (some ⟨B,0,none⟩),usv s,msv m a n c] w (HAns F w B (prepS ss u s m)):=by
 have hb:=uH (pW_pb w ab nb cb s m a n c);have hw0:=pW_below w ab nb cb s m a n c;have hB:=hU.lt;have hU0:=uH (hU.bl hw0);have HG:=uH (zaj hw0 B);have HTB:=uH hTB;clear hU hTB;unfold usv msv bookv;have q:=hb.o.ps;obtain ⟨k0,x0,x1,x2,y0,y1,y2,y3,y4,y5,y6⟩:=q;unfold pW at k0 x0 x1 x2 y0 y1 y2 y3 y4 y5 y6
 by_cases z1:m.n<=s.by'
 {
 have HE:=uH (prepS_1 (ss:=ss) (u:=u) z1);have HDn:=uH (zdy m a n c (pW w ab nb cb s m a n c));unfold msv at HDn;unfold pW at hw0 hU0 HG HDn;go_enter Tryz.func298,Tryz.ntmps298;go_wp2_with fail;refine(zae HDn).mono ?_;rintro e w9 ⟨⟨b9,rfl,hm9,_⟩,hb9⟩;go_wp2_with fail;go_ret;rw [HE.o];exact⟨⟨_,1,1,rfl,hm9,rfl,kQ _,kQ _⟩,hU0.o.bl hb9,HG.o.trans (zaj hb9 B)⟩ }
 have d1:decide (m.n<=s.by')=false:=by simpa using z1
 by_cases z2:s.rdy=0
 rotate_left
 {
 have HE:=uH (prepS_2 (ss:=ss) (u:=u) z1 z2);have d2: (s.rdy !=0)=true:=by simpa using z2
 have hyes: (s.rdy==m.n)=decide (s.rdy=m.n):=rfl;have HVt:=uH (zei m a n c (decide (s.rdy=m.n)) (w.heap.size+1+1) (pW w ab nb cb s m a n c) hb.o.b2);unfold pW at hw0 hU0 HG HVt;clear z1 z2;go_enter Tryz.func298,Tryz.ntmps298;go_wp2_with fail;refine(zae HVt).mono ?_;rintro e w9 ⟨⟨b9,rfl,hm9,_⟩,hb9⟩;go_wp2_with fail;go_ret;rw [HE.o];exact⟨⟨_,1,1,rfl,hm9,rfl,kQ _,kQ _⟩,hU0.o.bl hb9,HG.o.trans (zaj hb9 B)⟩ }
 have d2: (s.rdy !=0)=false:=by simpa using z2
 have HE3:=uH (prepS_3 (ss:=ss) (u:=u) z1 z2);have HE4:=uH (prepS_4 (ss:=ss) (u:=u) z1 z2);clear z1 z2;go_enter Tryz.func298,Tryz.ntmps298;go_upto_region 6 with fail
 clear k0 x0 x1 x2 y0 y1 y2 y3 y4 y5 y6 d1 d2;rw [show((w.alloc (.cells #[.slice ab nb cb] 24)).alloc (.cells #[iV s.slot,iV s.by',iV s.rdy] 84)).alloc (.cells (aM m a n c) 99)=pW w ab nb cb s m a n c from rfl];generalize pW w ab nb cb s m a n c=W at *;obtain ⟨ua,un,uc,ub,ui,ul,ucap,umax,uoff,ufr⟩:=hU0.o;have UB:=uH ub;have HMn:=uH (fun W' (hW:bZ W W')=>zlu ab nb cb ss ua un uc u.ws u.fu (oth s) m a n c W' (HTB.o W' (HG.o.trans (zaj hW B))).1 (BW.bl ⟨ui,ul,ucap,umax⟩ hW) (HTB.o W' (HG.o.trans (zaj hW B))).2);have hmq:Hd (mntB ss u.ws u.fu (oth s) m=zh6 ss u s m):=rfl;have hwq:Hd ((bodyS u.ws u.fu (oth s) m.at').1=zfm u s m):=rfl;rw [hmq.o,hwq.o] at HMn;unfold bookv msv at HMn;clear ub ui ul hmq hwq;generalize zfm u s m=words at *;generalize zh6 ss u s m=mq at *
 go_cut [10,11] (fun v10 v11 wc=>∃G a5 n5 c5,v10=.pointer (some ⟨G,0,none⟩)/\v11=.bool mq/\Hd (wc.heap[G]?=some (.cells #[.slice a5 n5 c5] 26 (0,0)))/\BI wc a5 n5 words/\zal W.heap.size a5/\W.heap.size<=G/\bZ W wc)
 case first=>
  have HO:=uH (fun W' =>zcs s W' hs0 hs1);refine km (S:=fun W' =>W'.cell? ⟨w.heap.size,0,none⟩=some (.slice ab nb cb)/\W'.cell? ⟨w.heap.size+1,0,none⟩=some (iV s.slot)/\W'.cell? ⟨w.heap.size+1,1,none⟩=some (iV s.by')/\W'.cell? ⟨w.heap.size+1,2,none⟩=some (iV s.rdy)/\W'.cell? ⟨w.heap.size+1+1,0,none⟩=some (iV m.k)/\W'.cell? ⟨w.heap.size+1+1,1,none⟩=some (iV m.u)/\W'.cell? ⟨w.heap.size+1+1,2,none⟩=some (iV m.n)/\W'.cell? ⟨w.heap.size+1+1,3,none⟩=some (iV m.at')/\W'.cell? ⟨w.heap.size+1+1,4,none⟩=some (iV m.im)/\W'.cell? ⟨w.heap.size+1+1,5,none⟩=some (.slice a n c)/\W'.cell? ⟨w.heap.size+1+1,6,none⟩=some (.bool m.y)/\W'.cell? ⟨B,0,none⟩=some (.slice ua un uc)/\W'.cell? ⟨B,1,none⟩=some (iV u.fu)) (by kernel_rfl) (hb.o.psb UB.o) ?_;intro hHeld;refine Htk 0 ?_
  refine Htk 1 ?_
  refine Htk 2 ?_
  refine Htk 3 ?_
  refine Htk 4 ?_
  refine Htk 5 ?_
  refine Htk 7 ?_
  try simp only [sq]
  have hk0:bZ W W.drew:=(kS _ _).drew;refine kZ (rs:= [6,12]) (by kernel_rfl) (by simp) ?_;refine kU (by rfl) (fun K hK=> ?_) (kU (by rfl) (fun K hK=> ?_) kW)
  {
  go_simp;refine(zae HO _).mono ?_;rintro e w1 ⟨rfl,hb1⟩;have hk1:=bT hk0 hb1;go_wp2_with fail;refine hK.out _ _ ((hb.o.bl hk1).psb (zab UB.o hk1)) (fun hHeld=> ?_);clear hK K
  try simp only [sq]
  refine kZ (rs:= [8,12]) (by kernel_rfl) (by simp) ?_;refine kU (by rfl) (fun K hK=> ?_) (kU (by rfl) (fun K hK=> ?_) kW)
  {
  go_simp;refine(zae HMn _ hk1).mono ?_;rintro e w2 ⟨⟨a5,n5,c5,rfl,hi5,hf5⟩,hb2⟩;have hk2:=bT hk1 hb2;go_wp2_with fail;refine hK.out _ _ ((hb.o.bl hk2).psb (zab UB.o hk2)) (fun hHeld=> ?_);clear hK K
  refine Htk 9 ?_
  refine Htk 10 ?_
  refine Htk 11 ?_
  refine wr1 12 (fun K hK=> ?_);go_simp;refine hK.out _ _ ((hb.o.bl (zaf hk2 _)).psb (zab UB.o (zaf hk2 _))) (fun hHeld=> ?_);clear hK K
  refine wr1 13 (fun K hK=> ?_);go_simp;refine hK.out _ _ ((hb.o.bl (zaf hk2 _)).psb (zab UB.o (zaf hk2 _))) (fun hHeld=> ?_);clear hK K
  refine Htk 14 ?_
  try simp only [sq]
  refine KE (by kernel_rfl) ?_ _;go_wp2_with fail
  go_meet
  case rel=>exact⟨w2.heap.size,a5,n5,c5,rfl,rfl,kP _ _,hi5.bl (bA1),zal.mono hf5 hk1.size,hk2.size,zaf hk2 _⟩ }
  {
  go_simp;refine hK.out _ _ ((hb.o.bl (zaf hk1 _)).psb (zab UB.o (zaf hk1 _))) (fun hHeld=> ?_);clear hK K
  refine wr1 8 (fun K hK=> ?_);go_simp;have hkA:=zaf hk1 (.cells #[nV] 26);refine(zae HMn _ hkA).mono ?_;rintro e w2 ⟨⟨a5,n5,c5,rfl,hi5,hf5⟩,hb2⟩;have hk2:=bT hkA hb2;have bG:=uH (zab (kP w1 (.cells #[nV] 26)) hb2);have g0:=zaa bG.o 0 _ rfl;have fg0:=zad bG.o 0;have hszG:=hk1.size;have hfar:Off w1.heap.size a5:=za6 hf5 (by simp);go_wp2_with fail;refine hK.out _ _ ((hb.o.bl hk2).psb (zab UB.o hk2)) (fun hHeld=> ?_);clear hK K
  refine Htk 9 ?_
  refine Htk 10 ?_
  refine Htk 11 ?_
  refine wr1 13 (fun K hK=> ?_);go_simp;have hkS:=hk2.setCell (p:=⟨w1.heap.size,0,none⟩) hszG (.slice a5 n5 c5);refine hK.out _ _ ((hb.o.bl hkS).psb (zab UB.o hkS)) (fun hHeld=> ?_);clear hK K
  refine Htk 14 ?_
  try simp only [sq]
  refine KE (by kernel_rfl) ?_ _;go_wp2_with fail
  go_meet
  case rel=>exact⟨w1.heap.size,a5,n5,c5,rfl,rfl,one_set bG.o,zb0 hi5 (zaw _ _ _ _) (.inr hfar),zal.mono hf5 (by simp;omega),hszG,hkS⟩ } }
  {
  go_simp;have hkA:=zaf hk0 (.cells #[nV] 26);refine hK.out _ _ ((hb.o.bl hkA).psb (zab UB.o hkA)) (fun hHeld=> ?_);clear hK K
  refine wr1 6 (fun K hK=> ?_);go_simp;refine(zae HO _).mono ?_;rintro e w1 ⟨rfl,hb1⟩;have hk1:=bT hkA hb1;have bG0:Hd (w1.heap[W.heap.size]?=some (.cells #[nV] 26 (0,0))):=zab (kP W.drew (.cells #[nV] 26)) hb1;go_wp2_with fail;refine hK.out _ _ ((hb.o.bl hk1).psb (zab UB.o hk1)) (fun hHeld=> ?_);clear hK K
  refine wr1 8 (fun K hK=> ?_);go_simp;refine(zae HMn _ hk1).mono ?_;rintro e w2 ⟨⟨a5,n5,c5,rfl,hi5,hf5⟩,hb2⟩;have hk2:=bT hk1 hb2;have bG:=uH (zab bG0.o hb2);have g0:=zaa bG.o 0 _ rfl;have fg0:=zad bG.o 0;have hfar:Off W.heap.size a5:=za6 hf5 (by have:=hb1.size;simp at this;omega);go_wp2_with fail;refine hK.out _ _ ((hb.o.bl hk2).psb (zab UB.o hk2)) (fun hHeld=> ?_);clear hK K
  refine Htk 9 ?_
  refine Htk 10 ?_
  refine Htk 11 ?_
  refine wr1 13 (fun K hK=> ?_);go_simp;have hkS:=hk2.setCell (p:=⟨W.heap.size,0,none⟩) (kQ _) (.slice a5 n5 c5);refine hK.out _ _ ((hb.o.bl hkS).psb (zab UB.o hkS)) (fun hHeld=> ?_);clear hK K
  refine Htk 14 ?_
  try simp only [sq]
  refine KE (by kernel_rfl) ?_ _;go_wp2_with fail
  go_meet
  case rel=>exact⟨W.heap.size,a5,n5,c5,rfl,rfl,one_set bG.o,zb0 hi5 (zaw _ _ _ _) (.inr hfar),zal.mono hf5 hk1.size,kQ _,hkS⟩ }
 case rest=>
 obtain ⟨G,a5,n5,c5,rfl,rfl,bG,hi5,hf5,hGs,hbc⟩:=hcut;obtain ⟨w2,rfl⟩: ∃w2:World,w2=wc:=⟨_,rfl⟩;have hBW:B<W.heap.size:=hU0.o.lt;have HU2:=uH (hU0.o.bl hbc);have HP2:=uH (hb.o.bl hbc);have HG2:=uH (HG.o.trans (zaj hbc B));have ho5:Off B a5:=za6 hf5 hBW;have hGB:G≠B:=by omega
 have hi5' :=uH hi5;have ub:=zab UB.o hbc;unfold unO at ub;have u3:=zaa ub 3 _ rfl;have u4:=zaa ub 4 _ rfl;have y2:=zaa HP2.o.b2 2 _ rfl;have y3:=zaa HP2.o.b2 3 _ rfl;clear ub hbc HMn UB hU0 hb HG hi5 hf5
 by_cases b1:u.n=m.n
 rotate_left
 {
 have HE:=uH (HE3.o (fun h=>b1 h.1));have d1: (u.n !=m.n)=true:=by simpa using b1
 clear b1;go_wp2_with fail;go_quiet (fail);have HPz:=uH (HP2.o.bl (kA (kS _ _) nq));have HUz:=uH (HU2.o.bl (kA (kS _ _) nq));have HGz:=uH (HG2.o.trans (zaj (kA (kS _ w2) nq) B));have HVt:=uH (zei m a n c false (w.heap.size+1+1) (w2.drewN nq) HPz.o.b2);go_wp2_with fail;refine(zae HVt).mono ?_;rintro e w9 ⟨⟨b9,rfl,hm9,_⟩,hb9⟩;go_wp2_with fail;go_ret;rw [HE.o];exact⟨⟨_,1,1,rfl,hm9,rfl,kQ _,kQ _⟩,HUz.o.bl hb9,HGz.o.trans (zaj hb9 B)⟩ }
 have d1: (u.n !=m.n)=false:=by simpa using b1
 by_cases b2:u.hv=m.at'
 rotate_left
 {
 have HE:=uH (HE3.o (fun h=>b2 h.2.1));have d2: (u.hv !=m.at')=true:=by simpa using b2
 clear b1 b2;go_wp2_with fail;go_quiet (fail);have HPz:=uH (HP2.o.bl (kA (kS _ _) nq));have HUz:=uH (HU2.o.bl (kA (kS _ _) nq));have HGz:=uH (HG2.o.trans (zaj (kA (kS _ w2) nq) B));have HVt:=uH (zei m a n c false (w.heap.size+1+1) (w2.drewN nq) HPz.o.b2);go_wp2_with fail;refine(zae HVt).mono ?_;rintro e w9 ⟨⟨b9,rfl,hm9,_⟩,hb9⟩;go_wp2_with fail;go_ret;rw [HE.o];exact⟨⟨_,1,1,rfl,hm9,rfl,kQ _,kQ _⟩,HUz.o.bl hb9,HGz.o.trans (zaj hb9 B)⟩ }
 have d2: (u.hv !=m.at')=false:=by simpa using b2
 cases mq
 {
 have HE:=uH (HE3.o (fun h=>by cases h.2.2));clear b1 b2;go_wp2_with fail;go_quiet (fail);have HPz:=uH (HP2.o.bl (kA (kS _ _) nq));have HUz:=uH (HU2.o.bl (kA (kS _ _) nq));have HGz:=uH (HG2.o.trans (zaj (kA (kS _ w2) nq) B));have HVt:=uH (zei m a n c false (w.heap.size+1+1) (w2.drewN nq) HPz.o.b2);go_wp2_with fail;refine(zae HVt).mono ?_;rintro e w9 ⟨⟨b9,rfl,hm9,_⟩,hb9⟩;go_wp2_with fail;go_ret;rw [HE.o];exact⟨⟨_,1,1,rfl,hm9,rfl,kQ _,kQ _⟩,HUz.o.bl hb9,HGz.o.trans (zaj hb9 B)⟩ }
 have HEB:=uH (HE4.o ⟨b1,b2,rfl⟩);clear b1 b2 HE3 HE4;go_wp2_with fail;go_quiet (fail);obtain ⟨wz,hwz⟩: ∃wz:World,wz=w2.drewN nq:=⟨_,rfl⟩;have hbz:bZ w2 wz:=by rw [hwz];exact kA (kS _ _) nq
 rw [<-hwz];clear hwz u3 u4 y2 y3 d1 d2;have HUz:=uH (HU2.o.bl hbz);have HPz:=uH (HP2.o.bl hbz);have HGz:=uH (HG2.o.trans (zaj hbz B));have bGz:=uH (zab bG.o hbz);have hi5z:=uH (hi5'.o.bl hbz);clear hbz HU2 HP2 HG2 bG hi5';have hBz:=HUz.o.lt;go_upto_region 9 with fail
 refine km (S:=fun W' =>W'.cell? ⟨w.heap.size,0,none⟩=some (.slice ab nb cb)/\W'.cell? ⟨w.heap.size+1,0,none⟩=some (iV s.slot)/\W'.cell? ⟨w.heap.size+1,1,none⟩=some (iV s.by')/\W'.cell? ⟨w.heap.size+1,2,none⟩=some (iV s.rdy)/\W'.cell? ⟨w.heap.size+1+1,0,none⟩=some (iV m.k)/\W'.cell? ⟨w.heap.size+1+1,1,none⟩=some (iV m.u)/\W'.cell? ⟨w.heap.size+1+1,2,none⟩=some (iV m.n)/\W'.cell? ⟨w.heap.size+1+1,3,none⟩=some (iV m.at')/\W'.cell? ⟨w.heap.size+1+1,4,none⟩=some (iV m.im)/\W'.cell? ⟨w.heap.size+1+1,5,none⟩=some (.slice a n c)/\W'.cell? ⟨w.heap.size+1+1,6,none⟩=some (.bool m.y)) (by kernel_rfl) HPz.o.ps ?_;intro hHeld;refine Htk 0 ?_
 refine Htk 1 ?_
 refine Htk 3 ?_
 refine Htk 4 ?_
 refine Htk 5 ?_
 refine Htk 6 ?_
 refine wr1 2 (fun K hK=> ?_);go_simp;have hk0:bZ wz wz.drew:=(kS _ _).drew;have HO:=uH (zcs s wz.drew hs0 hs1);refine(zae HO).mono ?_;rintro e w3 ⟨rfl,hb1⟩;have hk1:=bT hk0 hb1;clear hb1 HO hk0;go_wp2_with fail;refine hK.out _ _ ((HPz.o.bl hk1).ps) (fun hHeld=> ?_);clear hK K
 refine wr1 7 (fun K hK=> ?_);go_simp;have HSl:=uH (ziv (oth s) m.at' m.im B w3 (by have:=hk1.size;omega));refine(zae HSl).mono ?_;rintro e w4 ⟨⟨fn4,caps4,rfl,hv4⟩,hb3⟩;have hk3:=bT hk1 hb3;clear hb3 HSl;go_wp2_with fail;refine hK.out _ _ ((HPz.o.bl hk3).ps) (fun hHeld=> ?_);clear hK K
 refine wr1 8 (fun K hK=> ?_);go_simp;have hk4:=zaf hk3 (.cells #[.func (.func fn4) #[] caps4] 258);refine hK.out _ _ ((HPz.o.bl hk4).ps) (fun hHeld=> ?_);clear hK K
 refine wr1 9 (fun K hK=> ?_);go_simp;have HCh:=uH (zb5 B _ u (.func (.func fn4) #[] caps4) 258 w4 (HUz.o.bl hk3) hv4);refine(zae HCh).mono ?_;rintro e w5 ⟨rfl,hU5,hg5⟩;have hg:=(zaj hk3 B).trans hg5;have HU5:=uH hU5;have HG5:=uH (HGz.o.trans hg);have HP5:=uH (HPz.o.turns hg hB);have bG5:=uH (zar bGz.o hg hGB);have hi55:=uH (zb0 hi5z.o hg (.inr ho5));clear hU5 hg5 HCh hk1 hk3 hk4 hg hv4 HUz HPz HGz bGz hi5z;have PB1:=uH (prepB_1 (u:=u) (s:=s) (m:=m) (words:=words));have PB2:=uH (prepB_2 (u:=u) (s:=s) (m:=m) (words:=words));have PB3:=uH (prepB_3 (u:=u) (s:=s) (m:=m) (words:=words));generalize doV u (.sea (oth s) m.at' m.im)=R at *;go_wp2_with fail;refine hK.out _ _ (HP5.o.ps) (fun hHeld=> ?_);clear hK K
 refine Htk 10 ?_
 try simp only [sq]
 refine KE (by kernel_rfl) ?_ _;clear hHeld;cases g:R.2
 {
 have HE:=uH (HEB.o.trans (PB1.o g));go_wp2_with fail;go_ret;exact zde HE.o HU5.o HG5.o }
 obtain ⟨R1,R2⟩:=R;simp only at HU5 PB1 PB2 PB3 g;subst g;replace PB2:=uH (PB2.o rfl);replace PB3:=uH (PB3.o rfl);clear PB1;obtain ⟨va,vn,vc,vb,vi,vl,vcap,vmax,voff,vfr⟩:=HU5.o;have VB:=uH vb;have VI:=uH vi;have VL:=uH vl;unfold unO at vb;have u3:=zaa vb 3 _ rfl;have fu3:=zad vb 3;have u4:=zaa vb 4 _ rfl;have fu4:=zad vb 4;clear vb vi vl;have hgS:w5.grownBy ((w5.setCell ⟨B,3,none⟩ (iV 0)).setCell ⟨B,4,none⟩ (iV 0)) (some B):=zac (zaw _ _ _ _) _ _;have UB6:Hd (((w5.setCell ⟨B,3,none⟩ (iV 0)).setCell ⟨B,4,none⟩ (iV 0)).heap[B]?=some (unO (mind R1 0 0) va vn vc)):=zig VB.o;have UW6:Hd (BW ((w5.setCell ⟨B,3,none⟩ (iV 0)).setCell ⟨B,4,none⟩ (iV 0)) va vn vc (mind R1 0 0).ws):=⟨zax VI.o hgS voff,VL.o,vcap,vmax⟩;have HP6:=uH (HP5.o.turns hgS hB);have HG6:=uH (HG5.o.trans hgS);have bG6:=uH (zar bG5.o hgS hGB);have hi56:=uH (zb0 hi55.o hgS (.inr ho5));go_upto_region 13 with fail
 generalize (w5.setCell ⟨B,3,none⟩ (iV 0)).setCell ⟨B,4,none⟩ (iV 0)=w6 at *;clear u3 u4 fu3 fu4 hgS VB VI VL HU5 HP5 HG5 bG5 hi55;generalize mind R1 0 0=u5 at *;have HU6:Hd (OwnU F w6 B u5):=⟨va,vn,vc,UB6.o,UW6.o.at_,UW6.o.len,vcap,vmax,voff,vfr⟩;have HWq:Hd (zj4 u5 s m words= (decide ((imgS u5.ws u5.fu (oth s)).2.2=0)&&(decide ((imgS u5.ws u5.fu (oth s)).2.1=m.im)&&eqL (imgS u5.ws u5.fu (oth s)).1 words))):=rfl;have HIm:=uH (fun W' (hW:bZ w6 W')=>zmf va vn vc u5.ws u5.fu (oth s) W' (UW6.o.bl hW).at_ UW6.o.len UW6.o.max UW6.o.cap);have hilen:=zyg u5.ws u5.fu (oth s);rw [UW6.o.len] at hilen;generalize imgS u5.ws u5.fu (oth s)=I at *;rw [HWq.o] at PB2 PB3;clear HWq;refine km (S:=fun W' =>W'.cell? ⟨w.heap.size,0,none⟩=some (.slice ab nb cb)/\W'.cell? ⟨w.heap.size+1,0,none⟩=some (iV s.slot)/\W'.cell? ⟨w.heap.size+1,1,none⟩=some (iV s.by')/\W'.cell? ⟨w.heap.size+1,2,none⟩=some (iV s.rdy)/\W'.cell? ⟨w.heap.size+1+1,0,none⟩=some (iV m.k)/\W'.cell? ⟨w.heap.size+1+1,1,none⟩=some (iV m.u)/\W'.cell? ⟨w.heap.size+1+1,2,none⟩=some (iV m.n)/\W'.cell? ⟨w.heap.size+1+1,3,none⟩=some (iV m.at')/\W'.cell? ⟨w.heap.size+1+1,4,none⟩=some (iV m.im)/\W'.cell? ⟨w.heap.size+1+1,5,none⟩=some (.slice a n c)/\W'.cell? ⟨w.heap.size+1+1,6,none⟩=some (.bool m.y)/\W'.cell? ⟨B,0,none⟩=some (.slice va vn vc)/\W'.cell? ⟨B,1,none⟩=some (iV u5.fu)) (by kernel_rfl) (HP6.o.psb UB6.o) ?_;intro hHeld;refine Htk 0 ?_
 refine Htk 1 ?_
 refine Htk 2 ?_
 refine Htk 3 ?_
 refine Htk 4 ?_
 refine Htk 5 ?_
 refine wr1 6 (fun K hK=> ?_);go_simp;have hk0:bZ w6 w6.drew:=(kS _ _).drew;have HO:=uH (zcs s w6.drew hs0 hs1);refine(zae HO).mono ?_;rintro e w7 ⟨rfl,hb1⟩;have hk1:=bT hk0 hb1;clear hb1 HO hk0;go_wp2_with fail;refine hK.out _ _ ((HP6.o.bl hk1).psb (zab UB6.o hk1)) (fun hHeld=> ?_);clear hK K
 refine wr1 7 (fun K hK=> ?_);go_simp;refine(zae HIm _ hk1).mono ?_;rintro e w8 ⟨⟨ai,ni,ci,rfl,hii,hni,_,_⟩,hb2⟩;have hk2:=bT hk1 hb2;have hiB:BI w8 ai ni I.1:=⟨hii,hni,by rw [<-hni];exact kc hilen vmax⟩;have HWh:=uH (whole_any m a n c ai ni ci I.1 I.2.1 I.2.2 (w.heap.size+1+1) G a5 n5 c5 words w8 (HP6.o.bl hk2).b2 (zaa (zab bG6.o hk2) 0 _ rfl) hiB (hi56.o.bl hk2));obtain ⟨WQ,hWQ⟩: ∃WQ:Bool,WQ= (decide (I.2.2=0)&&(decide (I.2.1=m.im)&&eqL I.1 words)):=⟨_,rfl⟩;rw [<-hWQ] at HWh PB2 PB3;clear hb2 hii hni hiB hWQ HIm;go_wp2_with fail;refine hK.out _ _ ((HP6.o.bl hk2).psb (zab UB6.o hk2)) (fun hHeld=> ?_);clear hK K
 refine Htk 8 ?_
 refine Htk 9 ?_
 refine Htk 10 ?_
 refine wr1 11 (fun K hK=> ?_);go_simp;refine(zae HWh).mono ?_;rintro e w9 ⟨rfl,hb3⟩;have hk3:=bT hk2 hb3;clear hb3 HWh;go_wp2_with fail;refine hK.out _ _ ((HP6.o.bl hk3).psb (zab UB6.o hk3)) (fun hHeld=> ?_);clear hK K
 refine Htk 12 ?_
 try simp only [sq]
 refine KE (by kernel_rfl) ?_ _;have HU9:=uH (HU6.o.bl hk3);have HP9:=uH (HP6.o.bl hk3);have HG9:=uH (HG6.o.trans (zaj hk3 B));clear hHeld hk1 hk2 hk3 HU6 HP6 HG6 bG6 hi56 UB6 UW6;have hB9:=HU9.o.lt;cases WQ
 {
 have HE:=uH (HEB.o.trans (PB2.o rfl));have HVt:=uH (zei m a n c false (w.heap.size+1+1) w9 HP9.o.b2);go_wp2_with fail;refine(zae HVt).mono ?_;rintro e w9 ⟨⟨b9,rfl,hm9,_⟩,hb9⟩;go_wp2_with fail;go_ret;rw [HE.o];exact⟨⟨_,1,1,rfl,hm9,rfl,kQ _,kQ _⟩,HU9.o.bl hb9,HG9.o.trans (zaj hb9 B)⟩ }
 have HEC:=uH (HEB.o.trans (PB3.o rfl));clear PB2 PB3 HEB;have x0:=zaa HP9.o.b1 0 _ rfl;have x1:=zaa HP9.o.b1 1 _ rfl;have x2:=zaa HP9.o.b1 2 _ rfl;have y2:=zaa HP9.o.b2 2 _ rfl;have hkA:=zaf (kS w9.heap.size w9) (.cells #[iV 2,iV m.n] 3);have HNt:=uH (ze0 s (some ⟨w9.heap.size,0,none⟩) 2 2 [2,m.n] B (w9.alloc (.cells #[iV 2,iV m.n] 3)) (by simp;omega) (zne _ 2 m.n 3) (fun ad e=>by cases e;show w9.heap.size≠B;omega));unfold usv at HNt;go_wp2_with fail;clear x0 x1 x2 y2;refine(zae HNt).mono ?_;rintro e wA ⟨⟨fnA,capsA,rfl,hvA⟩,hbA⟩;have hkB:=bT hkA hbA;have HCh:=uH (zb5 B _ u5 (.func (.func fnA) #[] capsA) 258 wA (HU9.o.bl hkB) hvA);clear hbA HNt hvA hkA;go_wp2_with fail;refine(zae HCh).mono ?_;rintro e wB ⟨rfl,hUB,hgB⟩;have hg:=(zaj hkB B).trans hgB;have HUB:=uH hUB;have HGB:=uH (HG9.o.trans hg);have HPB:=uH (HP9.o.turns hg hB);clear hUB hgB hg hkB HCh HU9 HP9 HG9;have PC1:=uH (prepC_1 (u:=u5) (s:=s) (m:=m));have PC2:=uH (prepC_2 (u:=u5) (s:=s) (m:=m));generalize doV u5 (.not s [2,m.n])=Q at *;cases g:Q.2
 {
 have HE:=uH (HEC.o.trans (PC2.o g));go_wp2_with fail;go_ret;exact zde HE.o HUB.o HGB.o }
 {
 have HE:=uH (HEC.o.trans (PC1.o g));have HVt:=uH (zei m a n c true (w.heap.size+1+1) wB HPB.o.b2);go_wp2_with fail;refine(zae HVt).mono ?_;rintro e w9 ⟨⟨b9,rfl,hm9,_⟩,hb9⟩;go_wp2_with fail;go_ret;rw [HE.o];exact⟨⟨_,1,1,rfl,hm9,rfl,kQ _,kQ _⟩,HUB.o.bl hb9,HGB.o.trans (zaj hb9 B)⟩ }
end
section
attribute [local go_sem ↓] kM kO
theorem zu6 (k:Nat): ∀(l:LI),okL l=true->∀r∈(zb6 k l).1,okL r=true:=by
 induction k with
 |zero=>intro l _ r hr;simp [zb6] at hr
 |succ k ih=>
  intro l hl r hr;rw [zci] at hr
  split at hr
  { simp at hr }
  {
  simp only [kt] at hr
  rcases hr with rfl|hr
  { exact zi6 _ (zfq _ hl) }
  { exact ih _ (zfq _ hl) r hr } }
theorem zpd (h:okL r=true) (h0:0<=s.slot/\s.slot<=1):0<=(zcf s r).slot/\(zcf s r).slot<=1:=by
 by_cases c:isR r 1 3=true/\r.getD 1 0<=1
 {
 rw [zn1 c.1 c.2];have hl:=zlq c.1;have:=zk3 h 1 (by omega);unfold okW at this;simp only [KF] at this;exact⟨by show 0<=r.getD 1 0;omega,c.2⟩ }
 {
 by_cases c2:isR r 2 2=true
 { rw [zng c c2];exact h0 }
 {
 by_cases c3:isR r 3 2=true
 { rw [zom c c2 c3];exact h0 }
 { rw [znn c c2 c3];exact h0 } } }
theorem stR_slot (rs:LL): ∀(s:Us),(∀r∈rs,okL r=true)->0<=s.slot/\s.slot<=1->0<=(rs.foldl zcf s).slot/\(rs.foldl zcf s).slot<=1:=by
 induction rs with
 |nil=>intro s _ h;exact h
 |cons r rs ih=>intro s h h0;exact ih _ (fun x hx=>h x (kI _ hx)) (zpd (h r (kG ..)) h0)
theorem zr1 {f:Int} (h:lchk ws f=0):0<=(stOf ws).slot/\(stOf ws).slot<=1:=by
 refine stR_slot _ _ (zu6 _ _ ?_) ⟨by decide,by decide⟩;exact zi6 _ (zfq _ (zdm h).2.2.2.1)
theorem zwl (h:m.k=1):hearK ss u m= (zda u (stOf u.ws) m, []):=by unfold hearK;rw [KK h]
theorem zw0 (h:m.k=2):hearK ss u m=prepS ss u (stOf u.ws) m:=by unfold hearK;rw [KJ (by omega),KK h]
theorem zut (h:m.k=4):hearK ss u m=comS u (stOf u.ws) m:=by unfold hearK;rw [KJ (by omega),KJ (by omega),KK h]
theorem zuo (h:m.k=5):hearK ss u m=aboS u (stOf u.ws) m:=by unfold hearK;rw [KJ (by omega),KJ (by omega),KJ (by omega),KK h]
theorem hearK_0 (h1:m.k≠1) (h2:m.k≠2) (h4:m.k≠4) (h5:m.k≠5):hearK ss u m= (u, []):=by unfold hearK;rw [KJ h1,KJ h2,KJ h4,KJ h5]
def qW (w:World) (ab:oA) (nb cb:Nat) (m:Ms) (a:oA) (n c:Nat):World:=
 (w.alloc (.cells #[.slice ab nb cb] 24)).alloc (.cells (aM m a n c) 99)
theorem hear_any {F:Nat} (ab:oA) (nb cb:Nat) (ss:LB) (B:Nat) (u:Un) (m:Ms) (a:oA) (n c:Nat) (w:World) (hTB: ∀w' :World,w.grownBy w' (some B)->BB w' ab nb cb ss/\Tab w') (hU:OwnU F w B u) (hl:lchk u.ws u.fu=0) (hbi:BI w a n m.ws) (ho:m.ws= []\/Off B a) (hat0:0<=m.at') (hat1:m.at' <=40) (hn8:n<=8):
 Cq 279 #[bookv ab nb cb,.pointer (some ⟨B,0,none⟩),msv m a n c] w (HAns F w B (hearK ss u m)):=by
 have hw0:bZ w (qW w ab nb cb m a n c):=bA2;have hB:=hU.lt;have b0:Hd ((qW w ab nb cb m a n c).heap[w.heap.size]?=some (.cells #[.slice ab nb cb] 24 (0,0))):=zai (kP _ _) _;have b1:Hd ((qW w ab nb cb m a n c).heap[w.heap.size+1]?=some (.cells (aM m a n c) 99 (0,0))):=zau _ _ _;have hU0:=uH (hU.bl hw0);have HSl:=uH (zr1 hl);have HTB:=uH hTB;have HBI:=uH hbi;have HO:=uH ho;have HAT:=uH (And.intro hat0 hat1);obtain ⟨ua,un,uc,ub,ui,ul,ucap,umax,uoff,ufr⟩:=hU0.o;have HSt:=uH (zgc ua un uc u.ws u.fu (qW w ab nb cb m a n c) ⟨ui,ul,ucap,umax⟩ hl);have UB:=uH ub;have HK1:=uH (fun h=>zwl (ss:=ss) (u:=u) (m:=m) h);have HK2:=uH (fun h=>zw0 (ss:=ss) (u:=u) (m:=m) h);have HK4:=uH (fun h=>zut (ss:=ss) (u:=u) (m:=m) h);have HK5:=uH (fun h=>zuo (ss:=ss) (u:=u) (m:=m) h);have HK0:=uH (fun h1 h2 h4 h5=>hearK_0 (ss:=ss) (u:=u) (m:=m) h1 h2 h4 h5);clear hU hTB hl hbi ho hat0 hat1 ub ui ul;unfold msv bookv;unfold qW at hw0 b0 b1 hU0 HSt UB;have v0:=zaa UB.o 0 _ rfl;have v1:=zaa UB.o 1 _ rfl;go_enter Tryz.func279,Tryz.ntmps279;go_wp2_with fail;clear v0 v1;generalize (w.alloc (.cells #[.slice ab nb cb] 24)).alloc (.cells (aM m a n c) 99)=W at *;refine(zae HSt).mono ?_;rintro e w1 ⟨rfl,hb1⟩;unfold usv;go_upto_region 2 with fail
 generalize stOf u.ws=s at *;have S0:=uH (kP w1 (.cells #[iV s.slot,iV s.by',iV s.rdy] 84));have hb2:=hb1.alloc hb1.size (.cells #[iV s.slot,iV s.by',iV s.rdy] 84);have B0:=uH (zab b0.o hb2);have B1:=uH (zab b1.o hb2);have hU2:=uH (hU0.o.bl hb2);have hk:=bT hw0 hb2;have HG:=uH (zaj hk B);have HBI2:=uH (HBI.o.bl hk);clear hb1 b0 b1 hU0 UB hw0 HBI hb2 HSt;generalize w1.heap.size=S at *;generalize w1.alloc (.cells #[iV s.slot,iV s.by',iV s.rdy] 84)=W2 at *;have k0:=zaa B0.o 0 _ rfl;obtain ⟨y0,y1,y2,y3,y4,y5,y6⟩:=cl7 B1.o;have x0:=zaa S0.o 0 _ rfl;have x1:=zaa S0.o 1 _ rfl;have x2:=zaa S0.o 2 _ rfl
 by_cases z1:m.k=1
 {
 have HE:=uH (HK1.o z1);have d1: (m.k==1)=true:=by simpa using z1
 have HP:=uH (zmq B u s m a n c W2 hU2.o HSl.o.1 HSl.o.2 HBI2.o HO.o HAT.o.1 HAT.o.2 hn8);unfold usv msv at HP;clear z1;go_wp2_with fail;refine(zae HP).mono ?_;rintro e w3 ⟨rfl,hu3,hg3⟩;go_wp2_with fail;go_ret;exact zde HE.o hu3 (HG.o.trans hg3) }
 have d1: (m.k==1)=false:=by simpa using z1
 by_cases z2:m.k=2
 {
 have HE:=uH (HK2.o z2);have d2: (m.k==2)=true:=by simpa using z2
 have HP:=uH (zkl ab nb cb ss B u s m a n c W2 (fun w' h=>HTB.o w' (HG.o.trans h)) hU2.o HSl.o.1 HSl.o.2);unfold usv msv bookv at HP;clear z1 z2;go_wp2_with fail;refine(zae HP).mono ?_;rintro e w3 ⟨⟨a3,n3,c3,rfl,hm3,hn3,hc3,hx3⟩,hu3,hg3⟩;go_wp2_with fail;go_ret;rw [HE.o];exact⟨⟨a3,n3,c3,rfl,hm3,hn3,hc3,hx3⟩,hu3,HG.o.trans hg3⟩ }
 have d2: (m.k==2)=false:=by simpa using z2
 by_cases z4:m.k=4
 {
 have HE:=uH (HK4.o z4);have d4: (m.k==4)=true:=by simpa using z4
 have HP:=uH (zlk B u s m a n c W2 hU2.o HSl.o.1 HSl.o.2);unfold usv msv at HP;clear z1 z2 z4;go_wp2_with fail;refine(zae HP).mono ?_;rintro e w3 ⟨⟨a3,n3,c3,rfl,hm3,hn3,hc3,hx3⟩,hu3,hg3⟩;go_wp2_with fail;go_ret;rw [HE.o];exact⟨⟨a3,n3,c3,rfl,hm3,hn3,hc3,hx3⟩,hu3,HG.o.trans hg3⟩ }
 have d4: (m.k==4)=false:=by simpa using z4
 by_cases z5:m.k=5
 {
 have HE:=uH (HK5.o z5);have d5: (m.k==5)=true:=by simpa using z5
 have HP:=uH (zm4 B u s m a n c W2 hU2.o);unfold usv msv at HP;clear z1 z2 z4 z5;go_wp2_with fail;refine(zae HP).mono ?_;rintro e w3 ⟨⟨a3,n3,c3,rfl,hm3,hn3,hc3,hx3⟩,hu3,hg3⟩;go_wp2_with fail;go_ret;rw [HE.o];exact⟨⟨a3,n3,c3,rfl,hm3,hn3,hc3,hx3⟩,hu3,HG.o.trans hg3⟩ }
 have d5: (m.k==5)=false:=by simpa using z5
 have HE:=uH (HK0.o z1 z2 z4 z5);clear z1 z2 z4 z5;go_wp2_with fail;go_ret;exact zde HE.o hU2.o HG.o
end
section
attribute [local go_sem ↓] kM kO
theorem heE_1 (h:bookE ss≠0):heE ss u m=bookE ss:=by unfold heE;rw [KK h]
theorem heE_2 (h:bookE ss=0) (h2:unE u≠0):heE ss u m=unE u:=by unfold heE;rw [KJ (by simpa using h),KK h2]
theorem heE_3 (h:bookE ss=0) (h2:unE u=0):heE ss u m=msE m:=by unfold heE;rw [KJ (by simpa using h),KJ (by simpa using h2)]
theorem heE_ok (h:heE ss u m=0):bookE ss=0/\unE u=0/\msE m=0:=by
 by_cases h1:bookE ss=0
 {
 by_cases h2:unE u=0
 { exact⟨h1,h2,by rw [<-heE_3 h1 h2];exact h⟩ }
 { rw [heE_2 h1 h2] at h;exact absurd h h2 } }
 { rw [heE_1 h1] at h;exact absurd h h1 }
theorem msE_0 (h:msE m=0): (1<=m.k/\m.k<=7)/\(0<=m.u/\m.u<=3)/\(1<=m.n/\m.n<=8)/\(0<=m.at' /\m.at' <=40)/\(0<=m.im/\m.im<=60)/\m.ws.length<=8/\okL m.ws=true:=by
 have hb:msB m=true:=by
  cases g:msB m
  { rw [msE_bad g] at h;cases h }
  { rfl }
 unfold msB inB at hb
 simpa [and_assoc] using hb
def cW (w:World) (ab:oA) (nb cb:Nat) (u:Un) (a:oA) (n c:Nat) (m:Ms) (am:oA) (nm cm:Nat):World:=
 ((w.alloc (.cells #[.slice ab nb cb] 24)).alloc (.cells (aU a n c u) 82)).alloc (.cells (aM m am nm cm) 99)
theorem zlh (ab:oA) (nb cb:Nat) (ss:LB) (u:Un) (a:oA) (n c:Nat) (m:Ms) (am:oA) (nm cm:Nat) (w:World) (hB:BB w ab nb cb ss) (hU:BW w a n c u.ws) (hM:BI w am nm m.ws):
 Cq 278 #[bookv ab nb cb,unv u a n c,msv m am nm cm] w fun e w' =>e=.returned (iV (heE ss u m))/\bZ w w' :=by
 have hw0:bZ w (cW w ab nb cb u a n c m am nm cm):=(bA2).alloc (by simp;omega) _;have b1:Hd ((cW w ab nb cb u a n c m am nm cm).heap[w.heap.size+1]?=some (.cells (aU a n c u) 82 (0,0))):=bk3.2.1;have b2:Hd ((cW w ab nb cb u a n c m am nm cm).heap[w.heap.size+1+1]?=some (.cells (aM m am nm cm) 99 (0,0))):=bk3.2.2;have HC:=uH (fun W (hW:bZ w W)=>zdw ab nb cb ss W (hB.bl hW).at_ hB.len hB.cap hB.short);have HU:=uH (fun W (hW:bZ w W)=>zcz u a n c W (hU.bl hW));have HM:=uH (fun W (hW:bZ w W)=>ze9 m am nm cm W (hM.bl hW));have E1:=uH (fun h=>heE_1 (ss:=ss) (u:=u) (m:=m) h);have E2:=uH (fun h h2=>heE_2 (ss:=ss) (u:=u) (m:=m) h h2);have E3:=uH (fun h h2=>heE_3 (ss:=ss) (u:=u) (m:=m) h h2);clear hB hU hM;unfold bookv at *;unfold unv at *;unfold msv at *;unfold cW at hw0 b1 b2;go_enter Tryz.func278,Tryz.ntmps278;go_wp2_with fail;generalize ((w.alloc (.cells #[.slice ab nb cb] 24)).alloc (.cells (aU a n c u) 82)).alloc (.cells (aM m am nm cm) 99)=W at *;refine(zae HC _ hw0).mono ?_;rintro e w1 ⟨rfl,hb⟩;replace b1:=uH (zab b1.o hb);replace b2:=uH (zab b2.o hb);replace hw0:=bT hw0 hb;clear hb HC
 by_cases z1:bookE ss=0
 rotate_left
 {
 have HE:=uH (E1.o z1);have d1: (bookE ss !=0)=true:=by simpa using z1
 clear z1;generalize bookE ss=q at *;go_wp2_with fail;go_ret;exact⟨zap HE.o.symm,hw0⟩ }
 replace E2:=uH (E2.o z1);replace E3:=uH (E3.o z1);rw [z1];clear z1 E1;obtain ⟨x0,x1,x2,x3,x4⟩:=cl5 b1.o;go_wp2_with fail;refine(zae HU _ hw0).mono ?_;rintro e w2 ⟨rfl,hb⟩;replace b2:=uH (zab b2.o hb);replace hw0:=bT hw0 hb;clear hb HU x0 x1 x2 x3 x4 b1
 by_cases z2:unE u=0
 rotate_left
 {
 have HE:=uH (E2.o z2);have d1: (unE u !=0)=true:=by simpa using z2
 clear z2;generalize unE u=q at *;go_wp2_with fail;go_ret;exact⟨zap HE.o.symm,hw0⟩ }
 have HE:=uH (E3.o z2);rw [z2];clear z2 E2 E3;obtain ⟨y0,y1,y2,y3,y4,y5,y6⟩:=cl7 b2.o;go_wp2_with fail;refine(zae HM _ hw0).mono ?_;rintro e w3 ⟨rfl,hb⟩;go_wp2_with fail;go_ret;exact⟨zap HE.o.symm,(bT hw0 hb)⟩
def un0:Un:=⟨[],0,false,0,0⟩
def hearA (ss:LB) (u:Un) (m:Ms):Un×List Ms×Int:=if heE ss u m≠0 then(un0, [],heE ss u m) else((hearS ss u m).1,(hearS ss u m).2,0)
theorem hearA_e (h:heE ss u m≠0):hearA ss u m= (un0, [],heE ss u m):=by unfold hearA;rw [KK h]
theorem zqg (h:heE ss u m=0) (h2:u.up=false):hearA ss u m= (u, [],0):=by unfold hearA hearS;rw [KJ (by simpa using h),KJ (by rw [h2];decide)]
theorem zu7 (h:heE ss u m=0) (h2:u.up=true):hearA ss u m= ((hearK ss u m).1,(hearK ss u m).2,0):=by unfold hearA hearS;rw [KJ (by simpa using h),KK h2]
def HearAnsF (w:World) (r:Un×List Ms×Int) (e:Ending) (w' :World):Prop:=
 (∃a n c am nm cm,e=.returned (.tuple #[unv r.1 a n c,.slice am nm cm,iV r.2.2])/\BW w' a n c r.1.ws/\za9 w' am r.2.1/\r.2.1.length=nm/\nm<=cm/\cm<=1/\zal w.heap.size a)/\bZ w w'
theorem zfz {t:TypeId} {p q:Nat} {i0 i1 i2:Int} {o:Bool} (h:zag w a xs) (hx:xs= []\/3<=xs.length) (hb:w.heap[b]?=some (.cells cs t (0,0))) (hc:cs=#[.slice x p q,iV i0,.bool o,iV i1,iV i2]):xs= []\/Off b a:=by
 rcases h with h| ⟨g,off,rfl,hi⟩
 { exact .inl h }
 {
 rcases hx with hx|hx
 { exact .inl hx }
 {
 refine .inr fun ad e=> ?_
 cases e;intro hgb;have hgb:g=b:=hgb;subst hgb hc;have c0:=hi 0 (by omega);have c1:=hi 1 (by omega);have c2:=hi 2 (by omega);have key: ∀k v,w.cell? ⟨g,k,none⟩=some (iV v)->k=1\/k=3\/k=4:=by
  intro k v hk
  by_cases h5:k<5
  {
  have hv:=zaa hb k ((#[Value.slice x p q,iV i0,.bool o,iV i1,iV i2]:Array Value)[k]'(by simpa using h5)) (by simp [h5]);rw [hk] at hv
  match k,h5 with
  |0,_=>simp at hv
  |1,_=>simp
  |2,_=>simp at hv
  |3,_=>simp
  |4,_=>simp }
  {
  exfalso
  have hn: (#[Value.slice x p q,iV i0,.bool o,iV i1,iV i2]:Array Value)[k]?=none:=Array.getElem?_eq_none (by simp;omega);unfold World.cell? at hk;simp only [hb] at hk
  simp [hn] at hk }
 have k0:=key _ _ c0;have k1:=key _ _ c1;have k2:=key _ _ c2;omega } }
theorem msgs_unit {l:List Ms} {t:TypeId} {p q:Nat} {i0 i1 i2:Int} {o:Bool} (h:za9 w a l) (hb:w.heap[b]?=some (.cells cs t (0,0))) (hc:cs=#[.slice x p q,iV i0,.bool o,iV i1,iV i2]):l= []\/Off b a:=by
 rcases h with h| ⟨g,rfl,hi⟩
 { exact .inl h }
 {
 cases l with
 |nil=>exact .inl rfl
 |cons m l=>
  refine .inr fun ad e=> ?_
  cases e;intro hgb;have hgb:g=b:=hgb;subst hgb hc;have c0:=(hi 0 m rfl).2.1;have hv:=zaa hb 0 (.slice x p q) rfl
  simp at c0
  rw [hv] at c0
  simp at c0 }
theorem za9.ne {l:List Ms} (h:za9 w a l) (ho:l= []\/Off b a) (i:Nat) (v:Value):za9 (w.setCell ⟨b,i,none⟩ v) a l:=by
 rcases ho with e|ho
 { exact .inl e }
 {
 rcases h with h| ⟨g,rfl,hc⟩
 { exact .inl h }
 {
 have hne:g≠b:=ho _ rfl;refine .inr ⟨g,rfl,fun j m hj=> ?_⟩;obtain ⟨h0,h1,h2,h3,h4,h5,h6,h7⟩:=hc j m hj;have hg:w.grownBy (w.setCell ⟨b,i,none⟩ v) (some b):=zaw w b i v;have hx: ∀k u,ce w g k=some u->ce (w.setCell ⟨b,i,none⟩ v) g k=some u:=fun k u h=>hg.cell h (fun e=>hne (by cases e;rfl))
 exact⟨h0,hx _ _ h1,hx _ _ h2,hx _ _ h3,hx _ _ h4,hx _ _ h5,hx _ _ h6,hx _ _ h7⟩ } }
theorem BW.ne (h:BW w a n c xs) (ho:xs= []\/Off b a) (i:Nat) (v:Value):BW (w.setCell ⟨b,i,none⟩ v) a n c xs:=by
 refine⟨?_,h.len,h.cap,h.max⟩
 rcases ho with e|ho
 { exact .inl e }
 {
 exact zax h.at_ (zaw w b i v) ho }
def rW (w:World) (ab:oA) (nb cb:Nat) (u:Un) (a:oA) (n c:Nat) (m:Ms) (am:oA) (nm cm:Nat):World:=
 (cW w ab nb cb u a n c m am nm cm).alloc (.cells #[nV,iV 0,.bool false,iV 0,iV 0] 82)
structure RB (W:World) (X:Nat) (ab:oA) (nb cb:Nat) (u:Un) (a:oA) (n c:Nat) (m:Ms) (am:oA) (nm cm:Nat):Prop where
 b0:W.heap[X]?=some (.cells #[.slice ab nb cb] 24 (0,0))
 b1:W.heap[X+1]?=some (.cells (aU a n c u) 82 (0,0))
 b2:W.heap[X+1+1]?=some (.cells (aM m am nm cm) 99 (0,0))
 b3:W.heap[X+1+1+1]?=some (.cells #[nV,iV 0,.bool false,iV 0,iV 0] 82 (0,0))
theorem rW_rb (w:World) (ab:oA) (nb cb:Nat) (u:Un) (a:oA) (n c:Nat) (m:Ms) (am:oA) (nm cm:Nat):RB (rW w ab nb cb u a n c m am nm cm) w.heap.size ab nb cb u a n c m am nm cm:=
 ⟨zai bk3.1 _,zai bk3.2.1 _,zai bk3.2.2 _,zj3 _ _ _ _ _⟩
theorem RB.bl {W' :World} {am:oA} {nm cm:Nat} (h:RB W X ab nb cb u a n c m am nm cm) (hb:bZ W W'):RB W' X ab nb cb u a n c m am nm cm:=
 ⟨zab h.b0 hb,zab h.b1 hb,zab h.b2 hb,zab h.b3 hb⟩
theorem zwg (ab:oA) (nb cb:Nat) (ss:LB) (u:Un) (a:oA) (n c:Nat) (m:Ms) (am:oA) (nm cm:Nat) (w:World) (hB:BB w ab nb cb ss) (hT:Tab w) (hU:BW w a n c u.ws) (hM:BI w am nm m.ws):
 Cq 248 #[bookv ab nb cb,unv u a n c,msv m am nm cm] w (HearAnsF w (hearA ss u m)):=by
 have hw0:bZ w (rW w ab nb cb u a n c m am nm cm):=((bA2).alloc (by simp;omega) _).alloc (by simp;omega) _;have R:=uH (rW_rb w ab nb cb u a n c m am nm cm);have HC:=uH (fun W (hW:bZ w W)=>zlh ab nb cb ss u a n c m am nm cm W (hB.bl hW) (hU.bl hW) (hM.bl hW));have HBW:=uH hU;have HBB:=uH hB;have HTb:=uH hT;have HM:=uH hM;have EE:=uH (fun h=>hearA_e (ss:=ss) (u:=u) (m:=m) h);have ED:=uH (fun h h2=>zqg (ss:=ss) (u:=u) (m:=m) h h2);have EU:=uH (fun h h2=>zu7 (ss:=ss) (u:=u) (m:=m) h h2);clear hB hU hM hT;unfold bookv at *;unfold unv at *;unfold msv at *;unfold rW cW at hw0 R;go_enter Tryz.func248,Tryz.ntmps248;go_wp2_with fail;generalize (((w.alloc (.cells #[.slice ab nb cb] 24)).alloc (.cells (aU a n c u) 82)).alloc (.cells (aM m am nm cm) 99)).alloc (.cells #[nV,iV 0,.bool false,iV 0,iV 0] 82)=W at *;refine(zae HC _ hw0).mono ?_;rintro e w1 ⟨rfl,hb⟩;replace R:=uH (R.o.bl hb);replace hw0:=bT hw0 hb;clear hb HC;have z0:=zaa R.o.b3 0 _ rfl;have z1:=zaa R.o.b3 1 _ rfl;have z2:=zaa R.o.b3 2 _ rfl;have z3:=zaa R.o.b3 3 _ rfl;have z4:=zaa R.o.b3 4 _ rfl;have g0:=zad R.o.b3 0;have g1:=zad R.o.b3 1;have g2:=zad R.o.b3 2;have g3:=zad R.o.b3 3;have g4:=zad R.o.b3 4;have hx:w.heap.size<=w.heap.size+1+1+1:=by omega
 by_cases c1:heE ss u m=0
 rotate_left
 {
 have HE:=uH (EE.o c1);have d1: (heE ss u m !=0)=true:=by simpa using c1
 clear c1;generalize heE ss u m=q at *;go_wp2_with fail;refine kT (v:=.tuple #[unv un0 none 0 0,nV,iV q]) (by simp [results,Tryz.results248,go_sem,unv,un0,z0,z1,z2,z3,z4]) rfl ?_;rw [HE.o];exact⟨⟨none,0,0,none,0,0,rfl,⟨.inl rfl,rfl,kQ _,by decide⟩,.inl rfl,rfl,kQ _,by decide,zal.nil _⟩,((((hw0.setCell hx _).setCell hx _).setCell hx _).setCell hx _).setCell hx _⟩ }
 obtain ⟨_,u0,m0⟩:=heE_ok c1;obtain ⟨hl,hlen,_⟩:=zjw u0;obtain ⟨_,_,_,hat,_,hm8,_⟩:=msE_0 m0;have HL:=uH hl;have LN:=uH hlen;have HAT:=uH hat;have M8:=uH hm8;replace ED:=uH (ED.o c1);replace EU:=uH (EU.o c1);have HTw:=uH (zhf u a n c w1 (HBW.o.bl hw0) (by rw [<-HBW.o.len,hlen];decide));unfold unv at HTw;rw [c1];clear c1 u0 m0 hl hlen hat hm8 EE z0 z1 z2 z3 z4 g0 g1 g2 g3 g4;have x0:=zaa R.o.b1 0 _ rfl;have x1:=zaa R.o.b1 1 _ rfl;have x2:=zaa R.o.b1 2 _ rfl;have x3:=zaa R.o.b1 3 _ rfl;have x4:=zaa R.o.b1 4 _ rfl;go_wp2_with fail;refine(zae HTw).mono ?_;rintro e w2 ⟨⟨a2,c2,rfl,hi2,hf2,hc2⟩,hb2⟩;have HFa:=uH (zal.mono hf2 hw0.size);rw [LN.o] at hc2;unfold unv;rw [LN.o];replace R:=uH (R.o.bl hb2);replace hw0:=bT hw0 hb2;have HI2:=uH hi2;clear hb2 hi2 hf2 HTw x0 x1 x2 x3 x4;go_upto_region 5 with fail
 have S0:=uH (kP w2 (.cells #[.slice a2 192 c2,iV u.fu,.bool u.up,iV u.n,iV u.hv] 82));have hb3:bZ w2 (w2.alloc (.cells #[.slice a2 192 c2,iV u.fu,.bool u.up,iV u.n,iV u.hv] 82)):=bA1;have hX:w.heap.size+1+1+1<w2.heap.size:=zak R.o.b3;have ho2:Off w2.heap.size a2:=by
  rcases zcu HI2.o w2.heap.size (kQ _) with e|h
  { have:=LN.o;rw [e] at this;simp at this }
  { exact h }
 have HOw:Hd (OwnU w.heap.size (w2.alloc (.cells #[.slice a2 192 c2,iV u.fu,.bool u.up,iV u.n,iV u.hv] 82)) w2.heap.size u):=⟨a2,192,c2,S0.o,HI2.o.bl hb3,LN.o,hc2,by decide,ho2,HFa.o,by omega⟩;have hk:=bT hw0 hb3;have HI3:=uH (HI2.o.bl hb3);replace R:=uH (R.o.bl hb3);have HMo:=uH (zcu HM.o.at_ w2.heap.size hw0.size);have HO2:=uH ho2;have hBw:=hw0.size;have hBW:w2.heap.size< (w2.alloc (.cells #[.slice a2 192 c2,iV u.fu,.bool u.up,iV u.n,iV u.hv] 82)).heap.size:=by simp
 clear hw0 hb3 HI2 ho2;generalize w2.heap.size=B at *;generalize w2.alloc (.cells #[.slice a2 192 c2,iV u.fu,.bool u.up,iV u.n,iV u.hv] 82)=W3 at *;have z0:=zaa R.o.b3 0 _ rfl;have z1:=zaa R.o.b3 1 _ rfl;have z2:=zaa R.o.b3 2 _ rfl;have z3:=zaa R.o.b3 3 _ rfl;have z4:=zaa R.o.b3 4 _ rfl;have g0:=zad R.o.b3 0;have g1:=zad R.o.b3 1;have g2:=zad R.o.b3 2;have g3:=zad R.o.b3 3;have g4:=zad R.o.b3 4;obtain ⟨s0,s1,s2,s3,s4⟩:=cl5 S0.o;cases hup:u.up
 {
 have HE:=uH (ED.o hup)
 (try dsimp only [aU] at s2);rw [hup] at s2
 go_wp2_with fail;refine kT (v:=.tuple #[unv u a2 192 c2,nV,iV 0]) (by simp [results,Tryz.results248,go_sem,unv,hup,z0,z1,z2,z3,z4]) rfl ?_;rw [HE.o];have hbw:BW W3 a2 192 c2 u.ws:=⟨HI3.o,LN.o,hc2,by decide⟩;have ho:=zfz HI3.o (.inr (by rw [LN.o];decide)) R.o.b3 rfl;exact⟨⟨a2,192,c2,none,0,0,rfl,((((hbw.ne ho _ _).ne ho _ _).ne ho _ _).ne ho _ _).ne ho _ _,.inl rfl,rfl,kQ _,by decide,HFa.o⟩,((((hk.setCell hx _).setCell hx _).setCell hx _).setCell hx _).setCell hx _⟩ }
 have HE:=uH (EU.o hup);have HLk:=uH (zod ss u m);have HHr:=uH (hear_any ab nb cb ss B u m am nm cm W3 (fun w' hg=>⟨HBB.o.bl (zam hk hg hBw hk.size),HTb.o.bl (zam hk hg hBw hk.size)⟩) HOw.o HL.o (HM.o.bl hk) HMo.o HAT.o.1 HAT.o.2 (by rw [<-HM.o.len];exact M8.o));unfold bookv msv at HHr
 (try dsimp only [aU] at s2);rw [hup] at s2
 have k0:=zaa R.o.b0 0 _ rfl;have y0:=zaa R.o.b2 0 _ rfl;have y1:=zaa R.o.b2 1 _ rfl;have y2:=zaa R.o.b2 2 _ rfl;have y3:=zaa R.o.b2 3 _ rfl;have y4:=zaa R.o.b2 4 _ rfl;have y5:=zaa R.o.b2 5 _ rfl;have y6:=zaa R.o.b2 6 _ rfl;go_wp2_with fail;clear k0 y0 y1 y2 y3 y4 y5 y6 s0 s1 s2 s3 s4 z0 z1 z2 z3 z4 g0 g1 g2 g3 g4;refine(zae HHr).mono ?_;rintro e w4 ⟨⟨a4,n4,c4,rfl,hm4,hn4,hc4,hx4⟩,⟨ua,un,uc,ub,ui,ul,ucap,umax,uoff,ufr⟩,hg4⟩;have B3:=uH (zar R.o.b3 hg4 (by omega));have hk4:=zam hk hg4 hBw hk.size;have UB:=uH ub;have UW:=uH (show BW w4 ua un uc (hearK ss u m).1.ws from⟨ui,ul,ucap,umax⟩);have MM:=uH hm4;have ML:=uH hn4;have HUf:=uH ufr.1;have ho:=uH (zfz ui (by rcases HLk.o with h|h;(· right;rw [h,LN.o];decide);(· exact .inl h)) B3.o rfl);have hp:=uH (msgs_unit hm4 B3.o rfl);clear ub ui ul uoff ufr hg4 hm4 hn4 HHr HLk;generalize hearK ss u m=r at *;unfold unO at UB;obtain ⟨z0,z1,z2,z3,z4⟩:=cl5 B3.o;obtain ⟨g0,g1,g2,g3,g4⟩:=fr5 B3.o;obtain ⟨s0,s1,s2,s3,s4⟩:=cl5 UB.o;go_wp2_with fail;refine kT (v:=.tuple #[unv r.1 ua un uc,.slice a4 n4 c4,iV 0]) (by simp [results,Tryz.results248,go_sem,unv,z0,z1,z2,z3,z4]) rfl ?_;rw [HE.o];exact⟨⟨ua,un,uc,a4,n4,c4,rfl,((((UW.o.ne ho.o _ _).ne ho.o _ _).ne ho.o _ _).ne ho.o _ _).ne ho.o _ _,((((MM.o.ne hp.o _ _).ne hp.o _ _).ne hp.o _ _).ne hp.o _ _).ne hp.o _ _,ML.o,hc4,hx4,HUf.o⟩,((((hk4.setCell hx _).setCell hx _).setCell hx _).setCell hx _).setCell hx _⟩
end
section
attribute [local go_sem ↓] kM kO
def zer (u:Un):Us×Int:=if unE u≠0 then(us0,unE u) else(stOf u.ws,0)
theorem uReadS_e (h:unE u≠0):zer u= (us0,unE u):=by unfold zer;rw [KK h]
theorem zx1 (h:unE u=0):zer u= (stOf u.ws,0):=by unfold zer;rw [KJ (by simpa using h)]
theorem zm7 (u:Un) (a:oA) (n c:Nat) (w:World) (h:BW w a n c u.ws):
 Cq 28 #[unv u a n c] w fun e w' =>e=.returned (.tuple #[usv (zer u).1,iV (zer u).2])/\bZ w w' :=by
 have hw0:bZ w ((w.alloc (.cells (aU a n c u) 82)).alloc (.cells #[iV 0,iV 0,iV 0] 84)):=bA2;have b0:Hd (((w.alloc (.cells (aU a n c u) 82)).alloc (.cells #[iV 0,iV 0,iV 0] 84)).heap[w.heap.size]?=some (.cells (aU a n c u) 82 (0,0))):=zai (kP _ _) _;have b1:Hd (((w.alloc (.cells (aU a n c u) 82)).alloc (.cells #[iV 0,iV 0,iV 0] 84)).heap[w.heap.size+1]?=some (.cells #[iV 0,iV 0,iV 0] 84 (0,0))):=zau _ _ _;have HC:=uH (fun W (hW:bZ w W)=>zcz u a n c W (h.bl hW));have HS:=uH (fun (e1:lchk u.ws u.fu=0) W (hW:bZ w W)=>zgc a n c u.ws u.fu W (h.bl hW) e1);have E1:=uH (fun h=>uReadS_e (u:=u) h);have E0:=uH (fun h=>zx1 (u:=u) h);have hx:w.heap.size<=w.heap.size+1:=by omega
 unfold unv at *;clear h;go_enter Tryz.func28,Tryz.ntmps28;go_wp2_with fail;generalize (w.alloc (.cells (aU a n c u) 82)).alloc (.cells #[iV 0,iV 0,iV 0] 84)=W at *;refine(zae HC _ hw0).mono ?_;rintro e w1 ⟨rfl,hb⟩;replace b0:=uH (zab b0.o hb);replace b1:=uH (zab b1.o hb);replace hw0:=bT hw0 hb;clear hb HC
 by_cases z1:unE u=0
 rotate_left
 {
 have HE:=uH (E1.o z1);have d1: (unE u !=0)=true:=by simpa using z1
 have y0:=zaa b1.o 0 _ rfl;have y1:=zaa b1.o 1 _ rfl;have y2:=zaa b1.o 2 _ rfl;have f0:=zad b1.o 0;have f1:=zad b1.o 1;have f2:=zad b1.o 2;clear z1;generalize unE u=q at *;go_wp2_with fail;refine kT (v:=.tuple #[usv us0,iV q]) (by simp [results,Tryz.results28,go_sem,usv,us0,y0,y1,y2]) rfl ?_;rw [HE.o];exact⟨rfl,((hw0.setCell hx _).setCell hx _).setCell hx _⟩ }
 have HE:=uH (E0.o z1);have HSt:=uH (HS.o (zjw z1).1 _ hw0);rw [z1];clear z1 E1 E0 HS;have x0:=zaa b0.o 0 _ rfl;have x1:=zaa b0.o 1 _ rfl;go_wp2_with fail;refine(zae HSt).mono ?_;rintro e w2 ⟨rfl,hb⟩;replace b1:=uH (zab b1.o hb);replace hw0:=bT hw0 hb;clear hb HSt x0 x1;have y0:=zaa b1.o 0 _ rfl;have y1:=zaa b1.o 1 _ rfl;have y2:=zaa b1.o 2 _ rfl;have f0:=zad b1.o 0;have f1:=zad b1.o 1;have f2:=zad b1.o 2;generalize stOf u.ws=s at *;unfold usv;go_wp2_with fail;refine kT (v:=.tuple #[usv s,iV 0]) (by simp [results,Tryz.results28,go_sem,usv,y0,y1,y2]) rfl ?_;rw [HE.o];exact⟨rfl,((hw0.setCell hx _).setCell hx _).setCell hx _⟩
theorem zqw: (Tryz.prog.info? 28).map (fun i=>(i.zero,i.size,i.bytes))=some (some (.agg #[nV,iV 0]),2,32):=by kernel_rfl
theorem zp0 (a:oA) (n c:Nat) (fu x y:Int) (up:Bool) (w:World):
 (Instr.field 82 (.agg #[.slice a n c,iV fu,.bool up,iV x,iV y]) 0).run Tryz.prog w=.ok (.agg #[.slice a n c,iV fu]) w:=by
 obtain ⟨i0,hi0,hz0,hz1,hz2⟩:=info_parts zqw
 simp [Instr.field,run_underlying Tryz.underlying82,part,go_sem,isAgg,sizeOf,typeInfo,asAgg,hi0,hz1]
def bootS (u:Un):Un×Int:=if unE u≠0 then(un0,unE u) else(⟨u.ws,-1,true,0,0⟩,0)
theorem bootS_e (h:unE u≠0):bootS u= (un0,unE u):=by unfold bootS;rw [KK h]
theorem zxq (h:unE u=0):bootS u= (⟨u.ws,-1,true,0,0⟩,0):=by unfold bootS;rw [KJ (by simpa using h)]
def UnAns (w:World) (r:Un×Int) (e:Ending) (w' :World):Prop:=
 (∃a n c,e=.returned (.tuple #[unv r.1 a n c,iV r.2])/\BW w' a n c r.1.ws)/\bZ w w'
def UnAnsF (w:World) (r:Un×Int) (e:Ending) (w' :World):Prop:=
 (∃a n c,e=.returned (.tuple #[unv r.1 a n c,iV r.2])/\BW w' a n c r.1.ws/\zal w.heap.size a)/\bZ w w'
theorem zwf (u:Un) (a:oA) (n c:Nat) (w:World) (h:BW w a n c u.ws):
 Cq 32 #[unv u a n c] w (UnAnsF w (bootS u)):=by
 have hw0:bZ w ((w.alloc (.cells (aU a n c u) 82)).alloc (.cells #[nV,iV 0,.bool false,iV 0,iV 0] 82)):=bA2;have b0:Hd (((w.alloc (.cells (aU a n c u) 82)).alloc (.cells #[nV,iV 0,.bool false,iV 0,iV 0] 82)).heap[w.heap.size]?=some (.cells (aU a n c u) 82 (0,0))):=zai (kP _ _) _;have b1:Hd (((w.alloc (.cells (aU a n c u) 82)).alloc (.cells #[nV,iV 0,.bool false,iV 0,iV 0] 82)).heap[w.heap.size+1]?=some (.cells #[nV,iV 0,.bool false,iV 0,iV 0] 82 (0,0))):=zau _ _ _;have HC:=uH (fun W (hW:bZ w W)=>zcz u a n c W (h.bl hW));have HT:=uH (fun (hb:n * 8<=140737488355328) W (hW:bZ w W)=>zhf u a n c W (h.bl hW) hb);have E1:=uH (fun h=>bootS_e (u:=u) h);have E0:=uH (fun h=>zxq (u:=u) h);have hx:w.heap.size<=w.heap.size+1:=by omega
 have HN:=uH h.len;unfold unv at *;clear h;go_enter Tryz.func32,Tryz.ntmps32;go_wp2_with fail;generalize (w.alloc (.cells (aU a n c u) 82)).alloc (.cells #[nV,iV 0,.bool false,iV 0,iV 0] 82)=W at *;refine(zae HC _ hw0).mono ?_;rintro e w1 ⟨rfl,hb⟩;replace b0:=uH (zab b0.o hb);replace b1:=uH (zab b1.o hb);replace hw0:=bT hw0 hb;clear hb HC
 by_cases z1:unE u=0
 rotate_left
 {
 have HE:=uH (E1.o z1);have d1: (unE u !=0)=true:=by simpa using z1
 obtain ⟨y0,y1,y2,y3,y4⟩:=cl5 b1.o;obtain ⟨f0,f1,f2,f3,f4⟩:=fr5 b1.o;clear z1;generalize unE u=q at *;go_wp2_with fail;refine kT (v:=.tuple #[unv un0 none 0 0,iV q]) (by simp [results,Tryz.results32,go_sem,unv,un0,y0,y1,y2,y3,y4]) rfl ?_;rw [HE.o];exact⟨⟨none,0,0,rfl,⟨.inl rfl,rfl,kQ _,by decide⟩,zal.nil _⟩,((((hw0.setCell hx _).setCell hx _).setCell hx _).setCell hx _).setCell hx _⟩ }
 have HE:=uH (E0.o z1);have LN:=uH (zjw z1).2.1;have HTw:=uH (HT.o (by rw [<-HN.o,LN.o];decide) _ hw0);rw [z1];clear z1 E1 E0 HT;obtain ⟨x0,x1,x2,x3,x4⟩:=cl5 b0.o;go_wp2_with fail;refine(zae HTw).mono ?_;rintro e w2 ⟨⟨a2,c2,rfl,hi2,hf2,hc2⟩,hb⟩;have HFa:=uH (zal.mono hf2 hw0.size);rw [LN.o] at hc2;unfold unv;rw [LN.o];replace b1:=uH (zab b1.o hb);replace hw0:=bT hw0 hb;have HI2:=uH hi2;clear hb HTw x0 x1 x2 x3 x4 hi2 hf2;have hfld:=zp0 a2 192 c2 u.fu u.n u.hv u.up;go_upto_region 5 with fail
 clear hfld;have S0:=uH (kP w2 (.cells #[.slice a2 192 c2,iV u.fu,.bool true,iV 0,iV 0] 82));have hb3:bZ w2 (w2.alloc (.cells #[.slice a2 192 c2,iV u.fu,.bool true,iV 0,iV 0] 82)):=bA1;have hX:w.heap.size+1<w2.heap.size:=zak b1.o;have ho2:Hd (Off w2.heap.size a2):=by
  rcases zcu HI2.o w2.heap.size (kQ _) with e|h
  { have:=LN.o;rw [e] at this;simp at this }
  { exact h }
 replace HI2:=uH (HI2.o.bl hb3);replace b1:=uH (zab b1.o hb3);have hB:=hw0.size;replace hw0:=bT hw0 hb3;clear hb3;generalize w2.heap.size=B at *;generalize w2.alloc (.cells #[.slice a2 192 c2,iV u.fu,.bool true,iV 0,iV 0] 82)=W3 at *;have s0:=zaa S0.o 0 _ rfl;have s1:=zaa S0.o 1 _ rfl;have r1:=zad S0.o 1;go_upto_region 6 with fail
 clear s0 s1;have S1:Hd ((W3.setCell ⟨B,1,none⟩ (iV (-1))).heap[B]?=some (.cells #[.slice a2 192 c2,iV (-1),.bool true,iV 0,iV 0] 82 (0,0))):=by
  show _=_
  have h0:=S0.o;simp only [World.setCell,KP]
  simp [h0]
 have hg:=zaw W3 B 1 (iV (-1));replace b1:=uH (zar b1.o hg (by omega));replace HI2:=uH (zax HI2.o hg ho2.o);replace hw0:=hw0.setCell (p:=⟨B,1,none⟩) hB (iV (-1));clear hg S0 r1 ho2;generalize W3.setCell ⟨B,1,none⟩ (iV (-1))=W4 at *;obtain ⟨s0,s1,s2,s3,s4⟩:=cl5 S1.o;obtain ⟨y0,y1,y2,y3,y4⟩:=cl5 b1.o;obtain ⟨f0,f1,f2,f3,f4⟩:=fr5 b1.o;go_wp2_with fail;refine kT (v:=.tuple #[unv ⟨u.ws,-1,true,0,0⟩ a2 192 c2,iV 0]) (by simp [results,Tryz.results32,go_sem,unv,y0,y1,y2,y3,y4]) rfl ?_;rw [HE.o];have hbw:BW W4 a2 192 c2 u.ws:=⟨HI2.o,LN.o,hc2,by decide⟩;have ho:=zfz HI2.o (.inr (by rw [LN.o];decide)) b1.o rfl;exact⟨⟨a2,192,c2,rfl,((((hbw.ne ho _ _).ne ho _ _).ne ho _ _).ne ho _ _).ne ho _ _,HFa.o⟩,((((hw0.setCell hx _).setCell hx _).setCell hx _).setCell hx _).setCell hx _⟩
theorem zn8 (u:Un) (a:oA) (n c:Nat) (w:World) (h:BW w a n c u.ws):
 Cq 32 #[unv u a n c] w (UnAns w (bootS u)):=
 (zwf u a n c w h).mono fun _ _ ⟨⟨a,n,c,h1,h2,_⟩,hb⟩=>⟨⟨a,n,c,h1,h2⟩,hb⟩
theorem zo6 (x y z:Int) (w:World): (Instr.field 84 (.agg #[iV x,iV y,iV z]) 0).run Tryz.prog w=.ok (iV x) w:=by
 simp [Instr.field,run_underlying Tryz.underlying84,part,go_sem,isAgg,asAgg]
def runsS (u:Un):LI×Int×Int:=if unE u≠0 then([],0,unE u) else imgS u.ws u.fu (stOf u.ws).slot
theorem runsS_e (h:unE u≠0):runsS u= ([],0,unE u):=by unfold runsS;rw [KK h]
theorem ztq (h:unE u=0):runsS u=imgS u.ws u.fu (stOf u.ws).slot:=by unfold runsS;rw [KJ (by simpa using h)]
theorem zn0 (u:Un) (a:oA) (n c:Nat) (w:World) (h:BW w a n c u.ws):
 Cq 29 #[unv u a n c] w (Shows w (runsS u)):=by
 have hw0:bZ w (w.alloc (.cells (aU a n c u) 82)):=bA1;have b0:=uH (kP w (.cells (aU a n c u) 82));have HC:=uH (fun W (hW:bZ w W)=>zcz u a n c W (h.bl hW));have HS:=uH (fun (e1:lchk u.ws u.fu=0) W (hW:bZ w W)=>zgc a n c u.ws u.fu W (h.bl hW) e1);have HI:=uH (fun W (hW:bZ w W)=>zmf a n c u.ws u.fu (stOf u.ws).slot W (h.bl hW).at_ h.len h.max h.cap);have E1:=uH (fun h=>runsS_e (u:=u) h);have E0:=uH (fun h=>ztq (u:=u) h);unfold unv at *;clear h;go_enter Tryz.func29,Tryz.ntmps29;go_wp2_with fail;generalize w.alloc (.cells (aU a n c u) 82)=W at *;refine(zae HC _ hw0).mono ?_;rintro e w1 ⟨rfl,hb⟩;replace b0:=uH (zab b0.o hb);replace hw0:=bT hw0 hb;clear hb HC
 by_cases z1:unE u=0
 rotate_left
 {
 have HE:=uH (E1.o z1);have d1: (unE u !=0)=true:=by simpa using z1
 clear z1;generalize unE u=q at *;go_wp2_with fail;refine kT (v:=.tuple #[nV,iV 0,iV q]) (by simp [results,Tryz.results29,go_sem]) rfl ?_;exact zhg HE.o hw0 }
 have HE:=uH (E0.o z1);replace HS:=uH (HS.o (zjw z1).1);rw [z1];clear z1 E1 E0;generalize imgS u.ws u.fu (stOf u.ws).slot=r at *;generalize stOf u.ws=s at *;go_upto_region 4 with fail
 refine km (S:=fun W' =>ce W' w.heap.size 0=some (.slice a n c)/\ce W' w.heap.size 1=some (iV u.fu)) (by kernel_rfl) ⟨zaa b0.o 0 _ rfl,zaa b0.o 1 _ rfl⟩ ?_;intro hHeld;refine Htk 0 ?_
 refine Htk 1 ?_
 refine Htk 2 ?_
 refine Htk 3 ?_
 refine wr1 4 (fun K hK=> ?_);go_simp;have hk0:bZ w w1.drew:=hw0.drew;replace b0:Hd (w1.drew.heap[w.heap.size]?=some (.cells (aU a n c u) 82 (0,0))):=b0.o;refine(zae HS _ hk0).mono ?_;rintro e w2 ⟨rfl,hb⟩;unfold usv;replace b0:=uH (zab b0.o hb);replace hk0:=bT hk0 hb;clear hb HS hw0;have hfd:=zo6 s.slot s.by' s.rdy;go_wp2_with fail;refine hK.out _ _ ((show ce w2 w.heap.size 0=some (.slice a n c)/\ce w2 w.heap.size 1=some (iV u.fu) from⟨zaa b0.o 0 _ rfl,zaa b0.o 1 _ rfl⟩)) (fun hHeld=> ?_);clear hK K
 refine Htk 5 ?_
 refine wr1 6 (fun K hK=> ?_);go_simp;refine(zae HI _ hk0).mono ?_;rintro e w3 ⟨⟨a3,n3,c3,rfl,hi3,hn3,hc3,hf3⟩,hb⟩;replace b0:=uH (zab b0.o hb);have hk1:=bT hk0 hb;have I3:=uH hi3;have N3:=uH hn3;have F3:=uH hf3;clear hb HI hi3 hn3 hf3;go_wp2_with fail;refine hK.out _ _ ((show ce w3 w.heap.size 0=some (.slice a n c)/\ce w3 w.heap.size 1=some (iV u.fu) from⟨zaa b0.o 0 _ rfl,zaa b0.o 1 _ rfl⟩)) (fun hHeld=> ?_);clear hK K
 refine Htk 7 ?_
 refine Htk 8 ?_
 refine Htk 9 ?_
 refine Htk 10 ?_
 refine Htk 11 ?_
 refine Htk 12 ?_
 try simp only [sq]
 refine KE (by kernel_rfl) ?_ _;clear hHeld;go_wp2_with fail;refine kT (v:=.tuple #[.slice a3 n3 c3,iV r.2.1,iV r.2.2]) (by simp [results,Tryz.results29,go_sem]) rfl ?_;rw [HE.o];exact⟨⟨a3,n3,c3,rfl,I3.o,N3.o,hc3,fun ad e=>by have:=F3.o ad e;have:=hk0.size;omega⟩,hk1⟩
end
def Fine (r:LI×Int×Int):Prop:=(r.2.2=0\/r.2.2=7)->okL r.1=true/\ -1<=r.2.1/\r.2.1<=100000
theorem zsg {e:Int} (h0:e≠0) (h7:e≠7):Fine ([],0,e):=by
 intro h
 rcases h with h|h
 { exact absurd h h0 }
 { exact absurd h h7 }
theorem zuw (ws words:LI) (f p:Int):Fine (progS ws f p words):=by
 intro h;obtain ⟨c,q0,q1,ok,e⟩:=zvj h;have q:=zhq c;have hle:=zr7 f words.length;rw [e];exact⟨chg_ok q.2.2.2 ok hle (by omega),zpr (n:=words.length) q.2.1 q.2.2.1 (kQ _)⟩
theorem fine_era (ws:LI) (f s:Int):Fine (eraS ws f s):=by
 intro h;obtain ⟨c,q0,q1,e⟩:=era_did h;have q:=zhq c;rw [e];exact⟨zvx q.2.2.2,zpr (n:=32) q.2.1 q.2.2.1 (kQ _)⟩
theorem fine_fill (ws:LI) (f s p:Int) (words:LI):Fine (fillS ws f s p words):=by
 unfold fillS
 split
 { rename_i c;exact zsg c (zrz _ _ _) }
 {
 split
 { exact zsg (by decide) (by decide) }
 { exact zuw _ _ _ _ } }
theorem fine_seal (ws:LI) (f s l n:Int):Fine (sealS ws f s l n):=by
 unfold sealS
 split
 { rename_i c;exact zsg c (zrz _ _ _) }
 {
 split
 { exact zsg (by decide) (by decide) }
 { exact zuw _ _ _ _ } }
theorem fine_clr (ws:LI) (f s:Int):Fine (clrS ws f s):=by
 unfold clrS
 split
 { rename_i c;exact zsg c (zrz _ _ _) }
 {
 rename_i h1
 obtain ⟨hc,hl,p0,p1⟩:=zdt (show slotE ws f s=0 by simpa using h1);have q:=zhq hc;have key: ∀k,Fine (clrAt ws f s k):=by
  intro k
  induction k with
  |zero=>exact fun _=>⟨q.2.2.2,q.2.1,q.2.2.1⟩
  |succ k ih=>
   by_cases e: (clrAt ws f s k).2.2=0
   { rw [ztz e];exact fine_era _ _ _ }
   { rw [zrm e];exact ih }
 exact key 2 }
def Far (t:Int) (ws us:LI):Prop:=∀i:Nat,((i:Int)<64+64 * t\/128+64 * t<=(i:Int))->us.getD i 0=ws.getD i 0
theorem Far.refl (t:Int) (ws:LI):Far t ws ws:=fun _ _=>rfl
theorem Far.trans {a b c:LI} (h:Far t a b) (h2:Far t b c):Far t a c:=fun i hi=>(h2 i hi).trans (h i hi)
theorem far_apt {r:LI×Int×Int} (ht:0<=t) (h:Apt ws t r) (he:r.2.2=0\/r.2.2=7):Far t ws r.1/\r.1.length=192:=by
 obtain ⟨h1,h2,h3,h4⟩:=h he;refine⟨fun i hi=> ?_,h2⟩
 rcases hi with hi|hi
 {
 have:=congrArg (fun l=>l.getD i 0) h3;simp only [ka,List.getElem?_take] at this|-;rw [KK (by omega),KK (by omega)] at this;exact this }
 {
 have:=congrArg (fun l=>l.getD (i - (128+64 * t).toNat) 0) h4;simp only [ka,List.getElem?_drop] at this|-;rw [show(128+64 * t).toNat+(i - (128+64 * t).toNat)=i by omega] at this;exact this }
theorem far_log {us:LI} (ht:0<=t) (h:Far t ws us) (hl:us.length=ws.length):logR us=logR ws:=logR_ext hl (fun i hi=>h i (.inl (by omega)))
theorem zxc {us:LI} (ht:0<=t) (h:Far t ws us) (hl:us.length=ws.length):stOf us=stOf ws:=by unfold stOf;rw [far_log ht h hl]
structure Slt (t:Int) (u x:Un) (d:Bool):Prop where
 ok:unE x=0
 far:Far t u.ws x.ws
 st:stOf x.ws=stOf u.ws
 did:d=true->x.up=u.up/\x.n=u.n/\x.hv=u.hv
theorem fu_of (h:unE u=0): -1<=u.fu/\u.fu<=100000/\okL u.ws=true:=by
 have q:=zhq (zdm (zjw h).1).1;exact⟨q.2.1,q.2.2.1,q.2.2.2⟩
theorem zt1 {st:Stu} (hu:unE u=0) (ht:0<=t) (hA:Apt u.ws t (doT st u.ws u.fu)) (hF:Fine (doT st u.ws u.fu)):Slt t u (doV u st).1 (doV u st).2:=by
 obtain ⟨hk,hl,hn,hv⟩:=zjw hu;unfold doV;generalize doT st u.ws u.fu=R at *
 by_cases z7:R.2.2=7
 {
 rw [doU_7 z7];have f:=far_apt ht hA (.inr z7);have g:=hF (.inr z7);refine⟨unE_0 (zvs hk (f.2.trans hl.symm) (fun i hi=>f.1 i (.inl (by omega))) g.1 g.2.1 g.2.2) f.2 (by show(inB 0 0 8&&inB 0 0 40)=true;decide),f.1,zxc ht f.1 (f.2.trans hl.symm),fun h=>by cases h⟩ }
 {
 by_cases z0:R.2.2=0
 {
 rw [doU_0 z0];have f:=far_apt ht hA (.inl z0);have g:=hF (.inl z0);refine⟨unE_0 (zvs hk (f.2.trans hl.symm) (fun i hi=>f.1 i (.inl (by omega))) g.1 g.2.1 g.2.2) f.2 (by rw [inB_t hn.1 hn.2,inB_t hv.1 hv.2];rfl),f.1,zxc ht f.1 (f.2.trans hl.symm),fun _=>⟨rfl,rfl,rfl⟩⟩ }
 {
 rw [doU_e z7 z0];exact⟨hu,Far.refl _ _,rfl,fun h=>by cases h⟩ } }
theorem slt_clr (hu:unE u=0) (ht:0<=t):Slt t u (doV u (.clr t)).1 (doV u (.clr t)).2:=zt1 hu ht (apt_clear _ _ _) (fine_clr _ _ _)
theorem slt_fil {a:Int} (hu:unE u=0) (ht:0<=t):Slt t u (doV u (.fil t a words)).1 (doV u (.fil t a words)).2:=zt1 hu ht (apt_fill _ _ _ _ _) (fine_fill _ _ _ _ _)
theorem slt_sea {l n:Int} (hu:unE u=0) (ht:0<=t):Slt t u (doV u (.sea t l n)).1 (doV u (.sea t l n)).2:=zt1 hu ht (apt_seal _ _ _ _ _) (fine_seal _ _ _ _ _)
theorem zu8 (X:LL) (r:LI):stR (X++ [r])=zcf (stR X) r:=by unfold stR;rw [List.foldl_append];rfl
theorem stR_keep (h1:s.slot<=1):stR (keepU s)=s:=by
 unfold keepU;have e1:zcf us0 [1,s.slot,s.by']= ⟨s.slot,s.by',0⟩:=zn1 (by simp [isR]) (by simpa using h1)
 by_cases z:s.rdy=0
 {
 rw [KK z]
 show zcf us0 [1,s.slot,s.by']=s
 rw [e1];cases s;simp_all }
 {
 rw [KJ z]
 show zcf (zcf us0 [1,s.slot,s.by']) [2,s.rdy]=s
 rw [e1,zng (by simp [isR]) (by simp [isR])];cases s;simp }
theorem zr3 (ws:LI) (f:Int) (r:LI) (keep:LL) (h:lchk ws f=0):zcp ws f r keep≠7:=by
 unfold zcp;rw [KJ (by simpa using h)]
 split
 {
 unfold recE;split
 { decide }
 {
 split
 { decide }
 { decide } } }
 {
 split
 {
 intro h7;have key: ∀(rs:LL) (xs:LI),(laidS rs xs).2≠7:=by
  intro rs
  induction rs with
  |nil=>intro xs;simp [laidS]
  |cons r rs ih=>
   intro xs
   by_cases e:addE xs r=0
   { rw [zex e];exact ih _ }
   {
   rw [zet e]
   show addE xs r≠7
   unfold addE recE
   repeat(first|decide|split) }
 exact key _ _ h7 }
 {
 split
 { decide }
 {
 decide } } }
structure Ntd (r:LI) (u x:Un) (d:Bool):Prop where
 ok:unE x=0
 far: ∀i,64<=i->x.ws.getD i 0=u.ws.getD i 0
 no:d=false->stOf x.ws=stOf u.ws
 yes:d=true->stOf x.ws=zcf (stOf u.ws) r/\x.up=u.up/\x.n=u.n/\x.hv=u.hv
theorem zsi (hu:unE u=0):Ntd r u (doV u (.not (stOf u.ws) r)).1 (doV u (.not (stOf u.ws) r)).2:=by
 obtain ⟨hk,hl,hn,hv⟩:=zjw hu;have hsl:=zr1 hk;unfold doV
 show Ntd r u (doU u (appS u.ws u.fu r (keepU (stOf u.ws)))).1 (doU u (appS u.ws u.fu r (keepU (stOf u.ws)))).2
 by_cases e:zcp u.ws u.fu r (keepU (stOf u.ws))=0
 {
 have b:=zwd e;have g:=zto e;generalize appS u.ws u.fu r (keepU (stOf u.ws))=R at *;obtain ⟨g1,g2,g3,g4⟩:=g
 rcases g4 with ⟨z0,g4⟩| ⟨z7,g4⟩
 {
 rw [doU_0 z0];refine⟨unE_0 (g3 _ g2.1 g2.2) (g1.trans hl) (by rw [inB_t hn.1 hn.2,inB_t hv.1 hv.2];rfl),b.2,fun h=>(by cases h),fun _=>⟨?_,rfl,rfl,rfl⟩⟩
 show stR (logR R.1)=_
 rcases g4 with g4|g4
 { rw [g4,zu8];rfl }
 { rw [g4,zu8,stR_keep hsl.2] } }
 {
 rw [doU_7 z7];refine⟨unE_0 (g3 _ g2.1 g2.2) (g1.trans hl) (by show(inB 0 0 8&&inB 0 0 40)=true;decide),b.2,fun _=> ?_,fun h=>(by cases h)⟩
 show stR (logR R.1)=_
 rw [g4];rfl } }
 {
 rw [zsv e,doU_e (by exact zr3 _ _ _ _ hk) (by exact e)];exact⟨hu,fun _ _=>rfl,fun _=>rfl,fun h=>by cases h⟩ }
structure Keeps (u x:Un):Prop where
 ok:unE x=0
 slot: (stOf x.ws).slot= (stOf u.ws).slot
 by' : (stOf x.ws).by' = (stOf u.ws).by'
 same: ∀i:Nat,64+64 *(stOf u.ws).slot<=(i:Int)->(i:Int)<128+64 *(stOf u.ws).slot->x.ws.getD i 0=u.ws.getD i 0
theorem Keeps.refl (h:unE u=0):Keeps u u:=⟨h,rfl,rfl,fun _ _ _=>rfl⟩
theorem Keeps.trans {x y:Un} (h:Keeps u x) (h2:Keeps x y):Keeps u y:=⟨h2.ok,h2.slot.trans h.slot,h2.by'.trans h.by',fun i a b=>(h2.same i (by rw [h.slot];exact a) (by rw [h.slot];exact b)).trans (h.same i a b)⟩
theorem Keeps.mind {x:Un} {n v:Int} (h:Keeps u x) (h0:0<=n/\n<=8) (h1:0<=v/\v<=40):Keeps u (mind x n v):=by
 obtain ⟨hk,hl,_⟩:=zjw h.ok;exact⟨unE_0 hk hl (by show(inB n 0 8&&inB v 0 40)=true;rw [inB_t h0.1 h0.2,inB_t h1.1 h1.2];rfl),h.slot,h.by',h.same⟩
theorem Slt.keeps {x:Un} {d:Bool} (h:Slt (oth (stOf u.ws)) u x d) (hu:unE u=0):Keeps u x:=by
 have hs:=zr1 (zjw hu).1;exact⟨h.ok,by rw [h.st],by rw [h.st],fun i a b=>h.far i (by unfold oth;omega)⟩
theorem Ntd.keeps {x:Un} {d:Bool} (h:Ntd r u x d) (hu:unE u=0) (hr: (zcf (stOf u.ws) r).slot= (stOf u.ws).slot/\(zcf (stOf u.ws) r).by' = (stOf u.ws).by'):Keeps u x:=by
 have hs:=zr1 (zjw hu).1;cases d
 {
 have e:=h.no rfl;exact⟨h.ok,by rw [e],by rw [e],fun i a b=>h.far i (by omega)⟩ }
 {
 have e:=(h.yes rfl).1;exact⟨h.ok,by rw [e];exact hr.1,by rw [e];exact hr.2,fun i a b=>h.far i (by omega)⟩ }
theorem st_rdy (s:Us) (n:Int):zcf s [2,n]= ⟨s.slot,s.by',n⟩:=by rw [zng (by simp [isR]) (by simp [isR])];rfl
theorem st_not (s:Us) (n:Int):zcf s [3,n]= ⟨s.slot,s.by',0⟩:=zom (by simp [isR]) (by simp [isR]) (by simp [isR])
theorem st_runs (s:Us) (k n:Int) (h:k<=1):zcf s [1,k,n]= ⟨k,n,0⟩:=by rw [zn1 (by simp [isR]) (by simpa using h)];rfl
theorem oth_0 (hu:unE u=0):0<=oth (stOf u.ws)/\oth (stOf u.ws)<=1:=by
 have hs:=zr1 (zjw hu).1;unfold oth;omega
theorem zvy (hu:unE u=0) (hm:msE m=0):Keeps u (zda u (stOf u.ws) m):=by
 have q:=msE_0 hm;have ho:=(oth_0 hu).1;unfold zda
 split
 { exact Keeps.refl hu }
 {
 have hA:Keeps u (zb8 u (stOf u.ws) m).1/\stOf (zb8 u (stOf u.ws) m).1.ws=stOf u.ws:=by
  unfold zb8;have c:=slt_clr (t:=oth (stOf u.ws)) hu ho
  split
  {
  split
  { exact⟨(c.keeps hu).mind ⟨by omega,by omega⟩ (by decide),c.st⟩ }
  { exact⟨c.keeps hu,c.st⟩ } }
  { exact⟨Keeps.refl hu,rfl⟩ }
 split
 {
 refine hA.1.trans ?_;generalize (zb8 u (stOf u.ws) m).1=x at *;rw [<-hA.2];have hx:=hA.1.ok;have c:=slt_fil (t:=oth (stOf x.ws)) (a:=m.at') (words:=m.ws) hx (oth_0 hx).1;unfold zcj
 split
 {
 rename_i hc
 split
 {
 rename_i hd
 have d:=c.did hd;refine(c.keeps hx).mind ?_ ?_
 { rw [d.2.1];exact(zjw hx).2.2.1 }
 { rw [d.2.2];have:=(zjw hx).2.2.2;omega } }
 { exact c.keeps hx } }
 { exact Keeps.refl hx } }
 { exact hA.1 } }
def Neg (r:LI×Int×Int):Prop:=r.2.2≠7/\(r.2.2=0->r.2.1= -1)
theorem neg_err {e:Int} (h0:e≠0) (h7:e≠7):Neg ([],0,e):=⟨h7,fun h=>absurd h h0⟩
theorem neg_app {keep:LL} (h:lchk ws (-1)=0):Neg (appS ws (-1) r keep):=by
 by_cases e:zcp ws (-1) r keep=0
 { rw [zul e];exact⟨by show(0:Int)≠7;decide,fun _=>rfl⟩ }
 {
 rw [zsv e];exact neg_err e (zr3 _ _ _ _ h) }
structure GsOk (s:Gs):Prop where
 n:0<=s.n/\s.n<=8
 none:s.n=0->s=gs0
 one:s.co=true->s.ab=false
 en:s.en=true->decG s=true
theorem gsOk0:GsOk gs0:=⟨by decide,fun _=>rfl,fun h=>(by cases h),fun h=>(by cases h)⟩
theorem gsOk_trn {s:Gs} (h:GsOk s) (hn:s.n≠0) (k:Int):GsOk (trnG s k):=by
 obtain ⟨h1,h2,h3,h4⟩:=h;cases s with
 |mk n v co ab en=>
  unfold trnG decG at *;simp only at *
  split
  { refine⟨h1,fun e=>absurd e hn, ?_, ?_⟩<;>cases co<;>cases ab<;>cases en<;>simp_all [decG] }
  {
  split
  { refine⟨h1,fun e=>absurd e hn, ?_, ?_⟩<;>cases co<;>cases ab<;>cases en<;>simp_all [decG] }
  {
  split
  { refine⟨h1,fun e=>absurd e hn, ?_, ?_⟩<;>cases co<;>cases ab<;>cases en<;>simp_all [decG] }
  { exact⟨h1,h2,h3,h4⟩ } } }
theorem isBeg_n (h:isBeg r=true):1<=r.getD 1 0/\r.getD 1 0<=8:=by
 unfold isBeg inB at h
 simp at h
 simpa using h.2.2
theorem gsOk_next {s:Gs} (h:GsOk s) (r:LI):GsOk (gNext s r):=by
 unfold gNext
 split
 {
 rename_i hb
 have:=isBeg_n hb;exact⟨⟨by show(0:Int)<=r.getD 1 0;omega,this.2⟩,fun e=>by have e:r.getD 1 0=0:=e;omega,fun h=>(by cases h),fun h=>(by cases h)⟩ }
 {
 split
 {
 rename_i _ ho
 refine gsOk_trn h ?_ _;unfold isOf at ho
 simp at ho
 exact ho.2.1 }
 { exact h } }
theorem gsOk_R (rs:LL):GsOk (gR rs):=by
 unfold gR;have key: ∀(rs:LL) (s:Gs),GsOk s->GsOk (rs.foldl gNext s):=by
  intro rs
  induction rs with
  |nil=>exact fun s h=>h
  |cons r rs ih=>exact fun s h=>ih _ (gsOk_next h r)
 exact key rs gs0 gsOk0
theorem zrr (ws:LI):GsOk (gOf ws):=gsOk_R _
theorem gR_last (X:LL) (r:LI):gR (X++ [r])=gNext (gR X) r:=by unfold gR;rw [List.foldl_append];rfl
theorem gN_beg (s:Gs) {n v:Int} (h:1<=n/\n<=8):gNext s [1,n,v]= ⟨n,v,false,false,false⟩:=by
 unfold gNext;rw [KK (by unfold isBeg;simp [inB_t h.1 h.2])];rfl
theorem gN_of {s:Gs} {k:Int} (h:s.n≠0):gNext s [k,s.n]=trnG s k:=by
 unfold gNext;rw [KJ (by simp [isBeg]),KK (by simp [isOf,h])];rfl
theorem gR_keep {s:Gs} (h:GsOk s):gR (kepG s)=s:=by
 by_cases z:s.n=0
 { unfold kepG;rw [KK z,h.none z];rfl }
 {
 obtain ⟨h1,-,h3,h4⟩:=h;unfold kepG;rw [KJ z];cases s with
 |mk n v co ab en=>
  have hb:gNext gs0 [1,n,v]= ⟨n,v,false,false,false⟩:=gN_beg _ ⟨by have z:n≠0:=z;have h1:0<=n/\n<=8:=h1;omega,h1.2⟩;have t2: ∀c a e,gNext ⟨n,v,c,a,e⟩ [2,n]= ⟨n,v,!a,a,e⟩:=fun c a e=>(gN_of (s:=⟨n,v,c,a,e⟩) z).trans rfl
  have t3: ∀c a e,gNext ⟨n,v,c,a,e⟩ [3,n]= ⟨n,v,c,!c,e⟩:=fun c a e=>(gN_of (s:=⟨n,v,c,a,e⟩) z).trans rfl
  have t4: ∀c a e,gNext ⟨n,v,c,a,e⟩ [4,n]= ⟨n,v,c,a,c||a⟩:=fun c a e=>(gN_of (s:=⟨n,v,c,a,e⟩) z).trans rfl
  unfold decG at h4;unfold gR;rw [List.foldl_cons,hb];cases co<;>cases ab<;>cases en<;>simp_all }
theorem gtE_0 (h1:lchk g.ws g.fu=0) (h2:1<=g.vo.length/\g.vo.length<=4) (h3:g.di.length=g.vo.length) (h4:trE g.t=0):gtE g=0:=by
 unfold gtE;rw [KJ (by simpa using h1),KK,h4];unfold gtB inB
 simp
 omega
theorem zrp (h:gtE g=0):lchk g.ws g.fu=0/\(1<=g.vo.length/\g.vo.length<=4)/\g.di.length=g.vo.length/\trE g.t=0:=by
 unfold gtE at h
 split at h
 { rename_i h1;exact absurd h h1 }
 {
 rename_i h1
 split at h
 {
 rename_i h2
 unfold gtB inB at h2
 simp at h2
 exact⟨by simpa using h1,⟨by omega,by omega⟩,h2.2,h⟩ }
 { cases h } }
structure NtG (r:LI) (g x:Gt) (d:Bool):Prop where
 ok:gtE x=0
 t:x.t=g.t
 len:x.ws.length=g.ws.length
 nvo:x.vo.length=g.vo.length
 no:d=false->gOf x.ws=gOf g.ws
 yes:d=true->gOf x.ws=gNext (gOf g.ws) r/\x.up=g.up/\x.vo=g.vo/\x.di=g.di
theorem zru (l:List Bool): (zbj l).length=l.length:=by unfold zbj;simp
theorem zrw (r:LI) (hg:gtE g=0):NtG r g (noteG g (gOf g.ws) r).1 (noteG g (gOf g.ws) r).2:=by
 obtain ⟨hk,hv,hd,ht⟩:=zrp hg;unfold noteG
 by_cases e:zcp g.ws g.fu r (kepG (gOf g.ws))=0
 {
 have b:=zto e;generalize appS g.ws g.fu r (kepG (gOf g.ws))=R at *;obtain ⟨g1,g2,g3,g4⟩:=b
 rcases g4 with ⟨z0,g4⟩| ⟨z7,g4⟩
 {
 unfold dnG;rw [KJ (by rw [z0];decide),KK z0];refine⟨gtE_0 (g3 _ g2.1 g2.2) hv hd ht,rfl,g1,rfl,fun h=>(by cases h),fun _=>⟨?_,rfl,rfl,rfl⟩⟩
 show gR (logR R.1)=_
 rcases g4 with g4|g4
 { rw [g4,gR_last];rfl }
 { rw [g4,gR_last,gR_keep (zrr _)] } }
 {
 unfold dnG;rw [KK z7];refine⟨gtE_0 (g3 _ g2.1 g2.2) (by show 1<=(zbj g.vo).length/\(zbj g.vo).length<=4;rw [zru];exact hv) (by show(zbj g.di).length= (zbj g.vo).length;rw [zru,zru];exact hd) ht,rfl,g1,zru _,fun _=> ?_,fun h=>by cases h⟩
 show gR (logR R.1)=_
 rw [g4];rfl } }
 {
 rw [zsv e];unfold dnG;rw [KJ (by exact zr3 _ _ _ _ hk),KJ (by exact e)];exact⟨hg,rfl,rfl,rfl,fun _=>rfl,fun h=>by cases h⟩ }
theorem noteG_neg {s:Gs} (hg:gtE g=0) (hf:g.fu= -1): ((noteG g s r).2=false->(noteG g s r).1=g)/\(noteG g s r).1.fu= -1:=by
 obtain ⟨hk,-⟩:=zrp hg;have n:=neg_app (ws:=g.ws) (r:=r) (keep:=kepG s) (by rw [<-hf];exact hk);unfold noteG;rw [hf];generalize appS g.ws (-1) r (kepG s)=R at *;unfold dnG;rw [KJ n.1]
 split
 {
 rename_i h0
 exact⟨fun h=>(by cases h),n.2 h0⟩ }
 {
 exact⟨fun _=>rfl,hf⟩ }
theorem zso (l:List Bool) (u:Int): (setB l u).length=l.length:=by unfold setB;simp
def withV (g:Gt) (u:Int):Gt:=⟨g.ws,g.fu,g.up,g.t,setB g.vo u,g.di⟩
def withD (g:Gt) (u:Int):Gt:=⟨g.ws,g.fu,g.up,g.t,g.vo,setB g.di u⟩
theorem zsl (h:gtE g=0) (u:Int):gtE (withV g u)=0:=by
 obtain ⟨h1,h2,h3,h4⟩:=zrp h;exact gtE_0 h1 (by show 1<=(setB g.vo u).length/\(setB g.vo u).length<=4;rw [zso];exact h2) (by show g.di.length= (setB g.vo u).length;rw [zso];exact h3) h4
theorem zsn (h:gtE g=0) (u:Int):gtE (withD g u)=0:=by
 obtain ⟨h1,h2,h3,h4⟩:=zrp h;exact gtE_0 h1 h2 (by show(setB g.di u).length=g.vo.length;rw [zso];exact h3) h4
structure Onc (g x:Gt) (s t:Gs):Prop where
 ok:gtE x=0
 tr:x.t=g.t
 n:t.n=s.n
 v:t.v=s.v
 co:s.co=true->t.co=true
 ab:s.ab=true->t.ab=true
 en:s.en=true->t.en=true
 nvo:x.vo.length=g.vo.length
theorem Onc.same {x:Gt} {s t:Gs} (hg:gtE x=0) (h1:x.t=g.t) (h2:x.vo.length=g.vo.length) (h:t=s):Onc g x s t:=⟨hg,h1,by rw [h],by rw [h],by rw [h];exact id,by rw [h];exact id,by rw [h];exact id,h2⟩
theorem zsj (h: (gvUp g).2=0):gtE g=0/\(gOf g.ws).n≠0/\decG (gOf g.ws)=false/\(gvUp g).1= (noteG g (gOf g.ws) [3,(gOf g.ws).n]).1:=by
 unfold gvUp at *
 by_cases z:upE g=0
 {
 rw [KJ (by simpa using z)] at h|-;have hg:gtE g=0:=by
  unfold upE at z
  split at z
  { rename_i h1;exact absurd z h1 }
  { rename_i h1;simpa using h1 }
 split at h
 { cases h }
 {
 rename_i hd
 rw [KJ hd]
 simp at hd
 exact⟨hg,hd.1,hd.2,rfl⟩ } }
 { rw [KK z] at h;exact absurd h z }
theorem zu4 (h: (gvUp g).2=0):Onc g (gvUp g).1 (gOf g.ws) (gOf (gvUp g).1.ws)/\(gOf (gvUp g).1.ws).co= (gOf g.ws).co/\(gOf (gvUp g).1.ws).en= (gOf g.ws).en/\(gOf g.ws).co=false:=by
 obtain ⟨hg,hn,hd,e⟩:=zsj h;rw [e];have st:=zrw [3,(gOf g.ws).n] hg;have hok:=zrr g.ws;generalize noteG g (gOf g.ws) [3,(gOf g.ws).n]=N at *;cases z:N.2
 {
 have y:=st.no z;exact⟨.same st.ok st.t st.nvo y,by rw [y],by rw [y],by unfold decG at hd;revert hd;cases (gOf g.ws).co<;>simp⟩ }
 {
 obtain ⟨y,_⟩:=st.yes z;rw [gN_of hn] at y;generalize gOf g.ws=s at *;have e3:trnG s 3= ⟨s.n,s.v,s.co,!s.co,s.en⟩:=rfl;rw [e3] at y;rw [y];unfold decG at hd;have hco:s.co=false:=by revert hd;cases s.co<;>simp
 exact⟨⟨st.ok,st.t,rfl,rfl,id,fun _=>by rw [hco];rfl,id,st.nvo⟩,rfl,rfl,hco⟩ }
def VoteOk (g:Gt) (m:Ms):Prop:=m.k=3/\m.y=true/\m.n= (gOf g.ws).n/\(gOf g.ws).ab=false/\(gOf g.ws).co=false/\allB (setB g.vo m.u)=true
def DoneOk (g:Gt) (m:Ms):Prop:=m.k=6/\decG (gOf g.ws)=true/\(gOf g.ws).en=false
theorem ztb (h:ghE g m=0):gtE g=0/\(0<=m.u/\m.u<g.vo.length)/\(1<=m.n/\m.n<=8):=by
 unfold ghE at h
 split at h
 { rename_i h1;exact absurd h h1 }
 {
 rename_i h1
 split at h
 {
 rename_i h2
 unfold inB at h2
 simp at h2
 exact⟨by simpa using h1,by omega,by omega⟩ }
 { cases h } }
structure Hrd (g:Gt) (m:Ms) (x:Gt):Prop where
 onc:Onc g x (gOf g.ws) (gOf x.ws)
 co: (gOf x.ws).co=true->(gOf g.ws).co=true\/VoteOk g m
 ab: (gOf x.ws).ab= (gOf g.ws).ab
 en: (gOf x.ws).en=true->(gOf g.ws).en=true\/DoneOk g m
theorem Hrd.same {x:Gt} (hg:gtE x=0) (ht:x.t=g.t) (hl:x.vo.length=g.vo.length) (h:gOf x.ws=gOf g.ws):Hrd g m x:=⟨.same hg ht hl h,fun e=>.inl (by rw [<-h];exact e),by rw [h],fun e=>.inl (by rw [<-h];exact e)⟩
theorem hrd_K (h:ghE g m=0):Hrd g m (ghK g (gOf g.ws) m).1:=by
 obtain ⟨hg,hu,hn⟩:=ztb h;have hs:=zrr g.ws;have hself:Hrd g m g:=.same hg rfl rfl rfl;unfold ghK
 split
 {
 rename_i h3
 dsimp only
 split
 {
 rename_i hp
 unfold pend at hp;simp only [kr,KF,Bool.not_eq_true'] at hp;obtain ⟨⟨p1,p2⟩,p3,p4⟩:=hp;unfold voteG;have hV:=zsl hg m.u
 split
 {
 rename_i ha
 have st:=zrw [2,(gOf g.ws).n] hV;have e0:gOf (withV g m.u).ws=gOf g.ws:=rfl;rw [e0] at st
 show Hrd g m (noteG (withV g m.u) (gOf g.ws) [2,(gOf g.ws).n]).1
 generalize noteG (withV g m.u) (gOf g.ws) [2,(gOf g.ws).n]=N at *;have hlen:N.1.vo.length=g.vo.length:=st.nvo.trans (zso _ _);cases z:N.2
 { exact .same st.ok st.t hlen ((st.no z).trans e0) }
 {
 obtain ⟨y,-⟩:=st.yes z;rw [e0,gN_of (by omega)] at y;have hab: (gOf g.ws).ab=false:=by unfold decG at p3;revert p3;cases (gOf g.ws).ab<;>simp
 have hco: (gOf g.ws).co=false:=by unfold decG at p3;revert p3;cases (gOf g.ws).co<;>simp
 have hvo:VoteOk g m:=⟨h3,p4,p1.symm,hab,hco,ha⟩;have ht:N.1.t=g.t:=st.t;clear hself hV e0 h;have e2:trnG (gOf g.ws) 2= ⟨(gOf g.ws).n,(gOf g.ws).v,!(gOf g.ws).ab,(gOf g.ws).ab,(gOf g.ws).en⟩:=rfl;rw [e2] at y;exact⟨⟨st.ok,ht,by rw [y],by rw [y],fun _=>by rw [y,hab];rfl,fun e=>by rw [y];exact e,fun e=>by rw [y];exact e,hlen⟩,fun _=>.inr hvo,by rw [y],fun e=>.inl (by rw [y] at e;exact e)⟩ } }
 { exact .same hV rfl (zso _ _) rfl } }
 { exact hself } }
 {
 split
 {
 rename_i _ h6
 dsimp only
 split
 {
 rename_i hp
 unfold pend at hp;simp only [kr,KF,Bool.not_eq_true'] at hp;obtain ⟨⟨p1,p2⟩,p3⟩:=hp;unfold doneG;have hV:=zsn hg m.u
 split
 {
 rename_i ha
 have st:=zrw [4,(gOf g.ws).n] hV;have e0:gOf (withD g m.u).ws=gOf g.ws:=rfl;rw [e0] at st
 show Hrd g m (noteG (withD g m.u) (gOf g.ws) [4,(gOf g.ws).n]).1
 generalize noteG (withD g m.u) (gOf g.ws) [4,(gOf g.ws).n]=N at *;have hlen:N.1.vo.length=g.vo.length:=st.nvo;cases z:N.2
 { exact .same st.ok st.t hlen ((st.no z).trans e0) }
 {
 obtain ⟨y,-⟩:=st.yes z;rw [e0,gN_of (by omega)] at y;have hdo:DoneOk g m:=⟨h6,p3,p2⟩;have ht:N.1.t=g.t:=st.t;have e4:trnG (gOf g.ws) 4= ⟨(gOf g.ws).n,(gOf g.ws).v,(gOf g.ws).co,(gOf g.ws).ab,decG (gOf g.ws)⟩:=rfl;rw [e4] at y;exact⟨⟨st.ok,ht,by rw [y],by rw [y],fun e=>by rw [y];exact e,fun e=>by rw [y];exact e,fun _=>by rw [y];exact p3,hlen⟩,fun e=>.inl (by rw [y] at e;exact e),by rw [y],fun _=>.inr hdo⟩ } }
 { exact .same hV rfl rfl rfl } }
 { exact hself } }
 {
 split
 { exact hself }
 { exact hself } } }
theorem zsc (h: (gHear g m).2.2=0):ghE g m=0/\Hrd g m (gHear g m).1:=by
 unfold gHear at *
 by_cases z:ghE g m=0
 {
 refine⟨z, ?_⟩;rw [KJ (by simpa using z)] at h|-
 split
 { exact hrd_K z }
 { exact .same (ztb z).1 rfl rfl rfl } }
 {
 rw [KK z] at h;exact absurd h z }
section
attribute [local go_sem ↓] kM kO
theorem turnU_lk (sts:List Stu): ∀u:Un,Lk u.ws (turnU sts u).1.ws:=by
 induction sts with
 |nil=>intro u;exact Lk.refl _
 |cons st r ih=>
  intro u
  by_cases h: (doV u st).2=true
  { rw [ziy h];exact(zco _ _).trans (ih _) }
  {
  rw [zez (by simpa using h)];exact zco _ _ }
def zdx (image:LI) (name:Int):List Stu:= [.fmt,.fil 0 0 image,.sea 0 image.length name,.not us0 [1,0,0]]
def newF:Un:=⟨List.replicate 192 65535,-1,true,0,0⟩
def newU (image:LI) (name:Int):Un×Int:=
 if imgE image≠0 then(un0,imgE image) else if inB name 1 60=false then(un0,3) else((turnU (zdx image name) newF).1,0)
theorem newU_e (h:imgE image≠0):newU image name= (un0,imgE image):=by unfold newU;rw [KK h]
theorem newU_3 (h:imgE image=0) (h2:inB name 1 60=false):newU image name= (un0,3):=by unfold newU;rw [KJ (by simpa using h),KK h2]
theorem newU_0 (h:imgE image=0) (h2:inB name 1 60=true):newU image name= ((turnU (zdx image name) newF).1,0):=by unfold newU;rw [KJ (by simpa using h),KJ (by rw [h2];decide)]
theorem zga {F:Nat} (B:Nat) (u:Un) (v1 v2 v3:Value) (s1 s2 s3:Stu) (t:TypeId) (w:World) (hU:OwnU F w B u) (h1:IsStu w B v1 s1) (h2:IsStu w B v2 s2) (h3:IsStu w B v3 s3):
 Cq 206 #[.pointer (some ⟨B,0,none⟩),sV w.heap.size 4 4] (w.alloc (.cells #[.func (.func 137) #[] #[],v1,v2,v3] t)) fun e w' =>e=.returned (.bool (turnU [.fmt,s1,s2,s3] u).2)/\OwnU F w' B (turnU [.fmt,s1,s2,s3] u).1/\w.grownBy w' (some B):=by
 have hb:=kP w (.cells #[.func (.func 137) #[] #[],v1,v2,v3] t);have hbA:bZ w (w.alloc (.cells #[.func (.func 137) #[] #[],v1,v2,v3] t)):=bA1;refine(zgg B w.heap.size 4 4 [.fmt,s1,s2,s3] u _ (hU.bl hbA) (fun i x hx=> ?_) (by have:=hU.lt;omega) rfl (by decide)).mono ?_
 {
 match i with
 |0=>simp at hx;subst hx;exact⟨_,zaa hb 0 _ rfl,fun _ _=>rfl⟩
 |1=>simp at hx;subst hx;exact⟨v1,zaa hb 1 _ rfl,h1.turns (zaj hbA B)⟩
 |2=>simp at hx;subst hx;exact⟨v2,zaa hb 2 _ rfl,h2.turns (zaj hbA B)⟩
 |3=>simp at hx;subst hx;exact⟨v3,zaa hb 3 _ rfl,h3.turns (zaj hbA B)⟩
 |i+4=>simp at hx }
 {
 rintro e w' ⟨rfl,hq,hg⟩;exact⟨rfl,hq,(zaj hbA B).trans hg⟩ }
theorem zo0 (a:oA) (n c:Nat) (image:LI) (name:Int) (w:World) (h:BI w a n image):
 Cq 140 #[.slice a n c,iV name] w (UnAns w (newU image name)):=by
 have hw0:bZ w (w.alloc (.cells #[nV,iV 0,.bool false,iV 0,iV 0] 82)):=bA1;have b0:=uH (kP w (.cells #[nV,iV 0,.bool false,iV 0,iV 0] 82));have HC:=uH (fun W (hW:bZ w W)=>zd9 a n c image W (h.bl hW).at_ h.len h.max);have HB:=uH h;have LN:=uH h.len;have E1:=uH (fun h=>newU_e (image:=image) (name:=name) h);have E3:=uH (fun h h2=>newU_3 (image:=image) (name:=name) h h2);have E0:=uH (fun h h2=>newU_0 (image:=image) (name:=name) h h2);have hm:=h.max;unfold maxLen at hm;have hx:w.heap.size<=w.heap.size:=kQ _;clear h;go_enter Tryz.func140,Tryz.ntmps140;go_wp2_with fail;generalize w.alloc (.cells #[nV,iV 0,.bool false,iV 0,iV 0] 82)=W at *;refine(zae HC _ hw0).mono ?_;rintro e w1 ⟨rfl,rfl⟩;clear HC;obtain ⟨y0,y1,y2,y3,y4⟩:=cl5 b0.o;obtain ⟨f0,f1,f2,f3,f4⟩:=fr5 b0.o
 by_cases z1:imgE image=0
 rotate_left
 {
 have HE:=uH (E1.o z1);have d1: (imgE image !=0)=true:=by simpa using z1
 clear z1;generalize imgE image=q at *;go_wp2_with fail;refine kT (v:=.tuple #[unv un0 none 0 0,iV q]) (by simp [results,Tryz.results140,go_sem,unv,un0,y0,y1,y2,y3,y4]) rfl ?_;rw [HE.o];exact⟨⟨none,0,0,rfl,⟨.inl rfl,rfl,kQ _,by decide⟩⟩,((((hw0.setCell hx _).setCell hx _).setCell hx _).setCell hx _).setCell hx _⟩ }
 replace E3:=uH (E3.o z1);replace E0:=uH (E0.o z1);rw [z1];clear z1 E1;cases g1:inB name 1 60
 {
 have HE:=uH (E3.o g1)
 go_wp2_with (go_at_call 176;refine(zbb _ _ _ _).mono ?_;rintro e w' ⟨rfl,rfl⟩)
 refine kT (v:=.tuple #[unv un0 none 0 0,iV 3]) (by simp [results,Tryz.results140,go_sem,unv,un0,y0,y1,y2,y3,y4]) rfl ?_;rw [HE.o];exact⟨⟨none,0,0,rfl,⟨.inl rfl,rfl,kQ _,by decide⟩⟩,((((hw0.setCell hx _).setCell hx _).setCell hx _).setCell hx _).setCell hx _⟩ }
 have HE:=uH (E0.o g1);clear y0 y1 y2 y3 y4 f0 f1 f2 f3 f4 E3 E0;have hq:=uH (new_any 6 w1);rw [show newS 6= (List.replicate 192 65535,-1,0) from rfl] at hq;go_upto_region 6 with (go_at_call 176;refine(zbb _ _ _ _).mono ?_;rintro e w' ⟨rfl,rfl⟩)
 go_wp2_with fail;refine(zae hq).mono ?_;rintro e w2 ⟨⟨a2,n2,c2,rfl,hi2,hn2,hc2,hf2⟩,hb2⟩;obtain rfl:n2=192:=by rw [<-hn2];simp
 replace b0:=uH (zab b0.o hb2);replace hw0:=bT hw0 hb2;have hX:w.heap.size<w2.heap.size:=zak b0.o;have HI2:=uH hi2;clear hb2 hi2 hf2 hn2 hq g1;go_upto_region 11 with fail
 have S0:Hd ((((w2.alloc (.cells #[.slice a2 192 c2,iV (-1)] 28)).alloc (.cells #[.slice a2 192 c2,iV (-1),.bool true,iV 0,iV 0] 82)).alloc (.cells #[iV 0,iV 0,iV 0] 84)).heap[w2.heap.size+1]?=some (.cells #[.slice a2 192 c2,iV (-1),.bool true,iV 0,iV 0] 82 (0,0))):=bk3.2.1;have S1:Hd ((((w2.alloc (.cells #[.slice a2 192 c2,iV (-1)] 28)).alloc (.cells #[.slice a2 192 c2,iV (-1),.bool true,iV 0,iV 0] 82)).alloc (.cells #[iV 0,iV 0,iV 0] 84)).heap[w2.heap.size+1+1]?=some (.cells #[iV 0,iV 0,iV 0] 84 (0,0))):=bk3.2.2;have hb3:bZ w2 (((w2.alloc (.cells #[.slice a2 192 c2,iV (-1)] 28)).alloc (.cells #[.slice a2 192 c2,iV (-1),.bool true,iV 0,iV 0] 82)).alloc (.cells #[iV 0,iV 0,iV 0] 84)):=(bA2).alloc (by simp;omega) _;have ho2:Off (w2.heap.size+1) a2:=by
  rcases zcu HI2.o (w2.heap.size+1) (by omega) with e|h
  { simp at e }
  { exact h }
 have HOw:Hd (OwnU 0 (((w2.alloc (.cells #[.slice a2 192 c2,iV (-1)] 28)).alloc (.cells #[.slice a2 192 c2,iV (-1),.bool true,iV 0,iV 0] 82)).alloc (.cells #[iV 0,iV 0,iV 0] 84)) (w2.heap.size+1) newF):=⟨a2,192,c2,S0.o,HI2.o.bl hb3,rfl,hc2,by decide,ho2,fun _ _=>KG _,KG _⟩;replace b0:=uH (zab b0.o hb3);have HOI:=uH (zcu HB.o.at_ (w2.heap.size+1) (by have:=hw0.size;omega));have hBw:w.heap.size<w2.heap.size+1:=by omega
 have hBW:w2.heap.size+1< (((w2.alloc (.cells #[.slice a2 192 c2,iV (-1)] 28)).alloc (.cells #[.slice a2 192 c2,iV (-1),.bool true,iV 0,iV 0] 82)).alloc (.cells #[iV 0,iV 0,iV 0] 84)).heap.size:=by simp
 replace hw0:=bT hw0 hb3;clear hb3 HI2 ho2 S0 hX;generalize ((w2.alloc (.cells #[.slice a2 192 c2,iV (-1)] 28)).alloc (.cells #[.slice a2 192 c2,iV (-1),.bool true,iV 0,iV 0] 82)).alloc (.cells #[iV 0,iV 0,iV 0] 84)=W3 at *;generalize w2.heap.size+1=B at *;have HSf:=uH (fun W' (hW:bZ W3 W')=>(show ce W' (B+1) 0=some (iV 0)/\ce W' (B+1) 1=some (iV 0)/\ce W' (B+1) 2=some (iV 0) from⟨zaa (zab S1.o hW) 0 _ rfl,zaa (zab S1.o hW) 1 _ rfl,zaa (zab S1.o hW) 2 _ rfl⟩));have HSt:=uH (fun W' (hW:W3.grownBy W' (some B))=>(show ce W' (B+1) 0=some (iV 0)/\ce W' (B+1) 1=some (iV 0)/\ce W' (B+1) 2=some (iV 0) from⟨zaa (zar S1.o hW (by omega)) 0 _ rfl,zaa (zar S1.o hW (by omega)) 1 _ rfl,zaa (zar S1.o hW (by omega)) 2 _ rfl⟩));have HF:=uH (fun W' (hW:bZ W3 W')=>zel 0 0 a n c image B W' (by have:=hW.size;omega) (HB.o.bl (bT hw0 hW)) HOI.o);have HSe:=uH (fun W' (hW:bZ W3 W')=>ziv 0 n name B W' (by have:=hW.size;omega));have HN:=uH (fun W' (hW:bZ W3 W') y (hy:BI W' (some ⟨y,0,none⟩) 3 [1,0,0]) (hne:y≠B)=>ze0 us0 (some ⟨y,0,none⟩) 3 3 [1,0,0] B W' (by have:=hW.size;omega) hy (fun ad e=>by cases e;exact hne));unfold usv us0 at HN;have HQ:Hd (∀p,turnU [.fmt,.fil 0 0 image,.sea 0 n name,.not us0 [1,0,0]] newF=p->p=turnU (zdx image name) newF):=fun p hp=>by rw [<-hp];unfold zdx;rw [LN.o]
 unfold us0 at HQ
 go_cut [9] (fun v9 wc=>v9=.pointer (some ⟨B,0,none⟩)/\OwnU 0 wc B (turnU [.fmt,.fil 0 0 image,.sea 0 n name,.not ⟨0,0,0⟩ [1,0,0]] newF).1/\W3.grownBy wc (some B))
 case first=>
  refine km (S:=fun W' =>ce W' (B+1) 0=some (iV 0)/\ce W' (B+1) 1=some (iV 0)/\ce W' (B+1) 2=some (iV 0)) (by kernel_rfl) (HSf.o _ (kS _ _).drew) ?_;intro hHeld;refine Htk 0 ?_
  refine Htk 1 ?_
  refine Htk 2 ?_
  refine Htk 4 ?_
  refine Htk 5 ?_
  refine Htk 6 ?_
  refine Htk 7 ?_
  refine Htk 8 ?_
  refine Htk 10 ?_
  refine Htk 11 ?_
  refine Htk 12 ?_
  refine Htk 13 ?_
  refine Htk 14 ?_
  try simp only [sq]
  have hk0:bZ W3 W3.drew:=(kS _ _).drew;refine kZ (rs:= [3,15]) (by kernel_rfl) (by simp) ?_;refine kU (by rfl) (fun K hK=> ?_) (kU (by rfl) (fun K hK=> ?_) kW)
  {
  go_simp;refine(zae HF _ hk0).mono ?_;rintro e wf1 ⟨⟨fnf,capsf,rfl,hvf⟩,hb1⟩;have hk1:=bT hk0 hb1;have hr1:=kS wf1.heap.size wf1;go_wp2_with fail;refine hK.out _ _ ((HSf.o _ hk1)) (fun hHeld=> ?_);clear hK K
  try simp only [sq]
  refine kZ (rs:= [9,15]) (by kernel_rfl) (by simp) ?_;refine kU (by rfl) (fun K hK=> ?_) (kU (by rfl) (fun K hK=> ?_) kW)
  {
  go_simp;refine(zae HSe _ hk1).mono ?_;rintro e ws2 ⟨⟨fns,capss,rfl,hvs⟩,hb2⟩;have hk2:=bT hk1 hb2;have tf2:=bT hr1 hb2;have hr2:=kS ws2.heap.size ws2;go_wp2_with fail;refine hK.out _ _ ((HSf.o _ hk2)) (fun hHeld=> ?_);clear hK K
  refine wr1 15 (fun K hK=> ?_);go_simp;have hk3:=zaf hk2 (.cells #[iV 1,iV 0,iV 0] 3);have tf3:=zaf tf2 (.cells #[iV 1,iV 0,iV 0] 3);have ts3:=zaf hr2 (.cells #[iV 1,iV 0,iV 0] 3);have hr3:=kS (ws2.alloc (.cells #[iV 1,iV 0,iV 0] 3)).heap.size (ws2.alloc (.cells #[iV 1,iV 0,iV 0] 3));have rec3:=zgt ws2 1 0 0 3;refine hK.out _ _ ((HSf.o _ hk3)) (fun hHeld=> ?_);clear hK K
  refine wr1 16 (fun K hK=> ?_);go_simp;refine(zae HN _ hk3 ws2.heap.size (BI.bl rec3 hr3) (by have:=hk2.size;omega)).mono ?_;rintro e wn4 ⟨⟨fnn,capsn,rfl,hvn⟩,hb4⟩;have hk4:=bT hk3 hb4;have tf4:=bT tf3 hb4;have ts4:=bT ts3 hb4;go_wp2_with fail;refine hK.out _ _ ((HSf.o _ hk4)) (fun hHeld=> ?_);clear hK K
  refine wr1 17 (fun K hK=> ?_);go_simp;refine hK.out _ _ ((HSf.o _ (zaf hk4 (.cells #[.func (.func 137) #[] #[],.func (.func fnf) #[] capsf,.func (.func fns) #[] capss,.func (.func fnn) #[] capsn] 258)))) (fun hHeld=> ?_);clear hK K
  refine wr1 18 (fun K hK=> ?_);go_simp;refine(zga B newF _ _ _ _ _ _ 258 wn4 (HOw.o.bl hk4) (hvf.turns (zaj tf4 B)) (hvs.turns (zaj ts4 B)) hvn).mono ?_;rintro e wz ⟨rfl,hUz,hgz⟩;have hg:=(zaj hk4 B).trans hgz;go_wp2_with fail;refine hK.out _ _ ((HSt.o _ hg)) (fun hHeld=> ?_);clear hK K
  try simp only [sq]
  refine KE (by kernel_rfl) ?_ _;go_wp2_with fail
  go_meet
  case rel=>exact⟨rfl,hUz,hg⟩ }
  {
  go_simp;have hk5:=zaf hk1 (.cells #[iV 1,iV 0,iV 0] 3);have tf5:=zaf hr1 (.cells #[iV 1,iV 0,iV 0] 3);have hr5:=kS (wf1.alloc (.cells #[iV 1,iV 0,iV 0] 3)).heap.size (wf1.alloc (.cells #[iV 1,iV 0,iV 0] 3));have rec5:=zgt wf1 1 0 0 3;refine hK.out _ _ ((HSf.o _ hk5)) (fun hHeld=> ?_);clear hK K
  refine wr1 9 (fun K hK=> ?_);go_simp;refine(zae HSe _ hk5).mono ?_;rintro e ws6 ⟨⟨fns,capss,rfl,hvs⟩,hb6⟩;have hk6:=bT hk5 hb6;have tf6:=bT tf5 hb6;have tr6:=bT hr5 hb6;have hr6:=kS ws6.heap.size ws6;go_wp2_with fail;refine hK.out _ _ ((HSf.o _ hk6)) (fun hHeld=> ?_);clear hK K
  refine wr1 16 (fun K hK=> ?_);go_simp;refine(zae HN _ hk6 wf1.heap.size (BI.bl rec5 tr6) (by have:=hk1.size;omega)).mono ?_;rintro e wn7 ⟨⟨fnn,capsn,rfl,hvn⟩,hb7⟩;have hk7:=bT hk6 hb7;have tf7:=bT tf6 hb7;have ts7:=bT hr6 hb7;go_wp2_with fail;refine hK.out _ _ ((HSf.o _ hk7)) (fun hHeld=> ?_);clear hK K
  refine wr1 17 (fun K hK=> ?_);go_simp;refine hK.out _ _ ((HSf.o _ (zaf hk7 (.cells #[.func (.func 137) #[] #[],.func (.func fnf) #[] capsf,.func (.func fns) #[] capss,.func (.func fnn) #[] capsn] 258)))) (fun hHeld=> ?_);clear hK K
  refine wr1 18 (fun K hK=> ?_);go_simp;refine(zga B newF _ _ _ _ _ _ 258 wn7 (HOw.o.bl hk7) (hvf.turns (zaj tf7 B)) (hvs.turns (zaj ts7 B)) hvn).mono ?_;rintro e wz ⟨rfl,hUz,hgz⟩;have hg:=(zaj hk7 B).trans hgz;go_wp2_with fail;refine hK.out _ _ ((HSt.o _ hg)) (fun hHeld=> ?_);clear hK K
  try simp only [sq]
  refine KE (by kernel_rfl) ?_ _;go_wp2_with fail
  go_meet
  case rel=>exact⟨rfl,hUz,hg⟩ } }
  {
  go_simp;have hk8:=zaf hk0 (.cells #[iV 1,iV 0,iV 0] 3);have hr8:=kS (W3.drew.alloc (.cells #[iV 1,iV 0,iV 0] 3)).heap.size (W3.drew.alloc (.cells #[iV 1,iV 0,iV 0] 3));have rec8:=zgt W3.drew 1 0 0 3;refine hK.out _ _ ((HSf.o _ hk8)) (fun hHeld=> ?_);clear hK K
  refine wr1 3 (fun K hK=> ?_);go_simp;refine(zae HF _ hk8).mono ?_;rintro e wf9 ⟨⟨fnf,capsf,rfl,hvf⟩,hb9⟩;have hk9:=bT hk8 hb9;have tr9:=bT hr8 hb9;have hr9:=kS wf9.heap.size wf9;go_wp2_with fail;refine hK.out _ _ ((HSf.o _ hk9)) (fun hHeld=> ?_);clear hK K
  refine wr1 9 (fun K hK=> ?_);go_simp;refine(zae HSe _ hk9).mono ?_;rintro e ws10 ⟨⟨fns,capss,rfl,hvs⟩,hb10⟩;have hk10:=bT hk9 hb10;have tr10:=bT tr9 hb10;have tf10:=bT hr9 hb10;have hr10:=kS ws10.heap.size ws10;go_wp2_with fail;refine hK.out _ _ ((HSf.o _ hk10)) (fun hHeld=> ?_);clear hK K
  refine wr1 16 (fun K hK=> ?_);go_simp;refine(zae HN _ hk10 W3.drew.heap.size (BI.bl rec8 tr10) (by have:=hk0.size;omega)).mono ?_;rintro e wn11 ⟨⟨fnn,capsn,rfl,hvn⟩,hb11⟩;have hk11:=bT hk10 hb11;have tf11:=bT tf10 hb11;have ts11:=bT hr10 hb11;go_wp2_with fail;refine hK.out _ _ ((HSf.o _ hk11)) (fun hHeld=> ?_);clear hK K
  refine wr1 17 (fun K hK=> ?_);go_simp;refine hK.out _ _ ((HSf.o _ (zaf hk11 (.cells #[.func (.func 137) #[] #[],.func (.func fnf) #[] capsf,.func (.func fns) #[] capss,.func (.func fnn) #[] capsn] 258)))) (fun hHeld=> ?_);clear hK K
  refine wr1 18 (fun K hK=> ?_);go_simp;refine(zga B newF _ _ _ _ _ _ 258 wn11 (HOw.o.bl hk11) (hvf.turns (zaj tf11 B)) (hvs.turns (zaj ts11 B)) hvn).mono ?_;rintro e wz ⟨rfl,hUz,hgz⟩;have hg:=(zaj hk11 B).trans hgz;go_wp2_with fail;refine hK.out _ _ ((HSt.o _ hg)) (fun hHeld=> ?_);clear hK K
  try simp only [sq]
  refine KE (by kernel_rfl) ?_ _;go_wp2_with fail
  go_meet
  case rel=>exact⟨rfl,hUz,hg⟩ }
 case rest=>
 obtain ⟨rfl,⟨ua,un,uc,ub,ui,ul,ucap,umax,uoff,ufr⟩,hg⟩:=hcut;obtain ⟨w4,rfl⟩: ∃w4:World,w4=wc:=⟨_,rfl⟩;have B3:=uH (zar b0.o hg (by omega));have hk4:=zam hw0 hg (by omega) hw0.size;have UB:=uH ub;have hq:=HQ.o _ rfl;rw [hq] at ui ul UB;have HLk:=uH (turnU_lk (zdx image name) newF);have UW:=uH (show BW w4 ua un uc (turnU (zdx image name) newF).1.ws from⟨ui,ul,ucap,umax⟩);have ho:=uH (zfz ui (by rcases HLk.o with h|h;(· right;rw [h];show 3<=(List.replicate 192 (65535:Int)).length;simp);(· exact .inl h)) B3.o rfl);clear ub ui ul uoff hg hq HLk HQ HN HSe HF HSt HSf HOw HOI;generalize turnU (zdx image name) newF=r at *;unfold unO at UB;obtain ⟨y0,y1,y2,y3,y4⟩:=cl5 B3.o;obtain ⟨f0,f1,f2,f3,f4⟩:=fr5 B3.o;obtain ⟨s0,s1,s2,s3,s4⟩:=cl5 UB.o;go_wp2_with fail;refine kT (v:=.tuple #[unv r.1 ua un uc,iV 0]) (by simp [results,Tryz.results140,go_sem,unv,y0,y1,y2,y3,y4]) rfl ?_;rw [HE.o];exact⟨⟨ua,un,uc,rfl,((((UW.o.ne ho.o _ _).ne ho.o _ _).ne ho.o _ _).ne ho.o _ _).ne ho.o _ _⟩,((((hk4.setCell hx _).setCell hx _).setCell hx _).setCell hx _).setCell hx _⟩
end
end Go.Proofs.YthmekfcgdfckaaaGreatDoor
