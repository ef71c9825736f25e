/- The contract of unit.hearPrepare. -/
import Derived.Test.YthmekfcgdfckaaaGreatDoorWt16
set_option maxRecDepth 1000000
set_option maxHeartbeats 0
namespace Go.Proofs.YthmekfcgdfckaaaGreatDoor
variable {W:World} {X:Nat} {ab a:Option Addr} {s:Us} {m:Ms} {u:Un} {ss:List ByteArray} {words:List Int}
section
open Go.RowKit
attribute [local go_sem ↓] Go.wp_at_zero Go.wp_at_succ
structure PB (W:World) (X:Nat) (ab:Option Addr) (nb cb:Nat) (s:Us) (m:Ms) (a:Option Addr) (n c:Nat):Prop where
  b0:W.heap[X]?=some (.cells #[.slice ab nb cb] 24 (0,0))
  b1:W.heap[X+1]?=some (.cells #[.int .i64 s.slot,.int .i64 s.by',.int .i64 s.rdy] 84 (0,0))
  b2:W.heap[X+1+1]?=some (.cells (aM m a n c) 99 (0,0))
theorem PB.turns {W' :World} {B:Nat} {nb cb:Nat} {n c:Nat} (h:PB W X ab nb cb s m a n c) (hg:W.grownBy W' (some B)) (hX:B<X):PB W' X ab nb cb s m a n c:=⟨zar h.b0 hg (by omega),zar h.b1 hg (by omega),zar h.b2 hg (by omega)⟩
theorem PB.below {W' :World} {nb cb:Nat} {n c:Nat} (h:PB W X ab nb cb s m a n c) (hb:Below W.heap.size W W'):PB W' X ab nb cb s m a n c:=⟨zab h.b0 hb,zab h.b1 hb,zab h.b2 hb⟩
theorem PB.ps {nb cb:Nat} {n c:Nat} (h:PB W X ab nb cb s m a n c):
    W.cell? ⟨X,0,none⟩=some (.slice ab nb cb)∧W.cell? ⟨X+1,0,none⟩=some (.int .i64 s.slot)∧W.cell? ⟨X+1,1,none⟩=some (.int .i64 s.by')∧W.cell? ⟨X+1,2,none⟩=some (.int .i64 s.rdy)∧W.cell? ⟨X+1+1,0,none⟩=some (.int .i64 m.k)∧W.cell? ⟨X+1+1,1,none⟩=some (.int .i64 m.u)∧W.cell? ⟨X+1+1,2,none⟩=some (.int .i64 m.n)∧W.cell? ⟨X+1+1,3,none⟩=some (.int .i64 m.at')∧W.cell? ⟨X+1+1,4,none⟩=some (.int .i64 m.im)∧W.cell? ⟨X+1+1,5,none⟩=some (.slice a n c)∧W.cell? ⟨X+1+1,6,none⟩=some (.bool m.y):=
  ⟨zaa h.b0 0 _ rfl,zaa h.b1 0 _ rfl,zaa h.b1 1 _ rfl,zaa h.b1 2 _ rfl,zaa h.b2 0 _ rfl,zaa h.b2 1 _ rfl,zaa h.b2 2 _ rfl,zaa h.b2 3 _ rfl,zaa h.b2 4 _ rfl,zaa h.b2 5 _ rfl,zaa h.b2 6 _ rfl⟩
theorem PB.psb {B:Nat} {nb cb:Nat} {n c:Nat} {ua:Option Addr} {un uc:Nat} (h:PB W X ab nb cb s m a n c) (hu:W.heap[B]?=some (unO u ua un uc)):
    W.cell? ⟨X,0,none⟩=some (.slice ab nb cb)∧W.cell? ⟨X+1,0,none⟩=some (.int .i64 s.slot)∧W.cell? ⟨X+1,1,none⟩=some (.int .i64 s.by')∧W.cell? ⟨X+1,2,none⟩=some (.int .i64 s.rdy)∧W.cell? ⟨X+1+1,0,none⟩=some (.int .i64 m.k)∧W.cell? ⟨X+1+1,1,none⟩=some (.int .i64 m.u)∧W.cell? ⟨X+1+1,2,none⟩=some (.int .i64 m.n)∧W.cell? ⟨X+1+1,3,none⟩=some (.int .i64 m.at')∧W.cell? ⟨X+1+1,4,none⟩=some (.int .i64 m.im)∧W.cell? ⟨X+1+1,5,none⟩=some (.slice a n c)∧W.cell? ⟨X+1+1,6,none⟩=some (.bool m.y)∧W.cell? ⟨B,0,none⟩=some (.slice ua un uc)∧W.cell? ⟨B,1,none⟩=some (.int .i64 u.fu):=by
  unfold unO at hu;exact⟨zaa h.b0 0 _ rfl,zaa h.b1 0 _ rfl,zaa h.b1 1 _ rfl,zaa h.b1 2 _ rfl,zaa h.b2 0 _ rfl,zaa h.b2 1 _ rfl,zaa h.b2 2 _ rfl,zaa h.b2 3 _ rfl,zaa h.b2 4 _ rfl,zaa h.b2 5 _ rfl,zaa h.b2 6 _ rfl,zaa hu 0 _ rfl,zaa hu 1 _ rfl⟩
def pW (w:World) (ab:Option Addr) (nb cb:Nat) (s:Us) (m:Ms) (a:Option Addr) (n c:Nat):World:=
  ((w.alloc (.cells #[.slice ab nb cb] 24)).alloc (.cells #[.int .i64 s.slot,.int .i64 s.by',.int .i64 s.rdy] 84)).alloc (.cells (aM m a n c) 99)
theorem pW_pb (w:World) (ab:Option Addr) (nb cb:Nat) (s:Us) (m:Ms) (a:Option Addr) (n c:Nat):PB (pW w ab nb cb s m a n c) w.heap.size ab nb cb s m a n c:=⟨bk3.1,bk3.2.1,bk3.2.2⟩
theorem pW_below (w:World) (ab:Option Addr) (nb cb:Nat) (s:Us) (m:Ms) (a:Option Addr) (n c:Nat):Below w.heap.size w (pW w ab nb cb s m a n c):=(bA2).alloc (by simp;omega) _
theorem one_set {b:Nat} {v0 v:Value} {ty:TypeId} (h:W.heap[b]?=some (.cells #[v0] ty (0,0))): (W.setCell ⟨b,0,none⟩ v).heap[b]?=some (.cells #[v] ty (0,0)):=by
  simp only [World.setCell,Array.getElem?_modify]
  simp [h]
theorem prepS_1 (h:m.n≤s.by'):prepS ss u s m= (u, [doneM m]):=by unfold prepS;rw [if_pos h]
theorem prepS_2 (h: ¬m.n≤s.by') (h2: ¬s.rdy=0):prepS ss u s m= (u, [voteM m (decide (s.rdy=m.n))]):=by unfold prepS;rw [if_neg h,if_pos h2]
theorem prepS_3 (h: ¬m.n≤s.by') (h2:s.rdy=0) (h3: ¬(u.n=m.n∧u.hv=m.at' ∧zh6 ss u s m=true)):prepS ss u s m= (u, [voteM m false]):=by unfold prepS;rw [if_neg h,if_neg (by simpa using h2),if_neg h3]
theorem prepS_4 (h: ¬m.n≤s.by') (h2:s.rdy=0) (h3:u.n=m.n∧u.hv=m.at' ∧zh6 ss u s m=true):prepS ss u s m=prepB u s m (zfm u s m):=by unfold prepS;rw [if_neg h,if_neg (by simpa using h2),if_pos h3]
theorem prepB_1 (h: (doV u (.sea (oth s) m.at' m.im)).2=false):prepB u s m words= ((doV u (.sea (oth s) m.at' m.im)).1, []):=by unfold prepB;rw [if_neg (by rw [h];decide)]
theorem prepB_2 (h: (doV u (.sea (oth s) m.at' m.im)).2=true) (h2:zj4 (mind (doV u (.sea (oth s) m.at' m.im)).1 0 0) s m words=false):prepB u s m words= (mind (doV u (.sea (oth s) m.at' m.im)).1 0 0, [voteM m false]):=by unfold prepB;rw [if_pos h,if_neg (by rw [h2];decide)]
theorem prepB_3 (h: (doV u (.sea (oth s) m.at' m.im)).2=true) (h2:zj4 (mind (doV u (.sea (oth s) m.at' m.im)).1 0 0) s m words=true):prepB u s m words=prepC (mind (doV u (.sea (oth s) m.at' m.im)).1 0 0) s m:=by unfold prepB;rw [if_pos h,if_pos h2]
theorem prepC_1 (h: (doV u (.not s [2,m.n])).2=true):prepC u s m= ((doV u (.not s [2,m.n])).1, [voteM m true]):=by unfold prepC;rw [if_pos h]
theorem prepC_2 (h: (doV u (.not s [2,m.n])).2=false):prepC u s m= ((doV u (.not s [2,m.n])).1, []):=by unfold prepC;rw [if_neg (by rw [h];decide)]
theorem imgS_len (ws:List Int) (fu s:Int): (imgS ws fu s).1.length≤ws.length:=by
  unfold imgS
  split
  { simp }
  {
  split
  { simp }
  {
  simp
  omega
  }
  }
theorem zkl (ab:Option Addr) (nb cb:Nat) (ss:List ByteArray) (B:Nat) (u:Un) (s:Us) (m:Ms) (a:Option Addr) (n c:Nat) (w:World) (hTB: ∀w' :World,w.grownBy w' (some B)→BB w' ab nb cb ss∧Tab w') (hU:OwnU w B u) (hs0:0≤s.slot) (hs1:s.slot≤1):
    Calls Tryz.prog 298 #[bookv ab nb cb,.pointer (some ⟨B,0,none⟩),usv s,msv m a n c] w (HAns w B (prepS ss u s m)):=by
  have hb:=hide (pW_pb w ab nb cb s m a n c);have hw0:=pW_below w ab nb cb s m a n c;have hB:=hU.lt;have hU0:=hide (hU.below hw0);have HG:=hide (zaj hw0 B);have HTB:=hide hTB;clear hU hTB;unfold usv msv bookv;have q:=hb.out.ps;obtain ⟨k0,x0,x1,x2,y0,y1,y2,y3,y4,y5,y6⟩:=q;unfold pW at k0 x0 x1 x2 y0 y1 y2 y3 y4 y5 y6
  by_cases z1:m.n≤s.by'
  {
  have HE:=hide (prepS_1 (ss:=ss) (u:=u) z1);have HDn:=hide (zdy m a n c (pW w ab nb cb s m a n c));unfold msv at HDn;unfold pW at hw0 hU0 HG HDn;go_enter Tryz.func298,Tryz.ntmps298;go_wp2_with fail;refine(zae HDn).mono ?_;rintro e w9 ⟨⟨b9,rfl,hm9,_⟩,hb9⟩;go_wp2_with fail;go_ret;rw [HE.out];exact⟨⟨_,1,1,rfl,hm9,rfl,Nat.le_refl _,Nat.le_refl _⟩,hU0.out.below hb9,HG.out.trans (zaj hb9 B)⟩
  }
  have d1:decide (m.n≤s.by')=false:=by simpa using z1
  by_cases z2:s.rdy=0
  rotate_left
  {
  have HE:=hide (prepS_2 (ss:=ss) (u:=u) z1 z2);have d2: (s.rdy !=0)=true:=by simpa using z2
  have hyes: (s.rdy==m.n)=decide (s.rdy=m.n):=rfl;have HVt:=hide (zei m a n c (decide (s.rdy=m.n)) (w.heap.size+1+1) (pW w ab nb cb s m a n c) hb.out.b2);unfold pW at hw0 hU0 HG HVt;clear z1 z2;go_enter Tryz.func298,Tryz.ntmps298;go_wp2_with fail;refine(zae HVt).mono ?_;rintro e w9 ⟨⟨b9,rfl,hm9,_⟩,hb9⟩;go_wp2_with fail;go_ret;rw [HE.out];exact⟨⟨_,1,1,rfl,hm9,rfl,Nat.le_refl _,Nat.le_refl _⟩,hU0.out.below hb9,HG.out.trans (zaj hb9 B)⟩
  }
  have d2: (s.rdy !=0)=false:=by simpa using z2
  have HE3:=hide (prepS_3 (ss:=ss) (u:=u) z1 z2);have HE4:=hide (prepS_4 (ss:=ss) (u:=u) z1 z2);clear z1 z2;go_enter Tryz.func298,Tryz.ntmps298;go_upto_region 6 with fail
  clear k0 x0 x1 x2 y0 y1 y2 y3 y4 y5 y6 d1 d2;rw [show((w.alloc (.cells #[.slice ab nb cb] 24)).alloc (.cells #[.int .i64 s.slot,.int .i64 s.by',.int .i64 s.rdy] 84)).alloc (.cells (aM m a n c) 99)=pW w ab nb cb s m a n c from rfl];generalize pW w ab nb cb s m a n c=W at *;obtain ⟨ua,un,uc,ub,ui,ul,ucap,umax,uoff⟩:=hU0.out;have UB:=hide ub;have HMn:=hide (fun W' (hW:Below W.heap.size W W')=>zlu ab nb cb ss ua un uc u.ws u.fu (oth s) m a n c W' (HTB.out W' (HG.out.trans (zaj hW B))).1 (BW.below ⟨ui,ul,ucap,umax⟩ hW) (HTB.out W' (HG.out.trans (zaj hW B))).2);have hmq:Hid (mntB ss u.ws u.fu (oth s) m=zh6 ss u s m):=rfl;have hwq:Hid ((bodyS u.ws u.fu (oth s) m.at').1=zfm u s m):=rfl;rw [hmq.out,hwq.out] at HMn;unfold bookv msv at HMn;clear ub ui ul hmq hwq;generalize zfm u s m=words at *;generalize zh6 ss u s m=mq at *
  go_cut [10,11] (fun v10 v11 wc=>∃G a5 n5 c5,v10=.pointer (some ⟨G,0,none⟩)∧v11=.bool mq∧Hid (wc.heap[G]?=some (.cells #[.slice a5 n5 c5] 26 (0,0)))∧BI wc a5 n5 words∧zal W.heap.size a5∧W.heap.size≤G∧Below W.heap.size W wc)
  case first=>
    have HO:=hide (fun W' =>zcs s W' hs0 hs1);refine wp_region_held_drew (S:=fun W' =>W'.cell? ⟨w.heap.size,0,none⟩=some (.slice ab nb cb)∧W'.cell? ⟨w.heap.size+1,0,none⟩=some (.int .i64 s.slot)∧W'.cell? ⟨w.heap.size+1,1,none⟩=some (.int .i64 s.by')∧W'.cell? ⟨w.heap.size+1,2,none⟩=some (.int .i64 s.rdy)∧W'.cell? ⟨w.heap.size+1+1,0,none⟩=some (.int .i64 m.k)∧W'.cell? ⟨w.heap.size+1+1,1,none⟩=some (.int .i64 m.u)∧W'.cell? ⟨w.heap.size+1+1,2,none⟩=some (.int .i64 m.n)∧W'.cell? ⟨w.heap.size+1+1,3,none⟩=some (.int .i64 m.at')∧W'.cell? ⟨w.heap.size+1+1,4,none⟩=some (.int .i64 m.im)∧W'.cell? ⟨w.heap.size+1+1,5,none⟩=some (.slice a n c)∧W'.cell? ⟨w.heap.size+1+1,6,none⟩=some (.bool m.y)∧W'.cell? ⟨B,0,none⟩=some (.slice ua un uc)∧W'.cell? ⟨B,1,none⟩=some (.int .i64 u.fu)) (by kernel_rfl) (hb.out.psb UB.out) ?_;intro hHeld;refine Htk (i:=0) ?_
    try simp only [sq]
    refine Htk (i:=1) ?_
    try simp only [sq]
    refine Htk (i:=2) ?_
    try simp only [sq]
    refine Htk (i:=3) ?_
    try simp only [sq]
    refine Htk (i:=4) ?_
    try simp only [sq]
    refine Htk (i:=5) ?_
    try simp only [sq]
    refine Htk (i:=7) ?_
    try simp only [sq]
    have hk0:Below W.heap.size W W.drew:=(Below.refl _ _).drew;refine wpAnyH_ready (rs:= [6,12]) (by kernel_rfl) (by simp) ?_;refine AllReadyH.cons (by rfl) (fun K hK=> ?_) (AllReadyH.cons (by rfl) (fun K hK=> ?_) AllReadyH.nil)
    {
    go_simp;refine(zae HO _).mono ?_;rintro e w1 ⟨rfl,hb1⟩;have hk1:=bT hk0 hb1;go_wp2_with fail;refine hK.out _ _ ((hb.out.below hk1).psb (zab UB.out hk1)) (fun hHeld=> ?_);clear hK K
    try simp only [sq]
    refine wpAnyH_ready (rs:= [8,12]) (by kernel_rfl) (by simp) ?_;refine AllReadyH.cons (by rfl) (fun K hK=> ?_) (AllReadyH.cons (by rfl) (fun K hK=> ?_) AllReadyH.nil)
    {
    go_simp;refine(zae HMn _ hk1).mono ?_;rintro e w2 ⟨⟨a5,n5,c5,rfl,hi5,hf5⟩,hb2⟩;have hk2:=bT hk1 hb2;go_wp2_with fail;refine hK.out _ _ ((hb.out.below hk2).psb (zab UB.out hk2)) (fun hHeld=> ?_);clear hK K
    try simp only [sq]
    refine Htk (i:=9) ?_
    try simp only [sq]
    refine Htk (i:=10) ?_
    try simp only [sq]
    refine Htk (i:=11) ?_
    try simp only [sq]
    refine wpAnyH_ready (rs:= [12]) (by kernel_rfl) (by simp) ?_;refine AllReadyH.cons (by rfl) (fun K hK=> ?_) AllReadyH.nil;go_simp;refine hK.out _ _ ((hb.out.below (zaf hk2 _)).psb (zab UB.out (zaf hk2 _))) (fun hHeld=> ?_);clear hK K
    try simp only [sq]
    refine wpAnyH_ready (rs:= [13]) (by kernel_rfl) (by simp) ?_;refine AllReadyH.cons (by rfl) (fun K hK=> ?_) AllReadyH.nil;go_simp;refine hK.out _ _ ((hb.out.below (zaf hk2 _)).psb (zab UB.out (zaf hk2 _))) (fun hHeld=> ?_);clear hK K
    try simp only [sq]
    refine Htk (i:=14) ?_
    try simp only [sq]
    refine wpAnyH_done (by kernel_rfl) ?_ _;go_wp2_with fail
    go_meet
    case rel=>exact⟨w2.heap.size,a5,n5,c5,rfl,rfl,heap_alloc_last _ _,hi5.below (bA1),zal.mono hf5 hk1.size,hk2.size,zaf hk2 _⟩
    }
    {
    go_simp;refine hK.out _ _ ((hb.out.below (zaf hk1 _)).psb (zab UB.out (zaf hk1 _))) (fun hHeld=> ?_);clear hK K
    try simp only [sq]
    refine wpAnyH_ready (rs:= [8]) (by kernel_rfl) (by simp) ?_;refine AllReadyH.cons (by rfl) (fun K hK=> ?_) AllReadyH.nil;go_simp;have hkA:=zaf hk1 (.cells #[.slice none 0 0] 26);refine(zae HMn _ hkA).mono ?_;rintro e w2 ⟨⟨a5,n5,c5,rfl,hi5,hf5⟩,hb2⟩;have hk2:=bT hkA hb2;have bG:=hide (zab (heap_alloc_last w1 (.cells #[.slice none 0 0] 26)) hb2);have g0:=zaa bG.out 0 _ rfl;have fg0:=zad bG.out 0;have hszG:=hk1.size;have hfar:Off w1.heap.size a5:=za6 hf5 (by simp);go_wp2_with fail;refine hK.out _ _ ((hb.out.below hk2).psb (zab UB.out hk2)) (fun hHeld=> ?_);clear hK K
    try simp only [sq]
    refine Htk (i:=9) ?_
    try simp only [sq]
    refine Htk (i:=10) ?_
    try simp only [sq]
    refine Htk (i:=11) ?_
    try simp only [sq]
    refine wpAnyH_ready (rs:= [13]) (by kernel_rfl) (by simp) ?_;refine AllReadyH.cons (by rfl) (fun K hK=> ?_) AllReadyH.nil;go_simp;have hkS:=hk2.setCell (p:=⟨w1.heap.size,0,none⟩) hszG (.slice a5 n5 c5);refine hK.out _ _ ((hb.out.below hkS).psb (zab UB.out hkS)) (fun hHeld=> ?_);clear hK K
    try simp only [sq]
    refine Htk (i:=14) ?_
    try simp only [sq]
    refine wpAnyH_done (by kernel_rfl) ?_ _;go_wp2_with fail
    go_meet
    case rel=>exact⟨w1.heap.size,a5,n5,c5,rfl,rfl,one_set bG.out,zb0 hi5 (zaw _ _ _ _) (.inr hfar),zal.mono hf5 (by simp;omega),hszG,hkS⟩
    }
    }
    {
    go_simp;have hkA:=zaf hk0 (.cells #[.slice none 0 0] 26);refine hK.out _ _ ((hb.out.below hkA).psb (zab UB.out hkA)) (fun hHeld=> ?_);clear hK K
    try simp only [sq]
    refine wpAnyH_ready (rs:= [6]) (by kernel_rfl) (by simp) ?_;refine AllReadyH.cons (by rfl) (fun K hK=> ?_) AllReadyH.nil;go_simp;refine(zae HO _).mono ?_;rintro e w1 ⟨rfl,hb1⟩;have hk1:=bT hkA hb1;have bG0:Hid (w1.heap[W.heap.size]?=some (.cells #[.slice none 0 0] 26 (0,0))):=zab (heap_alloc_last W.drew (.cells #[.slice none 0 0] 26)) hb1;go_wp2_with fail;refine hK.out _ _ ((hb.out.below hk1).psb (zab UB.out hk1)) (fun hHeld=> ?_);clear hK K
    try simp only [sq]
    refine wpAnyH_ready (rs:= [8]) (by kernel_rfl) (by simp) ?_;refine AllReadyH.cons (by rfl) (fun K hK=> ?_) AllReadyH.nil;go_simp;refine(zae HMn _ hk1).mono ?_;rintro e w2 ⟨⟨a5,n5,c5,rfl,hi5,hf5⟩,hb2⟩;have hk2:=bT hk1 hb2;have bG:=hide (zab bG0.out hb2);have g0:=zaa bG.out 0 _ rfl;have fg0:=zad bG.out 0;have hfar:Off W.heap.size a5:=za6 hf5 (by have:=hb1.size;simp at this;omega);go_wp2_with fail;refine hK.out _ _ ((hb.out.below hk2).psb (zab UB.out hk2)) (fun hHeld=> ?_);clear hK K
    try simp only [sq]
    refine Htk (i:=9) ?_
    try simp only [sq]
    refine Htk (i:=10) ?_
    try simp only [sq]
    refine Htk (i:=11) ?_
    try simp only [sq]
    refine wpAnyH_ready (rs:= [13]) (by kernel_rfl) (by simp) ?_;refine AllReadyH.cons (by rfl) (fun K hK=> ?_) AllReadyH.nil;go_simp;have hkS:=hk2.setCell (p:=⟨W.heap.size,0,none⟩) (Nat.le_refl _) (.slice a5 n5 c5);refine hK.out _ _ ((hb.out.below hkS).psb (zab UB.out hkS)) (fun hHeld=> ?_);clear hK K
    try simp only [sq]
    refine Htk (i:=14) ?_
    try simp only [sq]
    refine wpAnyH_done (by kernel_rfl) ?_ _;go_wp2_with fail
    go_meet
    case rel=>exact⟨W.heap.size,a5,n5,c5,rfl,rfl,one_set bG.out,zb0 hi5 (zaw _ _ _ _) (.inr hfar),zal.mono hf5 hk1.size,Nat.le_refl _,hkS⟩
    }
  case rest=>
  obtain ⟨G,a5,n5,c5,rfl,rfl,bG,hi5,hf5,hGs,hbc⟩:=hcut;obtain ⟨w2,rfl⟩: ∃w2:World,w2=wc:=⟨_,rfl⟩;have hBW:B<W.heap.size:=hU0.out.lt;have HU2:=hide (hU0.out.below hbc);have HP2:=hide (hb.out.below hbc);have HG2:=hide (HG.out.trans (zaj hbc B));have ho5:Off B a5:=za6 hf5 hBW;have hGB:G≠B:=by omega
  have hi5' :=hide hi5;have ub:=zab UB.out hbc;unfold unO at ub;have u3:=zaa ub 3 _ rfl;have u4:=zaa ub 4 _ rfl;have y2:=zaa HP2.out.b2 2 _ rfl;have y3:=zaa HP2.out.b2 3 _ rfl;clear ub hbc HMn UB hU0 hb HG hi5 hf5
  by_cases b1:u.n=m.n
  rotate_left
  {
  have HE:=hide (HE3.out (fun h=>b1 h.1));have d1: (u.n !=m.n)=true:=by simpa using b1
  clear b1;go_wp2_with fail;go_quiet (fail);have HPz:=hide (HP2.out.below (below_drewN (Below.refl _ _) nq));have HUz:=hide (HU2.out.below (below_drewN (Below.refl _ _) nq));have HGz:=hide (HG2.out.trans (zaj (below_drewN (Below.refl _ w2) nq) B));have HVt:=hide (zei m a n c false (w.heap.size+1+1) (w2.drewN nq) HPz.out.b2);go_wp2_with fail;refine(zae HVt).mono ?_;rintro e w9 ⟨⟨b9,rfl,hm9,_⟩,hb9⟩;go_wp2_with fail;go_ret;rw [HE.out];exact⟨⟨_,1,1,rfl,hm9,rfl,Nat.le_refl _,Nat.le_refl _⟩,HUz.out.below hb9,HGz.out.trans (zaj hb9 B)⟩
  }
  have d1: (u.n !=m.n)=false:=by simpa using b1
  by_cases b2:u.hv=m.at'
  rotate_left
  {
  have HE:=hide (HE3.out (fun h=>b2 h.2.1));have d2: (u.hv !=m.at')=true:=by simpa using b2
  clear b1 b2;go_wp2_with fail;go_quiet (fail);have HPz:=hide (HP2.out.below (below_drewN (Below.refl _ _) nq));have HUz:=hide (HU2.out.below (below_drewN (Below.refl _ _) nq));have HGz:=hide (HG2.out.trans (zaj (below_drewN (Below.refl _ w2) nq) B));have HVt:=hide (zei m a n c false (w.heap.size+1+1) (w2.drewN nq) HPz.out.b2);go_wp2_with fail;refine(zae HVt).mono ?_;rintro e w9 ⟨⟨b9,rfl,hm9,_⟩,hb9⟩;go_wp2_with fail;go_ret;rw [HE.out];exact⟨⟨_,1,1,rfl,hm9,rfl,Nat.le_refl _,Nat.le_refl _⟩,HUz.out.below hb9,HGz.out.trans (zaj hb9 B)⟩
  }
  have d2: (u.hv !=m.at')=false:=by simpa using b2
  cases mq
  {
  have HE:=hide (HE3.out (fun h=>by cases h.2.2));clear b1 b2;go_wp2_with fail;go_quiet (fail);have HPz:=hide (HP2.out.below (below_drewN (Below.refl _ _) nq));have HUz:=hide (HU2.out.below (below_drewN (Below.refl _ _) nq));have HGz:=hide (HG2.out.trans (zaj (below_drewN (Below.refl _ w2) nq) B));have HVt:=hide (zei m a n c false (w.heap.size+1+1) (w2.drewN nq) HPz.out.b2);go_wp2_with fail;refine(zae HVt).mono ?_;rintro e w9 ⟨⟨b9,rfl,hm9,_⟩,hb9⟩;go_wp2_with fail;go_ret;rw [HE.out];exact⟨⟨_,1,1,rfl,hm9,rfl,Nat.le_refl _,Nat.le_refl _⟩,HUz.out.below hb9,HGz.out.trans (zaj hb9 B)⟩
  }
  have HEB:=hide (HE4.out ⟨b1,b2,rfl⟩);clear b1 b2 HE3 HE4;go_wp2_with fail;go_quiet (fail);obtain ⟨wz,hwz⟩: ∃wz:World,wz=w2.drewN nq:=⟨_,rfl⟩;have hbz:Below w2.heap.size w2 wz:=by rw [hwz];exact below_drewN (Below.refl _ _) nq
  rw [←hwz];clear hwz u3 u4 y2 y3 d1 d2;have HUz:=hide (HU2.out.below hbz);have HPz:=hide (HP2.out.below hbz);have HGz:=hide (HG2.out.trans (zaj hbz B));have bGz:=hide (zab bG.out hbz);have hi5z:=hide (hi5'.out.below hbz);clear hbz HU2 HP2 HG2 bG hi5';have hBz:=HUz.out.lt;go_upto_region 9 with fail
  refine wp_region_held_drew (S:=fun W' =>W'.cell? ⟨w.heap.size,0,none⟩=some (.slice ab nb cb)∧W'.cell? ⟨w.heap.size+1,0,none⟩=some (.int .i64 s.slot)∧W'.cell? ⟨w.heap.size+1,1,none⟩=some (.int .i64 s.by')∧W'.cell? ⟨w.heap.size+1,2,none⟩=some (.int .i64 s.rdy)∧W'.cell? ⟨w.heap.size+1+1,0,none⟩=some (.int .i64 m.k)∧W'.cell? ⟨w.heap.size+1+1,1,none⟩=some (.int .i64 m.u)∧W'.cell? ⟨w.heap.size+1+1,2,none⟩=some (.int .i64 m.n)∧W'.cell? ⟨w.heap.size+1+1,3,none⟩=some (.int .i64 m.at')∧W'.cell? ⟨w.heap.size+1+1,4,none⟩=some (.int .i64 m.im)∧W'.cell? ⟨w.heap.size+1+1,5,none⟩=some (.slice a n c)∧W'.cell? ⟨w.heap.size+1+1,6,none⟩=some (.bool m.y)) (by kernel_rfl) HPz.out.ps ?_;intro hHeld;refine Htk (i:=0) ?_
  try simp only [sq]
  refine Htk (i:=1) ?_
  try simp only [sq]
  refine Htk (i:=3) ?_
  try simp only [sq]
  refine Htk (i:=4) ?_
  try simp only [sq]
  refine Htk (i:=5) ?_
  try simp only [sq]
  refine Htk (i:=6) ?_
  try simp only [sq]
  refine wpAnyH_ready (rs:= [2]) (by kernel_rfl) (by simp) ?_;refine AllReadyH.cons (by rfl) (fun K hK=> ?_) AllReadyH.nil;go_simp;have hk0:Below wz.heap.size wz wz.drew:=(Below.refl _ _).drew;have HO:=hide (zcs s wz.drew hs0 hs1);refine(zae HO).mono ?_;rintro e w3 ⟨rfl,hb1⟩;have hk1:=bT hk0 hb1;clear hb1 HO hk0;go_wp2_with fail;refine hK.out _ _ ((HPz.out.below hk1).ps) (fun hHeld=> ?_);clear hK K
  try simp only [sq]
  refine wpAnyH_ready (rs:= [7]) (by kernel_rfl) (by simp) ?_;refine AllReadyH.cons (by rfl) (fun K hK=> ?_) AllReadyH.nil;go_simp;have HSl:=hide (ziv (oth s) m.at' m.im B w3 (by have:=hk1.size;omega));refine(zae HSl).mono ?_;rintro e w4 ⟨⟨fn4,caps4,rfl,hv4⟩,hb3⟩;have hk3:=bT hk1 hb3;clear hb3 HSl;go_wp2_with fail;refine hK.out _ _ ((HPz.out.below hk3).ps) (fun hHeld=> ?_);clear hK K
  try simp only [sq]
  refine wpAnyH_ready (rs:= [8]) (by kernel_rfl) (by simp) ?_;refine AllReadyH.cons (by rfl) (fun K hK=> ?_) AllReadyH.nil;go_simp;have hk4:=zaf hk3 (.cells #[.func (.func fn4) #[] caps4] 258);refine hK.out _ _ ((HPz.out.below hk4).ps) (fun hHeld=> ?_);clear hK K
  try simp only [sq]
  refine wpAnyH_ready (rs:= [9]) (by kernel_rfl) (by simp) ?_;refine AllReadyH.cons (by rfl) (fun K hK=> ?_) AllReadyH.nil;go_simp;have HCh:=hide (zb5 B _ u (.func (.func fn4) #[] caps4) 258 w4 (HUz.out.below hk3) hv4);refine(zae HCh).mono ?_;rintro e w5 ⟨rfl,hU5,hg5⟩;have hg:=(zaj hk3 B).trans hg5;have HU5:=hide hU5;have HG5:=hide (HGz.out.trans hg);have HP5:=hide (HPz.out.turns hg hB);have bG5:=hide (zar bGz.out hg hGB);have hi55:=hide (zb0 hi5z.out hg (.inr ho5));clear hU5 hg5 HCh hk1 hk3 hk4 hg hv4 HUz HPz HGz bGz hi5z;have PB1:=hide (prepB_1 (u:=u) (s:=s) (m:=m) (words:=words));have PB2:=hide (prepB_2 (u:=u) (s:=s) (m:=m) (words:=words));have PB3:=hide (prepB_3 (u:=u) (s:=s) (m:=m) (words:=words));generalize doV u (.sea (oth s) m.at' m.im)=R at *;go_wp2_with fail;refine hK.out _ _ (HP5.out.ps) (fun hHeld=> ?_);clear hK K
  try simp only [sq]
  refine Htk (i:=10) ?_
  try simp only [sq]
  refine wpAnyH_done (by kernel_rfl) ?_ _;clear hHeld;cases g:R.2
  {
  have HE:=hide (HEB.out.trans (PB1.out g));go_wp2_with fail;go_ret;exact zde HE.out HU5.out HG5.out
  }
  obtain ⟨R1,R2⟩:=R;simp only at HU5 PB1 PB2 PB3 g;subst g;replace PB2:=hide (PB2.out rfl);replace PB3:=hide (PB3.out rfl);clear PB1;obtain ⟨va,vn,vc,vb,vi,vl,vcap,vmax,voff⟩:=HU5.out;have VB:=hide vb;have VI:=hide vi;have VL:=hide vl;unfold unO at vb;have u3:=zaa vb 3 _ rfl;have fu3:=zad vb 3;have u4:=zaa vb 4 _ rfl;have fu4:=zad vb 4;clear vb vi vl;have hgS:w5.grownBy ((w5.setCell ⟨B,3,none⟩ (.int .i64 0)).setCell ⟨B,4,none⟩ (.int .i64 0)) (some B):=zac (zaw _ _ _ _) _ _;have UB6:Hid (((w5.setCell ⟨B,3,none⟩ (.int .i64 0)).setCell ⟨B,4,none⟩ (.int .i64 0)).heap[B]?=some (unO (mind R1 0 0) va vn vc)):=zig VB.out;have UW6:Hid (BW ((w5.setCell ⟨B,3,none⟩ (.int .i64 0)).setCell ⟨B,4,none⟩ (.int .i64 0)) va vn vc (mind R1 0 0).ws):=⟨zax VI.out hgS voff,VL.out,vcap,vmax⟩;have HP6:=hide (HP5.out.turns hgS hB);have HG6:=hide (HG5.out.trans hgS);have bG6:=hide (zar bG5.out hgS hGB);have hi56:=hide (zb0 hi55.out hgS (.inr ho5));go_upto_region 13 with fail
  generalize (w5.setCell ⟨B,3,none⟩ (.int .i64 0)).setCell ⟨B,4,none⟩ (.int .i64 0)=w6 at *;clear u3 u4 fu3 fu4 hgS VB VI VL HU5 HP5 HG5 bG5 hi55;generalize mind R1 0 0=u5 at *;have HU6:Hid (OwnU w6 B u5):=⟨va,vn,vc,UB6.out,UW6.out.at_,UW6.out.len,vcap,vmax,voff⟩;have HWq:Hid (zj4 u5 s m words= (decide ((imgS u5.ws u5.fu (oth s)).2.2=0)&&(decide ((imgS u5.ws u5.fu (oth s)).2.1=m.im)&&eqL (imgS u5.ws u5.fu (oth s)).1 words))):=rfl;have HIm:=hide (fun W' (hW:Below w6.heap.size w6 W')=>zmf va vn vc u5.ws u5.fu (oth s) W' (UW6.out.below hW).at_ UW6.out.len UW6.out.max UW6.out.cap);have hilen:=imgS_len u5.ws u5.fu (oth s);rw [UW6.out.len] at hilen;generalize imgS u5.ws u5.fu (oth s)=I at *;rw [HWq.out] at PB2 PB3;clear HWq;refine wp_region_held_drew (S:=fun W' =>W'.cell? ⟨w.heap.size,0,none⟩=some (.slice ab nb cb)∧W'.cell? ⟨w.heap.size+1,0,none⟩=some (.int .i64 s.slot)∧W'.cell? ⟨w.heap.size+1,1,none⟩=some (.int .i64 s.by')∧W'.cell? ⟨w.heap.size+1,2,none⟩=some (.int .i64 s.rdy)∧W'.cell? ⟨w.heap.size+1+1,0,none⟩=some (.int .i64 m.k)∧W'.cell? ⟨w.heap.size+1+1,1,none⟩=some (.int .i64 m.u)∧W'.cell? ⟨w.heap.size+1+1,2,none⟩=some (.int .i64 m.n)∧W'.cell? ⟨w.heap.size+1+1,3,none⟩=some (.int .i64 m.at')∧W'.cell? ⟨w.heap.size+1+1,4,none⟩=some (.int .i64 m.im)∧W'.cell? ⟨w.heap.size+1+1,5,none⟩=some (.slice a n c)∧W'.cell? ⟨w.heap.size+1+1,6,none⟩=some (.bool m.y)∧W'.cell? ⟨B,0,none⟩=some (.slice va vn vc)∧W'.cell? ⟨B,1,none⟩=some (.int .i64 u5.fu)) (by kernel_rfl) (HP6.out.psb UB6.out) ?_;intro hHeld;refine Htk (i:=0) ?_
  try simp only [sq]
  refine Htk (i:=1) ?_
  try simp only [sq]
  refine Htk (i:=2) ?_
  try simp only [sq]
  refine Htk (i:=3) ?_
  try simp only [sq]
  refine Htk (i:=4) ?_
  try simp only [sq]
  refine Htk (i:=5) ?_
  try simp only [sq]
  refine wpAnyH_ready (rs:= [6]) (by kernel_rfl) (by simp) ?_;refine AllReadyH.cons (by rfl) (fun K hK=> ?_) AllReadyH.nil;go_simp;have hk0:Below w6.heap.size w6 w6.drew:=(Below.refl _ _).drew;have HO:=hide (zcs s w6.drew hs0 hs1);refine(zae HO).mono ?_;rintro e w7 ⟨rfl,hb1⟩;have hk1:=bT hk0 hb1;clear hb1 HO hk0;go_wp2_with fail;refine hK.out _ _ ((HP6.out.below hk1).psb (zab UB6.out hk1)) (fun hHeld=> ?_);clear hK K
  try simp only [sq]
  refine wpAnyH_ready (rs:= [7]) (by kernel_rfl) (by simp) ?_;refine AllReadyH.cons (by rfl) (fun K hK=> ?_) AllReadyH.nil;go_simp;refine(zae HIm _ hk1).mono ?_;rintro e w8 ⟨⟨ai,ni,ci,rfl,hii,hni,_,_⟩,hb2⟩;have hk2:=bT hk1 hb2;have hiB:BI w8 ai ni I.1:=⟨hii,hni,by rw [←hni];exact Nat.le_trans hilen vmax⟩;have HWh:=hide (whole_any m a n c ai ni ci I.1 I.2.1 I.2.2 (w.heap.size+1+1) G a5 n5 c5 words w8 (HP6.out.below hk2).b2 (zaa (zab bG6.out hk2) 0 _ rfl) hiB (hi56.out.below hk2));obtain ⟨WQ,hWQ⟩: ∃WQ:Bool,WQ= (decide (I.2.2=0)&&(decide (I.2.1=m.im)&&eqL I.1 words)):=⟨_,rfl⟩;rw [←hWQ] at HWh PB2 PB3;clear hb2 hii hni hiB hWQ HIm;go_wp2_with fail;refine hK.out _ _ ((HP6.out.below hk2).psb (zab UB6.out hk2)) (fun hHeld=> ?_);clear hK K
  try simp only [sq]
  refine Htk (i:=8) ?_
  try simp only [sq]
  refine Htk (i:=9) ?_
  try simp only [sq]
  refine Htk (i:=10) ?_
  try simp only [sq]
  refine wpAnyH_ready (rs:= [11]) (by kernel_rfl) (by simp) ?_;refine AllReadyH.cons (by rfl) (fun K hK=> ?_) AllReadyH.nil;go_simp;refine(zae HWh).mono ?_;rintro e w9 ⟨rfl,hb3⟩;have hk3:=bT hk2 hb3;clear hb3 HWh;go_wp2_with fail;refine hK.out _ _ ((HP6.out.below hk3).psb (zab UB6.out hk3)) (fun hHeld=> ?_);clear hK K
  try simp only [sq]
  refine Htk (i:=12) ?_
  try simp only [sq]
  refine wpAnyH_done (by kernel_rfl) ?_ _;have HU9:=hide (HU6.out.below hk3);have HP9:=hide (HP6.out.below hk3);have HG9:=hide (HG6.out.trans (zaj hk3 B));clear hHeld hk1 hk2 hk3 HU6 HP6 HG6 bG6 hi56 UB6 UW6;have hB9:=HU9.out.lt;cases WQ
  {
  have HE:=hide (HEB.out.trans (PB2.out rfl));have HVt:=hide (zei m a n c false (w.heap.size+1+1) w9 HP9.out.b2);go_wp2_with fail;refine(zae HVt).mono ?_;rintro e w9 ⟨⟨b9,rfl,hm9,_⟩,hb9⟩;go_wp2_with fail;go_ret;rw [HE.out];exact⟨⟨_,1,1,rfl,hm9,rfl,Nat.le_refl _,Nat.le_refl _⟩,HU9.out.below hb9,HG9.out.trans (zaj hb9 B)⟩
  }
  have HEC:=hide (HEB.out.trans (PB3.out rfl));clear PB2 PB3 HEB;have x0:=zaa HP9.out.b1 0 _ rfl;have x1:=zaa HP9.out.b1 1 _ rfl;have x2:=zaa HP9.out.b1 2 _ rfl;have y2:=zaa HP9.out.b2 2 _ rfl;have hkA:=zaf (Below.refl w9.heap.size w9) (.cells #[.int .i64 2,.int .i64 m.n] 3);have HNt:=hide (ze0 s (some ⟨w9.heap.size,0,none⟩) 2 2 [2,m.n] B (w9.alloc (.cells #[.int .i64 2,.int .i64 m.n] 3)) (by simp;omega) (zne _ 2 m.n 3) (fun ad e=>by cases e;show w9.heap.size≠B;omega));unfold usv at HNt;go_wp2_with fail;clear x0 x1 x2 y2;refine(zae HNt).mono ?_;rintro e wA ⟨⟨fnA,capsA,rfl,hvA⟩,hbA⟩;have hkB:=bT hkA hbA;have HCh:=hide (zb5 B _ u5 (.func (.func fnA) #[] capsA) 258 wA (HU9.out.below hkB) hvA);clear hbA HNt hvA hkA;go_wp2_with fail;refine(zae HCh).mono ?_;rintro e wB ⟨rfl,hUB,hgB⟩;have hg:=(zaj hkB B).trans hgB;have HUB:=hide hUB;have HGB:=hide (HG9.out.trans hg);have HPB:=hide (HP9.out.turns hg hB);clear hUB hgB hg hkB HCh HU9 HP9 HG9;have PC1:=hide (prepC_1 (u:=u5) (s:=s) (m:=m));have PC2:=hide (prepC_2 (u:=u5) (s:=s) (m:=m));generalize doV u5 (.not s [2,m.n])=Q at *;cases g:Q.2
  {
  have HE:=hide (HEC.out.trans (PC2.out g));go_wp2_with fail;go_ret;exact zde HE.out HUB.out HGB.out
  }
  {
  have HE:=hide (HEC.out.trans (PC1.out g));have HVt:=hide (zei m a n c true (w.heap.size+1+1) wB HPB.out.b2);go_wp2_with fail;refine(zae HVt).mono ?_;rintro e w9 ⟨⟨b9,rfl,hm9,_⟩,hb9⟩;go_wp2_with fail;go_ret;rw [HE.out];exact⟨⟨_,1,1,rfl,hm9,rfl,Nat.le_refl _,Nat.le_refl _⟩,HUB.out.below hb9,HGB.out.trans (zaj hb9 B)⟩
  }
end
end Go.Proofs.YthmekfcgdfckaaaGreatDoor
