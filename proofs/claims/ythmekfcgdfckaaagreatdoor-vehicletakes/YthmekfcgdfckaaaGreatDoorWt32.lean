/- The contracts of vehicle.lastCampaign, poke. The contract of vehicle.poke. The contracts of vehicle.twinGate, copiedBy, twinCampaign. -/
import Derived.Test.YthmekfcgdfckaaaGreatDoorWt31
import Derived.Test.YthmekfcgdfckaaaGreatDoorWt28
set_option maxRecDepth 1000000
set_option maxHeartbeats 0
namespace Go.Proofs.YthmekfcgdfckaaaGreatDoor
variable {w:World} {v:Vh} {r:List Int} {a:Option Addr} {K:Nat→Prop} {ts:List T3} {bs:List Bool}
section
open Go.RowKit
attribute [local go_sem ↓] Go.wp_at_zero Go.wp_at_succ
theorem VOwn.campAt {F:Nat} {Z:Nat→Prop} {q:VB} {m:VA} (h:VOwn w F Z q m v) {k:Nat} {x:Cp} (hk:v.cs[k]?=some x): ∃mc,CI w (KV Z q) mc x∧(w.cell? ⟨q.bc,k * 5,none⟩=some (.int .i64 x.n)∧w.cell? ⟨q.bc,k * 5+1,none⟩=some (.int .i64 x.v)∧w.cell? ⟨q.bc,k * 5+2,none⟩=some (.int .i64 x.u)∧w.cell? ⟨q.bc,k * 5+3,none⟩=some (.slice mc.at_ mc.nt mc.ct)∧w.cell? ⟨q.bc,k * 5+4,none⟩=some (.slice mc.ai mc.ni mc.ci)):=by
  obtain ⟨vs,-,h1,h2⟩:=h.cs.isRow;obtain ⟨b,off,mc,e,h3,y0,y1,y2,y3,y4⟩:=zfa h1 h2 hk;rw [h.cs.at_] at e;cases e;simp only [Nat.zero_add] at y0 y1 y2 y3 y4;exact⟨mc,h3,y0,y1,y2,y3,y4⟩
theorem gNext_n {s:Gs} (h:0≤s.n∧s.n≤8):0≤(gNext s r).n∧(gNext s r).n≤8:=by
  unfold gNext
  split
  {
  rename_i h1
  unfold isBeg inB at h1
  simp at h1
  show 0≤r.getD 1 0∧r.getD 1 0≤8
  rw [List.getD_eq_getElem?_getD];omega
  }
  {
  split
  {
  unfold trnG
  split
  { exact h }
  {
  split
  { exact h }
  { split<;>exact h }
  }
  }
  { exact h }
  }
theorem gOf_n (ws:List Int):0≤(gOf ws).n∧(gOf ws).n≤8:=by
  have: ∀(rs:List (List Int)) (s:Gs),(0≤s.n∧s.n≤8)→0≤(rs.foldl gNext s).n∧(rs.foldl gNext s).n≤8:=by
    intro rs
    induction rs with
    |nil=>intro s h;exact h
    |cons r t ih=>intro s h;exact ih _ (gNext_n h)
  exact this _ _ ⟨by decide,by decide⟩
def LcAns (w:World) (K:Nat→Prop) (r:Cp×Int) (e:Ending) (w' :World):Prop:=(∃mc:CA,e=.returned (.tuple #[cpv r.1.n r.1.v r.1.u mc,.int .i64 r.2])∧CI w' K mc r.1)∧Below w.heap.size w w'
theorem ci9 (w:World) (K:Nat→Prop):CI w K ⟨none,0,0,none,0,0⟩ cp9:=⟨⟨.inl rfl,rfl,by decide⟩,.inl rfl,⟨.inl rfl,rfl,by decide⟩,⟨[],.inl rfl,rfl,.inl rfl⟩⟩
theorem lastC_any (F:Nat) (Z:Nat→Prop) (q:VB) (m:VA) (v:Vh) (w:World) (h:VOwn w F Z q m v) (hg:gtE v.g=0):
    Calls Tryz.prog 191 #[.pointer (some ⟨q.B,0,none⟩)] w (LcAns w (KV Z q) (lastC v)):=by
  have hb1:Below w.heap.size w (w.alloc (.cells aW 94)):=bA1;have b1:=hide (heap_alloc_last w (.cells aW 94));have hs1: (w.alloc (.cells aW 94)).heap.size=w.heap.size+1:=by simp
  have H:=hide h;have H1:=hide (h.below hb1);have HC:=hide (zh0 v.g m.g _ H1.out.g);have hrd:zc3 v.g= (gOf v.g.ws,0):=by unfold zc3;rw [if_neg (by simpa using hg)]
  rw [hrd] at HC;unfold gtv gsv at HC;have x2: (w.alloc (.cells aW 94)).cell? ⟨q.B,2,none⟩=some (.slice m.g.a m.g.n m.g.c):=zaa H1.out.box 2 _ rfl;have x3: (w.alloc (.cells aW 94)).cell? ⟨q.B,3,none⟩=some (.int .i64 v.g.fu):=zaa H1.out.box 3 _ rfl;have x4: (w.alloc (.cells aW 94)).cell? ⟨q.B,4,none⟩=some (.bool v.g.up):=zaa H1.out.box 4 _ rfl;have x5: (w.alloc (.cells aW 94)).cell? ⟨q.B,5,none⟩=some (.int .i64 v.g.t.r.v):=zaa H1.out.box 5 _ rfl;have x6: (w.alloc (.cells aW 94)).cell? ⟨q.B,6,none⟩=some (.slice m.g.ak m.g.nk m.g.ck):=zaa H1.out.box 6 _ rfl;have x7: (w.alloc (.cells aW 94)).cell? ⟨q.B,7,none⟩=some (.int .i64 v.g.t.r.t):=zaa H1.out.box 7 _ rfl;have x8: (w.alloc (.cells aW 94)).cell? ⟨q.B,8,none⟩=some (.int .i64 v.g.t.ver):=zaa H1.out.box 8 _ rfl;have x9: (w.alloc (.cells aW 94)).cell? ⟨q.B,9,none⟩=some (.slice m.g.av m.g.nv m.g.cv):=zaa H1.out.box 9 _ rfl;have x10: (w.alloc (.cells aW 94)).cell? ⟨q.B,10,none⟩=some (.slice m.g.ad m.g.nd m.g.cd):=zaa H1.out.box 10 _ rfl;have hBl:=zak h.box;have HL:Hid ((gOf v.g.ws).n=0→lastC v= (cp9,0)):=fun e=>by unfold lastC;rw [if_pos e]
  have HL2:Hid ((gOf v.g.ws).n≠0→(v.cs.length:Int)< (gOf v.g.ws).n→lastC v= (cp9,5)):=fun e e2=>by unfold lastC;rw [if_neg e,if_pos e2]
  have HL3:Hid ((gOf v.g.ws).n≠0→¬(v.cs.length:Int)< (gOf v.g.ws).n→lastC v= (v.cs.getD ((gOf v.g.ws).n - 1).toNat cp9,0)):=fun e e2=>by unfold lastC;rw [if_neg e,if_neg e2]
  obtain ⟨hs0,hs8⟩:=gOf_n v.g.ws;clear h hrd hg;generalize gOf v.g.ws=s at *;go_enter Tryz.func191,Tryz.ntmps191;go_wp2_with fail;generalize w.alloc (.cells aW 94)=W1 at *;refine(zae HC).mono ?_;rintro e w2 ⟨rfl,hb2⟩;have hbA:Below w.heap.size w (w2.alloc (.cells (aS s) 72)):=((bT hb1 hb2)).alloc (Nat.le_trans hb1.size hb2.size) _;have hba:Below w2.heap.size w2 (w2.alloc (.cells (aS s) 72)):=bA1;have bs:=hide (heap_alloc_last w2 (.cells (aS s) 72));replace b1:=hide (zab (zab b1.out hb2) hba);have hs2:=hb2.size;have H2:=hide (H.out.below hbA);clear x2 x3 x4 x5 x6 x7 x8 x9 x10 HC hba;have s0:=zaa bs.out 0 _ rfl;go_upto_region 4 with fail
  generalize w2.alloc (.cells (aS s) 72)=W2 at *;obtain ⟨t0,t1,t2,t3,t4⟩:=cl5 b1.out;obtain ⟨r0,r1,r2,r3,r4⟩:=fr5 b1.out
  by_cases hz:s.n=0
  {
  have HE:=hide (HL.out hz);have d: (s.n==0)=true:=by simpa using hz
  clear hz;go_wp2_with fail;refine bodyPost_ret (v:=.tuple #[cpv 0 0 0 ⟨none,0,0,none,0,0⟩,.int .i64 0]) (by simp [results,Tryz.results191,go_sem,cpv,t0,t1,t2,t3,t4]) rfl ?_;have hbF:Below w.heap.size w (puts W2 w.heap.size 0 [.int .i64 0,.int .i64 0,.int .i64 0,.slice none 0 0,.slice none 0 0]):=hbA.trans (zbd _ (Nat.le_refl _) hbA.size);have hfin:LcAns w (KV Z q) (lastC v) (.returned (.tuple #[cpv 0 0 0 ⟨none,0,0,none,0,0⟩,.int .i64 0])) (puts W2 w.heap.size 0 [.int .i64 0,.int .i64 0,.int .i64 0,.slice none 0 0,.slice none 0 0]):=by rw [HE.out];exact⟨⟨_,rfl,ci9 _ _⟩,hbF⟩
  exact hfin
  }
  have d: (s.n==0)=false:=by simpa using hz
  have x12:=zaa H2.out.box 12 (.slice m.ac m.nc m.cc) rfl;rw [H2.out.cs.at_] at x12;have hnl:=H2.out.cs.len;go_upto_region 6 with fail
  refine wp_region_held_drew (S:=fun W' =>W'.cell? ⟨q.B,12,none⟩=some (.slice (some ⟨q.bc,0,none⟩) m.nc m.cc)∧W'.cell? ⟨w2.heap.size,0,none⟩=some (.int .i64 s.n)) (by kernel_rfl) ⟨x12,s0⟩ ?_;intro hHeld;refine Htk (i:=0) ?_
  try simp only [sq]
  refine Htk (i:=1) ?_
  try simp only [sq]
  refine Htk (i:=2) ?_
  try simp only [sq]
  refine Htk (i:=3) ?_
  try simp only [sq]
  refine Htk (i:=4) ?_
  try simp only [sq]
  refine Htk (i:=5) ?_
  try simp only [sq]
  refine Htk (i:=6) ?_
  try simp only [sq]
  refine Htk (i:=7) ?_
  try simp only [sq]
  refine wpAnyH_done (by kernel_rfl) ?_ _;have hbd:Below W2.heap.size W2 W2.drew:=(Below.refl _ _).drew;replace hbA:=bT hbA hbd;replace b1:=hide (zab b1.out hbd);replace H2:=hide (H2.out.below hbd);replace s0:=(hbd.cell (zah s0)).trans s0;replace x12:=(hbd.cell (zah x12)).trans x12;clear t0 t1 t2 t3 t4 r0 r1 r2 r3 r4 hHeld;generalize W2.drew=X at *;obtain ⟨t0,t1,t2,t3,t4⟩:=cl5 b1.out;obtain ⟨r0,r1,r2,r3,r4⟩:=fr5 b1.out
  by_cases hz2: (m.nc:Int)<s.n
  {
  have HE:=hide (HL2.out hz (by rw [hnl];exact hz2));clear hz hnl;go_wp2_with fail;refine bodyPost_ret (v:=.tuple #[cpv 0 0 0 ⟨none,0,0,none,0,0⟩,.int .i64 5]) (by simp [results,Tryz.results191,go_sem,cpv,t0,t1,t2,t3,t4]) rfl ?_;have hbF:Below w.heap.size w (puts X w.heap.size 0 [.int .i64 0,.int .i64 0,.int .i64 0,.slice none 0 0,.slice none 0 0]):=hbA.trans (zbd _ (Nat.le_refl _) hbA.size);have hfin:LcAns w (KV Z q) (lastC v) (.returned (.tuple #[cpv 0 0 0 ⟨none,0,0,none,0,0⟩,.int .i64 5])) (puts X w.heap.size 0 [.int .i64 0,.int .i64 0,.int .i64 0,.slice none 0 0,.slice none 0 0]):=by rw [HE.out];exact⟨⟨_,rfl,ci9 _ _⟩,hbF⟩
  exact hfin
  }
  obtain ⟨k0,hk0⟩: ∃k0:Nat,s.n= (k0:Int)+1:=⟨(s.n - 1).toNat,by omega⟩;have hkl:k0<v.cs.length:=by omega
  have hku:v.cs[k0]?=some v.cs[k0]:=List.getElem?_eq_getElem hkl;have HE:Hid (lastC v= (v.cs[k0],0)):=(HL3.out hz (by rw [hnl];omega)).trans (by rw [show(s.n - 1).toNat=k0 by omega];simp [hkl]);have hkI: (k0:Int)< (m.nc:Int):=by omega
  have hwr:IntKind.i64.wrap (s.n - 1)= (k0:Int):=by rw [IntKind.wrap_i64];omega
  obtain ⟨mc,ci,y0,y1,y2,y3,y4⟩:=H.out.campAt hku;have HC0:=hide ci;replace y0:=(hbA.cell (zah y0)).trans y0;replace y1:=(hbA.cell (zah y1)).trans y1;replace y2:=(hbA.cell (zah y2)).trans y2;replace y3:=(hbA.cell (zah y3)).trans y3;replace y4:=(hbA.cell (zah y4)).trans y4;have hne2:w.heap.size≠w2.heap.size:=by omega
  have hneB:w.heap.size≠q.B:=by omega
  have hneC:w.heap.size≠q.bc:=by have:=H.out.cs.lt;omega
  have hz2' : ¬(m.nc:Int)<s.n:=hz2;have HKo:=hide hk0;clear hz hnl hk0 ci hku HL HL2 HL3 d hs0 hs8 hs1 hs2;generalize v.cs[k0]=x at *;clear hkl;go_upto_region 8 with fail
  refine wp_region_held_drew (S:=fun W' =>W'.cell? ⟨q.B,12,none⟩=some (.slice (some ⟨q.bc,0,none⟩) m.nc m.cc)∧W'.cell? ⟨w2.heap.size,0,none⟩=some (.int .i64 s.n)∧W'.cell? ⟨q.bc,k0 * 5,none⟩=some (.int .i64 x.n)∧W'.cell? ⟨q.bc,k0 * 5+1,none⟩=some (.int .i64 x.v)∧W'.cell? ⟨q.bc,k0 * 5+2,none⟩=some (.int .i64 x.u)∧W'.cell? ⟨q.bc,k0 * 5+3,none⟩=some (.slice mc.at_ mc.nt mc.ct)∧W'.cell? ⟨q.bc,k0 * 5+4,none⟩=some (.slice mc.ai mc.ni mc.ci)) (by kernel_rfl) ⟨x12,s0,y0,y1,y2,y3,y4⟩ ?_;intro hHeld;refine Htk (i:=0) ?_
  try simp only [sq]
  refine Htk (i:=1) ?_
  try simp only [sq]
  refine Htk (i:=2) ?_
  try simp only [sq]
  refine Htk (i:=3) ?_
  try simp only [sq]
  refine Htk (i:=4) ?_
  try simp only [sq]
  refine Htk (i:=5) ?_
  try simp only [sq]
  refine Htk (i:=6) ?_
  try simp only [sq]
  refine Htk (i:=7) ?_
  try simp only [sq]
  refine Htk (i:=8) ?_
  try simp only [sq]
  have hch:Chg (fun b=>b=w.heap.size) X (((((X.setCell ⟨w.heap.size,0,none⟩ (.int .i64 x.n)).setCell ⟨w.heap.size,1,none⟩ (.int .i64 x.v)).setCell ⟨w.heap.size,2,none⟩ (.int .i64 x.u)).setCell ⟨w.heap.size,3,none⟩ (.slice mc.at_ mc.nt mc.ct)).setCell ⟨w.heap.size,4,none⟩ (.slice mc.ai mc.ni mc.ci)).drew:=((((((Chg.refl (fun b=>b=w.heap.size) X).set rfl _).set rfl _).set rfl _).set rfl _).set rfl _).drew;have hcS: (((((X.setCell ⟨w.heap.size,0,none⟩ (.int .i64 x.n)).setCell ⟨w.heap.size,1,none⟩ (.int .i64 x.v)).setCell ⟨w.heap.size,2,none⟩ (.int .i64 x.u)).setCell ⟨w.heap.size,3,none⟩ (.slice mc.at_ mc.nt mc.ct)).setCell ⟨w.heap.size,4,none⟩ (.slice mc.ai mc.ni mc.ci)).drew.cell? ⟨q.B,12,none⟩=some (.slice (some ⟨q.bc,0,none⟩) m.nc m.cc)∧(((((X.setCell ⟨w.heap.size,0,none⟩ (.int .i64 x.n)).setCell ⟨w.heap.size,1,none⟩ (.int .i64 x.v)).setCell ⟨w.heap.size,2,none⟩ (.int .i64 x.u)).setCell ⟨w.heap.size,3,none⟩ (.slice mc.at_ mc.nt mc.ct)).setCell ⟨w.heap.size,4,none⟩ (.slice mc.ai mc.ni mc.ci)).drew.cell? ⟨w2.heap.size,0,none⟩=some (.int .i64 s.n)∧(((((X.setCell ⟨w.heap.size,0,none⟩ (.int .i64 x.n)).setCell ⟨w.heap.size,1,none⟩ (.int .i64 x.v)).setCell ⟨w.heap.size,2,none⟩ (.int .i64 x.u)).setCell ⟨w.heap.size,3,none⟩ (.slice mc.at_ mc.nt mc.ct)).setCell ⟨w.heap.size,4,none⟩ (.slice mc.ai mc.ni mc.ci)).drew.cell? ⟨q.bc,k0 * 5,none⟩=some (.int .i64 x.n)∧(((((X.setCell ⟨w.heap.size,0,none⟩ (.int .i64 x.n)).setCell ⟨w.heap.size,1,none⟩ (.int .i64 x.v)).setCell ⟨w.heap.size,2,none⟩ (.int .i64 x.u)).setCell ⟨w.heap.size,3,none⟩ (.slice mc.at_ mc.nt mc.ct)).setCell ⟨w.heap.size,4,none⟩ (.slice mc.ai mc.ni mc.ci)).drew.cell? ⟨q.bc,k0 * 5+1,none⟩=some (.int .i64 x.v)∧(((((X.setCell ⟨w.heap.size,0,none⟩ (.int .i64 x.n)).setCell ⟨w.heap.size,1,none⟩ (.int .i64 x.v)).setCell ⟨w.heap.size,2,none⟩ (.int .i64 x.u)).setCell ⟨w.heap.size,3,none⟩ (.slice mc.at_ mc.nt mc.ct)).setCell ⟨w.heap.size,4,none⟩ (.slice mc.ai mc.ni mc.ci)).drew.cell? ⟨q.bc,k0 * 5+2,none⟩=some (.int .i64 x.u)∧(((((X.setCell ⟨w.heap.size,0,none⟩ (.int .i64 x.n)).setCell ⟨w.heap.size,1,none⟩ (.int .i64 x.v)).setCell ⟨w.heap.size,2,none⟩ (.int .i64 x.u)).setCell ⟨w.heap.size,3,none⟩ (.slice mc.at_ mc.nt mc.ct)).setCell ⟨w.heap.size,4,none⟩ (.slice mc.ai mc.ni mc.ci)).drew.cell? ⟨q.bc,k0 * 5+3,none⟩=some (.slice mc.at_ mc.nt mc.ct)∧(((((X.setCell ⟨w.heap.size,0,none⟩ (.int .i64 x.n)).setCell ⟨w.heap.size,1,none⟩ (.int .i64 x.v)).setCell ⟨w.heap.size,2,none⟩ (.int .i64 x.u)).setCell ⟨w.heap.size,3,none⟩ (.slice mc.at_ mc.nt mc.ct)).setCell ⟨w.heap.size,4,none⟩ (.slice mc.ai mc.ni mc.ci)).drew.cell? ⟨q.bc,k0 * 5+4,none⟩=some (.slice mc.ai mc.ni mc.ci):=⟨hch.cell x12 (fun e=>hneB e.symm),hch.cell s0 (fun e=>hne2 e.symm),hch.cell y0 (fun e=>hneC e.symm),hch.cell y1 (fun e=>hneC e.symm),hch.cell y2 (fun e=>hneC e.symm),hch.cell y3 (fun e=>hneC e.symm),hch.cell y4 (fun e=>hneC e.symm)⟩;refine wpAnyH_ready (rs:= [9]) (by kernel_rfl) (by simp) ?_;refine AllReadyH.cons (by rfl) (fun K hK=> ?_) AllReadyH.nil;go_simp;refine hK.out _ _ (hcS) (fun hHeld=> ?_);clear hK K
  try simp only [sq]
  refine Htk (i:=10) ?_
  try simp only [sq]
  refine wpAnyH_done (by kernel_rfl) ?_ _;go_wp2_with fail;refine bodyPost_ret (v:=.tuple #[cpv x.n x.v x.u mc,.int .i64 0]) (by simp [results,Tryz.results191,go_sem,cpv,t0,t1,t2,t3,t4]) rfl ?_;have hbF:Below w.heap.size w (((((X.setCell ⟨w.heap.size,0,none⟩ (.int .i64 x.n)).setCell ⟨w.heap.size,1,none⟩ (.int .i64 x.v)).setCell ⟨w.heap.size,2,none⟩ (.int .i64 x.u)).setCell ⟨w.heap.size,3,none⟩ (.slice mc.at_ mc.nt mc.ct)).setCell ⟨w.heap.size,4,none⟩ (.slice mc.ai mc.ni mc.ci)).drew:=hbA.trans (hch.below (fun b e=>by omega) hbA.size);have hfin:LcAns w (KV Z q) (lastC v) (.returned (.tuple #[cpv x.n x.v x.u mc,.int .i64 0])) (((((X.setCell ⟨w.heap.size,0,none⟩ (.int .i64 x.n)).setCell ⟨w.heap.size,1,none⟩ (.int .i64 x.v)).setCell ⟨w.heap.size,2,none⟩ (.int .i64 x.u)).setCell ⟨w.heap.size,3,none⟩ (.slice mc.at_ mc.nt mc.ct)).setCell ⟨w.heap.size,4,none⟩ (.slice mc.ai mc.ni mc.ci)).drew:=by rw [HE.out];exact⟨⟨mc,rfl,zja HC0.out hbF⟩,hbF⟩
  exact hfin
end
section
open Go.RowKit
attribute [local go_sem ↓] Go.wp_at_zero Go.wp_at_succ
theorem zof {w:World} {F0 b:Nat} {K:Nat→Prop} (hK: ∀b,K b→b<F0): ∀(l:List Ms) (off:Nat),(∀i m,l[i]?=some m→∃am nm cm,(BI w am nm m.ws∧zal F0 am)∧
      w.cell? ⟨b,off+i * 7,none⟩=some (.int .i64 m.k)∧w.cell? ⟨b,off+i * 7+1,none⟩=some (.int .i64 m.u)∧w.cell? ⟨b,off+i * 7+2,none⟩=some (.int .i64 m.n)∧w.cell? ⟨b,off+i * 7+3,none⟩=some (.int .i64 m.at')∧
      w.cell? ⟨b,off+i * 7+4,none⟩=some (.int .i64 m.im)∧w.cell? ⟨b,off+i * 7+5,none⟩=some (.slice am nm cm)∧w.cell? ⟨b,off+i * 7+6,none⟩=some (.bool m.y))→
    ∃vs,(∀j u,vs[j]?=some u→w.cell? ⟨b,off+j,none⟩=some u)∧Vs (MR w K) l vs
  | [],off,_=>⟨[],fun j u h=>by simp at h,rfl⟩
  |x::r,off,h=>by
    obtain ⟨am,nm,cm,⟨h0,hf⟩,c0,c1,c2,c3,c4,c5,c6⟩:=h 0 x rfl;obtain ⟨vs,h1,h2⟩:=zof hK r (off+7) (fun i m hm=>by
      have:=h (i+1) m (by simpa using hm);rw [show off+(i+1)* 7=off+7+i * 7 by omega] at this;exact this)
    simp only [Nat.zero_mul,Nat.add_zero] at c0 c1 c2 c3 c4 c5 c6;refine⟨[.int .i64 x.k,.int .i64 x.u,.int .i64 x.n,.int .i64 x.at',.int .i64 x.im,.slice am nm cm,.bool x.y]++vs,fun j u hu=> ?_,⟨_,vs,rfl,⟨am,nm,cm,rfl,h0,.fresh hf hK⟩,h2⟩⟩
    match j,hu with
    |0,hu=>cases hu;exact c0
    |1,hu=>cases hu;exact c1
    |2,hu=>cases hu;exact c2
    |3,hu=>cases hu;exact c3
    |4,hu=>cases hu;exact c4
    |5,hu=>cases hu;exact c5
    |6,hu=>cases hu;exact c6
    |j+7,hu=>
      have:=h1 j u (by simpa using hu)
      rwa [show off+7+j=off+(j+7) by omega] at this
theorem mswF_vs {F0:Nat} {l:List Ms} (h:zep w F0 a l) (hK: ∀b,K b→b<F0): ∃vs,IsRow w a vs∧Vs (MR w K) l vs:=by
  rcases h with rfl| ⟨b,off,rfl,hc⟩
  { exact⟨[],.inl rfl,rfl⟩ }
  {
  obtain ⟨vs,h1,h2⟩:=zof hK l off hc;exact⟨vs,.inr ⟨b,off,rfl,h1⟩,h2⟩
  }
theorem poke_e {k:Int} (h:isU v k=true) (h2: (lastC v).2≠0): (pokeS v k).2= (lastC v).2:=by unfold pokeS;rw [if_neg (by rw [h];decide),if_pos h2]
def pokD (v:Vh) (k:Int):List Ms×Int:=gDue v.g (lastC v).1.n (lastC v).1.ts (lastC v).1.ims k
theorem poke_d {k:Int} (h:isU v k=true) (h2: (lastC v).2=0) (h3: (pokD v k).2≠0): (pokeS v k).2= (pokD v k).2:=by unfold pokD at h3;unfold pokeS pokD;rw [if_neg (by rw [h];decide),if_neg (by simpa using h2),if_pos h3]
theorem poke_0 {k:Int} (h:isU v k=true) (h2: (lastC v).2=0) (h3: (pokD v k).2=0):pokeS v k= (⟨v.ss,v.sg,v.g,v.us,v.cs,sendS v.net (pokD v k).1,v.now⟩,0):=by unfold pokD at h3;unfold pokeS pokD;rw [if_neg (by rw [h];decide),if_neg (by simpa using h2),if_neg (by simpa using h3)]
theorem poke_any (F:Nat) (Z:Nat→Prop) (q:VB) (m:VA) (v:Vh) (k:Int) (w:World) (h:VOwn w F Z q m v) (ok:VOk w F Z m v) (hgt:gtE v.g=0):
    Calls Tryz.prog 124 #[.pointer (some ⟨q.B,0,none⟩),.int .i64 k] w (HV w F Z q.B (pokeS v k)):=by
  have HN:=hide (zf7 F Z q m v k w h);have hlt:=h.lt;have hn24:=ok.nn;clear ok;cases hk:isU v k
  {
  have HE:Hid (pokeS v k= (vh0,5)):=by unfold pokeS;rw [if_pos hk];exact rfl
  rw [hk] at HN;clear hk h;go_enter Tryz.func124,Tryz.ntmps124;go_wp2_with fail;refine(zae HN).mono ?_;rintro e w1 ⟨rfl,hw1⟩;replace hw1:=hw1.symm;subst hw1;go_wp2_with fail;go_ret;exact zbs (by rw [HE.out]) (by decide) (Below.refl _ _)
  }
  rw [hk] at HN;have HL:=hide (lastC_any F Z q m v w h hgt);have H:=hide h;have P1:=hide (fun e=>poke_e (v:=v) hk e);have P2:=hide (fun e e2=>poke_d (v:=v) hk e e2);have P3:=hide (fun e e2=>poke_0 (v:=v) hk e e2);have HPD:Hid (pokD v k=gDue v.g (lastC v).1.n (lastC v).1.ts (lastC v).1.ims k):=rfl;clear hk h hgt;go_enter Tryz.func124,Tryz.ntmps124;go_wp2_with fail;refine(zae HN).mono ?_;rintro e w1 ⟨rfl,hw1⟩;replace hw1:=hw1.symm;subst hw1;go_wp2_with fail;refine(zae HL).mono ?_;rintro e w1 ⟨⟨mc,rfl,ci⟩,hb⟩;unfold cpv;obtain ⟨x,hx⟩: ∃x,x= (lastC v).1:=⟨_,rfl⟩;rw [←hx] at ci HPD⊢;generalize (lastC v).2=y at *;have hb1:Below w1.heap.size w1 (w1.alloc (.cells (aC x mc) 94)):=bA1;have hb2:Below w.heap.size w (w1.alloc (.cells (aC x mc) 94)):=bT hb hb1;have b1:=hide (heap_alloc_last w1 (.cells (aC x mc) 94));have HCI:=hide (zja ci hb1);have H2:=hide (H.out.below hb2);clear hx ci hb hb1 HN HL
  by_cases hy:y=0
  rotate_left
  {
  have d: (y !=0)=true:=by simpa using hy
  have HE:=hide (P1.out hy);have HY:=hide hy;clear hy;go_wp2_with fail;go_ret;exact zbs HE.out HY.out (hb2.mono hlt)
  }
  have d: (y !=0)=false:=by simpa using hy
  have HY:=hide hy;clear hy;go_upto_region 6 with fail
  generalize w1.alloc (.cells (aC x mc) 94)=W2 at *;have x2:=zaa H2.out.box 2 (.slice m.g.a m.g.n m.g.c) rfl;have x3:=zaa H2.out.box 3 (.int .i64 v.g.fu) rfl;have x4:=zaa H2.out.box 4 (.bool v.g.up) rfl;have x5:=zaa H2.out.box 5 (.int .i64 v.g.t.r.v) rfl;have x6:=zaa H2.out.box 6 (.slice m.g.ak m.g.nk m.g.ck) rfl;have x7:=zaa H2.out.box 7 (.int .i64 v.g.t.r.t) rfl;have x8:=zaa H2.out.box 8 (.int .i64 v.g.t.ver) rfl;have x9:=zaa H2.out.box 9 (.slice m.g.av m.g.nv m.g.cv) rfl;have x10:=zaa H2.out.box 10 (.slice m.g.ad m.g.nd m.g.cd) rfl;obtain ⟨z0,z1,z2,z3,z4⟩:=cl5 b1.out;have HD:=hide (fun W (hW:Below W2.heap.size W2 W)=>znj v.g m.g x.n x.v x.u mc x.ts x.ims k W (H2.out.g.below hW) (HCI.out.ts.below hW) (HCI.out.ims.below hW));rw [←HPD.out] at HD;unfold gtv cpv at HD;refine wp_region_held_drew (S:=fun W' =>W'.cell? ⟨q.B,2,none⟩=some (.slice m.g.a m.g.n m.g.c)∧W'.cell? ⟨q.B,3,none⟩=some (.int .i64 v.g.fu)∧W'.cell? ⟨q.B,4,none⟩=some (.bool v.g.up)∧W'.cell? ⟨q.B,5,none⟩=some (.int .i64 v.g.t.r.v)∧W'.cell? ⟨q.B,6,none⟩=some (.slice m.g.ak m.g.nk m.g.ck)∧W'.cell? ⟨q.B,7,none⟩=some (.int .i64 v.g.t.r.t)∧W'.cell? ⟨q.B,8,none⟩=some (.int .i64 v.g.t.ver)∧W'.cell? ⟨q.B,9,none⟩=some (.slice m.g.av m.g.nv m.g.cv)∧W'.cell? ⟨q.B,10,none⟩=some (.slice m.g.ad m.g.nd m.g.cd)∧W'.cell? ⟨w1.heap.size,0,none⟩=some (.int .i64 x.n)∧W'.cell? ⟨w1.heap.size,1,none⟩=some (.int .i64 x.v)∧W'.cell? ⟨w1.heap.size,2,none⟩=some (.int .i64 x.u)∧W'.cell? ⟨w1.heap.size,3,none⟩=some (.slice mc.at_ mc.nt mc.ct)∧W'.cell? ⟨w1.heap.size,4,none⟩=some (.slice mc.ai mc.ni mc.ci)) (by kernel_rfl) ⟨x2,x3,x4,x5,x6,x7,x8,x9,x10,z0,z1,z2,z3,z4⟩ ?_;intro hHeld;refine Htk (i:=0) ?_
  try simp only [sq]
  refine Htk (i:=1) ?_
  try simp only [sq]
  refine Htk (i:=2) ?_
  try simp only [sq]
  refine Htk (i:=3) ?_
  try simp only [sq]
  refine Htk (i:=4) ?_
  try simp only [sq]
  refine Htk (i:=5) ?_
  try simp only [sq]
  refine wpAnyH_ready (rs:= [6]) (by kernel_rfl) (by simp) ?_;refine AllReadyH.cons (by rfl) (fun K hK=> ?_) AllReadyH.nil;go_simp;have hbd:Below W2.heap.size W2 W2.drew:=(Below.refl _ _).drew;refine(zae HD _ hbd).mono ?_;rintro e w3 ⟨⟨a3,n3,c3,rfl,ms3,l3,cc3,-⟩,hb3⟩;replace hbd:Below W2.heap.size W2 w3:=hbd.trans hb3;have H3:=H2.out.below hbd;replace b1:=hide (zab b1.out hbd);clear x2 x3 x4 x5 x6 x7 x8 x9 x10 z0 z1 z2 z3 z4 hHeld;have x2:=zaa H3.box 2 (.slice m.g.a m.g.n m.g.c) rfl;have x3:=zaa H3.box 3 (.int .i64 v.g.fu) rfl;have x4:=zaa H3.box 4 (.bool v.g.up) rfl;have x5:=zaa H3.box 5 (.int .i64 v.g.t.r.v) rfl;have x6:=zaa H3.box 6 (.slice m.g.ak m.g.nk m.g.ck) rfl;have x7:=zaa H3.box 7 (.int .i64 v.g.t.r.t) rfl;have x8:=zaa H3.box 8 (.int .i64 v.g.t.ver) rfl;have x9:=zaa H3.box 9 (.slice m.g.av m.g.nv m.g.cv) rfl;have x10:=zaa H3.box 10 (.slice m.g.ad m.g.nd m.g.cd) rfl;obtain ⟨z0,z1,z2,z3,z4⟩:=cl5 b1.out;obtain ⟨mv,hr3,hv3⟩:=mswF_vs ms3 (K:=KV Z q) (fun b e=>H2.out.kv b e);have HS:=hide (zgs F Z q m v a3 n3 c3 (pokD v k).1 mv w3 H3 hn24 hr3 hv3 l3 cc3);have HB:=hide ((bT hb2 hbd));clear ms3 l3 cc3 hr3 hv3 H3 hb3 HD HCI b1 hbd;generalize pokD v k=r at *;refine hK.out _ _ (⟨x2,x3,x4,x5,x6,x7,x8,x9,x10,z0,z1,z2,z3,z4⟩) (fun hHeld=> ?_);clear hK K
  try simp only [sq]
  refine Htk (i:=7) ?_
  try simp only [sq]
  refine Htk (i:=8) ?_
  try simp only [sq]
  refine Htk (i:=9) ?_
  try simp only [sq]
  refine Htk (i:=10) ?_
  try simp only [sq]
  refine Htk (i:=11) ?_
  try simp only [sq]
  refine wpAnyH_done (by kernel_rfl) ?_ _;clear x2 x3 x4 x5 x6 x7 x8 x9 x10 z0 z1 z2 z3 z4 hHeld
  by_cases hz:r.2=0
  rotate_left
  {
  have d2: (r.2 !=0)=true:=by simpa using hz
  have HE:=hide (P2.out HY.out hz);have HZ:=hide hz;clear hz;generalize r.2=y2 at *;go_wp2_with fail;go_ret;exact zbs HE.out HZ.out (HB.out.mono hlt)
  }
  have d2: (r.2 !=0)=false:=by simpa using hz
  have HE:=hide (P3.out HY.out hz);clear hz;generalize r.2=y2 at *;go_wp2_with fail;refine(zae HS).mono ?_;rintro e w4 ⟨rfl,hs4⟩;go_wp2_with fail;go_ret;exact zif HE.out hs4 (HB.out.mono hlt)
end
section
open Go.RowKit
attribute [local go_sem ↓] Go.wp_at_zero Go.wp_at_succ
theorem zbe {g:Nat} {cur:Array Value} {t:TypeId} {i:Nat} (h:w.heap[g]?=some (.cells cur t (0,0))) (hi:i<cur.size): ∃v,w.cell? ⟨g,i,none⟩=some v∧w.frozen? ⟨g,i,none⟩=false:=
  ⟨cur[i],zaa h i _ (by simp [hi]),zad h i⟩
def tgs (ts:List T3):List Value:=(ts.map fun t=> [Value.int .i64 t.1,Value.int .i64 t.2.1,Value.int .i64 t.2.2]).flatten
def sgs (ts:List S2):List Value:=(ts.map fun t=> [Value.int .i64 t.1,Value.int .i64 t.2]).flatten
def bls (bs:List Bool):List Value:=bs.map Value.bool
theorem zj5: ∀ts:List T3,Vs (fun t c=>c= [Value.int .i64 t.1,Value.int .i64 t.2.1,Value.int .i64 t.2.2]) ts (tgs ts)
  | []=>rfl
  |_::r=>⟨_,tgs r,rfl,rfl,zj5 r⟩
theorem zkj: ∀ts:List S2,Vs (fun t c=>c= [Value.int .i64 t.1,Value.int .i64 t.2]) ts (sgs ts)
  | []=>rfl
  |_::r=>⟨_,sgs r,rfl,rfl,zkj r⟩
theorem tgs_len (ts:List T3): (tgs ts).length=ts.length * 3:=(zj5 ts).len (fun x c h=>by rw [h];rfl)
theorem sgs_len (ts:List S2): (sgs ts).length=ts.length * 2:=(zkj ts).len (fun x c h=>by rw [h];rfl)
theorem tgs_one: ∀(ts:List T3) (v:Value),v∈tgs ts→v.oneCell' =true
  | [],_,hv=>by cases hv
  |t::r,v,hv=>by
    rcases List.mem_append.1 (show v∈ [Value.int .i64 t.1,Value.int .i64 t.2.1,Value.int .i64 t.2.2]++tgs r from hv) with h|h
    {
    simp at h
    rcases h with rfl|rfl|rfl<;>rfl
    }
    { exact tgs_one r v h }
theorem zlr: ∀(ts:List S2) (v:Value),v∈sgs ts→v.oneCell' =true
  | [],_,hv=>by cases hv
  |t::r,v,hv=>by
    rcases List.mem_append.1 (show v∈ [Value.int .i64 t.1,Value.int .i64 t.2]++sgs r from hv) with h|h
    {
    simp at h
    rcases h with rfl|rfl<;>rfl
    }
    { exact zlr r v h }
theorem bls_one (bs:List Bool): ∀v∈bls bs,v.oneCell' =true:=by
  intro v hv
  simp [bls] at hv
  rcases hv with ⟨-,rfl⟩| ⟨-,rfl⟩<;>rfl
theorem zk8 {α:Type} {R:α→List Value→Prop} {k:Nat} (hR: ∀x c,R x c→c.length=k) (hk:0<k): ∀{l:List α} {vs:List Value} (j:Nat) (u:Value),Vs R l vs→vs[j]?=some u→∃x c,l[j / k]?=some x∧R x c∧c[j % k]?=some u
  | [],vs,j,u,h,hu=>by have h:vs= []:=h;subst h;simp at hu
  |x::l,vs,j,u,⟨c,r,e,h1,h2⟩,hu=>by
    have hc:=hR _ _ h1
    by_cases hj:j<k
    {
    rw [e,List.getElem?_append_left (by omega)] at hu;exact⟨x,c,by rw [Nat.div_eq_of_lt hj];rfl,h1,by rw [Nat.mod_eq_of_lt hj];exact hu⟩
    }
    {
    rw [e,List.getElem?_append_right (by omega),hc] at hu;obtain ⟨y,d,q1,q2,q3⟩:=zk8 hR hk (j - k) u h2 hu;refine⟨y,d, ?_,q2, ?_⟩
    { rw [Nat.div_eq_sub_div hk (by omega)];simpa using q1 }
    { rw [Nat.mod_eq_sub_mod (by omega)];exact q3 }
    }
theorem tgs_row (h:zbm w a ts):IsRow w a (tgs ts):=by
  rcases h with rfl| ⟨b,off,rfl,hc⟩
  { exact .inl rfl }
  {
  refine .inr ⟨b,off,rfl,fun j u hu=> ?_⟩;obtain ⟨t,c,h1,rfl,h3⟩:=zk8 (k:=3) (fun x c h=>by rw [h];rfl) (by decide) j u (zj5 ts) hu;obtain ⟨c0,c1,c2⟩:=hc _ _ h1;have hj:j=j / 3 * 3+j % 3:=by omega
  have hlt:j % 3<3:=Nat.mod_lt _ (by decide);generalize j / 3=p at *;generalize j % 3=r at *;subst hj
  match r,hlt,h3 with
  |0,_,h3=>cases h3;exact c0
  |1,_,h3=>cases h3;exact c1
  |2,_,h3=>cases h3;exact c2
  }
theorem sgs_row {ts:List S2} (h:zcr w a ts):IsRow w a (sgs ts):=by
  rcases h with rfl| ⟨b,off,rfl,hc⟩
  { exact .inl rfl }
  {
  refine .inr ⟨b,off,rfl,fun j u hu=> ?_⟩;obtain ⟨t,c,h1,rfl,h3⟩:=zk8 (k:=2) (fun x c h=>by rw [h];rfl) (by decide) j u (zkj ts) hu;obtain ⟨c0,c1⟩:=hc _ _ h1;have hj:j=j / 2 * 2+j % 2:=by omega
  have hlt:j % 2<2:=Nat.mod_lt _ (by decide);generalize j / 2=p at *;generalize j % 2=r at *;subst hj
  match r,hlt,h3 with
  |0,_,h3=>cases h3;exact c0
  |1,_,h3=>cases h3;exact c1
  }
theorem bls_row (h:zbz w a bs):IsRow w a (bls bs):=by
  rcases h with rfl| ⟨b,off,rfl,hc⟩
  { exact .inl rfl }
  {
  refine .inr ⟨b,off,rfl,fun j u hu=> ?_⟩;have hj:j<bs.length:=by
    have:=(List.getElem?_eq_some_iff.1 hu).1
    simpa [bls] using this
  simp [bls,hj] at hu
  subst hu;rw [hc j hj]
  simp [hj]
  }
theorem tgs_of (h:IsRow w a (tgs ts)):zbm w a ts:=by
  cases ts with
  |nil=>exact .inl rfl
  |cons t0 r0=>
    rcases h with h| ⟨b,off,rfl,hc⟩
    { simp [tgs] at h }
    {
    refine .inr ⟨b,off,rfl,fun i t hi=> ?_⟩;obtain ⟨c,rfl,hg⟩:=(zj5 (t0::r0)).cell (k:=3) (fun x c h=>by rw [h];rfl) hi;exact⟨hc _ _ (hg 0 _ rfl),by rw [Nat.add_assoc];exact hc _ _ (hg 1 _ rfl),by rw [Nat.add_assoc];exact hc _ _ (hg 2 _ rfl)⟩
    }
theorem sgs_of {ts:List S2} (h:IsRow w a (sgs ts)):zcr w a ts:=by
  cases ts with
  |nil=>exact .inl rfl
  |cons t0 r0=>
    rcases h with h| ⟨b,off,rfl,hc⟩
    { simp [sgs] at h }
    {
    refine .inr ⟨b,off,rfl,fun i t hi=> ?_⟩;obtain ⟨c,rfl,hg⟩:=(zkj (t0::r0)).cell (k:=2) (fun x c h=>by rw [h];rfl) hi;exact⟨hc _ _ (hg 0 _ rfl),by rw [Nat.add_assoc];exact hc _ _ (hg 1 _ rfl)⟩
    }
theorem bls_of (h:IsRow w a (bls bs)):zbz w a bs:=by
  rcases h with h| ⟨b,off,rfl,hc⟩
  { exact .inl (by simpa [bls] using h) }
  { exact .inr ⟨b,off,rfl,fun i hi=>hc i _ (by simp [bls,hi])⟩ }
theorem infoByM: (Tryz.prog.info? 99).map (fun i=>(i.zero,i.size,i.bytes))=some (some (.agg #[.int .i64 0,.int .i64 0,.int .i64 0,.int .i64 0,.int .i64 0,.slice none 0 0,.bool false]),7,72):=by kernel_rfl
theorem zmo (a:Option Addr) (n c c0:Nat) (K:Nat→Prop) (l:List Ms) (w:World) (h:RIn MR w K a n c0 l) (hm:n≤1000000) (hs: ∀m∈l,m.ws.length≤1000000):
    Calls Tryz.prog 121 #[.slice a n c,.func (.func 122) #[] #[]] w (zhe MR 7 99 w l):=by
  obtain ⟨irr,hir,rz0,rz1,rz2⟩:=info_parts infoByM;obtain ⟨cur,hcs,hmk⟩:=zbh Tryz.prog w 38 99 irr _ 7 72 n Tryz.underlying38 hir rz0 rz1 rz2 (by omega) (by unfold maxLen;omega);have I0:Hid (CInv MR 7 99 w.heap.size n w l 0 (w.alloc (.cells cur 99))):=CInv.first hcs;obtain ⟨vs,h1,h2,-⟩:=h.row;have H1:=hide h1;have H2:=hide h2;have HN:=hide h.len;have HS:=hide hs;clear h1 h2 h hs hcs;have hnI: (n:Int)≤9223372036854775807:=by omega
  go_enter Tryz.func121,Tryz.ntmps121;go_wp2_with fail;generalize w.alloc (.cells cur 99)=W0 at *;clear hmk
  go_loopw [13] (fun i wq=>∃k:Nat,k≤n∧i=.int .i64 k∧Hid (CInv MR 7 99 w.heap.size n w l k wq)) (fun i _=>n - (intOf i).toNat)
  case atStart=>exact⟨0,by omega,rfl,I0⟩
  case round=>
    clear I0;obtain ⟨wq,rfl⟩: ∃wq:World,wq=wr:=⟨_,rfl⟩;obtain ⟨k,hk,rfl,hI⟩:=hrel
    by_cases hkn:k<n
    {
    have hkI: (k:Int)< (n:Int):=by omega
    have hul:k<l.length:=by rw [HN.out];exact hkn
    have hB:=hI.out.bel;have hsu:=HS.out _ (List.getElem_mem hul);obtain ⟨b,off,x,nx,cx,rfl,q0,-,y0,y1,y2,y3,y4,y5,y6⟩:=zgd H1.out H2.out (List.getElem?_eq_getElem hul);have HU:=hide (fun W (hW:Below w.heap.size w W)=>zf0 l[k] x nx cx W (q0.below hW) (by rw [←q0.len];exact hsu));unfold msv at HU;have HX:Hid (l[k]?=some l[k]):=List.getElem?_eq_getElem hul;generalize l[k]=u at *;replace y0:=(hB.cell (zah y0)).trans y0;replace y1:=(hB.cell (zah y1)).trans y1;replace y2:=(hB.cell (zah y2)).trans y2;replace y3:=(hB.cell (zah y3)).trans y3;replace y4:=(hB.cell (zah y4)).trans y4;replace y5:=(hB.cell (zah y5)).trans y5;replace y6:=(hB.cell (zah y6)).trans y6;have HK:Hid (k<n):=hkn;clear hkn hul hsu;have hb1:Below wq.heap.size wq (wq.alloc (.cells (aM u x nx cx) 99)):=bA1;go_wp2_with fail;refine(zae HU _ ((bT hB hb1))).mono ?_;rintro e w3 ⟨⟨g,hg,rfl⟩,hb3⟩;have hb4:=bT hb1 hb3;obtain ⟨cq,r1,r2,-⟩:=hI.out.row;have hro:=hide (zab r1 hb4);have hz:k * 7+7≤cq.size:=by rw [r2,←Nat.succ_mul];exact Nat.mul_le_mul_right _ HK.out
    obtain ⟨v0,z0,f0⟩:=zbe hro.out (i:=k * 7) (by omega);obtain ⟨v1,z1,f1⟩:=zbe hro.out (i:=k * 7+1) (by omega);obtain ⟨v2,z2,f2⟩:=zbe hro.out (i:=k * 7+2) (by omega);obtain ⟨v3,z3,f3⟩:=zbe hro.out (i:=k * 7+3) (by omega);obtain ⟨v4,z4,f4⟩:=zbe hro.out (i:=k * 7+4) (by omega);obtain ⟨v5,z5,f5⟩:=zbe hro.out (i:=k * 7+5) (by omega);obtain ⟨v6,z6,f6⟩:=zbe hro.out (i:=k * 7+6) (by omega);clear r1 r2;go_wp2_with fail;refine⟨⟨k+1,HK.out,by simp, ?_⟩,by have:=HK.out;simp [intOf];omega⟩;have hel:MR w3 (Out (wq.heap.size - 1)) u [.int .i64 u.k,.int .i64 u.u,.int .i64 u.n,.int .i64 u.at',.int .i64 u.im,.slice (some ⟨g,0,none⟩) nx nx,.bool u.y]:=⟨some ⟨g,0,none⟩,nx,nx,rfl,hg.2.2,.at_ (by show¬g≤wq.heap.size - 1;have:=hg.1;simp at this;omega)⟩;have hst:=hI.out.step MR.chg MR.off MR.len (Nat.le_refl _) HX.out (by rw [HN.out];exact Nat.le_refl _) hb4 hel;exact hst
    }
    {
    have hkk:k=n:=by omega
    subst hkk;clear hk hkn;go_wp2_with fail;go_ret;have hl:=HN.out;subst hl;exact hI.out.last (Nat.le_refl _)
    }
theorem infoByU: (Tryz.prog.info? 82).map (fun i=>(i.zero,i.size,i.bytes))=some (some (.agg #[.slice none 0 0,.int .i64 0,.bool false,.int .i64 0,.int .i64 0]),5,56):=by kernel_rfl
theorem infoByL: (Tryz.prog.info? 26).map (fun i=>(i.zero,i.size,i.bytes))=some (some (.slice none 0 0),1,24):=by kernel_rfl
theorem infoByC: (Tryz.prog.info? 94).map (fun i=>(i.zero,i.size,i.bytes))=some (some (.agg aW),5,72):=by kernel_rfl
theorem row_list {l:List (List Int)} {vs:List Value} {i:Nat} (hr:IsRow w a vs) (h:Vs (LR w K) l vs) (hi:l[i]?=some r): ∃b off x c,a=some ⟨b,off,none⟩∧zag w x r∧r.length≤c∧c≤maxLen∧Ao r K x∧w.cell? ⟨b,off+i,none⟩=some (.slice x r.length c):=by
  obtain ⟨b,off,c,rfl,⟨x,cp,rfl,h1,h2,h3,h4⟩,hc⟩:=hr.elem LR.len (by decide) h hi;exact⟨b,off,x,cp,rfl,h1,h2,h3,h4,by have:=hc 0 _ rfl;rwa [Nat.mul_one] at this⟩
theorem zmp (a:Option Addr) (n c c0:Nat) (K:Nat→Prop) (l:List Un) (w:World) (h:RIn UR w K a n c0 l) (hm:n≤1000000) (hs: ∀m∈l,m.ws.length≤1000000):
    Calls Tryz.prog 116 #[.slice a n c,.func (.func 117) #[] #[]] w (zhe UR 5 82 w l):=by
  obtain ⟨irr,hir,rz0,rz1,rz2⟩:=info_parts infoByU;obtain ⟨cur,hcs,hmk⟩:=zbh Tryz.prog w 36 82 irr _ 5 56 n Tryz.underlying36 hir rz0 rz1 rz2 (by omega) (by unfold maxLen;omega);have I0:Hid (CInv UR 5 82 w.heap.size n w l 0 (w.alloc (.cells cur 82))):=CInv.first hcs;obtain ⟨vs,h1,h2,-⟩:=h.row;have H1:=hide h1;have H2:=hide h2;have HN:=hide h.len;have HS:=hide hs;clear h1 h2 h hs hcs;have hnI: (n:Int)≤9223372036854775807:=by omega
  go_enter Tryz.func116,Tryz.ntmps116;go_wp2_with fail;generalize w.alloc (.cells cur 82)=W0 at *;clear hmk
  go_loopw [13] (fun i wq=>∃k:Nat,k≤n∧i=.int .i64 k∧Hid (CInv UR 5 82 w.heap.size n w l k wq)) (fun i _=>n - (intOf i).toNat)
  case atStart=>exact⟨0,by omega,rfl,I0⟩
  case round=>
    clear I0;obtain ⟨wq,rfl⟩: ∃wq:World,wq=wr:=⟨_,rfl⟩;obtain ⟨k,hk,rfl,hI⟩:=hrel
    by_cases hkn:k<n
    {
    have hkI: (k:Int)< (n:Int):=by omega
    have hul:k<l.length:=by rw [HN.out];exact hkn
    have hB:=hI.out.bel;have hsu:=HS.out _ (List.getElem_mem hul);obtain ⟨b,off,x,nx,cx,rfl,q0,-,y0,y1,y2,y3,y4⟩:=zdz H1.out H2.out (List.getElem?_eq_getElem hul);have HU:=hide (fun W (hW:Below w.heap.size w W)=>zok l[k] x nx cx W (q0.below hW).bi (by rw [←q0.len];exact hsu));unfold unv at HU;have HX:Hid (l[k]?=some l[k]):=List.getElem?_eq_getElem hul;generalize l[k]=u at *;replace y0:=(hB.cell (zah y0)).trans y0;replace y1:=(hB.cell (zah y1)).trans y1;replace y2:=(hB.cell (zah y2)).trans y2;replace y3:=(hB.cell (zah y3)).trans y3;replace y4:=(hB.cell (zah y4)).trans y4;have HK:Hid (k<n):=hkn;clear hkn hul hsu;have hb1:Below wq.heap.size wq (wq.alloc (.cells (aU x nx cx u) 82)):=bA1;go_wp2_with fail;refine(zae HU _ ((bT hB hb1))).mono ?_;rintro e w3 ⟨⟨g,hg,rfl⟩,hb3⟩;have hb4:=bT hb1 hb3;obtain ⟨cq,r1,r2,-⟩:=hI.out.row;have hro:=hide (zab r1 hb4);have hz:k * 5+5≤cq.size:=by rw [r2,←Nat.succ_mul];exact Nat.mul_le_mul_right _ HK.out
    obtain ⟨v0,z0,f0⟩:=zbe hro.out (i:=k * 5) (by omega);obtain ⟨v1,z1,f1⟩:=zbe hro.out (i:=k * 5+1) (by omega);obtain ⟨v2,z2,f2⟩:=zbe hro.out (i:=k * 5+2) (by omega);obtain ⟨v3,z3,f3⟩:=zbe hro.out (i:=k * 5+3) (by omega);obtain ⟨v4,z4,f4⟩:=zbe hro.out (i:=k * 5+4) (by omega);clear r1 r2;go_wp2_with fail;refine⟨⟨k+1,HK.out,by simp, ?_⟩,by have:=HK.out;simp [intOf];omega⟩;have hel:UR w3 (Out (wq.heap.size - 1)) u [.slice (some ⟨g,0,none⟩) nx nx,.int .i64 u.fu,.bool u.up,.int .i64 u.n,.int .i64 u.hv]:=⟨some ⟨g,0,none⟩,nx,nx,rfl,⟨hg.2.2.at_,hg.2.2.len,Nat.le_refl _,hg.2.2.max⟩,.at_ (by show¬g≤wq.heap.size - 1;have:=hg.1;simp at this;omega)⟩;have hst:=hI.out.step UR.chg UR.off UR.len (Nat.le_refl _) HX.out (by rw [HN.out];exact Nat.le_refl _) hb4 hel;exact hst
    }
    {
    have hkk:k=n:=by omega
    subst hkk;clear hk hkn;go_wp2_with fail;go_ret;have hl:=HN.out;subst hl;exact hI.out.last (Nat.le_refl _)
    }
theorem zmx (a:Option Addr) (n c c0:Nat) (K:Nat→Prop) (l:List (List Int)) (w:World) (h:RIn LR w K a n c0 l) (hm:n≤1000000) (hs: ∀m∈l,m.length≤1000000):
    Calls Tryz.prog 187 #[.slice a n c,.func (.func 188) #[] #[]] w (zhe LR 1 26 w l):=by
  obtain ⟨irr,hir,rz0,rz1,rz2⟩:=info_parts infoByL;obtain ⟨cur,hcs,hmk⟩:=zbh Tryz.prog w 42 26 irr _ 1 24 n Tryz.underlying42 hir rz0 rz1 rz2 (by omega) (by unfold maxLen;omega);have I0:Hid (CInv LR 1 26 w.heap.size n w l 0 (w.alloc (.cells cur 26))):=CInv.first hcs;obtain ⟨vs,h1,h2,-⟩:=h.row;have H1:=hide h1;have H2:=hide h2;have HN:=hide h.len;have HS:=hide hs;clear h1 h2 h hs hcs;have hnI: (n:Int)≤9223372036854775807:=by omega
  go_enter Tryz.func187,Tryz.ntmps187;go_wp2_with fail;generalize w.alloc (.cells cur 26)=W0 at *;clear hmk
  go_loopw [13] (fun i wq=>∃k:Nat,k≤n∧i=.int .i64 k∧Hid (CInv LR 1 26 w.heap.size n w l k wq)) (fun i _=>n - (intOf i).toNat)
  case atStart=>exact⟨0,by omega,rfl,I0⟩
  case round=>
    clear I0;obtain ⟨wq,rfl⟩: ∃wq:World,wq=wr:=⟨_,rfl⟩;obtain ⟨k,hk,rfl,hI⟩:=hrel
    by_cases hkn:k<n
    {
    have hkI: (k:Int)< (n:Int):=by omega
    have hul:k<l.length:=by rw [HN.out];exact hkn
    have hB:=hI.out.bel;have hsu:=HS.out _ (List.getElem_mem hul);obtain ⟨b,off,x,cx,rfl,q0,qc,qm,-,y0⟩:=row_list H1.out H2.out (List.getElem?_eq_getElem hul);have HU:=hide (fun W (hW:Below w.heap.size w W)=>zmm l[k] x l[k].length cx W ⟨q0.below hW,rfl,Nat.le_trans qc qm⟩ hsu);have HX:Hid (l[k]?=some l[k]):=List.getElem?_eq_getElem hul;generalize l[k]=u at *;replace y0:=(hB.cell (zah y0)).trans y0;have HUL:=hide hsu;have HK:Hid (k<n):=hkn;clear hkn hul hsu;go_wp2_with fail;refine(zae HU _ hB).mono ?_;rintro e w3 ⟨rfl,rfl⟩;have hb3:Below wq.heap.size wq (wq.alloc (.cells (vals u).toArray 3)):=bA1;have hb4:=hb3;obtain ⟨cq,r1,r2,-⟩:=hI.out.row;have hro:=hide (zab r1 hb4);have hz:k * 1+1≤cq.size:=by rw [r2,←Nat.succ_mul];exact Nat.mul_le_mul_right _ HK.out
    obtain ⟨v0,z0,f0⟩:=zbe hro.out (i:=k) (by omega);clear r1 r2;go_wp2_with fail;refine⟨⟨k+1,HK.out,by simp, ?_⟩,by have:=HK.out;simp [intOf];omega⟩;have hel:LR (wq.alloc (.cells (vals u).toArray 3)) (Out (wq.heap.size - 1)) u [.slice (some ⟨wq.heap.size,0,none⟩) u.length u.length]:=⟨some ⟨wq.heap.size,0,none⟩,u.length,rfl,zgw (zcq (heap_alloc_last _ _)),Nat.le_refl _,by have:=HUL.out;unfold maxLen;omega,.at_ (by show¬wq.heap.size≤wq.heap.size - 1;have:=hI.out.lt;omega)⟩;have hst:=hI.out.step LR.chg LR.off LR.len (Nat.le_refl _) HX.out (by rw [HN.out];exact Nat.le_refl _) hb4 hel;rw [Nat.mul_one] at hst;exact hst
    }
    {
    have hkk:k=n:=by omega
    subst hkk;clear hk hkn;go_wp2_with fail;go_ret;have hl:=HN.out;subst hl;exact hI.out.last (Nat.le_refl _)
    }
theorem zfb (x:Cp) (m:CA) (K:Nat→Prop) (w:World) (h:CI w K m x) (ht:x.ts.length≤1000000) (hi:x.ims.length≤1000000) (hr: ∀r∈x.ims,r.length≤1000000):
    Calls Tryz.prog 120 #[cpv x.n x.v x.u m] w fun e w' =>(∃m' :CA,e=.returned (cpv x.n x.v x.u m')∧CR w' (fun b=>b<w.heap.size) x [.int .i64 x.n,.int .i64 x.v,.int .i64 x.u,.slice m'.at_ m'.nt m'.ct,.slice m'.ai m'.ni m'.ci])∧Below w.heap.size w w' :=by
  have HT:=hide (fun W (hW:Below w.heap.size w W)=>zpc m.at_ m.nt m.ct (tgs x.ts) W (tgs_row (h.ts.below hW).at_) (by rw [tgs_len,h.ts.len]) (tgs_one _) (by rw [←h.ts.len];exact ht));obtain ⟨vs,r1,r2,r3⟩:=h.row;have HL:=hide (fun W (hW:Below w.heap.size w W)=>zmx m.ai m.ni m.ci m.ni K x.ims W ⟨⟨vs,r1.below hW,r2.mono (LR.chg (.of hW K)),r3⟩,h.ims.len,Nat.le_refl _,h.ims.max⟩ (by rw [←h.ims.len];exact hi) hr);have HN:=hide (And.intro h.ts.len h.ims.len);have HM:=hide (And.intro h.ts.max h.ims.max);clear r1 r2 r3 h;unfold cpv;go_enter Tryz.func120,Tryz.ntmps120;go_wp2_with fail;refine(zae HT _ (zdv _ _ _)).mono ?_;rintro e w1 ⟨rfl,rfl⟩;have b0:=hide (zai (zai (heap_alloc_last w (.cells #[.int .i64 x.n,.int .i64 x.v,.int .i64 x.u,.slice (some ⟨w.heap.size+1+1,0,none⟩) m.nt m.nt,.slice m.ai m.ni m.ci] 94)) (.cells aW 94)) (.cells (tgs x.ts).toArray 163));have b1:=hide (zai (zau w (.cells #[.int .i64 x.n,.int .i64 x.v,.int .i64 x.u,.slice (some ⟨w.heap.size+1+1,0,none⟩) m.nt m.nt,.slice m.ai m.ni m.ci] 94) (.cells aW 94)) (.cells (tgs x.ts).toArray 163));have b2:=hide (zb9 w (.cells #[.int .i64 x.n,.int .i64 x.v,.int .i64 x.u,.slice (some ⟨w.heap.size+1+1,0,none⟩) m.nt m.nt,.slice m.ai m.ni m.ci] 94) (.cells aW 94) (.cells (tgs x.ts).toArray 163));have hw:=zds w (.cells #[.int .i64 x.n,.int .i64 x.v,.int .i64 x.u,.slice (some ⟨w.heap.size+1+1,0,none⟩) m.nt m.nt,.slice m.ai m.ni m.ci] 94) (.cells aW 94) (.cells (tgs x.ts).toArray 163);have hsz: (((w.alloc (.cells #[.int .i64 x.n,.int .i64 x.v,.int .i64 x.u,.slice (some ⟨w.heap.size+1+1,0,none⟩) m.nt m.nt,.slice m.ai m.ni m.ci] 94)).alloc (.cells aW 94)).alloc (.cells (tgs x.ts).toArray 163)).heap.size=w.heap.size+1+1+1:=by simp
  go_wp2_with fail;generalize (((w.alloc (.cells #[.int .i64 x.n,.int .i64 x.v,.int .i64 x.u,.slice (some ⟨w.heap.size+1+1,0,none⟩) m.nt m.nt,.slice m.ai m.ni m.ci] 94)).alloc (.cells aW 94)).alloc (.cells (tgs x.ts).toArray 163))=W1 at *;refine(zae HL _ hw).mono ?_;rintro e w3 ⟨⟨g,us,g1,g2,rfl,hbk,hul,hvs⟩,hb⟩;replace b0:=hide (zab b0.out hb);replace b1:=hide (zab b1.out hb);replace b2:=hide (zab b2.out hb);replace hw:=bT hw hb;obtain ⟨x0,x1,x2,x3,x4⟩:=cl5 b0.out;have f4:=zad b0.out 4;obtain ⟨y0,y1,y2,y3,y4⟩:=cl5 b1.out;obtain ⟨e0,e1,e2,e3,e4⟩:=fr5 b1.out;have HCR:Hid (CR w3 (fun b=>b<w.heap.size+2) x [.int .i64 x.n,.int .i64 x.v,.int .i64 x.u,.slice (some ⟨w.heap.size+1+1,0,none⟩) m.nt m.nt,.slice (some ⟨g,0,none⟩) x.ims.length x.ims.length]):=
    ⟨⟨some ⟨w.heap.size+1+1,0,none⟩,m.nt,m.nt,some ⟨g,0,none⟩,x.ims.length,x.ims.length⟩,rfl,⟨tgs_of (zcq b2.out),HN.out.1,HM.out.1⟩,.at_ (by show¬w.heap.size+1+1<w.heap.size+2;omega),⟨us,zcq hbk,hvs.mono (LR.off fun b e=>.inl (by show b≤g;have e:b<w.heap.size+2:=e;omega)),.at_ (by show¬g<w.heap.size+2;omega)⟩,rfl,by rw [HN.out.2];exact HM.out.2⟩
  clear b0 b1 b2 hbk hul hvs hb HL HT g1 g2 hsz;go_wp2_with fail;refine bodyPost_ret (v:=.agg #[.int .i64 x.n,.int .i64 x.v,.int .i64 x.u,.slice (some ⟨w.heap.size+1+1,0,none⟩) m.nt m.nt,.slice (some ⟨g,0,none⟩) x.ims.length x.ims.length]) (by simp [results,Tryz.results120,go_sem,y0,y1,y2,y3,y4]) rfl ?_;have hch:Chg (fun b=>b<w.heap.size+2) w3 (puts (w3.setCell ⟨w.heap.size,4,none⟩ (.slice (some ⟨g,0,none⟩) x.ims.length x.ims.length)) (w.heap.size+1) 0 [.int .i64 x.n,.int .i64 x.v,.int .i64 x.u,.slice (some ⟨w.heap.size+1+1,0,none⟩) m.nt m.nt,.slice (some ⟨g,0,none⟩) x.ims.length x.ims.length]):=
    ((Chg.refl (fun b=>b<w.heap.size+2) _).set (by show w.heap.size<w.heap.size+2;omega) _).trans ((zbn _ _ _ _).mono fun b e=>by show b<w.heap.size+2;omega)
  have hbel:Below w.heap.size w (puts (w3.setCell ⟨w.heap.size,4,none⟩ (.slice (some ⟨g,0,none⟩) x.ims.length x.ims.length)) (w.heap.size+1) 0 [.int .i64 x.n,.int .i64 x.v,.int .i64 x.u,.slice (some ⟨w.heap.size+1+1,0,none⟩) m.nt m.nt,.slice (some ⟨g,0,none⟩) x.ims.length x.ims.length]):=
    (hw.setCell (Nat.le_refl _) _).trans ((zbn _ _ _ _).below (fun b e=>by omega) (Nat.le_trans hw.size (by simp [World.setCell])))
  have hfin:=CR.off (K' :=fun b=>b<w.heap.size) (fun b e=>.inl (by show b<w.heap.size+2;have e:b<w.heap.size:=e;omega)) _ _ (CR.chg hch _ _ HCR.out);exact⟨⟨⟨some ⟨w.heap.size+1+1,0,none⟩,m.nt,m.nt,some ⟨g,0,none⟩,x.ims.length,x.ims.length⟩,rfl,hfin⟩,hbel⟩
end
end Go.Proofs.YthmekfcgdfckaaaGreatDoor
