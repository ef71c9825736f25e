/- The contracts of vehicle.lastCampaign, poke. The contract of vehicle.poke. -/
import Derived.Test.YthmekfcgdfckaaaGreatDoorWn31
set_option maxRecDepth 1000000
set_option maxHeartbeats 0
namespace Go.Proofs.YthmekfcgdfckaaaGreatDoor
variable {v:Vh}
section
open Go.RowKit
attribute [local go_sem ↓] Go.wp_at_zero Go.wp_at_succ
theorem VOwn.campAt {w:World} {F:Nat} {Z:Nat→Prop} {q:VB} {m:VA} (h:VOwn w F Z q m v) {k:Nat} {x:Cp} (hk:v.cs[k]?=some x): ∃mc,CI w (KV Z q) mc x∧(w.cell? ⟨q.bc,k * 5,none⟩=some (.int .i64 x.n)∧w.cell? ⟨q.bc,k * 5+1,none⟩=some (.int .i64 x.v)∧w.cell? ⟨q.bc,k * 5+2,none⟩=some (.int .i64 x.u)∧w.cell? ⟨q.bc,k * 5+3,none⟩=some (.slice mc.at_ mc.nt mc.ct)∧w.cell? ⟨q.bc,k * 5+4,none⟩=some (.slice mc.ai mc.ni mc.ci)):=by
  obtain ⟨vs,-,h1,h2⟩:=h.cs.isRow;obtain ⟨b,off,mc,e,h3,y0,y1,y2,y3,y4⟩:=zfa h1 h2 hk;rw [h.cs.at_] at e;cases e;simp only [Nat.zero_add] at y0 y1 y2 y3 y4;exact⟨mc,h3,y0,y1,y2,y3,y4⟩
theorem gNext_n {s:Gs} {r:List Int} (h:0≤s.n∧s.n≤8):0≤(gNext s r).n∧(gNext s r).n≤8:=by
  unfold gNext
  split
  {
  rename_i h1
  unfold isBeg inB at h1
  simp at h1
  show 0≤r.getD 1 0∧r.getD 1 0≤8
  rw [List.getD_eq_getElem?_getD];omega
  }
  {
  split
  {
  unfold trnG
  split
  { exact h }
  {
  split
  { exact h }
  { split<;>exact h }
  }
  }
  { exact h }
  }
theorem gOf_n (ws:List Int):0≤(gOf ws).n∧(gOf ws).n≤8:=by
  have: ∀(rs:List (List Int)) (s:Gs),(0≤s.n∧s.n≤8)→0≤(rs.foldl gNext s).n∧(rs.foldl gNext s).n≤8:=by
    intro rs
    induction rs with
    |nil=>intro s h;exact h
    |cons r t ih=>intro s h;exact ih _ (gNext_n h)
  exact this _ _ ⟨by decide,by decide⟩
def LcAns (w:World) (K:Nat→Prop) (r:Cp×Int) (e:Ending) (w' :World):Prop:=(∃mc:CA,e=.returned (.tuple #[cpv r.1.n r.1.v r.1.u mc,.int .i64 r.2])∧CI w' K mc r.1)∧Below w.heap.size w w'
theorem ci9 (w:World) (K:Nat→Prop):CI w K ⟨none,0,0,none,0,0⟩ cp9:=⟨⟨.inl rfl,rfl,by decide⟩,.inl rfl,⟨.inl rfl,rfl,by decide⟩,⟨[],.inl rfl,rfl,.inl rfl⟩⟩
theorem lastC_any (F:Nat) (Z:Nat→Prop) (q:VB) (m:VA) (v:Vh) (w:World) (h:VOwn w F Z q m v) (hg:gtE v.g=0):
    Calls Tryz.prog 191 #[.pointer (some ⟨q.B,0,none⟩)] w (LcAns w (KV Z q) (lastC v)):=by
  have hb1:Below w.heap.size w (w.alloc (.cells aW 94)):=bA1;have b1:=hide (heap_alloc_last w (.cells aW 94));have hs1: (w.alloc (.cells aW 94)).heap.size=w.heap.size+1:=by simp
  have H:=hide h;have H1:=hide (h.below hb1);have HC:=hide (zh0 v.g m.g _ H1.out.g);have hrd:zc3 v.g= (gOf v.g.ws,0):=by unfold zc3;rw [if_neg (by simpa using hg)]
  rw [hrd] at HC;unfold gtv gsv at HC;have x2: (w.alloc (.cells aW 94)).cell? ⟨q.B,2,none⟩=some (.slice m.g.a m.g.n m.g.c):=zaa H1.out.box 2 _ rfl;have x3: (w.alloc (.cells aW 94)).cell? ⟨q.B,3,none⟩=some (.int .i64 v.g.fu):=zaa H1.out.box 3 _ rfl;have x4: (w.alloc (.cells aW 94)).cell? ⟨q.B,4,none⟩=some (.bool v.g.up):=zaa H1.out.box 4 _ rfl;have x5: (w.alloc (.cells aW 94)).cell? ⟨q.B,5,none⟩=some (.int .i64 v.g.t.r.v):=zaa H1.out.box 5 _ rfl;have x6: (w.alloc (.cells aW 94)).cell? ⟨q.B,6,none⟩=some (.slice m.g.ak m.g.nk m.g.ck):=zaa H1.out.box 6 _ rfl;have x7: (w.alloc (.cells aW 94)).cell? ⟨q.B,7,none⟩=some (.int .i64 v.g.t.r.t):=zaa H1.out.box 7 _ rfl;have x8: (w.alloc (.cells aW 94)).cell? ⟨q.B,8,none⟩=some (.int .i64 v.g.t.ver):=zaa H1.out.box 8 _ rfl;have x9: (w.alloc (.cells aW 94)).cell? ⟨q.B,9,none⟩=some (.slice m.g.av m.g.nv m.g.cv):=zaa H1.out.box 9 _ rfl;have x10: (w.alloc (.cells aW 94)).cell? ⟨q.B,10,none⟩=some (.slice m.g.ad m.g.nd m.g.cd):=zaa H1.out.box 10 _ rfl;have hBl:=zak h.box;have HL:Hid ((gOf v.g.ws).n=0→lastC v= (cp9,0)):=fun e=>by unfold lastC;rw [if_pos e]
  have HL2:Hid ((gOf v.g.ws).n≠0→(v.cs.length:Int)< (gOf v.g.ws).n→lastC v= (cp9,5)):=fun e e2=>by unfold lastC;rw [if_neg e,if_pos e2]
  have HL3:Hid ((gOf v.g.ws).n≠0→¬(v.cs.length:Int)< (gOf v.g.ws).n→lastC v= (v.cs.getD ((gOf v.g.ws).n - 1).toNat cp9,0)):=fun e e2=>by unfold lastC;rw [if_neg e,if_neg e2]
  obtain ⟨hs0,hs8⟩:=gOf_n v.g.ws;clear h hrd hg;generalize gOf v.g.ws=s at *;go_enter Tryz.func191,Tryz.ntmps191;go_wp2_with fail;generalize w.alloc (.cells aW 94)=W1 at *;refine(zae HC).mono ?_;rintro e w2 ⟨rfl,hb2⟩;have hbA:Below w.heap.size w (w2.alloc (.cells (aS s) 72)):=((bT hb1 hb2)).alloc (Nat.le_trans hb1.size hb2.size) _;have hba:Below w2.heap.size w2 (w2.alloc (.cells (aS s) 72)):=bA1;have bs:=hide (heap_alloc_last w2 (.cells (aS s) 72));replace b1:=hide (zab (zab b1.out hb2) hba);have hs2:=hb2.size;have H2:=hide (H.out.below hbA);clear x2 x3 x4 x5 x6 x7 x8 x9 x10 HC hba;have s0:=zaa bs.out 0 _ rfl;go_upto_region 4 with fail
  generalize w2.alloc (.cells (aS s) 72)=W2 at *;obtain ⟨t0,t1,t2,t3,t4⟩:=cl5 b1.out;obtain ⟨r0,r1,r2,r3,r4⟩:=fr5 b1.out
  by_cases hz:s.n=0
  {
  have HE:=hide (HL.out hz);have d: (s.n==0)=true:=by simpa using hz
  clear hz;go_wp2_with fail;refine bodyPost_ret (v:=.tuple #[cpv 0 0 0 ⟨none,0,0,none,0,0⟩,.int .i64 0]) (by simp [results,Tryz.results191,go_sem,cpv,t0,t1,t2,t3,t4]) rfl ?_;have hbF:Below w.heap.size w (puts W2 w.heap.size 0 [.int .i64 0,.int .i64 0,.int .i64 0,.slice none 0 0,.slice none 0 0]):=hbA.trans (zbd _ (Nat.le_refl _) hbA.size);have hfin:LcAns w (KV Z q) (lastC v) (.returned (.tuple #[cpv 0 0 0 ⟨none,0,0,none,0,0⟩,.int .i64 0])) (puts W2 w.heap.size 0 [.int .i64 0,.int .i64 0,.int .i64 0,.slice none 0 0,.slice none 0 0]):=by rw [HE.out];exact⟨⟨_,rfl,ci9 _ _⟩,hbF⟩
  exact hfin
  }
  have d: (s.n==0)=false:=by simpa using hz
  have x12:=zaa H2.out.box 12 (.slice m.ac m.nc m.cc) rfl;rw [H2.out.cs.at_] at x12;have hnl:=H2.out.cs.len;go_upto_region 6 with fail
  refine wp_region_held_drew (S:=fun W' =>W'.cell? ⟨q.B,12,none⟩=some (.slice (some ⟨q.bc,0,none⟩) m.nc m.cc)∧W'.cell? ⟨w2.heap.size,0,none⟩=some (.int .i64 s.n)) (by kernel_rfl) ⟨x12,s0⟩ ?_;intro hHeld;refine Htk (i:=0) ?_
  try simp only [sq]
  refine Htk (i:=1) ?_
  try simp only [sq]
  refine Htk (i:=2) ?_
  try simp only [sq]
  refine Htk (i:=3) ?_
  try simp only [sq]
  refine Htk (i:=4) ?_
  try simp only [sq]
  refine Htk (i:=5) ?_
  try simp only [sq]
  refine Htk (i:=6) ?_
  try simp only [sq]
  refine Htk (i:=7) ?_
  try simp only [sq]
  refine wpAnyH_done (by kernel_rfl) ?_ _;have hbd:Below W2.heap.size W2 W2.drew:=(Below.refl _ _).drew;replace hbA:=bT hbA hbd;replace b1:=hide (zab b1.out hbd);replace H2:=hide (H2.out.below hbd);replace s0:=(hbd.cell (zah s0)).trans s0;replace x12:=(hbd.cell (zah x12)).trans x12;clear t0 t1 t2 t3 t4 r0 r1 r2 r3 r4 hHeld;generalize W2.drew=X at *;obtain ⟨t0,t1,t2,t3,t4⟩:=cl5 b1.out;obtain ⟨r0,r1,r2,r3,r4⟩:=fr5 b1.out
  by_cases hz2: (m.nc:Int)<s.n
  {
  have HE:=hide (HL2.out hz (by rw [hnl];exact hz2));clear hz hnl;go_wp2_with fail;refine bodyPost_ret (v:=.tuple #[cpv 0 0 0 ⟨none,0,0,none,0,0⟩,.int .i64 5]) (by simp [results,Tryz.results191,go_sem,cpv,t0,t1,t2,t3,t4]) rfl ?_;have hbF:Below w.heap.size w (puts X w.heap.size 0 [.int .i64 0,.int .i64 0,.int .i64 0,.slice none 0 0,.slice none 0 0]):=hbA.trans (zbd _ (Nat.le_refl _) hbA.size);have hfin:LcAns w (KV Z q) (lastC v) (.returned (.tuple #[cpv 0 0 0 ⟨none,0,0,none,0,0⟩,.int .i64 5])) (puts X w.heap.size 0 [.int .i64 0,.int .i64 0,.int .i64 0,.slice none 0 0,.slice none 0 0]):=by rw [HE.out];exact⟨⟨_,rfl,ci9 _ _⟩,hbF⟩
  exact hfin
  }
  obtain ⟨k0,hk0⟩: ∃k0:Nat,s.n= (k0:Int)+1:=⟨(s.n - 1).toNat,by omega⟩;have hkl:k0<v.cs.length:=by omega
  have hku:v.cs[k0]?=some v.cs[k0]:=List.getElem?_eq_getElem hkl;have HE:Hid (lastC v= (v.cs[k0],0)):=(HL3.out hz (by rw [hnl];omega)).trans (by rw [show(s.n - 1).toNat=k0 by omega];simp [hkl]);have hkI: (k0:Int)< (m.nc:Int):=by omega
  have hwr:IntKind.i64.wrap (s.n - 1)= (k0:Int):=by rw [IntKind.wrap_i64];omega
  obtain ⟨mc,ci,y0,y1,y2,y3,y4⟩:=H.out.campAt hku;have HC0:=hide ci;replace y0:=(hbA.cell (zah y0)).trans y0;replace y1:=(hbA.cell (zah y1)).trans y1;replace y2:=(hbA.cell (zah y2)).trans y2;replace y3:=(hbA.cell (zah y3)).trans y3;replace y4:=(hbA.cell (zah y4)).trans y4;have hne2:w.heap.size≠w2.heap.size:=by omega
  have hneB:w.heap.size≠q.B:=by omega
  have hneC:w.heap.size≠q.bc:=by have:=H.out.cs.lt;omega
  have hz2' : ¬(m.nc:Int)<s.n:=hz2;have HKo:=hide hk0;clear hz hnl hk0 ci hku HL HL2 HL3 d hs0 hs8 hs1 hs2;generalize v.cs[k0]=x at *;clear hkl;go_upto_region 8 with fail
  refine wp_region_held_drew (S:=fun W' =>W'.cell? ⟨q.B,12,none⟩=some (.slice (some ⟨q.bc,0,none⟩) m.nc m.cc)∧W'.cell? ⟨w2.heap.size,0,none⟩=some (.int .i64 s.n)∧W'.cell? ⟨q.bc,k0 * 5,none⟩=some (.int .i64 x.n)∧W'.cell? ⟨q.bc,k0 * 5+1,none⟩=some (.int .i64 x.v)∧W'.cell? ⟨q.bc,k0 * 5+2,none⟩=some (.int .i64 x.u)∧W'.cell? ⟨q.bc,k0 * 5+3,none⟩=some (.slice mc.at_ mc.nt mc.ct)∧W'.cell? ⟨q.bc,k0 * 5+4,none⟩=some (.slice mc.ai mc.ni mc.ci)) (by kernel_rfl) ⟨x12,s0,y0,y1,y2,y3,y4⟩ ?_;intro hHeld;refine Htk (i:=0) ?_
  try simp only [sq]
  refine Htk (i:=1) ?_
  try simp only [sq]
  refine Htk (i:=2) ?_
  try simp only [sq]
  refine Htk (i:=3) ?_
  try simp only [sq]
  refine Htk (i:=4) ?_
  try simp only [sq]
  refine Htk (i:=5) ?_
  try simp only [sq]
  refine Htk (i:=6) ?_
  try simp only [sq]
  refine Htk (i:=7) ?_
  try simp only [sq]
  refine Htk (i:=8) ?_
  try simp only [sq]
  have hch:Chg (fun b=>b=w.heap.size) X (((((X.setCell ⟨w.heap.size,0,none⟩ (.int .i64 x.n)).setCell ⟨w.heap.size,1,none⟩ (.int .i64 x.v)).setCell ⟨w.heap.size,2,none⟩ (.int .i64 x.u)).setCell ⟨w.heap.size,3,none⟩ (.slice mc.at_ mc.nt mc.ct)).setCell ⟨w.heap.size,4,none⟩ (.slice mc.ai mc.ni mc.ci)).drew:=((((((Chg.refl (fun b=>b=w.heap.size) X).set rfl _).set rfl _).set rfl _).set rfl _).set rfl _).drew;have hcS: (((((X.setCell ⟨w.heap.size,0,none⟩ (.int .i64 x.n)).setCell ⟨w.heap.size,1,none⟩ (.int .i64 x.v)).setCell ⟨w.heap.size,2,none⟩ (.int .i64 x.u)).setCell ⟨w.heap.size,3,none⟩ (.slice mc.at_ mc.nt mc.ct)).setCell ⟨w.heap.size,4,none⟩ (.slice mc.ai mc.ni mc.ci)).drew.cell? ⟨q.B,12,none⟩=some (.slice (some ⟨q.bc,0,none⟩) m.nc m.cc)∧(((((X.setCell ⟨w.heap.size,0,none⟩ (.int .i64 x.n)).setCell ⟨w.heap.size,1,none⟩ (.int .i64 x.v)).setCell ⟨w.heap.size,2,none⟩ (.int .i64 x.u)).setCell ⟨w.heap.size,3,none⟩ (.slice mc.at_ mc.nt mc.ct)).setCell ⟨w.heap.size,4,none⟩ (.slice mc.ai mc.ni mc.ci)).drew.cell? ⟨w2.heap.size,0,none⟩=some (.int .i64 s.n)∧(((((X.setCell ⟨w.heap.size,0,none⟩ (.int .i64 x.n)).setCell ⟨w.heap.size,1,none⟩ (.int .i64 x.v)).setCell ⟨w.heap.size,2,none⟩ (.int .i64 x.u)).setCell ⟨w.heap.size,3,none⟩ (.slice mc.at_ mc.nt mc.ct)).setCell ⟨w.heap.size,4,none⟩ (.slice mc.ai mc.ni mc.ci)).drew.cell? ⟨q.bc,k0 * 5,none⟩=some (.int .i64 x.n)∧(((((X.setCell ⟨w.heap.size,0,none⟩ (.int .i64 x.n)).setCell ⟨w.heap.size,1,none⟩ (.int .i64 x.v)).setCell ⟨w.heap.size,2,none⟩ (.int .i64 x.u)).setCell ⟨w.heap.size,3,none⟩ (.slice mc.at_ mc.nt mc.ct)).setCell ⟨w.heap.size,4,none⟩ (.slice mc.ai mc.ni mc.ci)).drew.cell? ⟨q.bc,k0 * 5+1,none⟩=some (.int .i64 x.v)∧(((((X.setCell ⟨w.heap.size,0,none⟩ (.int .i64 x.n)).setCell ⟨w.heap.size,1,none⟩ (.int .i64 x.v)).setCell ⟨w.heap.size,2,none⟩ (.int .i64 x.u)).setCell ⟨w.heap.size,3,none⟩ (.slice mc.at_ mc.nt mc.ct)).setCell ⟨w.heap.size,4,none⟩ (.slice mc.ai mc.ni mc.ci)).drew.cell? ⟨q.bc,k0 * 5+2,none⟩=some (.int .i64 x.u)∧(((((X.setCell ⟨w.heap.size,0,none⟩ (.int .i64 x.n)).setCell ⟨w.heap.size,1,none⟩ (.int .i64 x.v)).setCell ⟨w.heap.size,2,none⟩ (.int .i64 x.u)).setCell ⟨w.heap.size,3,none⟩ (.slice mc.at_ mc.nt mc.ct)).setCell ⟨w.heap.size,4,none⟩ (.slice mc.ai mc.ni mc.ci)).drew.cell? ⟨q.bc,k0 * 5+3,none⟩=some (.slice mc.at_ mc.nt mc.ct)∧(((((X.setCell ⟨w.heap.size,0,none⟩ (.int .i64 x.n)).setCell ⟨w.heap.size,1,none⟩ (.int .i64 x.v)).setCell ⟨w.heap.size,2,none⟩ (.int .i64 x.u)).setCell ⟨w.heap.size,3,none⟩ (.slice mc.at_ mc.nt mc.ct)).setCell ⟨w.heap.size,4,none⟩ (.slice mc.ai mc.ni mc.ci)).drew.cell? ⟨q.bc,k0 * 5+4,none⟩=some (.slice mc.ai mc.ni mc.ci):=⟨hch.cell x12 (fun e=>hneB e.symm),hch.cell s0 (fun e=>hne2 e.symm),hch.cell y0 (fun e=>hneC e.symm),hch.cell y1 (fun e=>hneC e.symm),hch.cell y2 (fun e=>hneC e.symm),hch.cell y3 (fun e=>hneC e.symm),hch.cell y4 (fun e=>hneC e.symm)⟩;refine wpAnyH_ready (rs:= [9]) (by kernel_rfl) (by simp) ?_;refine AllReadyH.cons (by rfl) (fun K hK=> ?_) AllReadyH.nil;go_simp;refine hK.out _ _ (hcS) (fun hHeld=> ?_);clear hK K
  try simp only [sq]
  refine Htk (i:=10) ?_
  try simp only [sq]
  refine wpAnyH_done (by kernel_rfl) ?_ _;go_wp2_with fail;refine bodyPost_ret (v:=.tuple #[cpv x.n x.v x.u mc,.int .i64 0]) (by simp [results,Tryz.results191,go_sem,cpv,t0,t1,t2,t3,t4]) rfl ?_;have hbF:Below w.heap.size w (((((X.setCell ⟨w.heap.size,0,none⟩ (.int .i64 x.n)).setCell ⟨w.heap.size,1,none⟩ (.int .i64 x.v)).setCell ⟨w.heap.size,2,none⟩ (.int .i64 x.u)).setCell ⟨w.heap.size,3,none⟩ (.slice mc.at_ mc.nt mc.ct)).setCell ⟨w.heap.size,4,none⟩ (.slice mc.ai mc.ni mc.ci)).drew:=hbA.trans (hch.below (fun b e=>by omega) hbA.size);have hfin:LcAns w (KV Z q) (lastC v) (.returned (.tuple #[cpv x.n x.v x.u mc,.int .i64 0])) (((((X.setCell ⟨w.heap.size,0,none⟩ (.int .i64 x.n)).setCell ⟨w.heap.size,1,none⟩ (.int .i64 x.v)).setCell ⟨w.heap.size,2,none⟩ (.int .i64 x.u)).setCell ⟨w.heap.size,3,none⟩ (.slice mc.at_ mc.nt mc.ct)).setCell ⟨w.heap.size,4,none⟩ (.slice mc.ai mc.ni mc.ci)).drew:=by rw [HE.out];exact⟨⟨mc,rfl,zja HC0.out hbF⟩,hbF⟩
  exact hfin
end
section
open Go.RowKit
attribute [local go_sem ↓] Go.wp_at_zero Go.wp_at_succ
theorem zof {w:World} {F0 b:Nat} {K:Nat→Prop} (hK: ∀b,K b→b<F0): ∀(l:List Ms) (off:Nat),(∀i m,l[i]?=some m→∃am nm cm,(BI w am nm m.ws∧zal F0 am)∧
      w.cell? ⟨b,off+i * 7,none⟩=some (.int .i64 m.k)∧w.cell? ⟨b,off+i * 7+1,none⟩=some (.int .i64 m.u)∧w.cell? ⟨b,off+i * 7+2,none⟩=some (.int .i64 m.n)∧w.cell? ⟨b,off+i * 7+3,none⟩=some (.int .i64 m.at')∧
      w.cell? ⟨b,off+i * 7+4,none⟩=some (.int .i64 m.im)∧w.cell? ⟨b,off+i * 7+5,none⟩=some (.slice am nm cm)∧w.cell? ⟨b,off+i * 7+6,none⟩=some (.bool m.y))→
    ∃vs,(∀j u,vs[j]?=some u→w.cell? ⟨b,off+j,none⟩=some u)∧Vs (MR w K) l vs
  | [],off,_=>⟨[],fun j u h=>by simp at h,rfl⟩
  |x::r,off,h=>by
    obtain ⟨am,nm,cm,⟨h0,hf⟩,c0,c1,c2,c3,c4,c5,c6⟩:=h 0 x rfl;obtain ⟨vs,h1,h2⟩:=zof hK r (off+7) (fun i m hm=>by
      have:=h (i+1) m (by simpa using hm);rw [show off+(i+1)* 7=off+7+i * 7 by omega] at this;exact this)
    simp only [Nat.zero_mul,Nat.add_zero] at c0 c1 c2 c3 c4 c5 c6;refine⟨[.int .i64 x.k,.int .i64 x.u,.int .i64 x.n,.int .i64 x.at',.int .i64 x.im,.slice am nm cm,.bool x.y]++vs,fun j u hu=> ?_,⟨_,vs,rfl,⟨am,nm,cm,rfl,h0,.fresh hf hK⟩,h2⟩⟩
    match j,hu with
    |0,hu=>cases hu;exact c0
    |1,hu=>cases hu;exact c1
    |2,hu=>cases hu;exact c2
    |3,hu=>cases hu;exact c3
    |4,hu=>cases hu;exact c4
    |5,hu=>cases hu;exact c5
    |6,hu=>cases hu;exact c6
    |j+7,hu=>
      have:=h1 j u (by simpa using hu)
      rwa [show off+7+j=off+(j+7) by omega] at this
theorem mswF_vs {w:World} {F0:Nat} {a:Option Addr} {l:List Ms} {K:Nat→Prop} (h:zep w F0 a l) (hK: ∀b,K b→b<F0): ∃vs,IsRow w a vs∧Vs (MR w K) l vs:=by
  rcases h with rfl| ⟨b,off,rfl,hc⟩
  { exact⟨[],.inl rfl,rfl⟩ }
  {
  obtain ⟨vs,h1,h2⟩:=zof hK l off hc;exact⟨vs,.inr ⟨b,off,rfl,h1⟩,h2⟩
  }
theorem poke_e {k:Int} (h:isU v k=true) (h2: (lastC v).2≠0): (pokeS v k).2= (lastC v).2:=by unfold pokeS;rw [if_neg (by rw [h];decide),if_pos h2]
def pokD (v:Vh) (k:Int):List Ms×Int:=gDue v.g (lastC v).1.n (lastC v).1.ts (lastC v).1.ims k
theorem poke_d {k:Int} (h:isU v k=true) (h2: (lastC v).2=0) (h3: (pokD v k).2≠0): (pokeS v k).2= (pokD v k).2:=by unfold pokD at h3;unfold pokeS pokD;rw [if_neg (by rw [h];decide),if_neg (by simpa using h2),if_pos h3]
theorem poke_0 {k:Int} (h:isU v k=true) (h2: (lastC v).2=0) (h3: (pokD v k).2=0):pokeS v k= (⟨v.ss,v.sg,v.g,v.us,v.cs,sendS v.net (pokD v k).1,v.now⟩,0):=by unfold pokD at h3;unfold pokeS pokD;rw [if_neg (by rw [h];decide),if_neg (by simpa using h2),if_neg (by simpa using h3)]
theorem poke_any (F:Nat) (Z:Nat→Prop) (q:VB) (m:VA) (v:Vh) (k:Int) (w:World) (h:VOwn w F Z q m v) (ok:VOk w F Z m v) (hgt:gtE v.g=0):
    Calls Tryz.prog 124 #[.pointer (some ⟨q.B,0,none⟩),.int .i64 k] w (HV w F Z q.B (pokeS v k)):=by
  have HN:=hide (zf7 F Z q m v k w h);have hlt:=h.lt;have hn24:=ok.nn;clear ok;cases hk:isU v k
  {
  have HE:Hid (pokeS v k= (vh0,5)):=by unfold pokeS;rw [if_pos hk];exact rfl
  rw [hk] at HN;clear hk h;go_enter Tryz.func124,Tryz.ntmps124;go_wp2_with fail;refine(zae HN).mono ?_;rintro e w1 ⟨rfl,hw1⟩;replace hw1:=hw1.symm;subst hw1;go_wp2_with fail;go_ret;exact zbs (by rw [HE.out]) (by decide) (Below.refl _ _)
  }
  rw [hk] at HN;have HL:=hide (lastC_any F Z q m v w h hgt);have H:=hide h;have P1:=hide (fun e=>poke_e (v:=v) hk e);have P2:=hide (fun e e2=>poke_d (v:=v) hk e e2);have P3:=hide (fun e e2=>poke_0 (v:=v) hk e e2);have HPD:Hid (pokD v k=gDue v.g (lastC v).1.n (lastC v).1.ts (lastC v).1.ims k):=rfl;clear hk h hgt;go_enter Tryz.func124,Tryz.ntmps124;go_wp2_with fail;refine(zae HN).mono ?_;rintro e w1 ⟨rfl,hw1⟩;replace hw1:=hw1.symm;subst hw1;go_wp2_with fail;refine(zae HL).mono ?_;rintro e w1 ⟨⟨mc,rfl,ci⟩,hb⟩;unfold cpv;obtain ⟨x,hx⟩: ∃x,x= (lastC v).1:=⟨_,rfl⟩;rw [←hx] at ci HPD⊢;generalize (lastC v).2=y at *;have hb1:Below w1.heap.size w1 (w1.alloc (.cells (aC x mc) 94)):=bA1;have hb2:Below w.heap.size w (w1.alloc (.cells (aC x mc) 94)):=bT hb hb1;have b1:=hide (heap_alloc_last w1 (.cells (aC x mc) 94));have HCI:=hide (zja ci hb1);have H2:=hide (H.out.below hb2);clear hx ci hb hb1 HN HL
  by_cases hy:y=0
  rotate_left
  {
  have d: (y !=0)=true:=by simpa using hy
  have HE:=hide (P1.out hy);have HY:=hide hy;clear hy;go_wp2_with fail;go_ret;exact zbs HE.out HY.out (hb2.mono hlt)
  }
  have d: (y !=0)=false:=by simpa using hy
  have HY:=hide hy;clear hy;go_upto_region 6 with fail
  generalize w1.alloc (.cells (aC x mc) 94)=W2 at *;have x2:=zaa H2.out.box 2 (.slice m.g.a m.g.n m.g.c) rfl;have x3:=zaa H2.out.box 3 (.int .i64 v.g.fu) rfl;have x4:=zaa H2.out.box 4 (.bool v.g.up) rfl;have x5:=zaa H2.out.box 5 (.int .i64 v.g.t.r.v) rfl;have x6:=zaa H2.out.box 6 (.slice m.g.ak m.g.nk m.g.ck) rfl;have x7:=zaa H2.out.box 7 (.int .i64 v.g.t.r.t) rfl;have x8:=zaa H2.out.box 8 (.int .i64 v.g.t.ver) rfl;have x9:=zaa H2.out.box 9 (.slice m.g.av m.g.nv m.g.cv) rfl;have x10:=zaa H2.out.box 10 (.slice m.g.ad m.g.nd m.g.cd) rfl;obtain ⟨z0,z1,z2,z3,z4⟩:=cl5 b1.out;have HD:=hide (fun W (hW:Below W2.heap.size W2 W)=>znj v.g m.g x.n x.v x.u mc x.ts x.ims k W (H2.out.g.below hW) (HCI.out.ts.below hW) (HCI.out.ims.below hW));rw [←HPD.out] at HD;unfold gtv cpv at HD;refine wp_region_held_drew (S:=fun W' =>W'.cell? ⟨q.B,2,none⟩=some (.slice m.g.a m.g.n m.g.c)∧W'.cell? ⟨q.B,3,none⟩=some (.int .i64 v.g.fu)∧W'.cell? ⟨q.B,4,none⟩=some (.bool v.g.up)∧W'.cell? ⟨q.B,5,none⟩=some (.int .i64 v.g.t.r.v)∧W'.cell? ⟨q.B,6,none⟩=some (.slice m.g.ak m.g.nk m.g.ck)∧W'.cell? ⟨q.B,7,none⟩=some (.int .i64 v.g.t.r.t)∧W'.cell? ⟨q.B,8,none⟩=some (.int .i64 v.g.t.ver)∧W'.cell? ⟨q.B,9,none⟩=some (.slice m.g.av m.g.nv m.g.cv)∧W'.cell? ⟨q.B,10,none⟩=some (.slice m.g.ad m.g.nd m.g.cd)∧W'.cell? ⟨w1.heap.size,0,none⟩=some (.int .i64 x.n)∧W'.cell? ⟨w1.heap.size,1,none⟩=some (.int .i64 x.v)∧W'.cell? ⟨w1.heap.size,2,none⟩=some (.int .i64 x.u)∧W'.cell? ⟨w1.heap.size,3,none⟩=some (.slice mc.at_ mc.nt mc.ct)∧W'.cell? ⟨w1.heap.size,4,none⟩=some (.slice mc.ai mc.ni mc.ci)) (by kernel_rfl) ⟨x2,x3,x4,x5,x6,x7,x8,x9,x10,z0,z1,z2,z3,z4⟩ ?_;intro hHeld;refine Htk (i:=0) ?_
  try simp only [sq]
  refine Htk (i:=1) ?_
  try simp only [sq]
  refine Htk (i:=2) ?_
  try simp only [sq]
  refine Htk (i:=3) ?_
  try simp only [sq]
  refine Htk (i:=4) ?_
  try simp only [sq]
  refine Htk (i:=5) ?_
  try simp only [sq]
  refine wpAnyH_ready (rs:= [6]) (by kernel_rfl) (by simp) ?_;refine AllReadyH.cons (by rfl) (fun K hK=> ?_) AllReadyH.nil;go_simp;have hbd:Below W2.heap.size W2 W2.drew:=(Below.refl _ _).drew;refine(zae HD _ hbd).mono ?_;rintro e w3 ⟨⟨a3,n3,c3,rfl,ms3,l3,cc3,-⟩,hb3⟩;replace hbd:Below W2.heap.size W2 w3:=hbd.trans hb3;have H3:=H2.out.below hbd;replace b1:=hide (zab b1.out hbd);clear x2 x3 x4 x5 x6 x7 x8 x9 x10 z0 z1 z2 z3 z4 hHeld;have x2:=zaa H3.box 2 (.slice m.g.a m.g.n m.g.c) rfl;have x3:=zaa H3.box 3 (.int .i64 v.g.fu) rfl;have x4:=zaa H3.box 4 (.bool v.g.up) rfl;have x5:=zaa H3.box 5 (.int .i64 v.g.t.r.v) rfl;have x6:=zaa H3.box 6 (.slice m.g.ak m.g.nk m.g.ck) rfl;have x7:=zaa H3.box 7 (.int .i64 v.g.t.r.t) rfl;have x8:=zaa H3.box 8 (.int .i64 v.g.t.ver) rfl;have x9:=zaa H3.box 9 (.slice m.g.av m.g.nv m.g.cv) rfl;have x10:=zaa H3.box 10 (.slice m.g.ad m.g.nd m.g.cd) rfl;obtain ⟨z0,z1,z2,z3,z4⟩:=cl5 b1.out;obtain ⟨mv,hr3,hv3⟩:=mswF_vs ms3 (K:=KV Z q) (fun b e=>H2.out.kv b e);have HS:=hide (zgs F Z q m v a3 n3 c3 (pokD v k).1 mv w3 H3 hn24 hr3 hv3 l3 cc3);have HB:=hide ((bT hb2 hbd));clear ms3 l3 cc3 hr3 hv3 H3 hb3 HD HCI b1 hbd;generalize pokD v k=r at *;refine hK.out _ _ (⟨x2,x3,x4,x5,x6,x7,x8,x9,x10,z0,z1,z2,z3,z4⟩) (fun hHeld=> ?_);clear hK K
  try simp only [sq]
  refine Htk (i:=7) ?_
  try simp only [sq]
  refine Htk (i:=8) ?_
  try simp only [sq]
  refine Htk (i:=9) ?_
  try simp only [sq]
  refine Htk (i:=10) ?_
  try simp only [sq]
  refine Htk (i:=11) ?_
  try simp only [sq]
  refine wpAnyH_done (by kernel_rfl) ?_ _;clear x2 x3 x4 x5 x6 x7 x8 x9 x10 z0 z1 z2 z3 z4 hHeld
  by_cases hz:r.2=0
  rotate_left
  {
  have d2: (r.2 !=0)=true:=by simpa using hz
  have HE:=hide (P2.out HY.out hz);have HZ:=hide hz;clear hz;generalize r.2=y2 at *;go_wp2_with fail;go_ret;exact zbs HE.out HZ.out (HB.out.mono hlt)
  }
  have d2: (r.2 !=0)=false:=by simpa using hz
  have HE:=hide (P3.out HY.out hz);clear hz;generalize r.2=y2 at *;go_wp2_with fail;refine(zae HS).mono ?_;rintro e w4 ⟨rfl,hs4⟩;go_wp2_with fail;go_ret;exact zif HE.out hs4 (HB.out.mono hlt)
end
end Go.Proofs.YthmekfcgdfckaaaGreatDoor
