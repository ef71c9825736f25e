/- The contract of vehicle.New, where it makes a vehicle. -/
import Derived.Test.YthmekfcgdfckaaaGreatDoorWn38
import Derived.Test.YthmekfcgdfckaaaGreatDoorWn36
set_option maxRecDepth 1000000
set_option maxHeartbeats 0
namespace Go.Proofs.YthmekfcgdfckaaaGreatDoor
section
open Go.RowKit
def bdP (t:TypeId) (ps:Array (Nat×Value)):Sem Value:=Instr.build t ps
theorem exV_bp (ρ:Operand→Value) (dst:Option Tmp) (x0 x1 x2 x3:Operand) (ty:TypeId) (pos:String) (after:Array Edge) (guard:Option (Nat×Bool)):
    execOp ρ { dst,op:=.build 40 #[(0,x0),(1,x1),(2,x2),(3,x3)],type:=ty,pos,after,guard }= (do pure (.value (←bdP 40 #[(0,ρ x0),(1,ρ x1),(2,ρ x2),(3,ρ x3)]))):=by
  simp only [execOp,bdP,List.map_toArray,List.map_cons,List.map_nil]
attribute [local go_sem ↓] exV_bp Go.wp_at_zero Go.wp_at_succ zhy zhp zhu exG_ld exG_st exG_al
attribute [local go_sem] zgl zgn zgi rdF_V wrF_V rdG_run wrG_run alG_run rdF_G wrF_G zgj World.setRow_alloc_new
def nwV (ss:List ByteArray) (sg:List S2) (r:Rt) (ims:List (List Int)):Vh:=⟨ss,sg,(gNew r ims.length).1,ims.map (unF ss), [], [],0⟩
theorem zj0 {ss:List ByteArray} (h:bookE ss=0):ss.length≤60:=by
  unfold bookE at h
  split at h
  { cases h }
  { omega }
theorem sigE_few {l:List S2} (h:sigE l=0):l.length≤360:=by
  unfold sigE at h
  split at h
  { cases h }
  { omega }
theorem vNew_any (ab:Option Addr) (nb cb:Nat) (ss:List ByteArray) (sa:Option Addr) (ns cs:Nat) (sg:List S2) (r:Rt) (ak:Option Addr) (nk ck:Nat) (ai:Option Addr) (ni ci:Nat) (ims:List (List Int)) (w:World)
    (hb:BB w ab nb cb ss) (hs:BG w sa ns sg) (hr:BI w ak nk r.ks) (hi:BL w ai ni ims) (hT:Tab w) (e1:bookE ss=0) (e2:sigE sg=0) (e3: (gNew r ims.length).2=0) (hok: ∀im∈ims,UnOk ss im) (hn:ni≤1000):
    Calls Tryz.prog 12 #[bookv ab nb cb,.slice sa ns cs,.agg #[.int .i64 r.v,.slice ak nk ck,.int .i64 r.t],.slice ai ni ci] w (DoAns w (nwV ss sg r ims,0)):=by
  have hw:Below w.heap.size w (((w.alloc (.cells #[.slice ab nb cb] 24)).alloc (.cells #[.int .i64 r.v,.slice ak nk ck,.int .i64 r.t] 30)).alloc (.cells (vhC vh0 va0) 40)):=(bA2).alloc (by simp;omega) _;have b0:=hide (zai (zai (heap_alloc_last w (.cells #[.slice ab nb cb] 24)) (.cells #[.int .i64 r.v,.slice ak nk ck,.int .i64 r.t] 30)) (.cells (vhC vh0 va0) 40));have b1:=hide (zai (zau w (.cells #[.slice ab nb cb] 24) (.cells #[.int .i64 r.v,.slice ak nk ck,.int .i64 r.t] 30)) (.cells (vhC vh0 va0) 40));have b2:=hide (zb9 w (.cells #[.slice ab nb cb] 24) (.cells #[.int .i64 r.v,.slice ak nk ck,.int .i64 r.t] 30) (.cells (vhC vh0 va0) 40));have HB:=hide hb;have HS:=hide hs;have HI:=hide hi;have HR:=hide hr;have HT:=hide hT;have HO:=hide hok;have HM:=hide hn;have HN:Hid (ims.length=ni):=hi.len;have E3:=hide e3;have d1: (bookE ss !=0)=false:=by simpa using e1
  have d2: (sigE sg !=0)=false:=by simpa using e2
  have H60:=hide e1;have H36:=hide e2;clear hb hs hr hi hT hok hn e1 e2 e3;unfold bookv;have y0:=zaa b0.out 0 _ rfl;go_enter Tryz.func12,Tryz.ntmps12;go_wp2_with fail;generalize ((w.alloc (.cells #[.slice ab nb cb] 24)).alloc (.cells #[.int .i64 r.v,.slice ak nk ck,.int .i64 r.t] 30)).alloc (.cells (vhC vh0 va0) 40)=W at *;have hB1:=HB.out.below hw;have HC:=hide (zdw ab nb cb ss W hB1.at_ hB1.len hB1.cap hB1.short);unfold bookv at HC;refine(zae HC).mono ?_;rintro e w1 ⟨rfl,hb1⟩;clear HC hB1;have hw1:=bT hw hb1;have HC:=hide (zd3 sa ns cs sg w1 (HS.out.below hw1));clear y0;go_wp2_with fail;refine(zae HC).mono ?_;rintro e w2 ⟨rfl,hb2⟩;clear HC;have hb12:=bT hb1 hb2;have hw2:=bT hw hb12;obtain ⟨z0,z1,z2⟩:w2.cell? ⟨w.heap.size+1,0,none⟩=some (.int .i64 r.v)∧w2.cell? ⟨w.heap.size+1,1,none⟩=some (.slice ak nk ck)∧w2.cell? ⟨w.heap.size+1,2,none⟩=some (.int .i64 r.t):=⟨zaa (zab b1.out hb12) 0 _ rfl,zaa (zab b1.out hb12) 1 _ rfl,zaa (zab b1.out hb12) 2 _ rfl⟩;have HC:=hide (zpt r ak nk ck ni w2 (HR.out.below hw2));clear b1 d1;go_wp2_with fail;refine(zae HC).mono ?_;rintro e w3 ⟨⟨k3,rfl,hg3,hf3⟩,hb3⟩;rw [zud];clear HC d2 z0 z1 z2;have hgn:Hid ((nwV ss sg r ims)= ⟨ss,sg,(gNew r ni).1,ims.map (unF ss), [], [],0⟩):=by show _=_;unfold nwV;rw [HN.out]
  have d3: ((gNew r ni).2 !=0)=false:=by have:=E3.out;rw [HN.out] at this;simpa using this
  clear E3;generalize gNew r ni=q at *;obtain ⟨gt,e3⟩:=q;dsimp only at hg3 hgn d3⊢;have hb4:Below w3.heap.size w3 (w3.alloc (.cells (gaC gt k3) 35)):=bA1;have bg:=hide (heap_alloc_last w3 (.cells (gaC gt k3) 35));have hb34:=bT hb3 hb4;have hb24:=bT hb12 hb34;have hw4:=bT hw hb24;have HG:=hide (hg3.below hb4);have HC:=hide (zi0 ab nb cb ss ai ni ci ims _ (HB.out.below hw4) (HI.out.below hw4) (HT.out.below hw4) HO.out HM.out);have y0:=zaa (zab b0.out hb24) 0 _ rfl;unfold bookv at HC;have hs2:w.heap.size+1+1+1≤w2.heap.size:=by have:=zak b2.out;have:=hb12.size;omega
  have HF:Hid (GFr (w.heap.size+1+1+1) k3):=⟨zal.mono hf3.a hs2,zal.mono hf3.ak hs2,zal.mono hf3.av hs2,zal.mono hf3.ad hs2⟩;clear hs2;have hsz3:w.heap.size+1+1<w3.heap.size:=by have:=zak b2.out;have:=hb12.size;have:=hb3.size;omega
  have HKK:Hid (∀b,((b<w.heap.size∧Sm w b)∨b=w.heap.size+1+1)→b< (w3.alloc (.cells (gaC gt k3) 35)).heap.size∧Sm (w3.alloc (.cells (gaC gt k3) 35)) b):=fun b e=>by
    rcases e with ⟨e1,cs1,t1,e2,e3⟩|e
    { exact⟨Nat.lt_of_lt_of_le e1 hw4.size,cs1,t1,zab e2 hw4,e3⟩ }
    {
    rw [e];exact⟨zak (zab b2.out hb24),_,_,zab b2.out hb24,by show 15<192;decide⟩
    }
  clear hg3 hf3 hb3 hb34 hb4;go_wp2_with fail;generalize (w3.alloc (.cells (gaC gt k3) 35))=W4 at *;refine(zae HC).mono ?_;rintro e w5 ⟨⟨au,nu,cu,rfl,hu5⟩,hb5⟩;clear HC y0;have hb25:=bT hb24 hb5;have hw5:=bT hw hb25;have HU:=hide hu5;replace HG:=hide (HG.out.below hb5);replace bg:=hide (zab bg.out hb5);replace b0:=hide (zab b0.out hb25);replace b2:=hide (zab b2.out hb25);have HTB:=hide (fun W (hW:Below w5.heap.size w5 W)=>zhj ss ab nb cb W (HB.out.below ((bT hw5 hW))) (by have:=zj0 H60.out;have:=HB.out.len;omega));have HCS:=hide (fun W (hW:Below w5.heap.size w5 W)=>zip sa ns cs (sgs sg) W (sgs_row (HS.out.below ((bT hw5 hW))).at_) (by rw [sgs_len,HS.out.len]) (zlr _) (by have:=sigE_few H36.out;have:=HS.out.len;omega));unfold bookv at HTB;have HLS:Hid (sg.length=ns∧ns≤maxLen):=⟨HS.out.len,HS.out.max⟩;have hs45:w3.heap.size<w5.heap.size:=zak bg.out;clear hu5 hb5 hb24 hb25 hb12 hb1 hb2 hw1 hw2 hw4 hw HB HS HI HR HT HO HM HN H60 H36;go_upto_region 13 with fail
  have hd0:Below w5.heap.size w5 w5.drew:=(Below.refl _ _).drew;have HSS:Hid (∀W',Below w5.heap.size w5 W' →W'.cell? ⟨w.heap.size,0,none⟩=some (.slice ab nb cb)∧bk W' w3.heap.size=some (.cells (gaC gt k3) 35 (0,0))):=fun W' hW=>⟨zaa (zab b0.out hW) 0 _ rfl,zab bg.out hW⟩
  refine wp_region_held_drew (S:=fun W' =>W'.cell? ⟨w.heap.size,0,none⟩=some (.slice ab nb cb)∧bk W' w3.heap.size=some (.cells (gaC gt k3) 35 (0,0))) (by kernel_rfl) (HSS.out _ hd0) ?_;intro hHeld;refine Htk (i:=0) ?_
  try simp only [sq]
  refine Htk (i:=2) ?_
  try simp only [sq]
  refine Htk (i:=4) ?_
  try simp only [sq]
  refine Htk (i:=5) ?_
  try simp only [sq]
  refine wpAnyH_ready (rs:= [1]) (by kernel_rfl) (by simp) ?_;refine AllReadyH.cons (by rfl) (fun K hK=> ?_) AllReadyH.nil;go_simp;refine(zae HTB _ hd0).mono ?_;rintro e w6 ⟨⟨g1,hg1,hg2,rfl,hbb⟩,hb6⟩;have hd6:Below w5.heap.size w5 w6:=hd0.trans hb6;refine hK.out _ _ (HSS.out _ hd6) (fun hHeld=> ?_);clear hK K
  try simp only [sq]
  refine wpAnyH_ready (rs:= [3]) (by kernel_rfl) (by simp) ?_;refine AllReadyH.cons (by rfl) (fun K hK=> ?_) AllReadyH.nil;go_simp;refine(zae HCS _ hd6).mono ?_;rintro e w7 ⟨rfl,rfl⟩;have hb7:Below w6.heap.size w6 (w6.alloc (.cells (sgs sg).toArray 111)):=bA1;have hd7:=bT hd6 hb7;have HBB:=hide (hbb.below hb7);have bs7:=hide (heap_alloc_last w6 (.cells (sgs sg).toArray 111));have hsz6:=hd6.size;clear hb6 hb7 hbb HTB HCS;refine hK.out _ _ (HSS.out _ hd7) (fun hHeld=> ?_);clear hK K
  try simp only [sq]
  have hbd:=fun W=>run_build (P:=Tryz.prog) W 40 #[(0,.agg #[.slice (some ⟨g1,0,none⟩) nb nb]),(1,.slice (some ⟨w6.heap.size,0,none⟩) ns ns),(2,.agg (gaC gt k3)),(3,.slice au nu cu)] (vhC ⟨ss,sg,gt,ims.map (unF ss), [], [],0⟩ ⟨some ⟨g1,0,none⟩,nb,nb,some ⟨w6.heap.size,0,none⟩,ns,ns,k3,au,nu,cu,none,0,0,none,0,0⟩) (by kernel_rfl)
  change∀W,(bdP _ _).run _ _=_ at hbd
  refine Htk (i:=6) ?_
  try simp only [sq]
  have h8:=bk_v (zab b2.out hd7);refine wpAnyH_ready (rs:= [7]) (by kernel_rfl) (by simp) ?_;refine AllReadyH.cons (by rfl) (fun K hK=> ?_) AllReadyH.nil;go_simp;have hn3:w3.heap.size≠w.heap.size+1+1:=by omega
  have hch:=zcv (w6.alloc (.cells (sgs sg).toArray 111)) (w.heap.size+1+1) (vhC ⟨ss,sg,gt,ims.map (unF ss), [], [],0⟩ ⟨some ⟨g1,0,none⟩,nb,nb,some ⟨w6.heap.size,0,none⟩,ns,ns,k3,au,nu,cu,none,0,0,none,0,0⟩);have HZ:=hide (setRow_heap (w6.alloc (.cells (sgs sg).toArray 111)) (w.heap.size+1+1) _ (vhC ⟨ss,sg,gt,ims.map (unF ss), [], [],0⟩ ⟨some ⟨g1,0,none⟩,nb,nb,some ⟨w6.heap.size,0,none⟩,ns,ns,k3,au,nu,cu,none,0,0,none,0,0⟩) _ _ (zab b2.out hd7));refine hK.out _ _ (⟨hch.cell hHeld.1 (by show¬w.heap.size=_;omega),hch.blk hHeld.2 hn3⟩) (fun hHeld=> ?_);clear hK K
  try simp only [sq]
  refine Htk (i:=8) ?_
  try simp only [sq]
  refine wpAnyH_done (by kernel_rfl) ?_ _;have HFin:DoAns w (nwV ss sg r ims,0) (.returned (.tuple #[vhv ⟨ss,sg,gt,ims.map (unF ss), [], [],0⟩ ⟨some ⟨g1,0,none⟩,nb,nb,some ⟨w6.heap.size,0,none⟩,ns,ns,k3,au,nu,cu,none,0,0,none,0,0⟩,.int .i64 0])) ((w6.alloc (.cells (sgs sg).toArray 111)).setRow (w.heap.size+1+1) (vhC ⟨ss,sg,gt,ims.map (unF ss), [], [],0⟩ ⟨some ⟨g1,0,none⟩,nb,nb,some ⟨w6.heap.size,0,none⟩,ns,ns,k3,au,nu,cu,none,0,0,none,0,0⟩)):=by
    rw [hgn.out];have hs5:w5.heap.size≤g1:=hg1;have hK: ∀b,((b<w.heap.size∧Sm w b)∨b=w.heap.size+1+1)→b<w.heap.size+1+1+1:=fun b e=>by rcases e with e|e<;>omega
    have hv:VIn (w6.alloc (.cells (sgs sg).toArray 111)) (fun b=>(b<w.heap.size∧Sm w b)∨b=w.heap.size+1+1) ⟨some ⟨g1,0,none⟩,nb,nb,some ⟨w6.heap.size,0,none⟩,ns,ns,k3,au,nu,cu,none,0,0,none,0,0⟩ ⟨ss,sg,gt,ims.map (unF ss), [], [],0⟩:=by
      refine⟨HBB.out,⟨sgs_of (.inr ⟨w6.heap.size,0,rfl,fun j u hu=>by rw [Nat.zero_add];exact zaa bs7.out j u (by simpa using hu)⟩),HLS.out.1,HLS.out.2⟩,HG.out.below hd7,((HU.out.wide UR.off (K' :=fun b=>(b<w.heap.size∧Sm w b)∨b=w.heap.size+1+1) fun b e=>.inl (HKK.out b e)).chg UR.chg (.of hd7 _)),⟨⟨[],.inl rfl,rfl,.inl rfl⟩,rfl,Nat.le_refl _,Nat.zero_le _⟩,⟨⟨[],.inl rfl,rfl,.inl rfl⟩,rfl,Nat.le_refl _,Nat.zero_le _⟩,.at_ (fun e=> ?_),.at_ (fun e=> ?_),.fresh HF.out hK⟩
      { have:=hK _ e;omega }
      { have:=hK _ e;omega }
    have hx:=bT hw5 hd7;exact⟨⟨_,rfl,(hv.chg (hch.mono fun b e=>.inr e)).wide fun b e=>.inl (.inl e)⟩,hx.trans (hch.below (fun b e=>by rw [e];omega) hx.size)⟩
  clear hbd h8 hHeld hch HSS;go_wp2_with fail;refine bodyPost_ret (resV2 rfl rfl rfl HZ.out) rfl ?_;exact HFin
end
end Go.Proofs.YthmekfcgdfckaaaGreatDoor
