/- What the closed fact 'driven' leans on: happenings in a row of one's own; closed plain facts. The closed fact 'driven'. Plain facts of VehicleNet: what a tick, a loss, a message that comes twice make of a vehicle that is checked. No program in this text. The contract of flash.Same. The contracts of vehicle.Same's pieces, of what is alike: units, messages. slices.Equal of two lists that are alike: strings, signed texts, targets, bools. -/
import Derived.Test.YthmekfcgdfckaaaGreatDoorWn40
import Derived.Test.YthmekfcgdfckaaaGreatDoorWn0
import Derived.Test.YthmekfcgdfckaaaGreatDoorWn36
import Derived.Test.YthmekfcgdfckaaaGreatDoorWn2
import Derived.Test.YthmekfcgdfckaaaGreatDoorWn27
import Derived.Laws.StructEq
import Derived.BigQuiet
set_option maxRecDepth 1000000
set_option maxHeartbeats 0
namespace Go.Proofs.YthmekfcgdfckaaaGreatDoor
variable {w:World} {K:Nat→Prop} {l:List Hp} {a:Option Addr} {v:Vh} {o:Of} {k:Nat} {u:Int}
section
open Go.RowKit
theorem row_appN {P:Program} (w:World) (t e:TypeId) (F:Nat) (i:TypeInfo) (z:Value) (size bytes:Nat) (ht:P.underlying t=some (.slice e)) (hi:P.info? e=some i) (hz:i.zero=some z) (hs:i.size=size) (hb:i.bytes=bytes) (hzs:z.cells.size=size) (hs0:0<size) (hb2:bytes≤1000)
    (v:Value) (n:Nat) (vs:List Value) (h:w.ownsRow F e size v n vs) (m:Nat) (hm0:0<m) (hm:m≤1000) (c:Array Value) (hc:c.size=m * size) (h1:c.all (·.oneCell')=true) (hn:n≤1000) (hF:F≤w.heap.size):
    ∃g cap w4,(Builtin.append_ #[t,t] t #[v,.slice (some ⟨w.heap.size,0,none⟩) m m]).run P (w.alloc (.cells c e))=.ok (.slice (some ⟨g,0,none⟩) (n+m) cap) w4∧w4.ownsRow F e size (.slice (some ⟨g,0,none⟩) (n+m) cap) (n+m) (vs++c.toList)∧Chg (fun b=>v.ownBlock=some b) w w4∧Nw w v (.slice (some ⟨g,0,none⟩) (n+m) cap):=by
  have hbl:Below w.heap.size w (w.alloc (.cells c e)):=bA1;have hby: (n+m)* bytes≤140737488355328:=Nat.le_trans (Nat.mul_le_mul (show n+m≤2000 by omega) hb2) (by decide);obtain ⟨g,cap,w4,hr,ho,hg,hat,-⟩:=run_append_lies (P:=P) (w.alloc (.cells c e)) t t F e i z size bytes ht hi hz hs hb hzs hs0 v n vs (h.alloc _) ⟨w.heap.size,0,none⟩ m m c.toList (by rw [Array.length_toList,hc]) (World.news_of_block (heap_alloc_last w (.cells c e))) (fun u hu=>Array.all_eq_true_iff_forall_mem.1 h1 u (by simpa using hu)) hm0 (by unfold maxLen;omega) hby (Nat.le_trans hF hbl.size) _ rfl;refine⟨g,cap,w4,hr,ho,(Chg.of hbl _).trans (Chg.grown hg fun b e=>e), ?_⟩
  rcases hat with h|h
  { exact .inl (by rw [h];rfl) }
  {
  exact .inr ⟨g,rfl,by rw [h];exact hbl.size⟩
  }
structure SI (W:World) (l:List Hp) (v:Value) (wr:World):Prop where
  bel:Below W.heap.size W wr
  row: ∃vs,wr.ownsRow W.heap.size 49 10 v l.length vs∧Vs (HR W (fun _=>False)) l vs
theorem HR.below {w' :World} (hb:Below w.heap.size w w') (x:Hp) (c:List Value) (h:HR w K x c):HR w' K x c:=by
  obtain ⟨mo,e,h1⟩:=h;exact⟨mo,e,h1.below hb⟩
theorem SI.nil (W wr:World) (hb:Below W.heap.size W wr):SI W [] (.slice none 0 0) wr:=⟨hb, [],World.ownsRow_nil _ _ _ _,rfl⟩
theorem SI.rin {W wr:World} {n c:Nat} (h:SI W l (.slice a n c) wr) (hn:l.length=n) (hm:n≤1000):RIn HR wr (fun _=>False) a n c l:=by
  obtain ⟨vs,h1,h2⟩:=h.row;rw [hn] at h1;exact⟨⟨vs,zdd h1,h2.mono (HR.below h.bel),Ao.no⟩,hn,zlo h1,by unfold maxLen;omega⟩
theorem SI.keep {W wr w' :World} {v:Value} (h:SI W l v wr) (hb:Below wr.heap.size wr w'):SI W l v w' :=by
  obtain ⟨vs,h1,h2⟩:=h.row;exact⟨h.bel.trans (hb.mono h.bel.size),vs,zba h1 hb,h2⟩
theorem SI.app {W wr w4:World} {l2:List Hp} {v v' :Value} {cs:List Value} (h:SI W l v wr) (hc:Chg (fun b=>v.ownBlock=some b) wr w4) (hv:Vs (HR W (fun _=>False)) l2 cs)
    (ho: ∀vs,wr.ownsRow W.heap.size 49 10 v l.length vs→w4.ownsRow W.heap.size 49 10 v' (l.length+l2.length) (vs++cs)):SI W (l++l2) v' w4:=by
  obtain ⟨vs,h1,h2⟩:=h.row;refine⟨h.bel.trans (hc.below (fun b e=>(h1.lt b e).1) h.bel.size),_,by simpa using ho vs h1,h2.app hv⟩
theorem OR.bo {c:List Value} (h:OR w K o c): ∃mo,c= (ofC o.v o.u mo).toList∧BO w mo o:=by
  obtain ⟨h1,h2,m,e,n1,n2,⟨t1,-⟩,⟨s1,-⟩,⟨vs,i1,i2,-⟩,i4,i5⟩:=h;exact⟨m,e,⟨.inl h1,by rw [h1,n1];rfl,by rw [n1];decide⟩,⟨.inl h2,by rw [h2,n2];rfl,by rw [n2];decide⟩,t1,s1,⟨ziz i1 i2,i4,i5⟩⟩
theorem bo9 (w:World):BO w oa9 of9:=⟨⟨.inl rfl,rfl,by decide⟩,⟨.inl rfl,rfl,by decide⟩,⟨.inl rfl,rfl,by decide⟩,⟨.inl rfl,rfl,by decide⟩,⟨.inl rfl,rfl,by decide⟩⟩
theorem zme {l:List Of} {vs:List Value} {i:Nat} (hr:IsRow w a vs) (h:Vs (OR w K) l vs) (hi:l[i]?=some o): ∃b off mo,a=some ⟨b,off,none⟩∧BO w mo o∧∀j v,(ofC o.v o.u mo).toList[j]?=some v→w.cell? ⟨b,off+i * 7+j,none⟩=some v:=by
  obtain ⟨b,off,c,rfl,h1,hc⟩:=hr.elem OR.len (by decide) h hi;obtain ⟨mo,e,hb⟩:=h1.bo;exact⟨b,off,mo,rfl,hb,fun j v hv=>hc j v (by rw [e];exact hv)⟩
theorem infoHap: (Tryz.prog.info? 49).map (fun i=>(i.zero,i.size,i.bytes))=some (some (.agg (hpC hp9 oa9)),10,160):=by kernel_rfl
def dV:Vh:=nwV (outF 1 9 4).ss (outF 1 9 4).sg rtF (outF 1 9 4).fst
def hpK (k:Int):Hp:=⟨k,0,0,of9⟩
def dO (k:Nat):Of:=(facO 1 9).getD k of9
def dS:List Hp:= [⟨1,0,0,dO 2⟩,⟨1,0,0,dO 0⟩,hpK 2]++ [hpK 3]++ [hpK 3]++ [hpK 3]++ [hpK 3]++ [hpK 2,hpK 3,hpK 3]
theorem dV_ok:vhE dV=0∧(facO 1 9).length=3∧(dO 0).imgs.length=1∧(dO 0).imgs.getD 0 []=imgF 1 0:=by decide+kernel
theorem dR_ok: (runL dV dS).2.length=10∧(runL dV dS).2.getD 0 5=9∧(runL dV dS).2.getD 1 5=0∧(runL dV dS).1.us.length=1:=by decide+kernel
theorem dU_ok: (runsS ((runL dV dS).1.us.getD 0 un9)).1=imgF 1 0∧(runsS ((runL dV dS).1.us.getD 0 un9)).2.2=0:=by decide+kernel
theorem dG_ok: (zc3 (runL dV dS).1.g).2=0∧(zc3 (runL dV dS).1.g).1.en=true∧(zc3 (runL dV dS).1.g).1.co=true:=by decide+kernel
theorem dS_run:runS dV dS= ((runL dV dS).1,(runL dV dS).2,0):=by
  unfold runS;rw [if_neg (by simpa using dV_ok.1),if_neg (by decide)]
theorem facOk_1:FacOk 1 9:=⟨by decide,by decide,by decide+kernel,by decide+kernel,by decide+kernel,by decide+kernel,by unfold UnOk;decide+kernel,by decide+kernel⟩
end
section
open Go.RowKit
attribute [local go_sem ↓] Go.wp_at_zero Go.wp_at_succ zhy zhp zhu exO_ld exU_ld exG_ld
attribute [local go_sem] zgl zgn zgi rdF_V wrF_V zgj zli World.setRow_alloc_new
theorem dO_at (h:k<3): (facO 1 9)[k]?=some (dO k):=by
  unfold dO;rw [List.getD_eq_getElem?_getD,List.getElem?_eq_getElem (by rw [dV_ok.2.1];exact h)];rfl
theorem own_made {g F n size:Nat} {c:Array Value} {e:TypeId} (h:w.heap[g]?=some (.cells c e (0,0))) (hc:c.size=n * size) (hF:F≤g) (hn:n≤maxLen):w.ownsRow F e size (.slice (some ⟨g,0,none⟩) n n) n c.toList:=
  ⟨by rw [Array.length_toList,hc],.inr ⟨g,n,c,rfl,hF,h,Nat.le_refl _,hn,hc,by rw [←hc,←Array.length_toList,List.take_length]⟩⟩
theorem rdO_at {W:World} {b o:Nat} {x:Of} {mo:OA} (hc: ∀j v,(ofC x.v x.u mo).toList[j]?=some v→w.cell? ⟨b,o+j,none⟩=some v) (hb:Below w.heap.size w W):
    (rdB 47 (.pointer (some ⟨b,o,none⟩))).run Tryz.prog W=.ok (.agg (aO mo x)) W:=
  rdO_mid W b o x.v x.u mo (fun j v hv=>(hb.cell (zah (hc j v hv))).trans (hc j v hv))
theorem zqf (w:World) (hT:Tab w):Calls Tryz.prog 15 #[] w fun e w' =>e=.returned (.bool true)∧Below w.heap.size w w' :=by
  have HF:Hid (Calls Tryz.prog 23 #[.int .i64 1,.int .i64 9] w (zh8 w 1 9)):=zpb 1 9 w hT facOk_1;have HT:=hide hT;clear hT;go_enter Tryz.func15,Tryz.ntmps15;go_wp2_with fail;refine(zae HF).mono ?_;rintro e w1 ⟨⟨m,oa,n,c,rfl,hv1,ho1⟩,hb1⟩;clear HF
  change VIn w1 _ m dV at hv1
  rw [show nwV (outF 1 9 4).ss (outF 1 9 4).sg rtF (outF 1 9 4).fst=dV from rfl];obtain rfl:n=3:=by rw [←ho1.len];exact dV_ok.2.1
  have hc3:=ho1.cap;obtain ⟨vs,r1,r2,-⟩:=ho1.row;obtain ⟨b,off,m2,rfl,hbo2,hc2⟩:=zme r1 r2 (dO_at (k:=2) (by omega));obtain ⟨b',off',m0,e0,hbo0,hc0⟩:=zme r1 r2 (dO_at (k:=0) (by omega));cases e0;simp only [Nat.reduceMul,Nat.add_zero] at hc2 hc0;have HL0:=hide (zfd hbo0.imgs.at_ 0 (by rw [dV_ok.2.2.1];omega));have HD2:=hide (fun W (hW:Below w1.heap.size w1 W)=>rdO_at hc2 hW);have HD0:=hide (fun W (hW:Below w1.heap.size w1 W)=>rdO_at hc0 hW);have H5:=hide (fun W (hW:Below w1.heap.size w1 W)=>(hW.cell (zah (hc0 6 _ rfl))).trans (hc0 6 _ rfl));have hb2:Below w1.heap.size w1 (w1.alloc (.cells (vhC dV m) 40)):=bA1;have bv:=hide (heap_alloc_last w1 (.cells (vhC dV m) 40));have HV:=hide (hv1.below hb2);have HW1:=hide hb1;unfold vhv;clear hc0 hc2 r1 r2 ho1 hv1 hb1 vs;go_upto_region 4 with fail
  have hd:=hb2.drew;generalize w1.alloc (.cells (vhC dV m) 40)=W2 at *;refine wp_region_held_drew (S:=fun W' =>(rdB 47 (.pointer (some ⟨b,off+14,none⟩))).run Tryz.prog W' =.ok (.agg #[.slice m2.a1 m2.n1 m2.c1,.slice m2.a2 m2.n2 m2.c2,.int .i64 (dO 2).v,.int .i64 (dO 2).u,.slice m2.a3 m2.n3 m2.c3,.slice m2.a4 m2.n4 m2.c4,.slice m2.a5 m2.n5 m2.c5]) W' ∧(rdB 47 (.pointer (some ⟨b,off,none⟩))).run Tryz.prog W' =.ok (.agg #[.slice m0.a1 m0.n1 m0.c1,.slice m0.a2 m0.n2 m0.c2,.int .i64 (dO 0).v,.int .i64 (dO 0).u,.slice m0.a3 m0.n3 m0.c3,.slice m0.a4 m0.n4 m0.c4,.slice m0.a5 m0.n5 m0.c5]) W') (by kernel_rfl) ⟨HD2.out _ hd,HD0.out _ hd⟩ ?_;intro hHeld;refine Htk (i:=0) ?_
  try simp only [sq]
  refine Htk (i:=1) ?_
  try simp only [sq]
  refine Htk (i:=2) ?_
  try simp only [sq]
  refine Htk (i:=3) ?_
  try simp only [sq]
  refine Htk (i:=4) ?_
  try simp only [sq]
  refine Htk (i:=5) ?_
  try simp only [sq]
  refine Htk (i:=6) ?_
  try simp only [sq]
  refine Htk (i:=7) ?_
  try simp only [sq]
  refine Htk (i:=8) ?_
  try simp only [sq]
  refine wpAnyH_ready (rs:= [9]) (by kernel_rfl) (by simp) ?_;refine AllReadyH.cons (by rfl) (fun K hK=> ?_) AllReadyH.nil;go_simp;have hb3:Below W2.heap.size W2 (W2.alloc (.cells #[.int .i64 1,.int .i64 0,.int .i64 0,.slice m2.a1 m2.n1 m2.c1,.slice m2.a2 m2.n2 m2.c2,.int .i64 (dO 2).v,.int .i64 (dO 2).u,.slice m2.a3 m2.n3 m2.c3,.slice m2.a4 m2.n4 m2.c4,.slice m2.a5 m2.n5 m2.c5,.int .i64 1,.int .i64 0,.int .i64 0,.slice m0.a1 m0.n1 m0.c1,.slice m0.a2 m0.n2 m0.c2,.int .i64 (dO 0).v,.int .i64 (dO 0).u,.slice m0.a3 m0.n3 m0.c3,.slice m0.a4 m0.n4 m0.c4,.slice m0.a5 m0.n5 m0.c5,.int .i64 2,.int .i64 0,.int .i64 0,.slice none 0 0,.slice none 0 0,.int .i64 0,.int .i64 0,.slice none 0 0,.slice none 0 0,.slice none 0 0] 49)).drew:=(bA1).drew;have hb13:=bT hb2 hb3;have HS3:Hid (SI W2 [⟨1,0,0,dO 2⟩,⟨1,0,0,dO 0⟩,hpK 2] (.slice (some ⟨W2.heap.size,0,none⟩) 3 3) (W2.alloc (.cells #[.int .i64 1,.int .i64 0,.int .i64 0,.slice m2.a1 m2.n1 m2.c1,.slice m2.a2 m2.n2 m2.c2,.int .i64 (dO 2).v,.int .i64 (dO 2).u,.slice m2.a3 m2.n3 m2.c3,.slice m2.a4 m2.n4 m2.c4,.slice m2.a5 m2.n5 m2.c5,.int .i64 1,.int .i64 0,.int .i64 0,.slice m0.a1 m0.n1 m0.c1,.slice m0.a2 m0.n2 m0.c2,.int .i64 (dO 0).v,.int .i64 (dO 0).u,.slice m0.a3 m0.n3 m0.c3,.slice m0.a4 m0.n4 m0.c4,.slice m0.a5 m0.n5 m0.c5,.int .i64 2,.int .i64 0,.int .i64 0,.slice none 0 0,.slice none 0 0,.int .i64 0,.int .i64 0,.slice none 0 0,.slice none 0 0,.slice none 0 0] 49)).drew):=
    ⟨hb3,_,own_made (show(W2.alloc (.cells #[.int .i64 1,.int .i64 0,.int .i64 0,.slice m2.a1 m2.n1 m2.c1,.slice m2.a2 m2.n2 m2.c2,.int .i64 (dO 2).v,.int .i64 (dO 2).u,.slice m2.a3 m2.n3 m2.c3,.slice m2.a4 m2.n4 m2.c4,.slice m2.a5 m2.n5 m2.c5,.int .i64 1,.int .i64 0,.int .i64 0,.slice m0.a1 m0.n1 m0.c1,.slice m0.a2 m0.n2 m0.c2,.int .i64 (dO 0).v,.int .i64 (dO 0).u,.slice m0.a3 m0.n3 m0.c3,.slice m0.a4 m0.n4 m0.c4,.slice m0.a5 m0.n5 m0.c5,.int .i64 2,.int .i64 0,.int .i64 0,.slice none 0 0,.slice none 0 0,.int .i64 0,.int .i64 0,.slice none 0 0,.slice none 0 0,.slice none 0 0] 49)).drew.heap[W2.heap.size]?=some (.cells #[.int .i64 1,.int .i64 0,.int .i64 0,.slice m2.a1 m2.n1 m2.c1,.slice m2.a2 m2.n2 m2.c2,.int .i64 (dO 2).v,.int .i64 (dO 2).u,.slice m2.a3 m2.n3 m2.c3,.slice m2.a4 m2.n4 m2.c4,.slice m2.a5 m2.n5 m2.c5,.int .i64 1,.int .i64 0,.int .i64 0,.slice m0.a1 m0.n1 m0.c1,.slice m0.a2 m0.n2 m0.c2,.int .i64 (dO 0).v,.int .i64 (dO 0).u,.slice m0.a3 m0.n3 m0.c3,.slice m0.a4 m0.n4 m0.c4,.slice m0.a5 m0.n5 m0.c5,.int .i64 2,.int .i64 0,.int .i64 0,.slice none 0 0,.slice none 0 0,.int .i64 0,.int .i64 0,.slice none 0 0,.slice none 0 0,.slice none 0 0] 49 (0,0)) from heap_alloc_last W2 _) rfl (Nat.le_refl _) (by decide),⟨(hpC ⟨1,0,0,dO 2⟩ m2).toList,_,rfl,⟨m2,rfl,hbo2.below hb2⟩,(hpC ⟨1,0,0,dO 0⟩ m0).toList,_,rfl,⟨m0,rfl,hbo0.below hb2⟩,(hpC (hpK 2) oa9).toList, [],rfl,⟨oa9,rfl,bo9 _⟩,rfl⟩⟩
  refine hK.out _ _ (⟨HD2.out _ hb13,HD0.out _ hb13⟩) (fun hHeld=> ?_);clear hK K
  try simp only [sq]
  refine Htk (i:=10) ?_
  try simp only [sq]
  refine wpAnyH_done (by kernel_rfl) ?_ _;generalize (W2.alloc (.cells #[.int .i64 1,.int .i64 0,.int .i64 0,.slice m2.a1 m2.n1 m2.c1,.slice m2.a2 m2.n2 m2.c2,.int .i64 (dO 2).v,.int .i64 (dO 2).u,.slice m2.a3 m2.n3 m2.c3,.slice m2.a4 m2.n4 m2.c4,.slice m2.a5 m2.n5 m2.c5,.int .i64 1,.int .i64 0,.int .i64 0,.slice m0.a1 m0.n1 m0.c1,.slice m0.a2 m0.n2 m0.c2,.int .i64 (dO 0).v,.int .i64 (dO 0).u,.slice m0.a3 m0.n3 m0.c3,.slice m0.a4 m0.n4 m0.c4,.slice m0.a5 m0.n5 m0.c5,.int .i64 2,.int .i64 0,.int .i64 0,.slice none 0 0,.slice none 0 0,.int .i64 0,.int .i64 0,.slice none 0 0,.slice none 0 0,.slice none 0 0] 49)).drew=W3 at *;clear hHeld hd hb3 HD2 HD0 hbo2;obtain ⟨iH,hiH,hz0,hz1,hz2⟩:=info_parts infoHap;go_wp2_with fail
  go_loopw [4,29] (fun v i wq=>∃(k:Nat) (l:List Hp),k≤4∧i=.int .i64 k∧Hid (l= [⟨1,0,0,dO 2⟩,⟨1,0,0,dO 0⟩,hpK 2]++List.replicate k (hpK 3))∧Hid (SI W2 l v wq)) (fun _ i _=>4 - (intOf i).toNat)
  case atStart=>exact⟨0,_,by omega,rfl,rfl,HS3⟩
  case round=>
    clear HS3;obtain ⟨wq,rfl⟩: ∃wq:World,wq=wr:=⟨_,rfl⟩;obtain ⟨k,l,hk,rfl,HL,hI⟩:=hrel;obtain ⟨vs,hvs,-⟩:=hI.out.row;obtain ⟨aa,ca,rfl⟩:=zbk hvs;have hl3:Hid (l.length=3+k):=by show _=_;rw [HL.out];simp;omega
    by_cases hk4:k<4
    {
    have hkI: (k:Int)<4:=by omega
    have HK:Hid (k<4):=hk4;obtain ⟨g,cap,w4,hr,ho,hc,-⟩:=zed (P:=Tryz.prog) wq 61 49 W2.heap.size iH _ 10 160 Tryz.underlying61 hiH hz0 hz1 hz2 rfl (by omega) (by omega) _ _ vs hvs (hpC (hpK 3) oa9) rfl (by simp [hpC,Value.oneCell']) (by rw [hl3.out];omega) hI.out.bel.size;have HI2:Hid (SI W2 (l++ [hpK 3]) (.slice (some ⟨g,0,none⟩) (l.length+1) cap) w4):=by
      refine hI.out.app (l2:= [hpK 3]) (cs:=(hpC (hpK 3) oa9).toList) hc ⟨(hpC (hpK 3) oa9).toList, [],by simp,⟨oa9,rfl,bo9 _⟩,rfl⟩ (fun us hus=> ?_);obtain rfl:=zfg hus hvs;exact ho
    have HL2:Hid (l++ [hpK 3]= [⟨1,0,0,dO 2⟩,⟨1,0,0,dO 0⟩,hpK 2]++List.replicate (k+1) (hpK 3)):=by show _=_;rw [List.replicate_succ',←List.append_assoc,HL.out]
    have HR:Hid ((Builtin.append_ #[61,61] 61 #[.slice aa l.length ca,.slice (some ⟨wq.heap.size,0,none⟩) 1 1]).run Tryz.prog (wq.alloc (.cells #[.int .i64 3,.int .i64 0,.int .i64 0,.slice none 0 0,.slice none 0 0,.int .i64 0,.int .i64 0,.slice none 0 0,.slice none 0 0,.slice none 0 0] 49))=.ok (.slice (some ⟨g,0,none⟩) (l.length+1) cap) w4):=hr;clear hr ho hc hvs hI hk hk4 hl3 HL
    go_wp2_with (at_builtin;refine Lib.wpList_append_run _ rfl _ _ 61 61 rfl _ _ rfl rfl _ _ HR.out ?_)
    go_roundw
    case rel=>exact⟨k+1,_,HK.out,by go_num,HL2,HI2⟩
    case measure=>have:=HK.out;simp [intOf];omega
    }
    {
    have hk5:k=4:=by omega
    subst hk5;clear hk hk4;obtain ⟨g,cap,w4,hr,ho,hc,-⟩:=row_appN (P:=Tryz.prog) wq 61 49 W2.heap.size iH _ 10 160 Tryz.underlying61 hiH hz0 hz1 hz2 rfl (by omega) (by omega) _ _ vs hvs 3 (by omega) (by omega) #[.int .i64 2,.int .i64 0,.int .i64 0,.slice none 0 0,.slice none 0 0,.int .i64 0,.int .i64 0,.slice none 0 0,.slice none 0 0,.slice none 0 0,.int .i64 3,.int .i64 0,.int .i64 0,.slice none 0 0,.slice none 0 0,.int .i64 0,.int .i64 0,.slice none 0 0,.slice none 0 0,.slice none 0 0,.int .i64 3,.int .i64 0,.int .i64 0,.slice none 0 0,.slice none 0 0,.int .i64 0,.int .i64 0,.slice none 0 0,.slice none 0 0,.slice none 0 0] rfl (by simp [Value.oneCell']) (by rw [hl3.out];omega) hI.out.bel.size;have HI2:Hid (SI W2 dS (.slice (some ⟨g,0,none⟩) (l.length+3) cap) w4):=by
      have e:dS=l++ [hpK 2,hpK 3,hpK 3]:=by rw [HL.out];rfl
      show SI _ _ _ _
      rw [e];refine hI.out.app (l2:= [hpK 2,hpK 3,hpK 3]) (cs:=(#[.int .i64 2,.int .i64 0,.int .i64 0,.slice none 0 0,.slice none 0 0,.int .i64 0,.int .i64 0,.slice none 0 0,.slice none 0 0,.slice none 0 0,.int .i64 3,.int .i64 0,.int .i64 0,.slice none 0 0,.slice none 0 0,.int .i64 0,.int .i64 0,.slice none 0 0,.slice none 0 0,.slice none 0 0,.int .i64 3,.int .i64 0,.int .i64 0,.slice none 0 0,.slice none 0 0,.int .i64 0,.int .i64 0,.slice none 0 0,.slice none 0 0,.slice none 0 0]:Array Value).toList) hc ⟨(hpC (hpK 2) oa9).toList,_,rfl,⟨oa9,rfl,bo9 _⟩,(hpC (hpK 3) oa9).toList,_,rfl,⟨oa9,rfl,bo9 _⟩,(hpC (hpK 3) oa9).toList, [],rfl,⟨oa9,rfl,bo9 _⟩,rfl⟩ (fun us hus=> ?_);obtain rfl:=zfg hus hvs;exact ho
    have HR:=hide hr;have hl10:l.length+3=10:=by rw [hl3.out]
    have HN10:=hide hl10;have hbw:=HI2.out.bel;have bv4:=hide (zab bv.out hbw);have hv4:=bk_v bv4.out;have HRun:=hide (run_any dV m dS (some ⟨g,0,none⟩) (l.length+3) cap w4 ((HV.out.below hbw).wide (K' :=fun _=>False) fun _ e=>e.elim) (HT.out.below (HW1.out.trans (((bT hb2 hbw)).mono HW1.out.size))) (HI2.out.rin (by rw [hl10];rfl) (by omega)));rw [dS_run] at HRun;unfold vhv at HRun;clear hr ho hc hvs hI hl3 HL hiH hz0 hz1 hz2 hl10
    go_wp2_with (at_builtin;refine Lib.wpList_append_run _ rfl _ _ 61 61 rfl _ _ rfl rfl _ _ HR.out ?_)
    refine(zae HRun).mono ?_;rintro e w5 ⟨⟨m5,sa,n5,c5,rfl,hv5,hs5,hf5⟩,hb5⟩;clear HRun hv4;have HR1:=hide dR_ok;have HU1:=hide dU_ok;have HG1:=hide dG_ok;unfold vhv;generalize runL dV dS=R at *;obtain ⟨V,sd⟩:=R;dsimp only at HR1 HU1 HG1 hv5 hs5⊢;obtain rfl:n5=10:=by rw [←hs5.len];exact HR1.out.1
    have hnu:m5.nu=1:=by rw [←hv5.us.len];exact HR1.out.2.2.2
    have bv5:=zab bv4.out hb5;have hbk:=bk_v bv5;have hlt:=zak bv4.out;have hch:=zcv w5 w1.heap.size (vhC V m5);have hbx:=setRow_heap w5 w1.heap.size _ (vhC V m5) _ _ bv5;have hv6:=(hv5.wide (K' :=fun b=>b=w1.heap.size) fun b e=>.inl (by rw [e];exact⟨hlt,_,_,bv4.out,by show 15<192;decide⟩)).chg hch;have hi6:=hs5.at_.chg hch (.inr fun ad e c=>by have:=hf5 ad e;omega);have hb6:Below w1.heap.size w1 (w5.setRow w1.heap.size (vhC V m5)):=(hb2.trans (((bT hbw hb5)).mono hb2.size)).trans (hch.below (fun b e=>Nat.le_of_eq e.symm) (Nat.le_trans hb2.size (Nat.le_trans hbw.size hb5.size)));obtain ⟨bs,os,rfl,hcs⟩: ∃bs os,sa=some ⟨bs,os,none⟩∧∀i,i<sd.length→(w5.setRow w1.heap.size (vhC V m5)).cell? ⟨bs,os+i,none⟩=some (.int .i64 (sd.getD i 0)):=by
      rcases hi6 with e| ⟨bs,os,e,h⟩
      { have:=HR1.out.1;rw [e] at this;cases this }
      { exact⟨bs,os,e,h⟩ }
    have s0:=hcs 0 (by rw [HR1.out.1];omega);have s1:=hcs 1 (by rw [HR1.out.1];omega);rw [show sd.getD 0 0=9 by have:=HR1.out.2.1;cases sd with|nil=>(have h:=HR1.out.1;cases h)|cons x r=>exact this] at s0;rw [show sd.getD 1 0=0 by have:=HR1.out.2.2.1;have h:=HR1.out.1;match sd,h,this with|x::y::r,_,h=>exact h] at s1;rw [Nat.add_zero] at s0;have x11: (w5.setRow w1.heap.size (vhC V m5)).cell? ⟨w1.heap.size,11,none⟩=some (.slice m5.au m5.nu m5.cu):=zaa hbx 11 _ rfl;rw [hnu] at x11;have HV6:=hide hv6;have HB6:=hide hb6;have HX6:=hide hbx;have HNu:=hide hnu;have hcu:1≤m5.cu:=by rw [←hnu];exact hv5.us.cap
    have hl10:=HN10.out;clear hv5 hs5 hf5 hb5 hi6 hv6 hb6 hbx hch hlt bv5 hcs hnu;go_upto_region 13 with fail
    generalize w5.setRow w1.heap.size (vhC V m5)=W6 at *;clear s0 s1 hbk;obtain ⟨vu,ru1,ru2,-⟩:=HV6.out.us.row;obtain ⟨u0,hu0⟩: ∃u0,V.us[0]?=some u0:=⟨V.us[0]'(by rw [HR1.out.2.2.2];omega),List.getElem?_eq_getElem _⟩;obtain ⟨bu,ou,ux,un,uc,hau,hbw0,-,u1,u2,u3,u4,u5⟩:=zdz ru1 ru2 hu0;simp only [Nat.zero_mul,Nat.add_zero] at u1 u2 u3 u4 u5;rw [hau] at x11;have hrd:=rdU_mid W6 bu ou u0 ux un uc (fun j v hv=>by
      match j,hv with
      |0,e=>cases e;exact u1
      |1,e=>cases e;exact u2
      |2,e=>cases e;exact u3
      |3,e=>cases e;exact u4
      |4,e=>cases e;exact u5)
    have HC:=hide (zn0 u0 ux un uc W6 hbw0);rw [unv_eq] at HC;have hU: (runsS u0).1=imgF 1 0∧(runsS u0).2.2=0:=by
      have:=HU1.out;rw [List.getD_eq_getElem?_getD,hu0] at this;exact this
    have HUR:=hide hU;clear hU u1 u2 u3 u4 u5 ru1 ru2 hu0 hbw0 HU1 hau;go_wp2_with fail;refine(zae HC).mono ?_;rintro e w7 ⟨⟨ar,nr,cr,rfl,hir,hnr,hcr,-⟩,hb7⟩;clear HC hrd;have hb67:=hb7;have hx7:=zab HX6.out hb7;have hg7:=rdG_mid w7 w1.heap.size 2 V.g m5.g (fun j v hv=>by
      have h9:j<9:=by have:=(List.getElem?_eq_some_iff.1 hv).1;exact this
      match j,hv with
      |0,e=>cases e;exact zaa hx7 2 _ rfl
      |1,e=>cases e;exact zaa hx7 3 _ rfl
      |2,e=>cases e;exact zaa hx7 4 _ rfl
      |3,e=>cases e;exact zaa hx7 5 _ rfl
      |4,e=>cases e;exact zaa hx7 6 _ rfl
      |5,e=>cases e;exact zaa hx7 7 _ rfl
      |6,e=>cases e;exact zaa hx7 8 _ rfl
      |7,e=>cases e;exact zaa hx7 9 _ rfl
      |8,e=>cases e;exact zaa hx7 10 _ rfl
      |j+9,_=>omega)
    have HC:=hide (zh0 V.g m5.g w7 (HV6.out.below hb7).g);rw [zud] at HC;clear x11;go_wp2_with fail;refine(zae HC).mono ?_;rintro e w8 ⟨rfl,hb8⟩;clear HC hg7;generalize runsS u0=r at *;obtain ⟨r1,r2,r3⟩:=r;obtain ⟨rfl,rfl⟩:=HUR.out;generalize zc3 V.g=q at *;obtain ⟨st,e9⟩:=q;obtain ⟨g1,g2,g3⟩:=HG1.out;have HXl:Hid ((dO 0).imgs[0]'(by rw [dV_ok.2.2.1];omega)=imgF 1 0):=by
      show _=_
      have:=dV_ok.2.2.2;rw [List.getD_eq_getElem?_getD,List.getElem?_eq_getElem (by rw [dV_ok.2.2.1];omega)] at this;exact this
    obtain ⟨bi,oi,ai,ci,ha5,hci,hii,hic,hmc⟩:=HL0.out;rw [HXl.out] at hci hii hic;rw [Nat.add_zero] at hci;have hn5:m0.n5=1:=by rw [←hbo0.imgs.len];exact dV_ok.2.2.1
    dsimp only at g1 g2 g3 hir hnr⊢;subst g1;unfold gsv;rw [g2,g3];have hb9:Below w8.heap.size w8 (w8.alloc (.cells #[.int .i64 st.n,.int .i64 st.v,.bool true,.bool st.ab,.bool true] 72)):=bA1;have hb79:=bT hb8 hb9;have hb69:=bT hb7 hb79;have hb19:=HB6.out.trans (hb69.mono HB6.out.size);have z5:=H5.out _ hb19;rw [ha5,hn5] at z5;have zi: (w8.alloc (.cells #[.int .i64 st.n,.int .i64 st.v,.bool true,.bool st.ab,.bool true] 72)).cell? ⟨bi,oi,none⟩=some (.slice ai (imgF 1 0).length ci):=(hb19.cell (zah hci)).trans hci;have HQ:=hide (zl3 ar ai cr ci (imgF 1 0) (imgF 1 0) _ (hir.below hb79) (hii.below hb19) (by decide) (by decide));rw [hnr,show eqL (imgF 1 0) (imgF 1 0)=true by decide] at HQ;rw [hnr] at zi;have HFin:=hide (HW1.out.trans (hb19.mono HW1.out.size));have bg9:=hide (heap_alloc_last w8 (.cells #[.int .i64 st.n,.int .i64 st.v,.bool true,.bool st.ab,.bool true] 72));clear hb9 hb79 hb69 hb19 hir hnr hci hii hic hmc HL0 H5 hb7 hb8 hb67 hx7 HXl g2 g3 HG1 HUR;go_upto_region 15 with fail
    generalize (w8.alloc (.cells #[.int .i64 st.n,.int .i64 st.v,.bool true,.bool st.ab,.bool true] 72))=W9 at *;go_wp2_with fail;refine(zae HQ).mono ?_;rintro e w10 ⟨rfl,nd,rfl⟩;have hd10:Below W9.heap.size W9 (W9.drewN nd):=below_drewN (Below.refl _ _) nd;have c4:=zaa (zab bg9.out hd10) 4 _ rfl;have c2:=zaa (zab bg9.out hd10) 2 _ rfl;have HE:=hide (HFin.out.trans (hd10.mono HFin.out.size));clear HQ z5 zi hd10;generalize W9.drewN nd=W10 at *;go_wp2_with fail;go_ret;exact⟨rfl,HE.out⟩
    }
end
section
open Go.RowKit
theorem zjx {j:Int} (hv:vhE v=0) (hn:v.now≠100000):doS' v ⟨10,u,j,o⟩= (⟨v.ss,v.sg,v.g,v.us,v.cs,v.net,v.now+1⟩,0):=by
  have h:hapS v ⟨10,u,j,o⟩=tckS v:=rfl;have h2:tckS v= (⟨v.ss,v.sg,v.g,v.us,v.cs,v.net,v.now+1⟩,0):=by unfold tckS;rw [if_neg hn]
  rw [do_0 hv (by rw [h,h2]),h,h2]
theorem tick_full {j:Int} (hv:vhE v=0) (hn:v.now=100000):doS' v ⟨10,u,j,o⟩= (vh0,8):=by
  have h:hapS v ⟨10,u,j,o⟩=tckS v:=rfl;have h2:tckS v= (vh0,8):=by unfold tckS;rw [if_pos hn]
  rw [do_e2 hv (by rw [h,h2];decide),h,h2]
theorem zlb (hk:k<v.net.length):isM v k=true:=by unfold isM inB;simp;omega
theorem zjy (hv:vhE v=0) (hk:k<v.net.length):doS' v ⟨4,u,k,o⟩= (⟨v.ss,v.sg,v.g,v.us,v.cs,v.net.eraseIdx k,v.now⟩,0):=by
  have h:hapS v ⟨4,u,k,o⟩=losS v k:=rfl;have h2:losS v k= (⟨v.ss,v.sg,v.g,v.us,v.cs,v.net.eraseIdx k,v.now⟩,0):=by unfold losS;rw [if_neg (by rw [zlb hk];decide)];rfl
  rw [do_0 hv (by rw [h,h2]),h,h2]
theorem dbl_full (hv:vhE v=0) (hk:k<v.net.length) (hf:v.net.length=24):doS' v ⟨5,u,k,o⟩= (vh0,8):=by
  have h:hapS v ⟨5,u,k,o⟩=dblS v k:=rfl;have h2:dblS v k= (vh0,8):=by unfold dblS;rw [if_neg (by rw [zlb hk];decide),if_pos hf]
  rw [do_e2 hv (by rw [h,h2];decide),h,h2]
def dblV (v:Vh) (k:Nat):Vh:=⟨v.ss,v.sg,v.g,v.us,v.cs,v.net++ [v.net.getD k ms9],v.now⟩
theorem dbl_plain (hv:vhE v=0) (hk:k<v.net.length) (hf:v.net.length≠24):doS' v ⟨5,u,k,o⟩= (dblV v k,0):=by
  have h:hapS v ⟨5,u,k,o⟩=dblS v k:=rfl;have h2:dblS v k= (dblV v k,0):=by unfold dblS;rw [if_neg (by rw [zlb hk];decide),if_neg hf];rfl
  rw [do_0 hv (by rw [h,h2]),h,h2]
theorem zj7: ∀(a b:List Int),za0 a=0→za0 (a++b)=za0 b
  | [],_,_=>rfl
  |x::r,b,h=>by
    obtain ⟨h1,h2⟩:=zbl h
    show(if x≠0 then x else za0 (r++b))=za0 b
    rw [if_neg (by simpa using h1)];exact zj7 r b h2
theorem dbl_check (hv:vhE v=0) (hk:k<v.net.length) (hf:v.net.length≠24):vhE (dblV v k)=0:=by
  have f:=zec hv;have hx:ntE v.us.length v.net[k]=0:=by
    obtain ⟨h1,h2⟩:=zhn f.net (List.getElem_mem hk);unfold ntE;rw [if_neg (by simpa using h1),if_neg (by omega)]
  have hn:netE v.us.length (dblV v k).net=0:=by
    unfold dblV netE
    show za0 (List.map _ (v.net++ [v.net.getD k ms9]))=0
    rw [show v.net.getD k ms9=v.net[k] by simp [hk],List.map_append,zj7 _ _ f.net]
    show(if ntE v.us.length v.net[k]≠0 then ntE v.us.length v.net[k] else 0)=0
    rw [if_neg (by simpa using hx)]
  have hm:manyE (dblV v k)=0:=by
    unfold manyE dblV;rw [if_pos ⟨f.many.1,by have:=f.many.2;simp;omega⟩]
  have hw:nowE (dblV v k)=0:=if_pos f.now;rw [vhE_eq];have e1:bookE (dblV v k).ss=0:=f.bk;have e2:sigE (dblV v k).sg=0:=f.sg;have e3:gtE (dblV v k).g=0:=f.gt;have e4:unsE (dblV v k).us (dblV v k).g.vo.length=0:=f.us;have e6:cpsE (dblV v k).us.length (dblV v k).cs=0:=f.cs;have e7:netE (dblV v k).us.length (dblV v k).net=0:=hn;rw [e1,e2,e3,e4,hm,e6,e7,hw];rfl
theorem dbl_lose (hv:vhE v=0) (hk:k<v.net.length) (hf:v.net.length≠24):doS' (dblV v k) ⟨4,u,v.net.length,o⟩= (v,0):=by
  rw [zjy (dbl_check hv hk hf) (by unfold dblV;simp)];unfold dblV
  simp [List.eraseIdx_append_of_length_le]
end
section
open Go.RowKit
theorem zoa (a:Option Addr) (n c:Nat) (xs:List Int) (fuel:Int) (a2:Option Addr) (n2 c2:Nat) (ys:List Int) (fuel2:Int) (w:World)
    (h:zag w a xs) (hn:xs.length=n) (hm:n≤maxLen) (h2:zag w a2 ys) (hn2:ys.length=n2) (hm2:n2≤maxLen):
    Calls Tryz.prog 86 #[.agg #[.slice a n c,.int .i64 fuel],.agg #[.slice a2 n2 c2,.int .i64 fuel2]] w fun e w' =>e=.returned (.bool (decide (fuel=fuel2)&&eqL xs ys))∧Below w.heap.size w w' :=by
  have HE:=hide (fun W (h:zag W a xs) (h2:zag W a2 ys)=>zfj a a2 n n2 c c2 xs ys _ W h h2 hn hn2 rfl hm hm2);have hw:Below w.heap.size w ((w.alloc (.cells #[.slice a n c,.int .i64 fuel] 28)).alloc (.cells #[.slice a2 n2 c2,.int .i64 fuel2] 28)):=
    bA2
  have i0:=h.below hw;have i1:=h2.below hw;clear hn hn2
  by_cases e1:fuel=fuel2
  {
  subst e1;go_enter Tryz.func86,Tryz.ntmps86;go_wp2_with fail;refine(zae HE _ i0 i1).mono ?_;rintro e w1 ⟨rfl,m,rfl⟩;go_wp2;go_ret;exact⟨zan (by simp),below_drewN hw m⟩
  }
  {
  have e1' : (fuel==fuel2)=false:=by simpa using e1
  go_enter Tryz.func86,Tryz.ntmps86;go_wp2;go_ret;exact⟨zan (by simp [e1]),hw⟩
  }
end
section
open Go.RowKit
attribute [local go_sem ↓] Go.wp_at_zero Go.wp_at_succ
theorem zis (w:World) (n:Nat):Below w.heap.size w (w.drewN n):=⟨rfl,rfl,rfl,Nat.le_refl _,fun _ _=>rfl⟩
theorem zqk (u:Un) (a:Option Addr) (na ca:Nat) (b:Option Addr) (nb cb:Nat) (w:World) (h:BW w a na ca u.ws) (h2:BW w b nb cb u.ws):
    Calls Tryz.prog 85 #[unv u a na ca,unv u b nb cb] w fun e w' =>e=.returned (.bool true)∧Below w.heap.size w w' :=by
  have hw:Below w.heap.size w ((w.alloc (.cells (aU a na ca u) 82)).alloc (.cells (aU b nb cb u) 82)):=bA2;have HS:=hide (fun W (hW:Below w.heap.size w W)=>(zoa a na ca u.ws u.fu b nb cb u.ws u.fu W (h.below hW).at_ h.len h.max (h2.below hW).at_ h2.len h2.max).mono (R' :=fun e w' =>e=.returned (.bool true)∧Below W.heap.size W w') (fun e w' q=>⟨by rw [q.1];unfold eqL;simp,q.2⟩));have b0:=hide (zai (heap_alloc_last w (.cells (aU a na ca u) 82)) (.cells (aU b nb cb u) 82));have b1:=hide (zau w (.cells (aU a na ca u) 82) (.cells (aU b nb cb u) 82));unfold unv;clear h h2;go_enter Tryz.func85,Tryz.ntmps85;go_wp2_with fail;generalize ((w.alloc (.cells (aU a na ca u) 82)).alloc (.cells (aU b nb cb u) 82))=W at *;refine(zae HS _ hw).mono ?_;rintro e w1 ⟨rfl,hb⟩;replace b0:=hide (zab b0.out hb);replace b1:=hide (zab b1.out hb);have x2:=zaa b0.out 2 _ rfl;have y2:=zaa b1.out 2 _ rfl;have x3:=zaa b0.out 3 _ rfl;have y3:=zaa b1.out 3 _ rfl;have x4:=zaa b0.out 4 _ rfl;have y4:=zaa b1.out 4 _ rfl;go_wp2_with fail;go_ret;exact⟨rfl,(bT hw hb)⟩
theorem msg_alike (x:Ms) (a:Option Addr) (na ca:Nat) (b:Option Addr) (nb cb:Nat) (w:World) (h:BI w a na x.ws) (h2:BI w b nb x.ws):
    Calls Tryz.prog 89 #[msv x a na ca,msv x b nb cb] w fun e w' =>e=.returned (.bool true)∧Below w.heap.size w w' :=by
  have hw:Below w.heap.size w ((w.alloc (.cells (aM x a na ca) 99)).alloc (.cells (aM x b nb cb) 99)):=bA2;have HS:=hide (fun W (hW:Below w.heap.size w W)=>zfj a b na nb ca cb x.ws x.ws true W (h.below hW).at_ (h2.below hW).at_ h.len h2.len (by unfold eqL;simp) h.max h2.max);have b0:=hide (zai (heap_alloc_last w (.cells (aM x a na ca) 99)) (.cells (aM x b nb cb) 99));have b1:=hide (zau w (.cells (aM x a na ca) 99) (.cells (aM x b nb cb) 99));unfold msv;clear h h2;go_enter Tryz.func89,Tryz.ntmps89;go_wp2_with fail;generalize ((w.alloc (.cells (aM x a na ca) 99)).alloc (.cells (aM x b nb cb) 99))=W at *;refine(zae HS _ hw).mono ?_;rintro e w1 ⟨rfl,nd,rfl⟩;have hb:=zis W nd;have x6:=zaa (zab b0.out hb) 6 _ rfl;have y6:=zaa (zab b1.out hb) 6 _ rfl;generalize W.drewN nd=w1 at *;go_wp2_with fail;go_ret;exact⟨rfl,(bT hw hb)⟩
theorem zmy (a:Option Addr) (n c:Nat) (a2:Option Addr) (n2 c2:Nat) (K K2:Nat→Prop) (l:List Un) (w:World) (h:RIn UR w K a n c l) (h2:RIn UR w K2 a2 n2 c2 l):
    Calls Tryz.prog 76 #[.slice a n c,.slice a2 n2 c2,.func (.func 85) #[] #[]] w fun e w' =>e=.returned (.bool true)∧Below w.heap.size w w' :=by
  have hn:=h.len;have hn2:=h2.len;obtain rfl:n=n2:=hn.symm.trans hn2;have hmx:=h.max;obtain ⟨vs,r1,r2,-⟩:=h.row;obtain ⟨vs2,s1,s2,-⟩:=h2.row;have R1:=hide r1;have R2:=hide r2;have S1:=hide s1;have S2:=hide s2;have HN:=hide hn;clear h h2 r1 r2 s1 s2 hn hn2;have hnI: (n:Int)≤9223372036854775807:=by unfold maxLen at hmx;omega
  go_enter Tryz.func76,Tryz.ntmps76;go_wp2_with fail
  go_loopw [17] (fun i wq=>∃k:Nat,k≤n∧i=.int .i64 k∧Hid (Below w.heap.size w wq)) (fun i _=>n - (intOf i).toNat)
  case atStart=>exact⟨0,by omega,rfl,Below.refl _ _⟩
  case round=>
    obtain ⟨wq,rfl⟩: ∃wq:World,wq=wr:=⟨_,rfl⟩;obtain ⟨k,hk,rfl,hB⟩:=hrel
    by_cases hkn:k<n
    {
    have hkI: (k:Int)< (n:Int):=by omega
    have hul:k<l.length:=by rw [HN.out];exact hkn
    obtain ⟨b,off,ax,nx,cx,rfl,q0,-,y0,y1,y2,y3,y4⟩:=zdz R1.out R2.out (List.getElem?_eq_getElem hul);obtain ⟨b',off',ay,ny,cy,rfl,q1,-,z0,z1,z2,z3,z4⟩:=zdz S1.out S2.out (List.getElem?_eq_getElem hul);have HU:=hide (fun W (hW:Below w.heap.size w W)=>zqk l[k] ax nx cx ay ny cy W (q0.below hW) (q1.below hW));unfold unv at HU;generalize l[k]=u at *;have hA:=hide (hB.out.alloc hB.out.size (.cells (aU ax nx cx u) 82));replace y0:=(hB.out.cell (zah y0)).trans y0;replace z0:=(hA.out.cell (zah z0)).trans z0;replace y1:=(hB.out.cell (zah y1)).trans y1;replace z1:=(hA.out.cell (zah z1)).trans z1;replace y2:=(hB.out.cell (zah y2)).trans y2;replace z2:=(hA.out.cell (zah z2)).trans z2;replace y3:=(hB.out.cell (zah y3)).trans y3;replace z3:=(hA.out.cell (zah z3)).trans z3;replace y4:=(hB.out.cell (zah y4)).trans y4;replace z4:=(hA.out.cell (zah z4)).trans z4;have hb1:Below w.heap.size w ((wq.alloc (.cells (aU ax nx cx u) 82)).alloc (.cells (aU ay ny cy u) 82)):=(hB.out.alloc hB.out.size _).alloc (Nat.le_trans hB.out.size (by simp)) _;clear q0 q1 hul;go_wp2_with fail;refine(zae HU _ hb1).mono ?_;rintro e w3 ⟨rfl,hb3⟩;have HB3:=hide ((bT hb1 hb3));clear hb3 HU;go_wp2_with fail;exact⟨⟨k+1,hkn,by simp,HB3⟩,by simp [intOf];omega⟩
    }
    {
    have hkk:k=n:=by omega
    subst hkk;clear hk hkn;go_wp2_with fail;go_ret;exact⟨rfl,hB.out⟩
    }
theorem zm6 (a:Option Addr) (n c:Nat) (a2:Option Addr) (n2 c2:Nat) (K K2:Nat→Prop) (l:List Ms) (w:World) (h:RIn MR w K a n c l) (h2:RIn MR w K2 a2 n2 c2 l):
    Calls Tryz.prog 88 #[.slice a n c,.slice a2 n2 c2,.func (.func 89) #[] #[]] w fun e w' =>e=.returned (.bool true)∧Below w.heap.size w w' :=by
  have hn:=h.len;have hn2:=h2.len;obtain rfl:n=n2:=hn.symm.trans hn2;have hmx:=h.max;obtain ⟨vs,r1,r2,-⟩:=h.row;obtain ⟨vs2,s1,s2,-⟩:=h2.row;have R1:=hide r1;have R2:=hide r2;have S1:=hide s1;have S2:=hide s2;have HN:=hide hn;clear h h2 r1 r2 s1 s2 hn hn2;have hnI: (n:Int)≤9223372036854775807:=by unfold maxLen at hmx;omega
  go_enter Tryz.func88,Tryz.ntmps88;go_wp2_with fail
  go_loopw [17] (fun i wq=>∃k:Nat,k≤n∧i=.int .i64 k∧Hid (Below w.heap.size w wq)) (fun i _=>n - (intOf i).toNat)
  case atStart=>exact⟨0,by omega,rfl,Below.refl _ _⟩
  case round=>
    obtain ⟨wq,rfl⟩: ∃wq:World,wq=wr:=⟨_,rfl⟩;obtain ⟨k,hk,rfl,hB⟩:=hrel
    by_cases hkn:k<n
    {
    have hkI: (k:Int)< (n:Int):=by omega
    have hul:k<l.length:=by rw [HN.out];exact hkn
    obtain ⟨b,off,ax,nx,cx,rfl,q0,-,y0,y1,y2,y3,y4,y5,y6⟩:=zgd R1.out R2.out (List.getElem?_eq_getElem hul);obtain ⟨b',off',ay,ny,cy,rfl,q1,-,z0,z1,z2,z3,z4,z5,z6⟩:=zgd S1.out S2.out (List.getElem?_eq_getElem hul);have HU:=hide (fun W (hW:Below w.heap.size w W)=>msg_alike l[k] ax nx cx ay ny cy W (q0.below hW) (q1.below hW));unfold msv at HU;generalize l[k]=u at *;have hA:=hide (hB.out.alloc hB.out.size (.cells (aM u ax nx cx) 99));replace y0:=(hB.out.cell (zah y0)).trans y0;replace z0:=(hA.out.cell (zah z0)).trans z0;replace y1:=(hB.out.cell (zah y1)).trans y1;replace z1:=(hA.out.cell (zah z1)).trans z1;replace y2:=(hB.out.cell (zah y2)).trans y2;replace z2:=(hA.out.cell (zah z2)).trans z2;replace y3:=(hB.out.cell (zah y3)).trans y3;replace z3:=(hA.out.cell (zah z3)).trans z3;replace y4:=(hB.out.cell (zah y4)).trans y4;replace z4:=(hA.out.cell (zah z4)).trans z4;replace y5:=(hB.out.cell (zah y5)).trans y5;replace z5:=(hA.out.cell (zah z5)).trans z5;replace y6:=(hB.out.cell (zah y6)).trans y6;replace z6:=(hA.out.cell (zah z6)).trans z6;have hb1:Below w.heap.size w ((wq.alloc (.cells (aM u ax nx cx) 99)).alloc (.cells (aM u ay ny cy) 99)):=(hB.out.alloc hB.out.size _).alloc (Nat.le_trans hB.out.size (by simp)) _;clear q0 q1 hul;go_wp2_with fail;refine(zae HU _ hb1).mono ?_;rintro e w3 ⟨rfl,hb3⟩;have HB3:=hide ((bT hb1 hb3));clear hb3 HU;go_wp2_with fail;exact⟨⟨k+1,hkn,by simp,HB3⟩,by simp [intOf];omega⟩
    }
    {
    have hkk:k=n:=by omega
    subst hkk;clear hk hkn;go_wp2_with fail;go_ret;exact⟨rfl,hB.out⟩
    }
end
section
open Go.RowKit
theorem zqh:Tryz.prog.eqGuardType Tryz.prog.depth 163=false:=by kernel_rfl
theorem zrb:Tryz.prog.eqGuardType Tryz.prog.depth 111=false:=by kernel_rfl
theorem zog (a0 a1:Option Addr) (n0 n1 c0 c1:Nat) (xs:List ByteArray) (w:World) (h0:za1 w a0 xs) (h1:za1 w a1 xs) (e0:xs.length=n0) (e1:xs.length=n1) (hx:n0≤maxLen):
    Calls Tryz.prog 73 #[.slice a0 n0 c0,.slice a1 n1 c1] w fun e w' =>e=.returned (.bool true)∧∃n,w' =w.drewN n:=by
  unfold maxLen at hx;have E0:=hide e0;obtain rfl:n0=n1:=e0.symm.trans e1;clear e0 e1;go_enter Tryz.func73,Tryz.ntmps73;go_wp2
  go_loopw [13] (fun i wr=>∃k:Nat,k≤n0∧i=.int .i64 k∧∃n,wr=w.drewN n) (fun i _=>n0 - (intOf i).toNat)
  case atStart=>exact⟨0,Nat.zero_le _,rfl,0,rfl⟩
  case round=>
    obtain ⟨k,hk,rfl,n,rfl⟩:=hrel
    by_cases hlt:k<n0
    {
    have hlt1:k<xs.length:=by rw [E0.out];exact hlt
    rcases h0 with rfl| ⟨b0,o0,rfl,hc0⟩
    { simp at hlt1 }
    rcases h1 with rfl| ⟨b1,o1,rfl,hc1⟩
    { simp at hlt1 }
    have p0:=hc0 k hlt1;have r0:=hc1 k hlt1;clear hc0 hc1;generalize xs.getD k ByteArray.empty=x at *;go_wp2;go_quiet (fail);go_wp2
    go_roundw
    case rel=>exact⟨k+1,by omega,by go_num,n+nq,rfl⟩
    case measure=>simp [intOf];omega
    }
    {
    go_wp2;go_ret;exact⟨rfl,n,rfl⟩
    }
theorem zh4 (a0 a1:Option Addr) (n0 n1 c0 c1:Nat) (xs:List Bool) (w:World) (h0:zbz w a0 xs) (h1:zbz w a1 xs) (e0:xs.length=n0) (e1:xs.length=n1) (hx:n0≤maxLen):
    Calls Tryz.prog 151 #[.slice a0 n0 c0,.slice a1 n1 c1] w fun e w' =>e=.returned (.bool true)∧∃n,w' =w.drewN n:=by
  unfold maxLen at hx;have E0:=hide e0;obtain rfl:n0=n1:=e0.symm.trans e1;clear e0 e1;go_enter Tryz.func151,Tryz.ntmps151;go_wp2
  go_loopw [13] (fun i wr=>∃k:Nat,k≤n0∧i=.int .i64 k∧∃n,wr=w.drewN n) (fun i _=>n0 - (intOf i).toNat)
  case atStart=>exact⟨0,Nat.zero_le _,rfl,0,rfl⟩
  case round=>
    obtain ⟨k,hk,rfl,n,rfl⟩:=hrel
    by_cases hlt:k<n0
    {
    have hlt1:k<xs.length:=by rw [E0.out];exact hlt
    rcases h0 with rfl| ⟨b0,o0,rfl,hc0⟩
    { simp at hlt1 }
    rcases h1 with rfl| ⟨b1,o1,rfl,hc1⟩
    { simp at hlt1 }
    have p0:=hc0 k hlt1;have r0:=hc1 k hlt1;clear hc0 hc1;generalize xs.getD k false=x at *;go_wp2;go_quiet (fail);go_wp2
    go_roundw
    case rel=>exact⟨k+1,by omega,by go_num,n+nq,rfl⟩
    case measure=>simp [intOf];omega
    }
    {
    go_wp2;go_ret;exact⟨rfl,n,rfl⟩
    }
theorem znp (a0 a1:Option Addr) (n0 n1 c0 c1:Nat) (xs:List S2) (w:World) (h0:zcr w a0 xs) (h1:zcr w a1 xs) (e0:xs.length=n0) (e1:xs.length=n1) (hx:n0≤maxLen):
    Calls Tryz.prog 74 #[.slice a0 n0 c0,.slice a1 n1 c1] w fun e w' =>e=.returned (.bool true)∧∃n,w' =w.drewN n:=by
  unfold maxLen at hx;have hg:=zrb;have E0:=hide e0;obtain rfl:n0=n1:=e0.symm.trans e1;clear e0 e1;go_enter Tryz.func74,Tryz.ntmps74;go_wp2
  go_loopw [13] (fun i wr=>∃k:Nat,k≤n0∧i=.int .i64 k∧∃n,wr=w.drewN n) (fun i _=>n0 - (intOf i).toNat)
  case atStart=>exact⟨0,Nat.zero_le _,rfl,0,rfl⟩
  case round=>
    obtain ⟨k,hk,rfl,n,rfl⟩:=hrel
    by_cases hlt:k<n0
    {
    have hlt1:k<xs.length:=by rw [E0.out];exact hlt
    rcases h0 with rfl| ⟨b0,o0,rfl,hc0⟩
    { simp at hlt1 }
    rcases h1 with rfl| ⟨b1,o1,rfl,hc1⟩
    { simp at hlt1 }
    obtain ⟨p0,p1⟩:=hc0 k xs[k] (List.getElem?_eq_getElem hlt1);obtain ⟨r0,r1⟩:=hc1 k xs[k] (List.getElem?_eq_getElem hlt1);clear hc0 hc1;generalize xs[k]=x at *;go_wp2;go_quiet (fail);go_wp2
    go_roundw
    case rel=>exact⟨k+1,by omega,by go_num,n+nq,rfl⟩
    case measure=>simp [intOf];omega
    }
    {
    go_wp2;go_ret;exact⟨rfl,n,rfl⟩
    }
theorem znh (a0 a1:Option Addr) (n0 n1 c0 c1:Nat) (xs:List T3) (w:World) (h0:zbm w a0 xs) (h1:zbm w a1 xs) (e0:xs.length=n0) (e1:xs.length=n1) (hx:n0≤maxLen):
    Calls Tryz.prog 153 #[.slice a0 n0 c0,.slice a1 n1 c1] w fun e w' =>e=.returned (.bool true)∧∃n,w' =w.drewN n:=by
  unfold maxLen at hx;have hg:=zqh;have E0:=hide e0;obtain rfl:n0=n1:=e0.symm.trans e1;clear e0 e1;go_enter Tryz.func153,Tryz.ntmps153;go_wp2
  go_loopw [13] (fun i wr=>∃k:Nat,k≤n0∧i=.int .i64 k∧∃n,wr=w.drewN n) (fun i _=>n0 - (intOf i).toNat)
  case atStart=>exact⟨0,Nat.zero_le _,rfl,0,rfl⟩
  case round=>
    obtain ⟨k,hk,rfl,n,rfl⟩:=hrel
    by_cases hlt:k<n0
    {
    have hlt1:k<xs.length:=by rw [E0.out];exact hlt
    rcases h0 with rfl| ⟨b0,o0,rfl,hc0⟩
    { simp at hlt1 }
    rcases h1 with rfl| ⟨b1,o1,rfl,hc1⟩
    { simp at hlt1 }
    obtain ⟨p0,p1,p2⟩:=hc0 k xs[k] (List.getElem?_eq_getElem hlt1);obtain ⟨r0,r1,r2⟩:=hc1 k xs[k] (List.getElem?_eq_getElem hlt1);clear hc0 hc1;generalize xs[k]=x at *;go_wp2;go_quiet (fail);go_wp2
    go_roundw
    case rel=>exact⟨k+1,by omega,by go_num,n+nq,rfl⟩
    case measure=>simp [intOf];omega
    }
    {
    go_wp2;go_ret;exact⟨rfl,n,rfl⟩
    }
end
end Go.Proofs.YthmekfcgdfckaaaGreatDoor
