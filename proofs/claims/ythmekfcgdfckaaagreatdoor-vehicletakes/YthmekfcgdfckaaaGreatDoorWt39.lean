/- What the closed fact 'driven' leans on: happenings in a row of one's own; closed plain facts. The closed fact 'driven'. How a law's arguments that are books, releases, roots, texts or slices of ints are opened. How a law's arguments that are signatures, what is trusted, or offers are opened. How a law's arguments that are units, or messages, are opened. How a law's argument that is a vehicle is opened. What the rows' listed variables give: the table that strconv.Itoa reads ('Tab'). -/
import Derived.Test.YthmekfcgdfckaaaGreatDoorWt38
import Derived.Test.YthmekfcgdfckaaaGreatDoorWt0
import Derived.Test.YthmekfcgdfckaaaGreatDoorWt7
import Derived.ProofKit
import Derived.Lib.SmallJoins
import Derived.SliceStrings
import Derived.Deep.Slices
import Derived.ChangeMaps5
import Derived.Test.YthmekfcgdfckaaaGreatDoorWt19
import Derived.Test.YthmekfcgdfckaaaGreatDoorWt9
import Derived.Test.YthmekfcgdfckaaaGreatDoorWt25
import Derived.Test.YthmekfcgdfckaaaGreatDoorWt27
import Derived.Stop.LaidErr
import Derived.LaidMore
set_option maxRecDepth 1000000
set_option maxHeartbeats 0
namespace Go.Proofs.YthmekfcgdfckaaaGreatDoor
variable {w W:World} {K:Nat→Prop} {l:List Hp} {a:Option Addr} {n fuel:Nat} {v:Value} {cs:List Value}
section
open Go.RowKit
theorem row_appN {P:Program} (w:World) (t e:TypeId) (F:Nat) (i:TypeInfo) (z:Value) (size bytes:Nat) (ht:P.underlying t=some (.slice e)) (hi:P.info? e=some i) (hz:i.zero=some z) (hs:i.size=size) (hb:i.bytes=bytes) (hzs:z.cells.size=size) (hs0:0<size) (hb2:bytes≤1000)
    (v:Value) (n:Nat) (vs:List Value) (h:w.ownsRow F e size v n vs) (m:Nat) (hm0:0<m) (hm:m≤1000) (c:Array Value) (hc:c.size=m * size) (h1:c.all (·.oneCell')=true) (hn:n≤1000) (hF:F≤w.heap.size):
    ∃g cap w4,(Builtin.append_ #[t,t] t #[v,.slice (some ⟨w.heap.size,0,none⟩) m m]).run P (w.alloc (.cells c e))=.ok (.slice (some ⟨g,0,none⟩) (n+m) cap) w4∧w4.ownsRow F e size (.slice (some ⟨g,0,none⟩) (n+m) cap) (n+m) (vs++c.toList)∧Chg (fun b=>v.ownBlock=some b) w w4∧Nw w v (.slice (some ⟨g,0,none⟩) (n+m) cap):=by
  have hbl:Below w.heap.size w (w.alloc (.cells c e)):=bA1;have hby: (n+m)* bytes≤140737488355328:=Nat.le_trans (Nat.mul_le_mul (show n+m≤2000 by omega) hb2) (by decide);obtain ⟨g,cap,w4,hr,ho,hg,hat,-⟩:=run_append_lies (P:=P) (w.alloc (.cells c e)) t t F e i z size bytes ht hi hz hs hb hzs hs0 v n vs (h.alloc _) ⟨w.heap.size,0,none⟩ m m c.toList (by rw [Array.length_toList,hc]) (World.news_of_block (heap_alloc_last w (.cells c e))) (fun u hu=>Array.all_eq_true_iff_forall_mem.1 h1 u (by simpa using hu)) hm0 (by unfold maxLen;omega) hby (Nat.le_trans hF hbl.size) _ rfl;refine⟨g,cap,w4,hr,ho,(Chg.of hbl _).trans (Chg.grown hg fun b e=>e), ?_⟩
  rcases hat with h|h
  { exact .inl (by rw [h];rfl) }
  {
  exact .inr ⟨g,rfl,by rw [h];exact hbl.size⟩
  }
structure SI (W:World) (l:List Hp) (v:Value) (wr:World):Prop where
  bel:Below W.heap.size W wr
  row: ∃vs,wr.ownsRow W.heap.size 49 10 v l.length vs∧Vs (HR W (fun _=>False)) l vs
theorem HR.below {w' :World} (hb:Below w.heap.size w w') (x:Hp) (c:List Value) (h:HR w K x c):HR w' K x c:=by
  obtain ⟨mo,e,h1⟩:=h;exact⟨mo,e,h1.below hb⟩
theorem SI.nil (W wr:World) (hb:Below W.heap.size W wr):SI W [] (.slice none 0 0) wr:=⟨hb, [],World.ownsRow_nil _ _ _ _,rfl⟩
theorem SI.rin {wr:World} {c:Nat} (h:SI W l (.slice a n c) wr) (hn:l.length=n) (hm:n≤1000):RIn HR wr (fun _=>False) a n c l:=by
  obtain ⟨vs,h1,h2⟩:=h.row;rw [hn] at h1;exact⟨⟨vs,zdd h1,h2.mono (HR.below h.bel),Ao.no⟩,hn,zlo h1,by unfold maxLen;omega⟩
theorem SI.keep {wr w' :World} (h:SI W l v wr) (hb:Below wr.heap.size wr w'):SI W l v w' :=by
  obtain ⟨vs,h1,h2⟩:=h.row;exact⟨h.bel.trans (hb.mono h.bel.size),vs,zba h1 hb,h2⟩
theorem SI.app {wr w4:World} {l2:List Hp} {v' :Value} (h:SI W l v wr) (hc:Chg (fun b=>v.ownBlock=some b) wr w4) (hv:Vs (HR W (fun _=>False)) l2 cs)
    (ho: ∀vs,wr.ownsRow W.heap.size 49 10 v l.length vs→w4.ownsRow W.heap.size 49 10 v' (l.length+l2.length) (vs++cs)):SI W (l++l2) v' w4:=by
  obtain ⟨vs,h1,h2⟩:=h.row;refine⟨h.bel.trans (hc.below (fun b e=>(h1.lt b e).1) h.bel.size),_,by simpa using ho vs h1,h2.app hv⟩
theorem OR.bo {o:Of} {c:List Value} (h:OR w K o c): ∃mo,c= (ofC o.v o.u mo).toList∧BO w mo o:=by
  obtain ⟨h1,h2,m,e,n1,n2,⟨t1,-⟩,⟨s1,-⟩,⟨vs,i1,i2,-⟩,i4,i5⟩:=h;exact⟨m,e,⟨.inl h1,by rw [h1,n1];rfl,by rw [n1];decide⟩,⟨.inl h2,by rw [h2,n2];rfl,by rw [n2];decide⟩,t1,s1,⟨ziz i1 i2,i4,i5⟩⟩
theorem bo9 (w:World):BO w oa9 of9:=⟨⟨.inl rfl,rfl,by decide⟩,⟨.inl rfl,rfl,by decide⟩,⟨.inl rfl,rfl,by decide⟩,⟨.inl rfl,rfl,by decide⟩,⟨.inl rfl,rfl,by decide⟩⟩
theorem zme {l:List Of} {vs:List Value} {i:Nat} {o:Of} (hr:IsRow w a vs) (h:Vs (OR w K) l vs) (hi:l[i]?=some o): ∃b off mo,a=some ⟨b,off,none⟩∧BO w mo o∧∀j v,(ofC o.v o.u mo).toList[j]?=some v→w.cell? ⟨b,off+i * 7+j,none⟩=some v:=by
  obtain ⟨b,off,c,rfl,h1,hc⟩:=hr.elem OR.len (by decide) h hi;obtain ⟨mo,e,hb⟩:=h1.bo;exact⟨b,off,mo,rfl,hb,fun j v hv=>hc j v (by rw [e];exact hv)⟩
theorem infoHap: (Tryz.prog.info? 49).map (fun i=>(i.zero,i.size,i.bytes))=some (some (.agg (hpC hp9 oa9)),10,160):=by kernel_rfl
def dV:Vh:=nwV (outF 1 9 4).ss (outF 1 9 4).sg rtF (outF 1 9 4).fst
def hpK (k:Int):Hp:=⟨k,0,0,of9⟩
def dO (k:Nat):Of:=(facO 1 9).getD k of9
def dS:List Hp:= [⟨1,0,0,dO 2⟩,⟨1,0,0,dO 0⟩,hpK 2]++ [hpK 3]++ [hpK 3]++ [hpK 3]++ [hpK 3]++ [hpK 2,hpK 3,hpK 3]
theorem dV_ok:vhE dV=0∧(facO 1 9).length=3∧(dO 0).imgs.length=1∧(dO 0).imgs.getD 0 []=imgF 1 0:=by decide+kernel
theorem dR_ok: (runL dV dS).2.length=10∧(runL dV dS).2.getD 0 5=9∧(runL dV dS).2.getD 1 5=0∧(runL dV dS).1.us.length=1:=by decide+kernel
theorem dU_ok: (runsS ((runL dV dS).1.us.getD 0 un9)).1=imgF 1 0∧(runsS ((runL dV dS).1.us.getD 0 un9)).2.2=0:=by decide+kernel
theorem dG_ok: (zc3 (runL dV dS).1.g).2=0∧(zc3 (runL dV dS).1.g).1.en=true∧(zc3 (runL dV dS).1.g).1.co=true:=by decide+kernel
theorem dS_run:runS dV dS= ((runL dV dS).1,(runL dV dS).2,0):=by
  unfold runS;rw [if_neg (by simpa using dV_ok.1),if_neg (by decide)]
theorem facOk_1:FacOk 1 9:=⟨by decide,by decide,by decide+kernel,by decide+kernel,by decide+kernel,by decide+kernel,by unfold UnOk;decide+kernel,by decide+kernel⟩
end
section
open Go.RowKit
attribute [local go_sem ↓] Go.wp_at_zero Go.wp_at_succ zhy zhp zhu exO_ld exU_ld exG_ld
attribute [local go_sem] zgl zgn zgi rdF_V wrF_V zgj zli World.setRow_alloc_new
theorem dO_at {k:Nat} (h:k<3): (facO 1 9)[k]?=some (dO k):=by
  unfold dO;rw [List.getD_eq_getElem?_getD,List.getElem?_eq_getElem (by rw [dV_ok.2.1];exact h)];rfl
theorem own_made {g F size:Nat} {c:Array Value} {e:TypeId} (h:w.heap[g]?=some (.cells c e (0,0))) (hc:c.size=n * size) (hF:F≤g) (hn:n≤maxLen):w.ownsRow F e size (.slice (some ⟨g,0,none⟩) n n) n c.toList:=
  ⟨by rw [Array.length_toList,hc],.inr ⟨g,n,c,rfl,hF,h,Nat.le_refl _,hn,hc,by rw [←hc,←Array.length_toList,List.take_length]⟩⟩
theorem rdO_at {b o:Nat} {x:Of} {mo:OA} (hc: ∀j v,(ofC x.v x.u mo).toList[j]?=some v→w.cell? ⟨b,o+j,none⟩=some v) (hb:Below w.heap.size w W):
    (rdB 47 (.pointer (some ⟨b,o,none⟩))).run Tryz.prog W=.ok (.agg (aO mo x)) W:=
  rdO_mid W b o x.v x.u mo (fun j v hv=>(hb.cell (zah (hc j v hv))).trans (hc j v hv))
theorem zqf (w:World) (hT:Tab w):Calls Tryz.prog 15 #[] w fun e w' =>e=.returned (.bool true)∧Below w.heap.size w w' :=by
  have HF:Hid (Calls Tryz.prog 23 #[.int .i64 1,.int .i64 9] w (zh8 w 1 9)):=zpb 1 9 w hT facOk_1;have HT:=hide hT;clear hT;go_enter Tryz.func15,Tryz.ntmps15;go_wp2_with fail;refine(zae HF).mono ?_;rintro e w1 ⟨⟨m,oa,n,c,rfl,hv1,ho1⟩,hb1⟩;clear HF
  change VIn w1 _ m dV at hv1
  rw [show nwV (outF 1 9 4).ss (outF 1 9 4).sg rtF (outF 1 9 4).fst=dV from rfl];obtain rfl:n=3:=by rw [←ho1.len];exact dV_ok.2.1
  have hc3:=ho1.cap;obtain ⟨vs,r1,r2,-⟩:=ho1.row;obtain ⟨b,off,m2,rfl,hbo2,hc2⟩:=zme r1 r2 (dO_at (k:=2) (by omega));obtain ⟨b',off',m0,e0,hbo0,hc0⟩:=zme r1 r2 (dO_at (k:=0) (by omega));cases e0;simp only [Nat.reduceMul,Nat.add_zero] at hc2 hc0;have HL0:=hide (zfd hbo0.imgs.at_ 0 (by rw [dV_ok.2.2.1];omega));have HD2:=hide (fun W (hW:Below w1.heap.size w1 W)=>rdO_at hc2 hW);have HD0:=hide (fun W (hW:Below w1.heap.size w1 W)=>rdO_at hc0 hW);have H5:=hide (fun W (hW:Below w1.heap.size w1 W)=>(hW.cell (zah (hc0 6 _ rfl))).trans (hc0 6 _ rfl));have hb2:Below w1.heap.size w1 (w1.alloc (.cells (vhC dV m) 40)):=bA1;have bv:=hide (heap_alloc_last w1 (.cells (vhC dV m) 40));have HV:=hide (hv1.below hb2);have HW1:=hide hb1;unfold vhv;clear hc0 hc2 r1 r2 ho1 hv1 hb1 vs;go_upto_region 4 with fail
  have hd:=hb2.drew;generalize w1.alloc (.cells (vhC dV m) 40)=W2 at *;refine wp_region_held_drew (S:=fun W' =>(rdB 47 (.pointer (some ⟨b,off+14,none⟩))).run Tryz.prog W' =.ok (.agg #[.slice m2.a1 m2.n1 m2.c1,.slice m2.a2 m2.n2 m2.c2,.int .i64 (dO 2).v,.int .i64 (dO 2).u,.slice m2.a3 m2.n3 m2.c3,.slice m2.a4 m2.n4 m2.c4,.slice m2.a5 m2.n5 m2.c5]) W' ∧(rdB 47 (.pointer (some ⟨b,off,none⟩))).run Tryz.prog W' =.ok (.agg #[.slice m0.a1 m0.n1 m0.c1,.slice m0.a2 m0.n2 m0.c2,.int .i64 (dO 0).v,.int .i64 (dO 0).u,.slice m0.a3 m0.n3 m0.c3,.slice m0.a4 m0.n4 m0.c4,.slice m0.a5 m0.n5 m0.c5]) W') (by kernel_rfl) ⟨HD2.out _ hd,HD0.out _ hd⟩ ?_;intro hHeld;refine Htk (i:=0) ?_
  try simp only [sq]
  refine Htk (i:=1) ?_
  try simp only [sq]
  refine Htk (i:=2) ?_
  try simp only [sq]
  refine Htk (i:=3) ?_
  try simp only [sq]
  refine Htk (i:=4) ?_
  try simp only [sq]
  refine Htk (i:=5) ?_
  try simp only [sq]
  refine Htk (i:=6) ?_
  try simp only [sq]
  refine Htk (i:=7) ?_
  try simp only [sq]
  refine Htk (i:=8) ?_
  try simp only [sq]
  refine wpAnyH_ready (rs:= [9]) (by kernel_rfl) (by simp) ?_;refine AllReadyH.cons (by rfl) (fun K hK=> ?_) AllReadyH.nil;go_simp;have hb3:Below W2.heap.size W2 (W2.alloc (.cells #[.int .i64 1,.int .i64 0,.int .i64 0,.slice m2.a1 m2.n1 m2.c1,.slice m2.a2 m2.n2 m2.c2,.int .i64 (dO 2).v,.int .i64 (dO 2).u,.slice m2.a3 m2.n3 m2.c3,.slice m2.a4 m2.n4 m2.c4,.slice m2.a5 m2.n5 m2.c5,.int .i64 1,.int .i64 0,.int .i64 0,.slice m0.a1 m0.n1 m0.c1,.slice m0.a2 m0.n2 m0.c2,.int .i64 (dO 0).v,.int .i64 (dO 0).u,.slice m0.a3 m0.n3 m0.c3,.slice m0.a4 m0.n4 m0.c4,.slice m0.a5 m0.n5 m0.c5,.int .i64 2,.int .i64 0,.int .i64 0,.slice none 0 0,.slice none 0 0,.int .i64 0,.int .i64 0,.slice none 0 0,.slice none 0 0,.slice none 0 0] 49)).drew:=(bA1).drew;have hb13:=bT hb2 hb3;have HS3:Hid (SI W2 [⟨1,0,0,dO 2⟩,⟨1,0,0,dO 0⟩,hpK 2] (.slice (some ⟨W2.heap.size,0,none⟩) 3 3) (W2.alloc (.cells #[.int .i64 1,.int .i64 0,.int .i64 0,.slice m2.a1 m2.n1 m2.c1,.slice m2.a2 m2.n2 m2.c2,.int .i64 (dO 2).v,.int .i64 (dO 2).u,.slice m2.a3 m2.n3 m2.c3,.slice m2.a4 m2.n4 m2.c4,.slice m2.a5 m2.n5 m2.c5,.int .i64 1,.int .i64 0,.int .i64 0,.slice m0.a1 m0.n1 m0.c1,.slice m0.a2 m0.n2 m0.c2,.int .i64 (dO 0).v,.int .i64 (dO 0).u,.slice m0.a3 m0.n3 m0.c3,.slice m0.a4 m0.n4 m0.c4,.slice m0.a5 m0.n5 m0.c5,.int .i64 2,.int .i64 0,.int .i64 0,.slice none 0 0,.slice none 0 0,.int .i64 0,.int .i64 0,.slice none 0 0,.slice none 0 0,.slice none 0 0] 49)).drew):=
    ⟨hb3,_,own_made (show(W2.alloc (.cells #[.int .i64 1,.int .i64 0,.int .i64 0,.slice m2.a1 m2.n1 m2.c1,.slice m2.a2 m2.n2 m2.c2,.int .i64 (dO 2).v,.int .i64 (dO 2).u,.slice m2.a3 m2.n3 m2.c3,.slice m2.a4 m2.n4 m2.c4,.slice m2.a5 m2.n5 m2.c5,.int .i64 1,.int .i64 0,.int .i64 0,.slice m0.a1 m0.n1 m0.c1,.slice m0.a2 m0.n2 m0.c2,.int .i64 (dO 0).v,.int .i64 (dO 0).u,.slice m0.a3 m0.n3 m0.c3,.slice m0.a4 m0.n4 m0.c4,.slice m0.a5 m0.n5 m0.c5,.int .i64 2,.int .i64 0,.int .i64 0,.slice none 0 0,.slice none 0 0,.int .i64 0,.int .i64 0,.slice none 0 0,.slice none 0 0,.slice none 0 0] 49)).drew.heap[W2.heap.size]?=some (.cells #[.int .i64 1,.int .i64 0,.int .i64 0,.slice m2.a1 m2.n1 m2.c1,.slice m2.a2 m2.n2 m2.c2,.int .i64 (dO 2).v,.int .i64 (dO 2).u,.slice m2.a3 m2.n3 m2.c3,.slice m2.a4 m2.n4 m2.c4,.slice m2.a5 m2.n5 m2.c5,.int .i64 1,.int .i64 0,.int .i64 0,.slice m0.a1 m0.n1 m0.c1,.slice m0.a2 m0.n2 m0.c2,.int .i64 (dO 0).v,.int .i64 (dO 0).u,.slice m0.a3 m0.n3 m0.c3,.slice m0.a4 m0.n4 m0.c4,.slice m0.a5 m0.n5 m0.c5,.int .i64 2,.int .i64 0,.int .i64 0,.slice none 0 0,.slice none 0 0,.int .i64 0,.int .i64 0,.slice none 0 0,.slice none 0 0,.slice none 0 0] 49 (0,0)) from heap_alloc_last W2 _) rfl (Nat.le_refl _) (by decide),⟨(hpC ⟨1,0,0,dO 2⟩ m2).toList,_,rfl,⟨m2,rfl,hbo2.below hb2⟩,(hpC ⟨1,0,0,dO 0⟩ m0).toList,_,rfl,⟨m0,rfl,hbo0.below hb2⟩,(hpC (hpK 2) oa9).toList, [],rfl,⟨oa9,rfl,bo9 _⟩,rfl⟩⟩
  refine hK.out _ _ (⟨HD2.out _ hb13,HD0.out _ hb13⟩) (fun hHeld=> ?_);clear hK K
  try simp only [sq]
  refine Htk (i:=10) ?_
  try simp only [sq]
  refine wpAnyH_done (by kernel_rfl) ?_ _;generalize (W2.alloc (.cells #[.int .i64 1,.int .i64 0,.int .i64 0,.slice m2.a1 m2.n1 m2.c1,.slice m2.a2 m2.n2 m2.c2,.int .i64 (dO 2).v,.int .i64 (dO 2).u,.slice m2.a3 m2.n3 m2.c3,.slice m2.a4 m2.n4 m2.c4,.slice m2.a5 m2.n5 m2.c5,.int .i64 1,.int .i64 0,.int .i64 0,.slice m0.a1 m0.n1 m0.c1,.slice m0.a2 m0.n2 m0.c2,.int .i64 (dO 0).v,.int .i64 (dO 0).u,.slice m0.a3 m0.n3 m0.c3,.slice m0.a4 m0.n4 m0.c4,.slice m0.a5 m0.n5 m0.c5,.int .i64 2,.int .i64 0,.int .i64 0,.slice none 0 0,.slice none 0 0,.int .i64 0,.int .i64 0,.slice none 0 0,.slice none 0 0,.slice none 0 0] 49)).drew=W3 at *;clear hHeld hd hb3 HD2 HD0 hbo2;obtain ⟨iH,hiH,hz0,hz1,hz2⟩:=info_parts infoHap;go_wp2_with fail
  go_loopw [4,29] (fun v i wq=>∃(k:Nat) (l:List Hp),k≤4∧i=.int .i64 k∧Hid (l= [⟨1,0,0,dO 2⟩,⟨1,0,0,dO 0⟩,hpK 2]++List.replicate k (hpK 3))∧Hid (SI W2 l v wq)) (fun _ i _=>4 - (intOf i).toNat)
  case atStart=>exact⟨0,_,by omega,rfl,rfl,HS3⟩
  case round=>
    clear HS3;obtain ⟨wq,rfl⟩: ∃wq:World,wq=wr:=⟨_,rfl⟩;obtain ⟨k,l,hk,rfl,HL,hI⟩:=hrel;obtain ⟨vs,hvs,-⟩:=hI.out.row;obtain ⟨aa,ca,rfl⟩:=zbk hvs;have hl3:Hid (l.length=3+k):=by show _=_;rw [HL.out];simp;omega
    by_cases hk4:k<4
    {
    have hkI: (k:Int)<4:=by omega
    have HK:Hid (k<4):=hk4;obtain ⟨g,cap,w4,hr,ho,hc,-⟩:=zed (P:=Tryz.prog) wq 61 49 W2.heap.size iH _ 10 160 Tryz.underlying61 hiH hz0 hz1 hz2 rfl (by omega) (by omega) _ _ vs hvs (hpC (hpK 3) oa9) rfl (by simp [hpC,Value.oneCell']) (by rw [hl3.out];omega) hI.out.bel.size;have HI2:Hid (SI W2 (l++ [hpK 3]) (.slice (some ⟨g,0,none⟩) (l.length+1) cap) w4):=by
      refine hI.out.app (l2:= [hpK 3]) (cs:=(hpC (hpK 3) oa9).toList) hc ⟨(hpC (hpK 3) oa9).toList, [],by simp,⟨oa9,rfl,bo9 _⟩,rfl⟩ (fun us hus=> ?_);obtain rfl:=zfg hus hvs;exact ho
    have HL2:Hid (l++ [hpK 3]= [⟨1,0,0,dO 2⟩,⟨1,0,0,dO 0⟩,hpK 2]++List.replicate (k+1) (hpK 3)):=by show _=_;rw [List.replicate_succ',←List.append_assoc,HL.out]
    have HR:Hid ((Builtin.append_ #[61,61] 61 #[.slice aa l.length ca,.slice (some ⟨wq.heap.size,0,none⟩) 1 1]).run Tryz.prog (wq.alloc (.cells #[.int .i64 3,.int .i64 0,.int .i64 0,.slice none 0 0,.slice none 0 0,.int .i64 0,.int .i64 0,.slice none 0 0,.slice none 0 0,.slice none 0 0] 49))=.ok (.slice (some ⟨g,0,none⟩) (l.length+1) cap) w4):=hr;clear hr ho hc hvs hI hk hk4 hl3 HL
    go_wp2_with (at_builtin;refine Lib.wpList_append_run _ rfl _ _ 61 61 rfl _ _ rfl rfl _ _ HR.out ?_)
    go_roundw
    case rel=>exact⟨k+1,_,HK.out,by go_num,HL2,HI2⟩
    case measure=>have:=HK.out;simp [intOf];omega
    }
    {
    have hk5:k=4:=by omega
    subst hk5;clear hk hk4;obtain ⟨g,cap,w4,hr,ho,hc,-⟩:=row_appN (P:=Tryz.prog) wq 61 49 W2.heap.size iH _ 10 160 Tryz.underlying61 hiH hz0 hz1 hz2 rfl (by omega) (by omega) _ _ vs hvs 3 (by omega) (by omega) #[.int .i64 2,.int .i64 0,.int .i64 0,.slice none 0 0,.slice none 0 0,.int .i64 0,.int .i64 0,.slice none 0 0,.slice none 0 0,.slice none 0 0,.int .i64 3,.int .i64 0,.int .i64 0,.slice none 0 0,.slice none 0 0,.int .i64 0,.int .i64 0,.slice none 0 0,.slice none 0 0,.slice none 0 0,.int .i64 3,.int .i64 0,.int .i64 0,.slice none 0 0,.slice none 0 0,.int .i64 0,.int .i64 0,.slice none 0 0,.slice none 0 0,.slice none 0 0] rfl (by simp [Value.oneCell']) (by rw [hl3.out];omega) hI.out.bel.size;have HI2:Hid (SI W2 dS (.slice (some ⟨g,0,none⟩) (l.length+3) cap) w4):=by
      have e:dS=l++ [hpK 2,hpK 3,hpK 3]:=by rw [HL.out];rfl
      show SI _ _ _ _
      rw [e];refine hI.out.app (l2:= [hpK 2,hpK 3,hpK 3]) (cs:=(#[.int .i64 2,.int .i64 0,.int .i64 0,.slice none 0 0,.slice none 0 0,.int .i64 0,.int .i64 0,.slice none 0 0,.slice none 0 0,.slice none 0 0,.int .i64 3,.int .i64 0,.int .i64 0,.slice none 0 0,.slice none 0 0,.int .i64 0,.int .i64 0,.slice none 0 0,.slice none 0 0,.slice none 0 0,.int .i64 3,.int .i64 0,.int .i64 0,.slice none 0 0,.slice none 0 0,.int .i64 0,.int .i64 0,.slice none 0 0,.slice none 0 0,.slice none 0 0]:Array Value).toList) hc ⟨(hpC (hpK 2) oa9).toList,_,rfl,⟨oa9,rfl,bo9 _⟩,(hpC (hpK 3) oa9).toList,_,rfl,⟨oa9,rfl,bo9 _⟩,(hpC (hpK 3) oa9).toList, [],rfl,⟨oa9,rfl,bo9 _⟩,rfl⟩ (fun us hus=> ?_);obtain rfl:=zfg hus hvs;exact ho
    have HR:=hide hr;have hl10:l.length+3=10:=by rw [hl3.out]
    have HN10:=hide hl10;have hbw:=HI2.out.bel;have bv4:=hide (zab bv.out hbw);have hv4:=bk_v bv4.out;have HRun:=hide (run_any dV m dS (some ⟨g,0,none⟩) (l.length+3) cap w4 ((HV.out.below hbw).wide (K' :=fun _=>False) fun _ e=>e.elim) (HT.out.below (HW1.out.trans (((bT hb2 hbw)).mono HW1.out.size))) (HI2.out.rin (by rw [hl10];rfl) (by omega)));rw [dS_run] at HRun;unfold vhv at HRun;clear hr ho hc hvs hI hl3 HL hiH hz0 hz1 hz2 hl10
    go_wp2_with (at_builtin;refine Lib.wpList_append_run _ rfl _ _ 61 61 rfl _ _ rfl rfl _ _ HR.out ?_)
    refine(zae HRun).mono ?_;rintro e w5 ⟨⟨m5,sa,n5,c5,rfl,hv5,hs5,hf5⟩,hb5⟩;clear HRun hv4;have HR1:=hide dR_ok;have HU1:=hide dU_ok;have HG1:=hide dG_ok;unfold vhv;generalize runL dV dS=R at *;obtain ⟨V,sd⟩:=R;dsimp only at HR1 HU1 HG1 hv5 hs5⊢;obtain rfl:n5=10:=by rw [←hs5.len];exact HR1.out.1
    have hnu:m5.nu=1:=by rw [←hv5.us.len];exact HR1.out.2.2.2
    have bv5:=zab bv4.out hb5;have hbk:=bk_v bv5;have hlt:=zak bv4.out;have hch:=zcv w5 w1.heap.size (vhC V m5);have hbx:=setRow_heap w5 w1.heap.size _ (vhC V m5) _ _ bv5;have hv6:=(hv5.wide (K' :=fun b=>b=w1.heap.size) fun b e=>.inl (by rw [e];exact⟨hlt,_,_,bv4.out,by show 15<192;decide⟩)).chg hch;have hi6:=hs5.at_.chg hch (.inr fun ad e c=>by have:=hf5 ad e;omega);have hb6:Below w1.heap.size w1 (w5.setRow w1.heap.size (vhC V m5)):=(hb2.trans (((bT hbw hb5)).mono hb2.size)).trans (hch.below (fun b e=>Nat.le_of_eq e.symm) (Nat.le_trans hb2.size (Nat.le_trans hbw.size hb5.size)));obtain ⟨bs,os,rfl,hcs⟩: ∃bs os,sa=some ⟨bs,os,none⟩∧∀i,i<sd.length→(w5.setRow w1.heap.size (vhC V m5)).cell? ⟨bs,os+i,none⟩=some (.int .i64 (sd.getD i 0)):=by
      rcases hi6 with e| ⟨bs,os,e,h⟩
      { have:=HR1.out.1;rw [e] at this;cases this }
      { exact⟨bs,os,e,h⟩ }
    have s0:=hcs 0 (by rw [HR1.out.1];omega);have s1:=hcs 1 (by rw [HR1.out.1];omega);rw [show sd.getD 0 0=9 by have:=HR1.out.2.1;cases sd with|nil=>(have h:=HR1.out.1;cases h)|cons x r=>exact this] at s0;rw [show sd.getD 1 0=0 by have:=HR1.out.2.2.1;have h:=HR1.out.1;match sd,h,this with|x::y::r,_,h=>exact h] at s1;rw [Nat.add_zero] at s0;have x11: (w5.setRow w1.heap.size (vhC V m5)).cell? ⟨w1.heap.size,11,none⟩=some (.slice m5.au m5.nu m5.cu):=zaa hbx 11 _ rfl;rw [hnu] at x11;have HV6:=hide hv6;have HB6:=hide hb6;have HX6:=hide hbx;have HNu:=hide hnu;have hcu:1≤m5.cu:=by rw [←hnu];exact hv5.us.cap
    have hl10:=HN10.out;clear hv5 hs5 hf5 hb5 hi6 hv6 hb6 hbx hch hlt bv5 hcs hnu;go_upto_region 13 with fail
    generalize w5.setRow w1.heap.size (vhC V m5)=W6 at *;clear s0 s1 hbk;obtain ⟨vu,ru1,ru2,-⟩:=HV6.out.us.row;obtain ⟨u0,hu0⟩: ∃u0,V.us[0]?=some u0:=⟨V.us[0]'(by rw [HR1.out.2.2.2];omega),List.getElem?_eq_getElem _⟩;obtain ⟨bu,ou,ux,un,uc,hau,hbw0,-,u1,u2,u3,u4,u5⟩:=zdz ru1 ru2 hu0;simp only [Nat.zero_mul,Nat.add_zero] at u1 u2 u3 u4 u5;rw [hau] at x11;have hrd:=rdU_mid W6 bu ou u0 ux un uc (fun j v hv=>by
      match j,hv with
      |0,e=>cases e;exact u1
      |1,e=>cases e;exact u2
      |2,e=>cases e;exact u3
      |3,e=>cases e;exact u4
      |4,e=>cases e;exact u5)
    have HC:=hide (zn0 u0 ux un uc W6 hbw0);rw [unv_eq] at HC;have hU: (runsS u0).1=imgF 1 0∧(runsS u0).2.2=0:=by
      have:=HU1.out;rw [List.getD_eq_getElem?_getD,hu0] at this;exact this
    have HUR:=hide hU;clear hU u1 u2 u3 u4 u5 ru1 ru2 hu0 hbw0 HU1 hau;go_wp2_with fail;refine(zae HC).mono ?_;rintro e w7 ⟨⟨ar,nr,cr,rfl,hir,hnr,hcr,-⟩,hb7⟩;clear HC hrd;have hb67:=hb7;have hx7:=zab HX6.out hb7;have hg7:=rdG_mid w7 w1.heap.size 2 V.g m5.g (fun j v hv=>by
      have h9:j<9:=by have:=(List.getElem?_eq_some_iff.1 hv).1;exact this
      match j,hv with
      |0,e=>cases e;exact zaa hx7 2 _ rfl
      |1,e=>cases e;exact zaa hx7 3 _ rfl
      |2,e=>cases e;exact zaa hx7 4 _ rfl
      |3,e=>cases e;exact zaa hx7 5 _ rfl
      |4,e=>cases e;exact zaa hx7 6 _ rfl
      |5,e=>cases e;exact zaa hx7 7 _ rfl
      |6,e=>cases e;exact zaa hx7 8 _ rfl
      |7,e=>cases e;exact zaa hx7 9 _ rfl
      |8,e=>cases e;exact zaa hx7 10 _ rfl
      |j+9,_=>omega)
    have HC:=hide (zh0 V.g m5.g w7 (HV6.out.below hb7).g);rw [zud] at HC;clear x11;go_wp2_with fail;refine(zae HC).mono ?_;rintro e w8 ⟨rfl,hb8⟩;clear HC hg7;generalize runsS u0=r at *;obtain ⟨r1,r2,r3⟩:=r;obtain ⟨rfl,rfl⟩:=HUR.out;generalize zc3 V.g=q at *;obtain ⟨st,e9⟩:=q;obtain ⟨g1,g2,g3⟩:=HG1.out;have HXl:Hid ((dO 0).imgs[0]'(by rw [dV_ok.2.2.1];omega)=imgF 1 0):=by
      show _=_
      have:=dV_ok.2.2.2;rw [List.getD_eq_getElem?_getD,List.getElem?_eq_getElem (by rw [dV_ok.2.2.1];omega)] at this;exact this
    obtain ⟨bi,oi,ai,ci,ha5,hci,hii,hic,hmc⟩:=HL0.out;rw [HXl.out] at hci hii hic;rw [Nat.add_zero] at hci;have hn5:m0.n5=1:=by rw [←hbo0.imgs.len];exact dV_ok.2.2.1
    dsimp only at g1 g2 g3 hir hnr⊢;subst g1;unfold gsv;rw [g2,g3];have hb9:Below w8.heap.size w8 (w8.alloc (.cells #[.int .i64 st.n,.int .i64 st.v,.bool true,.bool st.ab,.bool true] 72)):=bA1;have hb79:=bT hb8 hb9;have hb69:=bT hb7 hb79;have hb19:=HB6.out.trans (hb69.mono HB6.out.size);have z5:=H5.out _ hb19;rw [ha5,hn5] at z5;have zi: (w8.alloc (.cells #[.int .i64 st.n,.int .i64 st.v,.bool true,.bool st.ab,.bool true] 72)).cell? ⟨bi,oi,none⟩=some (.slice ai (imgF 1 0).length ci):=(hb19.cell (zah hci)).trans hci;have HQ:=hide (zl3 ar ai cr ci (imgF 1 0) (imgF 1 0) _ (hir.below hb79) (hii.below hb19) (by decide) (by decide));rw [hnr,show eqL (imgF 1 0) (imgF 1 0)=true by decide] at HQ;rw [hnr] at zi;have HFin:=hide (HW1.out.trans (hb19.mono HW1.out.size));have bg9:=hide (heap_alloc_last w8 (.cells #[.int .i64 st.n,.int .i64 st.v,.bool true,.bool st.ab,.bool true] 72));clear hb9 hb79 hb69 hb19 hir hnr hci hii hic hmc HL0 H5 hb7 hb8 hb67 hx7 HXl g2 g3 HG1 HUR;go_upto_region 15 with fail
    generalize (w8.alloc (.cells #[.int .i64 st.n,.int .i64 st.v,.bool true,.bool st.ab,.bool true] 72))=W9 at *;go_wp2_with fail;refine(zae HQ).mono ?_;rintro e w10 ⟨rfl,nd,rfl⟩;have hd10:Below W9.heap.size W9 (W9.drewN nd):=below_drewN (Below.refl _ _) nd;have c4:=zaa (zab bg9.out hd10) 4 _ rfl;have c2:=zaa (zab bg9.out hd10) 2 _ rfl;have HE:=hide (HFin.out.trans (hd10.mono HFin.out.size));clear HQ z5 zi hd10;generalize W9.drewN nd=W10 at *;go_wp2_with fail;go_ret;exact⟨rfl,HE.out⟩
    }
end
section
open Go.ChangeShapes Go.WideShapes Go.ChangeAt Go.RowKit Go.Joins
theorem own:ownKnob Tryz.prog.godebug=none:=by kernel_rfl
theorem laidOut:laidOutB Tryz.prog=true:=by kernel_rfl
theorem zbo:Tryz.prog.cellsOf 3=1:=by kernel_rfl
structure InInts (W:World) (a:Option Addr) (n c:Nat) (xs:List Int):Prop where
  ints:zag W a xs
  len:xs.length=n
  cap:n≤c
  max:n≤maxLen
structure InTgts (W:World) (a:Option Addr) (n c:Nat) (ts:List T3):Prop where
  tgts:zbm W a ts
  len:ts.length=n
  cap:n≤c
  max:n≤maxLen
theorem ad_spot {ad:Addr} (h:W.cell? (ad.add 0)=some v):ad.spot=none:=by
  simpa [Addr.add] using World.cell?_spot h
theorem zeb {b off i:Nat} (h:W.cell? ((⟨b,off,none⟩:Addr).add i)=some v):W.cell? ⟨b,off+i,none⟩=some v:=by
  by_cases hi0:i=0
  { subst hi0;simpa [Addr.add] using h }
  {
  simpa [Addr.add,hi0] using h
  }
theorem zfy {H:Type} {enc:TypeId×Value→H} {x:DataW H×List MemPlace}
    (h:DataW.trod enc Tryz.prog W 0 (fun _=>true) true fuel 26 [v]=some x):
    ∃a n c xs,v=.slice a n c∧InInts W a n c xs:=by
  rcases open_ints Tryz.underlying26 Tryz.underlying3 zbo h with ⟨hcs,hx⟩| ⟨ad,len,cap,zs,hcs,_,hl,hm,hz,hx,hcell,_⟩
  {
  simp at hcs
  subst hcs hx;exact⟨none,0,0, [],rfl,⟨.inl rfl,rfl,Nat.le_refl _,by decide⟩⟩
  }
  {
  simp at hcs hz
  subst hcs hx;refine⟨some ad,len,cap,zs.take len,rfl, ?_,by simp;omega,hl,Nat.le_trans hl hm⟩
  by_cases h0:len=0
  { exact .inl (by simp [h0]) }
  obtain ⟨b,off,spot⟩:=ad;have hs:spot=none:=ad_spot (hcell 0 (by omega));subst hs;refine .inr ⟨b,off,rfl,fun i hi=> ?_⟩
  simp at hi
  rw [zeb (hcell i (by omega))]
  simp [show i<len by omega]
  }
theorem zmi:Tryz.prog.cellsOf 163=3:=by kernel_rfl
theorem open_tgt {H:Type} {enc:TypeId×Value→H} {x:DataW H×List MemPlace} (h:DataW.trod enc Tryz.prog W 0 (fun _=>true) true n 163 cs=some x):
    ∃t:T3,cs=zj8 t:=by
  obtain ⟨xs,k,hk,hxy,hl,hxl,hf⟩:=DataW.trod_struct Tryz.underlying163 h;rw [zmi] at hl
  match cs,hl with
  | [v0,v1,v2],_=>
    match xs,hxl with
    | [y0,y1,y2],_=>
      have g0:=hf 0 _ rfl;have g1:=hf 1 _ rfl;have g2:=hf 2 _ rfl
      simp [zbo] at g0 g1 g2
      obtain ⟨z0,e0,_⟩:=DataW.trod_int Tryz.underlying3 g0;obtain ⟨z1,e1,_⟩:=DataW.trod_int Tryz.underlying3 g1;obtain ⟨z2,e2,_⟩:=DataW.trod_int Tryz.underlying3 g2
      simp at e0 e1 e2
      exact⟨(z0,z1,z2),by rw [e0,e1,e2];rfl⟩
theorem zjm {H:Type} {enc:TypeId×Value→H} {x:DataW H×List MemPlace}
    (h:DataW.trod enc Tryz.prog W 0 (fun _=>true) true fuel 43 [v]=some x):
    ∃a n c ts,v=.slice a n c∧InTgts W a n c ts:=by
  rcases Go.Deep.open_slice Tryz.underlying43 h with ⟨hcs,hx⟩| ⟨ad,len,cap,m,n,D,Pl,hcs,_,hl,hm,hmm,hx,hV⟩
  {
  simp at hcs
  subst hcs;exact⟨none,0,0, [],rfl,⟨.inl rfl,rfl,Nat.le_refl _,by decide⟩⟩
  }
  {
  simp at hcs hmm
  subst hcs hmm;have hone: ∀i,∃t:T3,i<len→∀j u,(zj8 t)[j]?=some u→W.cell? ((ad.add (i * 3)).add j)=some u:=by
    intro i
    by_cases hi:i<len
    {
    obtain ⟨cs',h1,h2⟩:=hV i (by omega);obtain ⟨t,rfl⟩:=open_tgt h2;rw [zmi] at h1;obtain ⟨_,hlen,hcell⟩:=World.cells?_some h1;refine⟨t,fun _ j u hj=> ?_⟩;have hj3:j<3:=by
      have:=(List.getElem?_eq_some_iff.1 hj).1
      simpa [zj8] using this
    rw [hcell j (by simpa [zj8] using hj3)];exact hj
    }
    { exact⟨(0,0,0),fun h=>absurd h hi⟩ }
  obtain ⟨R,hR⟩:=Classical.axiomOfChoice hone;refine⟨some ad,len,m,(List.range len).map R,rfl, ?_,by simp,hl,Nat.le_trans hl hm⟩
  by_cases h0:len=0
  { exact .inl (by simp [h0]) }
  obtain ⟨b,off,spot⟩:=ad;have hs:spot=none:=by
    have:=hR 0 (by omega) 0 _ rfl;rw [Nat.zero_mul] at this;have:=World.cell?_spot this
    simpa [Addr.add] using this
  subst hs;refine .inr ⟨b,off,rfl,fun i t hi=> ?_⟩;have hi2:i<len:=by
    have:=(List.getElem?_eq_some_iff.1 hi).1
    simpa using this
  have hri:R i=t:=by simpa [hi2] using hi
  have hc:=hR i hi2;rw [hri] at hc;have hadd: (⟨b,off,none⟩:Addr).add (i * 3)= ⟨b,off+i * 3,none⟩:=by unfold Addr.add;split<;>simp_all
  rw [hadd] at hc;exact⟨by simpa [Addr.add] using hc 0 _ rfl,zeb (hc 1 _ rfl),zeb (hc 2 _ rfl)⟩
  }
end
section
open Go.ChangeShapes Go.WideShapes Go.ChangeAt Go.RowKit Go.Joins
theorem zjr:Tryz.prog.cellsOf 26=1:=by kernel_rfl
theorem zkn:Tryz.prog.cellsOf 30=3:=by kernel_rfl
theorem zlz:Tryz.prog.cellsOf 45=3:=by kernel_rfl
theorem ztu:Tryz.prog.cellsOf 47=7:=by kernel_rfl
theorem zqm:Tryz.prog.cellsOf 43=1:=by kernel_rfl
theorem zv2:Tryz.prog.cellsOf 41=1:=by kernel_rfl
theorem zpx:Tryz.prog.cellsOf 42=1:=by kernel_rfl
theorem InInts.bi {c:Nat} {xs:List Int} (h:InInts W a n c xs):BI W a n xs:=⟨h.ints,h.len,h.max⟩
theorem InTgts.bt {c:Nat} {ts:List T3} (h:InTgts W a n c ts):BT W a n ts:=⟨h.tgts,h.len,h.max⟩
theorem zln {H:Type} {enc:TypeId×Value→H} {x:DataW H×List MemPlace}
    (h:DataW.trod enc Tryz.prog W 0 (fun _=>true) true fuel 26 [v]=some x):
    ∃a n c xs,v=.slice a n c∧BI W a n xs∧n≤c∧c≤maxLen:=by
  obtain ⟨a,n,c,xs,rfl,hi⟩:=zfy h;refine⟨a,n,c,xs,rfl,hi.bi,hi.cap, ?_⟩
  rcases open_ints Tryz.underlying26 Tryz.underlying3 zbo h with ⟨hcs,hx⟩| ⟨ad,len,cap,zs,hcs,_,hl,hm,hz,hx,hcell,_⟩
  {
  simp at hcs
  rw [hcs.2.2];decide
  }
  {
  simp at hcs
  rw [hcs.2.2];exact hm
  }
theorem zkm {H:Type} {enc:TypeId×Value→H} {x:DataW H×List MemPlace} (h:DataW.trod enc Tryz.prog W 0 (fun _=>true) true n 30 cs=some x):
    ∃(r:Rt) (a:Option Addr) (m c:Nat),cs= [.int .i64 r.v,.slice a m c,.int .i64 r.t]∧BI W a m r.ks∧m≤c∧c≤maxLen:=by
  obtain ⟨xs,k,hk,hxy,hl,hxl,hf⟩:=DataW.trod_struct Tryz.underlying30 h;rw [zkn] at hl
  match cs,hl with
  | [v0,v1,v2],_=>
    match xs,hxl with
    | [y0,y1,y2],_=>
      have g0:=hf 0 _ rfl;have g1:=hf 1 _ rfl;have g2:=hf 2 _ rfl
      simp [zbo,zjr] at g0 g1 g2
      obtain ⟨z0,e0,_⟩:=DataW.trod_int Tryz.underlying3 g0;obtain ⟨z2,e2,_⟩:=DataW.trod_int Tryz.underlying3 g2;obtain ⟨a,m,c,ks,rfl,hi,h1,h2⟩:=zln g1
      simp at e0 e2
      exact⟨⟨z0,ks,z2⟩,a,m,c,by rw [e0,e2],hi,h1,h2⟩
theorem zkx {H:Type} {enc:TypeId×Value→H} {x:DataW H×List MemPlace} (h:DataW.trod enc Tryz.prog W 0 (fun _=>true) true n 45 cs=some x):
    ∃(v u:Int) (a:Option Addr) (m c:Nat) (ts:List T3),cs= [.int .i64 v,.int .i64 u,.slice a m c]∧BT W a m ts:=by
  obtain ⟨xs,k,hk,hxy,hl,hxl,hf⟩:=DataW.trod_struct Tryz.underlying45 h;rw [zlz] at hl
  match cs,hl with
  | [v0,v1,v2],_=>
    match xs,hxl with
    | [y0,y1,y2],_=>
      have g0:=hf 0 _ rfl;have g1:=hf 1 _ rfl;have g2:=hf 2 _ rfl
      simp [zbo,zqm] at g0 g1 g2
      obtain ⟨z0,e0,_⟩:=DataW.trod_int Tryz.underlying3 g0;obtain ⟨z1,e1,_⟩:=DataW.trod_int Tryz.underlying3 g1;obtain ⟨a,m,c,ts,rfl,hi⟩:=zjm g2
      simp at e0 e1
      exact⟨z0,z1,a,m,c,ts,by rw [e0,e1],hi.bt⟩
theorem zsp {H:Type} {enc:TypeId×Value→H} {x:DataW H×List MemPlace}
    (h:DataW.trod enc Tryz.prog W 0 (fun _=>true) true fuel 42 [v]=some x):
    ∃a n c ls,v=.slice a n c∧BL W a n ls:=by
  rcases Go.Deep.open_slice Tryz.underlying42 h with ⟨hcs,hx⟩| ⟨ad,len,cap,m,n,D,Pl,hcs,_,hl,hm,hmm,hx,hV⟩
  {
  simp at hcs
  subst hcs;exact⟨none,0,0, [],rfl,⟨.inl rfl,rfl,by decide⟩⟩
  }
  {
  simp at hcs hmm
  subst hcs hmm;have hone: ∀i,∃t:List Int×Option Addr×Nat,i<len→W.cell? (ad.add i)=some (.slice t.2.1 t.1.length t.2.2)∧zag W t.2.1 t.1∧t.1.length≤t.2.2∧t.2.2≤maxLen:=by
    intro i
    by_cases hi:i<len
    {
    obtain ⟨cs',h1,h2⟩:=hV i (by omega);rw [zjr] at h1;obtain ⟨_,hlen,hcell⟩:=World.cells?_some h1
    match cs',hlen with
    | [u0],_=>
      obtain ⟨a,n',c,xs,rfl,hi',g1,g2⟩:=zln h2;refine⟨(xs,a,c),fun _=>⟨?_,hi'.at_,by rw [hi'.len];exact g1,g2⟩⟩;have:=hcell 0 (by simp);rw [Nat.mul_one] at this;rw [hi'.len]
      simpa [Addr.add] using this
    }
    { exact⟨([],none,0),fun h=>absurd h hi⟩ }
  obtain ⟨R,hR⟩:=Classical.axiomOfChoice hone;refine⟨some ad,len,m,(List.range len).map (fun i=>(R i).1),rfl, ?_,by simp,Nat.le_trans hl hm⟩
  by_cases h0:len=0
  { exact .inl (by simp [h0]) }
  obtain ⟨b,off,spot⟩:=ad;have hs:spot=none:=by
    have:=(hR 0 (by omega)).1;have:=World.cell?_spot this
    simpa [Addr.add] using this
  subst hs;refine .inr ⟨b,off,rfl,fun i t hi=> ?_⟩;have hi2:i<len:=by
    have:=(List.getElem?_eq_some_iff.1 hi).1
    simpa using this
  have hri: (R i).1=t:=by simpa [hi2] using hi
  obtain ⟨c1,c2,c3,c4⟩:=hR i hi2;rw [hri] at c1 c2 c3;exact⟨(R i).2.1,(R i).2.2,zeb c1,c2,c3,c4⟩
  }
theorem zt3 {H:Type} {enc:TypeId×Value→H} {x:DataW H×List MemPlace}
    (h:DataW.trod enc Tryz.prog W 0 (fun _=>true) true fuel 41 [v]=some x):
    ∃a n c rs,v=.slice a n c∧BR W a n rs:=by
  rcases Go.Deep.open_slice Tryz.underlying41 h with ⟨hcs,hx⟩| ⟨ad,len,cap,m,n,D,Pl,hcs,_,hl,hm,hmm,hx,hV⟩
  {
  simp at hcs
  subst hcs;exact⟨none,0,0, [],rfl,⟨.inl rfl,rfl,by decide⟩⟩
  }
  {
  simp at hcs hmm
  subst hcs hmm;have hone: ∀i,∃t:Rt×Option Addr×Nat,i<len→(∀j u,([Value.int .i64 t.1.v,.slice t.2.1 t.1.ks.length t.2.2,.int .i64 t.1.t]:List Value)[j]?=some u→W.cell? ((ad.add (i * 3)).add j)=some u)∧zag W t.2.1 t.1.ks∧t.1.ks.length≤t.2.2∧t.2.2≤maxLen:=by
    intro i
    by_cases hi:i<len
    {
    obtain ⟨cs',h1,h2⟩:=hV i (by omega);obtain ⟨r,a,n',c,rfl,hi',g1,g2⟩:=zkm h2;rw [zkn] at h1;obtain ⟨_,hlen,hcell⟩:=World.cells?_some h1;refine⟨(r,a,c),fun _=>⟨fun j u hj=> ?_,hi'.at_,by rw [hi'.len];exact g1,g2⟩⟩;have hj3:j<3:=by
      have:=(List.getElem?_eq_some_iff.1 hj).1
      simpa using this
    rw [hcell j (by simpa using hj3)];rw [hi'.len] at hj;exact hj
    }
    { exact⟨(⟨0, [],0⟩,none,0),fun h=>absurd h hi⟩ }
  obtain ⟨R,hR⟩:=Classical.axiomOfChoice hone;refine⟨some ad,len,m,(List.range len).map (fun i=>(R i).1),rfl, ?_,by simp,Nat.le_trans hl hm⟩
  by_cases h0:len=0
  { exact .inl (by simp [h0]) }
  obtain ⟨b,off,spot⟩:=ad;have hs:spot=none:=by
    have:=(hR 0 (by omega)).1 0 _ rfl;rw [Nat.zero_mul] at this;have:=World.cell?_spot this
    simpa [Addr.add] using this
  subst hs;refine .inr ⟨b,off,rfl,fun i t hi=> ?_⟩;have hi2:i<len:=by
    have:=(List.getElem?_eq_some_iff.1 hi).1
    simpa using this
  have hri: (R i).1=t:=by simpa [hi2] using hi
  obtain ⟨hc,c2,c3,c4⟩:=hR i hi2;rw [hri] at hc c2 c3;have hadd: (⟨b,off,none⟩:Addr).add (i * 3)= ⟨b,off+i * 3,none⟩:=by unfold Addr.add;split<;>simp_all
  rw [hadd] at hc;exact⟨(R i).2.1,(R i).2.2,by simpa [Addr.add] using hc 0 _ rfl,zeb (hc 1 _ rfl),zeb (hc 2 _ rfl),c2,c3,c4⟩
  }
end
section
open Go.ChangeShapes Go.WideShapes Go.ChangeAt Go.RowKit Go.Joins
theorem zb3 {f:Int} (h: (Lit.int .i64 f).wf=true): -9223372036854775808≤f∧f≤9223372036854775807:=by
  simp [Lit.wf,IntKind.min,IntKind.max,IntKind.bits,IntKind.signed] at h
  omega
end
section
open Go.ChangeShapes Go.WideShapes Go.ChangeAt Go.RowKit Go.Joins
theorem zgp {H:Type} {enc:TypeId×Value→H} {α:Type} {S E:TypeId} {k:Nat} {R:α→List Value→Prop} (hU:Tryz.prog.underlying S=some (.slice E)) (hk:Tryz.prog.cellsOf E=k)
    (hR: ∀{n:Nat} {cs:List Value} {x:DataW H×List MemPlace},cs.length=k→DataW.trod enc Tryz.prog W 0 (fun _=>true) true n E cs=some x→∃u,R u cs)
    {fuel:Nat} {v:Value} {x:DataW H×List MemPlace} (h:DataW.trod enc Tryz.prog W 0 (fun _=>true) true fuel S [v]=some x):
    ∃a n c l vs,v=.slice a n c∧IsRow W a vs∧Vs R l vs∧l.length=n∧n≤c∧c≤maxLen:=by
  rcases Go.Deep.open_slice hU h with ⟨hcs,hx⟩| ⟨ad,len,cap,m,n,D,Pl,hcs,_,hl,hm,hmm,hx,hV⟩
  {
  simp at hcs
  subst hcs;exact⟨none,0,0, [], [],rfl,.inl rfl,rfl,rfl,Nat.le_refl _,by decide⟩
  }
  {
  simp at hcs hmm
  subst hcs hmm;rw [hk] at hV;have key: ∀j,j≤len→∃l vs,Vs R l vs∧l.length=j∧vs.length=j * k∧∀i u,vs[i]?=some u→W.cell? (ad.add i)=some u:=by
    intro j
    induction j with
    |zero=>exact fun _=>⟨[], [],rfl,rfl,by simp,fun i u hi=>by simp at hi⟩
    |succ j ih=>
      intro hj;obtain ⟨l,vs,h1,h2,h3,h4⟩:=ih (by omega);obtain ⟨cs',g1,g2⟩:=hV j (by omega);obtain ⟨_,hlen,hcell⟩:=World.cells?_some g1;obtain ⟨u,hu⟩:=hR hlen g2;refine⟨l++ [u],vs++cs',h1.app ⟨cs', [],by simp,hu,rfl⟩,by simp [h2],by simp [h3,hlen,Nat.add_mul],fun i x hi=> ?_⟩
      by_cases hik:i<vs.length
      {
      rw [List.getElem?_append_left hik] at hi;exact h4 i x hi
      }
      {
      rw [List.getElem?_append_right (by omega)] at hi;have hb:i - vs.length<k:=by have:=(List.getElem?_eq_some_iff.1 hi).1;omega
      have hc:=hcell _ hb;rw [hi] at hc;have e: (ad.add (j * k)).add (i - vs.length)=ad.add i:=by
        rw [Addr.add_add,←h3];exact congrArg ad.add (by omega)
      rwa [e] at hc
      }
  obtain ⟨l,vs,h1,h2,h3,h4⟩:=key len (Nat.le_refl _);refine⟨some ad,len,m,l,vs,rfl, ?_,h1,h2,hl,hm⟩;cases vs with
  |nil=>exact .inl rfl
  |cons y r=>
    obtain ⟨b,off,spot⟩:=ad;obtain rfl:spot=none:=by simpa [Addr.add] using World.cell?_spot (h4 0 y rfl)
    exact .inr ⟨b,off,rfl,fun i u hi=>zeb (h4 i u hi)⟩
  }
theorem zby {α:Type} (xs:List α) (a:Option Addr):Ao xs (fun _=>False) a:=.inr fun _ _ h=>h
end
section
open Go.RowKit
theorem gTab:Tryz.prog.globalNamed "internal/strconv.uint64pow10"=some 1:=by kernel_rfl
theorem gTabType: (Tryz.prog.globals[1]?).map (·.type)=some 356:=by kernel_rfl
theorem cells_tab:Tryz.prog.cellsOf 356=20:=by kernel_rfl
theorem cells_u64:Tryz.prog.cellsOf 279=1:=by kernel_rfl
theorem zu9 {r:List (String×DataW Unit)} (h:laidMet Tryz.prog (("internal/strconv.uint64pow10",Rows.laid_internal_strconv_uint64pow10)::r) W):Tab W:=
  Lib.tabIs_of_head (zs:=Lib.pow10Tab) gTab gTabType Tryz.underlying356 Tryz.underlying279 cells_u64 cells_tab h
end
end Go.Proofs.YthmekfcgdfckaaaGreatDoor
