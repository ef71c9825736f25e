/- Facts. -/
import Derived.Test.YthmekfcgdfckaaaGreatDoorWz22
import Derived.Test.YthmekfcgdfckaaaGreatDoorWz23
set_option maxRecDepth 1000000
set_option maxHeartbeats 0
namespace Go.Proofs.YthmekfcgdfckaaaGreatDoor
open Go.RowKit
variable {w W wr:World} {m:VA} {v:Vh} {l:List Hp} {K:Nat->Prop} {a:oA} {cs:LV} {U:Nat} {u:Int}
section
attribute [local go_sem ↓] kM kO zhy zhp zhu exV_bd
attribute [local go_sem] zgl zgn zgi bdV_run rdF_V wrF_V zgj zli World.setRow_alloc_new
def zh8 (w:World) (units:Nat) (u:Int) (e:Ending) (w' :World):Prop:=
 (∃m oa n c,e=.returned (.tuple #[vhv (nwV (outF units u 4).ss (outF units u 4).sg rtF (outF units u 4).fst) m,.slice oa n c,.bool true])/\VIn w' (fun b=>b<w.heap.size/\Sm w b) m (nwV (outF units u 4).ss (outF units u 4).sg rtF (outF units u 4).fst)/\RIn OR w' (fun b=>b<w.heap.size) oa n c (facO units u))/\bZ w w'
theorem zhv: ∀(l seen:LB),zcc seen l=0->∀s∈l,s.size<=2000
 | [],_,_,s,h=>by cases h
 |x::r,seen,h,s,hs=>by
  unfold zcc at h
  split at h
  { cases h }
  {
  split at h
  {
  rcases kt.1 hs with e|e
  { rw [e];omega }
  { exact zhv r _ h s e } }
  { cases h } }
theorem zpj {ss:LB} (h:bookE ss=0): ∀s∈ss,s.size<=maxLen:=by
 unfold bookE at h
 split at h
 { cases h }
 {
 intro s hs;have:=zhv _ _ h s hs;unfold maxLen;omega }
structure FacOk (units:Nat) (u:Int):Prop where
 n1:1<=units
 n4:units<=4
 rel: ∀v:Nat,v<4->v≠0->relE v u (inF (outF units u v).ss v units).ts=0
 bk:bookE (outF units u 4).ss=0
 sg:sigE (outF units u 4).sg=0
 gt: (gNew rtF (outF units u 4).fst.length).2=0
 un: ∀im∈(outF units u 4).fst,UnOk (outF units u 4).ss im
 fl: (outF units u 4).fst.length=units
theorem zpb (units:Nat) (u:Int) (w:World) (hT:Tab w) (hk:FacOk units u):
 Cq 23 #[iV units,iV u] w (zh8 w units u):=by
 have HK:=uH hk;have HT:=uH hT;have hu4: (units:Int)<=4:=by have:=hk.n4;omega
 clear hk hT;go_enter Tryz.func23,Tryz.ntmps23;go_wp2_with fail;have hW:bZ w ((((w.alloc (.cells (vhC vh0 va0) 40)).alloc (.cells #[iV 3,iV 4,iV 5] 3)).alloc (.cells #[iV 1,sV (w.heap.size+1) 3 3,iV 2] 30)).alloc (.cells #[nV] 24)):=((bA2).alloc (by simp;omega) _).alloc (by simp;omega) _;have HR:Hd (∀W',Below (w.heap.size+1+1+1) ((((w.alloc (.cells (vhC vh0 va0) 40)).alloc (.cells #[iV 3,iV 4,iV 5] 3)).alloc (.cells #[iV 1,sV (w.heap.size+1) 3 3,iV 2] 30)).alloc (.cells #[nV] 24)) W' ->W'.heap[w.heap.size]?=some (vhO vh0 va0)/\W'.heap[w.heap.size+1]?=some (.cells #[iV 3,iV 4,iV 5] 3 (0,0))/\W'.heap[w.heap.size+1+1]?=some (.cells #[iV 1,sV (w.heap.size+1) 3 3,iV 2] 30 (0,0))):=fun W' hb=>⟨(hb.block _ (by omega)).trans (zai (zai (zai (kP w _) _) _) _),(hb.block _ (by omega)).trans (zai (zai (zau w _ _) _) _),(hb.block _ (by omega)).trans (zai (zb9 w _ _ _) _)⟩
 have I0:Hd (FO ((((w.alloc (.cells (vhC vh0 va0) 40)).alloc (.cells #[iV 3,iV 4,iV 5] 3)).alloc (.cells #[iV 1,sV (w.heap.size+1) 3 3,iV 2] 30)).alloc (.cells #[nV] 24)) (w.heap.size+1+1+1) (KO (w.heap.size+1+1+1) (nV) (nV) (nV) (nV)) (nV) (nV) (nV) (nV) (outF units u 0) ((((w.alloc (.cells (vhC vh0 va0) 40)).alloc (.cells #[iV 3,iV 4,iV 5] 3)).alloc (.cells #[iV 1,sV (w.heap.size+1) 3 3,iV 2] 30)).alloc (.cells #[nV] 24))):=
  ⟨by simp,kS _ _,⟨by have:=kP (((w.alloc (.cells (vhC vh0 va0) 40)).alloc (.cells #[iV 3,iV 4,iV 5] 3)).alloc (.cells #[iV 1,sV (w.heap.size+1) 3 3,iV 2] 30)) (.cells #[nV] 24);simpa using this,KZ _ _ _ _⟩,KZ _ _ _ _,⟨[],KZ _ _ _ _,rfl⟩,⟨[],KZ _ _ _ _,rfl⟩,fun _ e=>e⟩
 generalize ((((w.alloc (.cells (vhC vh0 va0) 40)).alloc (.cells #[iV 3,iV 4,iV 5] 3)).alloc (.cells #[iV 1,sV (w.heap.size+1) 3 3,iV 2] 30)).alloc (.cells #[nV] 24))=W at *
 go_loopw [9,12,13,29] (fun l f o i wq=>∃(v:Nat) (tx:Value),v<=4/\i=iV v/\Hd (FO W (w.heap.size+1+1+1) (KO (w.heap.size+1+1+1) tx l f o) tx l f o (outF units u v) wq)) (fun _ _ _ i _=>4 - (intOf i).toNat)
 case atStart=>exact⟨0,nV,by omega,rfl,I0⟩
 case round=>
  clear I0;obtain ⟨wq,rfl⟩: ∃wq:World,wq=wr:=⟨_,rfl⟩;obtain ⟨v,tx,hv,rfl,hI⟩:=hrel;obtain ⟨l,rfl⟩: ∃l,l=u9:=⟨_,rfl⟩;obtain ⟨o,rfl⟩: ∃o,o=u13:=⟨_,rfl⟩
  by_cases hv4:v<4
  {
  have hvI: (v:Int)<4:=by omega
  obtain ⟨vm,hvm⟩: ∃vm:Int,max (v:Int) 1=vm:=⟨_,rfl⟩;have J0:=uH (FO.start (v:=vm) (u:=u) hI.o);have HV:Hd (v<4):=hv4;have HVM:Hd (v≠0->vm=v):=fun h=>by omega
  clear hv hv4;unfold obC at J0;go_wp2_with fail;generalize ((wq.alloc (.cells #[iV 3,iV 5] 3)).alloc (.cells #[nV,nV,iV vm,iV u,nV,sV wq.heap.size 2 2,nV] 47))=W2 at *;clear hvm;obtain ⟨Bo,hBo⟩: ∃Bo,wq.heap.size+1=Bo:=⟨_,rfl⟩;rw [hBo] at J0;simp only [hBo];have HBo:Hd (wq.heap.size<Bo):=by show _<_;omega
  have HQ:Hd (Below (w.heap.size+1+1+1) W wq):=hI.o.bel;have HSz:=uH (zjf units u v);clear hBo hI
  go_loopw [12,39] (fun f k w' =>∃(j:Nat) (tx ts im:Value),j<=units/\k=iV j/\Hd (FI W (w.heap.size+1+1+1) ⟨tx,l,f,o,ts,im,Bo⟩ (spI (outF units u v) v j) (inF (outF units u v).ss v j) vm u w')) (fun _ k _=>units - (intOf k).toNat)
  case atStart=>exact⟨0,tx,nV,nV,by omega,rfl,by
   have e:spI (outF units u v) v 0=outF units u v:=by
    unfold spI
    show Fo.mk (outF units u v).ss _ (if v=0 then [] else _) _=_
    by_cases h:v=0
    { subst h;rfl }
    { rw [KJ h] }
   rw [e];exact J0⟩
  case round=>
   clear J0;obtain ⟨wi,rfl⟩: ∃wi:World,wi=wr:=⟨_,rfl⟩;obtain ⟨j,tx,ts,im,hj,rfl,hI⟩:=hrel;obtain ⟨f,rfl⟩: ∃f,f=u12:=⟨_,rfl⟩
   by_cases hju:j<units
   {
   have hjI: (j:Int)< (units:Int):=by omega
   have hj4:j<4:=by have:=HK.o.n4;omega
   have HJ:Hd (j<units):=hju;have HC:=uH (zn5 v j HV.o hj4 wi);have HO:=uH (imgF_ok v j HV.o hj4);have HLn:=uH (imgF_len v j);have HNx:Hd (inF (outF units u v).ss v (j+1)= ⟨adF (inF (outF units u v).ss v j).ss (bs (imgT (imgF v j))),(inF (outF units u v).ss v j).ts++ [((j:Int),(nmF (inF (outF units u v).ss v j).ss (bs (imgT (imgF v j))):Int),((3+9 * j+v:Nat):Int))],(inF (outF units u v).ss v j).ims++ [imgF v j]⟩):=rfl;have HNs:Hd (spI (outF units u v) v (j+1)= ⟨adF (inF (outF units u v).ss v j).ss (bs (imgT (imgF v j))),(outF units u v).sg,if v=0 then(inF (outF units u v).ss v j).ims++ [imgF v j] else(outF units u v).fst,(outF units u v).offs⟩):=rfl;have HLs:=uH (zid (outF units u v).ss v j);have HL5:Hd ((inF (outF units u v).ss v j).ss.length<=1000):=by
    have h1:=zjz (outF units u v).ss v j;have h2:=HSz.o.1;have h3:v *(units+1)<=4 * 5:=Nat.mul_le_mul (by have:=HV.o;omega) (by have:=HK.o.n4;omega)
    show _<=1000
    omega
   have HFl:Hd ((if v=0 then(inF (outF units u v).ss v j).ims else(outF units u v).fst).length<=1000):=by
    have h2:=HSz.o.2.2.2;have h4:=HK.o.n4;have h5:=HLs.o.2
    show _<=1000
    split<;>omega
   change Hd (FI W (w.heap.size+1+1+1) ⟨tx,l,f,o,ts,im,Bo⟩ ⟨(inF (outF units u v).ss v j).ss,(outF units u v).sg,if v=0 then(inF (outF units u v).ss v j).ims else(outF units u v).fst,(outF units u v).offs⟩ (inF (outF units u v).ss v j) vm u wi) at hI
   have hL40:3+9 * j+v<=40:=by have:=HV.o;omega
   clear hj hju hj4;have HT2:Hd (∀W',bZ wi W' ->Tab W'):=fun W' hW' =>HT.o.bl (hW.trans (((hI.o.o.bel).mono (by have:=hI.o.o.hB;omega)).trans (hW'.mono (kc hW.size hI.o.base))))
   generalize inF (outF units u v).ss v j=I at *;generalize hF0: (if v=0 then I.ims else(outF units u v).fst)=F0 at *;have HF0:=uH hF0;clear hF0;generalize imgF v j=X at *;generalize 3+9 * j+v=L at *;obtain ⟨vf,hvf,-⟩:=hI.o.o.fr;obtain ⟨af,cf,rfl⟩:=zbk hvf;obtain ⟨at3,ct3,rfl⟩:=zbk hI.o.tr;obtain ⟨vi,hvi,-⟩:=hI.o.ir;obtain ⟨ai,ci,rfl⟩:=zbk hvi;clear hvf hvi;go_wp2_with fail;refine(zae HC).mono ?_;rintro e w1 ⟨g,rfl,hg,ho,hb1⟩;clear HC;have HX1:=uH (zat.isInts ho);have HI1:=uH (hI.o.bl hb1);have hlt:=hI.o.lt;have hg1:g<w1.heap.size:=zak ho;clear ho;have HC:=uH (zg9 (some ⟨g,0,none⟩) L L X w1 HX1.o HLn.o (by unfold maxLen;omega) (HT2.o w1 hb1));have hTx:imgTx X=imgT X:=by unfold imgTx;rw [KK HO.o]
   rw [hTx,HO.o] at HC;clear hTx;go_wp2_with fail;refine(zae HC).mono ?_;rintro e w2 ⟨rfl,hb2⟩;clear HC;have hI2:=HI1.o.bl hb2;have HC:=uH (zix W.heap.size (w.heap.size+1+1+1) tx I.ss (bs (imgT X)) w2 hI2.o.bk HL5.o hI2.base);have HX2:=uH (HX1.o.bl hb2);have HI2:=uH hI2;clear HX1 HI1 hI2;go_wp2_with fail;refine(zae HC).mono ?_;rintro e w3 ⟨rfl,tx3,hk3,hc3,hn3⟩;clear HC;have hKn: ∀b,KI (w.heap.size+1+1+1) ⟨tx3,l,.slice af F0.length cf,o,.slice at3 I.ts.length ct3,.slice ai I.ims.length ci,Bo⟩ b->KI (w.heap.size+1+1+1) ⟨tx,l,.slice af F0.length cf,o,.slice at3 I.ts.length ct3,.slice ai I.ims.length ci,Bo⟩ b\/w2.heap.size<=b:=fun b e=>by
    rcases e with (e|e|e)|e
    { exact .inl (.inl (.inl e)) }
    { exact(Nw.or hn3 e).imp (fun e=>.inl (.inr (.inl e))) id }
    { exact .inl (.inl (.inr (.inr e))) }
    { exact .inl (.inr e) }
   have hgK: ¬KI (w.heap.size+1+1+1) ⟨tx3,l,.slice af F0.length cf,o,.slice at3 I.ts.length ct3,.slice ai I.ims.length ci,Bo⟩ g:=fun e=>by
    have:=hb2.size
    rcases hKn g e with e|e
    { have:=hlt g e;omega }
    { omega }
   have HX3:=uH (HX2.o.chg hc3 (.at_ fun e=>by have:=hlt g (.inl (e.imp Kg .inl));omega));have HI3:=uH (HI2.o.name hk3 hc3 hn3);have hg3:g<w3.heap.size:=kw hg1 (kc hb2.size hc3.size);have HG3:Hd (¬KI (w.heap.size+1+1+1) ⟨tx3,l,.slice af F0.length cf,o,.slice at3 I.ts.length ct3,.slice ai I.ims.length ci,Bo⟩ g/\g<w3.heap.size):=⟨hgK,hg3⟩;clear hKn hgK hg3 hk3 hc3 hn3 HX2 HI2 hb2 hb1 hg1 hlt hI hg;dsimp only at HI3;generalize adF I.ss (bs (imgT X))=ss3 at *;generalize nmF I.ss (bs (imgT X))=nm at *
   go_upto_if 58 with fail
   obtain ⟨Fn,hFn⟩: ∃Fn:LL,Fn=if v=0 then F0++ [X] else F0:=⟨_,rfl⟩;have HFn:=uH hFn;clear hFn;obtain ⟨iL,hiL,lz0,lz1,lz2⟩:=info_parts infoLs
   go_cut [12] (fun f4 wc=>∃f5,f5=f4/\Hd (FI W (w.heap.size+1+1+1) ⟨tx3,l,f5,o,.slice at3 I.ts.length ct3,.slice ai I.ims.length ci,Bo⟩ ⟨ss3,(outF units u v).sg,Fn,(outF units u v).offs⟩ ⟨ss3,I.ts,I.ims⟩ vm u wc)/\Hd (zag wc (some ⟨g,0,none⟩) X/\¬KI (w.heap.size+1+1+1) ⟨tx3,l,f5,o,.slice at3 I.ts.length ct3,.slice ai I.ims.length ci,Bo⟩ g/\g<wc.heap.size))
   case first=>
    by_cases hv0:v=0
    {
    have d: ((v:Int)==0)=true:=by simp;omega
    have hsz:=HI3.o.base;obtain ⟨vf,hvf,-⟩:=HI3.o.o.fr;obtain ⟨g4,c4,w4,hr4,ho4,hc4,hn4⟩:=zed (P:=Tryz.prog) w3 42 26 W.heap.size iL _ 1 24 Tryz.underlying42 hiL lz0 lz1 lz2 rfl (by omega) (by omega) _ F0.length vf hvf #[sV g L L] rfl (by simp [Value.oneCell']) HFl.o hsz;have HR4:=uH hr4;have hlt3:=HI3.o.lt;have HI4:Hd (FI W (w.heap.size+1+1+1) ⟨tx3,l,sV g4 (F0.length+1) c4,o,.slice at3 I.ts.length ct3,.slice ai I.ims.length ci,Bo⟩ ⟨ss3,(outF units u v).sg,Fn,(outF units u v).offs⟩ ⟨ss3,I.ts,I.ims⟩ vm u w4):=by
     show FI _ _ _ _ _ _ _ _
     rw [HFn.o,KK hv0];refine HI3.o.first (HI3.o.o.fr.snoc (fun b e=>.inl (.inr (.inr (.inr (.inl e))))) HX3.o (by rw [HLn.o];unfold maxLen;omega) (.at_ fun e=> ?_) (fun vs hvs=> ?_) hc4) hc4 hn4
     {
     rcases e with e|e
     { exact HG3.o.1 e }
     { have:=HG3.o.2;omega } }
     {
     obtain rfl:=zfg hvs hvf;rw [HLn.o];exact ho4 }
    have HX4:Hd (zag w4 (some ⟨g,0,none⟩) X/\¬KI (w.heap.size+1+1+1) ⟨tx3,l,sV g4 (F0.length+1) c4,o,.slice at3 I.ts.length ct3,.slice ai I.ims.length ci,Bo⟩ g/\g<w4.heap.size):=by
     refine⟨HX3.o.chg hc4 (.at_ fun e=>HG3.o.1 (.inl (.inr (.inr (.inr (.inl e)))))),fun e=> ?_,kw HG3.o.2 hc4.size⟩
     rcases e with (e|e|e|e|e)|e
     { exact HG3.o.1 (.inl (.inl e)) }
     { exact HG3.o.1 (.inl (.inr (.inl e))) }
     { exact HG3.o.1 (.inl (.inr (.inr (.inl e)))) }
     {
     rcases Nw.or hn4 e with e|e
     { exact HG3.o.1 (.inl (.inr (.inr (.inr (.inl e))))) }
     { have:=HG3.o.2;omega } }
     { exact HG3.o.1 (.inl (.inr (.inr (.inr (.inr e))))) }
     { exact HG3.o.1 (.inr e) }
    clear hv0 hr4 ho4 hc4 hn4 hvf hlt3 hsz
    go_wp2_with (at_builtin;refine Lib.wpList_append_run _ rfl _ _ 42 42 rfl _ _ rfl rfl _ _ HR4.o ?_)
    go_meet
    case rel=>exact⟨_,rfl,HI4,HX4⟩ }
    {
    have d: ((v:Int)==0)=false:=by simp;omega
    have HI4:Hd (FI W (w.heap.size+1+1+1) ⟨tx3,l,.slice af F0.length cf,o,.slice at3 I.ts.length ct3,.slice ai I.ims.length ci,Bo⟩ ⟨ss3,(outF units u v).sg,Fn,(outF units u v).offs⟩ ⟨ss3,I.ts,I.ims⟩ vm u w3):=by show FI _ _ _ _ _ _ _ _;rw [HFn.o,KJ hv0];exact HI3.o
    clear hv0;go_wp2_with fail
    go_meet
    case rel=>exact⟨_,rfl,HI4,⟨HX3.o,HG3.o⟩⟩ }
   case rest=>
    obtain ⟨f5,rfl,HI4,HX4⟩:=hcut;clear HI3 HX3 HG3;have HFe:Hd (Fn=if v=0 then I.ims++ [X] else(outF units u v).fst):=by
     show _=_
     rw [HFn.o];have:=HF0.o
     by_cases h:v=0
     { rw [KK h] at this|-;rw [KK h,this] }
     { rw [KJ h] at this|-;rw [KJ h,this] }
    obtain ⟨iT,hiT,tz0,tz1,tz2⟩:=info_parts infoCpT;obtain ⟨bs0,hbx,-,-⟩:=HI4.o.box;have hj4:I.ts.length<=1000:=by rw [HLs.o.1];have:=HJ.o;have:=HK.o.n4;omega
    have hj5:I.ims.length<=1000:=by rw [HLs.o.2];have:=HJ.o;have:=HK.o.n4;omega
    obtain ⟨g5,c5,w5,hr5,ho5,hc5,hn5⟩:=zed (P:=Tryz.prog) wc 43 163 W.heap.size iT _ 3 24 Tryz.underlying43 hiT tz0 tz1 tz2 rfl (by omega) (by omega) _ I.ts.length (tgs I.ts) HI4.o.tr #[iV j,iV nm,iV L] rfl (by simp [Value.oneCell']) hj4 HI4.o.base;have HR5:=uH hr5;have y4:=zaa hbx 4 (.slice at3 I.ts.length ct3) rfl;have hx5:=(hc5.block Bo (zak hbx) (zb1 HI4.o.tr hbx (by decide))).trans hbx;have y5:=zaa hx5 4 _ rfl;have z5:=zad hx5 4;have HI5:Hd (FI W (w.heap.size+1+1+1) ⟨tx3,l,f5,o,sV g5 (I.ts.length+1) c5,.slice ai I.ims.length ci,Bo⟩ ⟨ss3,(outF units u v).sg,Fn,(outF units u v).offs⟩ ⟨ss3,I.ts++ [((j:Int),(nm:Int),(L:Int))],I.ims⟩ vm u (w5.setCell ⟨Bo,4,none⟩ (sV g5 (I.ts.length+1) c5))):=
     HI4.o.tgt (its:=I.ts++ [((j:Int),(nm:Int),(L:Int))]) (by simpa [tgs] using ho5) hc5 hn5
    have hcs:Chg (fun b=>(Value.slice at3 I.ts.length ct3).ownBlock=some b\/b=Bo) wc (w5.setCell ⟨Bo,4,none⟩ (sV g5 (I.ts.length+1) c5)):=(hc5.mono fun b e=>.inl e).set (p:=⟨Bo,4,none⟩) (.inr rfl) _;have HX5:Hd (zag (w5.setCell ⟨Bo,4,none⟩ (sV g5 (I.ts.length+1) c5)) (some ⟨g,0,none⟩) X/\¬KI (w.heap.size+1+1+1) ⟨tx3,l,f5,o,sV g5 (I.ts.length+1) c5,.slice ai I.ims.length ci,Bo⟩ g/\g< (w5.setCell ⟨Bo,4,none⟩ (sV g5 (I.ts.length+1) c5)).heap.size):=by
     refine⟨HX4.o.1.chg hcs (.at_ fun e=>HX4.o.2.1 ?_),fun e=> ?_,kw HX4.o.2.2 hcs.size⟩
     {
     rcases e with e|e
     { exact .inr (.inr (.inl e)) }
     { exact .inr (.inl e) } }
     {
     rcases e with e|e|e|e
     { exact HX4.o.2.1 (.inl e) }
     { exact HX4.o.2.1 (.inr (.inl e)) }
     {
     rcases Nw.or hn5 e with e|e
     { exact HX4.o.2.1 (.inr (.inr (.inl e))) }
     { have:=HX4.o.2.2;omega } }
     { exact HX4.o.2.1 (.inr (.inr (.inr e))) } }
    clear hr5 ho5 hc5 hn5 hx5 hcs hbx HI4 HX4 hj4 hiT tz0 tz1 tz2;go_upto_region 23 with (at_builtin;refine Lib.wpList_append_run _ rfl _ _ 43 43 rfl _ _ rfl rfl _ _ HR5.o ?_)
    clear y4 y5 z5 HR5;generalize w5.setCell ⟨Bo,4,none⟩ (sV g5 (I.ts.length+1) c5)=W6 at *;obtain ⟨bs6,hbx,-,-⟩:=HI5.o.box;obtain ⟨vi,hvi,-⟩:=HI5.o.ir;obtain ⟨g6,c6,w6,hr6,ho6,hc6,hn6⟩:=zed (P:=Tryz.prog) W6 42 26 W.heap.size iL _ 1 24 Tryz.underlying42 hiL lz0 lz1 lz2 rfl (by omega) (by omega) _ I.ims.length vi hvi #[sV g L L] rfl (by simp [Value.oneCell']) hj5 HI5.o.base;have HR6:=uH hr6;have y4:=zaa hbx 6 (.slice ai I.ims.length ci) rfl;have hx6:=(hc6.block Bo (zak hbx) (zb1 hvi hbx (by decide))).trans hbx;have y5:=zaa hx6 6 _ rfl;have z5:=zad hx6 6;have HI6:Hd (FI W (w.heap.size+1+1+1) ⟨tx3,l,f5,o,sV g5 (I.ts.length+1) c5,sV g6 (I.ims.length+1) c6,Bo⟩ (spI (outF units u v) v (j+1)) (inF (outF units u v).ss v (j+1)) vm u (w6.setCell ⟨Bo,6,none⟩ (sV g6 (I.ims.length+1) c6))):=by
     show FI _ _ _ _ _ _ _ _
     rw [HNs.o,HNx.o,<-HFe.o];refine HI5.o.img (HI5.o.ir.snoc (fun b e=>.inr (.inr (.inr e))) HX5.o.1 (by rw [HLn.o];unfold maxLen;omega) (.at_ fun e=> ?_) (fun vs hvs=> ?_) hc6) hc6 hn6
     {
     rcases e with e|e
     { exact HX5.o.2.1 e }
     { have:=HX5.o.2.2;omega } }
     {
     obtain rfl:=zfg hvs hvi;rw [HLn.o];exact ho6 }
    clear hr6 ho6 hc6 hn6 hx6 hbx HI5 HX5 hj5 hiL lz0 lz1 lz2 hvi HT2 HNx HNs HFe HFn HF0 HFl
    go_wp2_with (at_builtin;refine Lib.wpList_append_run _ rfl _ _ 42 42 rfl _ _ rfl rfl _ _ HR6.o ?_)
    go_roundw
    case rel=>exact⟨j+1,_,_,_,HJ.o,by go_num,HI6⟩
    case measure=>have:=HJ.o;simp [intOf];omega }
   {
   have hju2:j=units:=by omega
   subst hju2;clear hj hju
   by_cases hv0:v=0
   {
   have d: ((v:Int)==0)=true:=by simp;omega
   have HI8:Hd (FO W (w.heap.size+1+1+1) (KO (w.heap.size+1+1+1) tx l f o) tx l f o (outF j u (v+1)) wi):=by
    have:=hI.o.drop;subst hv0;exact this
   clear hI hv0;go_wp2_with fail
   go_roundw
   case rel=>exact⟨v+1,tx,HV.o,by go_num,HI8⟩
   case measure=>have:=HV.o;simp [intOf];omega }
   {
   have d: ((v:Int)==0)=false:=by simp;omega
   have HRl:=uH (HK.o.rel v HV.o hv0);have HLs:=uH (zid (outF j u v).ss v j);have HL5:Hd ((inF (outF j u v).ss v j).ss.length<=1000):=by
    have h1:=zjz (outF j u v).ss v j;have h2:=HSz.o.1;have h3:v *(j+1)<=4 * 5:=Nat.mul_le_mul (by have:=HV.o;omega) (by have:=HK.o.n4;omega);have:=HK.o.n4
    show _<=1000
    omega
   have HNo:Hd (outF j u (v+1)=outQ v u (outF j u v) (inF (outF j u v).ss v j) (bs (relT v u (inF (outF j u v).ss v j).ts))):=by show outP u v _ _=_;unfold outP;rw [KJ hv0]
   have hvm:=HVM.o hv0;subst hvm;have hI9:FI W (w.heap.size+1+1+1) ⟨tx,l,f,o,ts,im,Bo⟩ ⟨(inF (outF j u v).ss v j).ss,(outF j u v).sg,(outF j u v).fst,(outF j u v).offs⟩ (inF (outF j u v).ss v j) v u wi:=by
    have:=hI.o;unfold spI at this;rw [KJ hv0] at this;exact this
   replace hI:=uH hI9;clear hI9;have HT2:Hd (∀W',bZ wi W' ->Tab W'):=fun W' hW' =>HT.o.bl (hW.trans (((hI.o.o.bel).mono (by have:=hI.o.o.hB;omega)).trans (hW'.mono (kc hW.size hI.o.base))))
   generalize inF (outF j u v).ss v j=I at *;obtain ⟨vo,hvo,-⟩:=hI.o.o.or;obtain ⟨ao,co,rfl⟩:=zbk hvo;obtain ⟨al,cl,rfl⟩:=zbk hI.o.o.lr;obtain ⟨at3,ct3,e3⟩:=zbk hI.o.tr;obtain ⟨vi,hvi,-⟩:=hI.o.ir;obtain ⟨ai,ci,e5⟩:=zbk hvi;dsimp only at e3 e5;subst e3 e5;obtain ⟨bs0,hbx,-,-⟩:=hI.o.box;obtain ⟨y2,y3,y4⟩:wi.cell? ⟨Bo,2,none⟩=some (iV v)/\wi.cell? ⟨Bo,3,none⟩=some (iV u)/\wi.cell? ⟨Bo,4,none⟩=some (.slice at3 I.ts.length ct3):=⟨zaa hbx 2 _ rfl,zaa hbx 3 _ rfl,zaa hbx 4 _ rfl⟩;have HC:=uH (zfx v u at3 I.ts.length ct3 I.ts wi (tgs_of (zdd hI.o.tr)) rfl (by rw [HLs.o.1];unfold maxLen;have:=HK.o.n4;omega) (HT2.o wi (kS _ _)));have hTx:relTx v u I.ts=relT v u I.ts:=by unfold relTx;rw [KK HRl.o]
   rw [hTx,HRl.o] at HC;unfold relv at HC;clear hTx hvo hvi hbx hv0;go_wp2_with fail;refine(zae HC).mono ?_;rintro e w2 ⟨rfl,hb2⟩;clear HC y2 y3 y4;have hI2:=hI.o.bl hb2;have HC:=uH (zix W.heap.size (w.heap.size+1+1+1) tx I.ss (bs (relT v u I.ts)) w2 hI2.o.bk HL5.o hI2.base);have HI2:=uH hI2;clear hI2 hb2 hI;go_wp2_with fail;refine(zae HC).mono ?_;rintro e w3 ⟨rfl,tx3,hk3,hc3,hn3⟩;have HI3:=uH (HI2.o.name hk3 hc3 hn3);clear HC hk3 hc3 hn3 HI2;dsimp only at HI3;have HNq:Hd (outF j u (v+1)= ⟨adF I.ss (bs (relT v u I.ts)),(if v=3 then(outF j u v).sg else(outF j u v).sg++ [(3,(nmF I.ss (bs (relT v u I.ts)):Int))])++ [(5,(nmF I.ss (bs (relT v u I.ts)):Int))],(outF j u v).fst,(outF j u v).offs++ [⟨[], [],v,u,I.ts, [3,5],I.ims⟩]⟩):=HNo.o;clear HNo HL5;generalize adF I.ss (bs (relT v u I.ts))=ss3 at *;generalize nmF I.ss (bs (relT v u I.ts))=nm at *;obtain ⟨iG,hiG,gz0,gz1,gz2⟩:=info_parts infoCpG;obtain ⟨sgN,hsgN⟩: ∃sgN:List S2,sgN=if v=3 then(outF j u v).sg else(outF j u v).sg++ [(3,(nm:Int))]:=⟨_,rfl⟩;rw [<-hsgN] at HNq;have HsN:=uH hsgN;clear hsgN;have hsl: (outF j u v).sg.length<=1000:=by have:=HSz.o.2.1;have:=HV.o;omega
   go_upto_if 97 with fail
   go_cut [9] (fun l4 wc=>∃l5,l5=l4/\Hd (FI W (w.heap.size+1+1+1) ⟨tx3,l5,f,.slice ao (outF j u v).offs.length co,.slice at3 I.ts.length ct3,.slice ai I.ims.length ci,Bo⟩ ⟨ss3,sgN,(outF j u v).fst,(outF j u v).offs⟩ ⟨ss3,I.ts,I.ims⟩ v u wc))
   case first=>
    by_cases hv3:v=3
    {
    have d3: ((v:Int) !=3)=false:=by simp;omega
    have HI4:Hd (FI W (w.heap.size+1+1+1) ⟨tx3,.slice al (outF j u v).sg.length cl,f,.slice ao (outF j u v).offs.length co,.slice at3 I.ts.length ct3,.slice ai I.ims.length ci,Bo⟩ ⟨ss3,sgN,(outF j u v).fst,(outF j u v).offs⟩ ⟨ss3,I.ts,I.ims⟩ v u w3):=by show FI _ _ _ _ _ _ _ _;rw [HsN.o,KK hv3];exact HI3.o
    clear hv3;go_wp2_with fail
    go_meet
    case rel=>exact⟨_,rfl,HI4⟩ }
    {
    have d3: ((v:Int) !=3)=true:=by simp;omega
    obtain ⟨g4,c4,w4,hr4,ho4,hc4,hn4⟩:=zed (P:=Tryz.prog) w3 25 111 W.heap.size iG _ 2 16 Tryz.underlying25 hiG gz0 gz1 gz2 rfl (by omega) (by omega) _ _ _ HI3.o.o.lr #[iV 3,iV nm] rfl (by simp [Value.oneCell']) hsl HI3.o.base;have HR4:=uH hr4;have HI4:Hd (FI W (w.heap.size+1+1+1) ⟨tx3,sV g4 ((outF j u v).sg.length+1) c4,f,.slice ao (outF j u v).offs.length co,.slice at3 I.ts.length ct3,.slice ai I.ims.length ci,Bo⟩ ⟨ss3,sgN,(outF j u v).fst,(outF j u v).offs⟩ ⟨ss3,I.ts,I.ims⟩ v u w4):=by
     show FI _ _ _ _ _ _ _ _
     rw [HsN.o,KJ hv3];exact HI3.o.sign (by simpa [sgs] using ho4) hc4 hn4
    clear hv3 hr4 ho4 hc4 hn4
    go_wp2_with (at_builtin;refine Lib.wpList_append_run _ rfl _ _ 25 25 rfl _ _ rfl rfl _ _ HR4.o ?_)
    go_meet
    case rel=>exact⟨_,rfl,HI4⟩ }
   case rest=>
    obtain ⟨l5,rfl,HI4⟩:=hcut;clear HI3;obtain ⟨a5,c5,rfl⟩:=zbk HI4.o.o.lr;have hsl5:sgN.length<=1000:=by
     rw [HsN.o];have:=HSz.o.2.1;have:=HV.o
     split
     { omega }
     { simp;omega }
    obtain ⟨g5,c6,w5,hr5,ho5,hc5,hn5⟩:=zed (P:=Tryz.prog) wc 25 111 W.heap.size iG _ 2 16 Tryz.underlying25 hiG gz0 gz1 gz2 rfl (by omega) (by omega) _ _ _ HI4.o.o.lr #[iV 5,iV nm] rfl (by simp [Value.oneCell']) hsl5 HI4.o.base;have HR5:=uH hr5;have HI5:Hd (FI W (w.heap.size+1+1+1) ⟨tx3,sV g5 (sgN.length+1) c6,f,.slice ao (outF j u v).offs.length co,.slice at3 I.ts.length ct3,.slice ai I.ims.length ci,Bo⟩ ⟨ss3,sgN++ [(5,(nm:Int))],(outF j u v).fst,(outF j u v).offs⟩ ⟨ss3,I.ts,I.ims⟩ v u w5):=HI4.o.sign (by simpa [sgs] using ho5) hc5 hn5;clear hr5 ho5 hc5 hn5 HI4 hsl5 hiG gz0 gz1 gz2;go_upto_region 33 with (at_builtin;refine Lib.wpList_append_run _ rfl _ _ 25 25 rfl _ _ rfl rfl _ _ HR5.o ?_)
    clear HR5;obtain ⟨iO,hiO,oz0,oz1,oz2⟩:=info_parts infoOf;obtain ⟨bs6,hbx,-,-⟩:=HI5.o.box;obtain ⟨vo,hvo,-⟩:=HI5.o.o.or;have hol: (outF j u v).offs.length<=1000:=by have:=HSz.o.2.2.1;have:=HV.o;omega
    obtain ⟨g7,c7,w7,hr7,ho7,hc7,hn7⟩:=zed (P:=Tryz.prog) w5 67 47 W.heap.size iO _ 7 136 Tryz.underlying67 hiO oz0 oz1 oz2 rfl (by omega) (by omega) _ _ vo hvo (obC v u (.slice at3 I.ts.length ct3) (.slice ai I.ims.length ci) bs6) rfl (by simp [obC,Value.oneCell']) hol HI5.o.base;have HI8:Hd (FO W (w.heap.size+1+1+1) (KO (w.heap.size+1+1+1) tx3 (sV g5 (sgN.length+1) c6) f (sV g7 ((outF j u v).offs.length+1) c7)) tx3 (sV g5 (sgN.length+1) c6) f (sV g7 ((outF j u v).offs.length+1) c7) (outF j u (v+1)) w7):=by
     show FO _ _ _ _ _ _ _ _ _
     rw [HNq.o];refine HI5.o.done hc7 hn7 (fun vs bs hvs hb=> ?_) (by rw [HLs.o.1,HLs.o.2];have:=HK.o.n4;omega);obtain rfl:=zfg hvs hvo;have hb2:bs=bs6:=by
      have h:=hb.symm.trans hbx
      injection h with h
      injection h with h
      have:=congrArg (fun a:Array Value=>a[5]?) h
      simpa [obC] using this
     rw [hb2];exact ho7
    have HR7:=uH hr7;obtain ⟨y0,y1,y2,y3,y4,y5,y6⟩:w5.cell? ⟨Bo,0,none⟩=some (nV)/\w5.cell? ⟨Bo,1,none⟩=some (nV)/\w5.cell? ⟨Bo,2,none⟩=some (iV v)/\w5.cell? ⟨Bo,3,none⟩=some (iV u)/\w5.cell? ⟨Bo,4,none⟩=some (.slice at3 I.ts.length ct3)/\w5.cell? ⟨Bo,5,none⟩=some (sV bs6 2 2)/\w5.cell? ⟨Bo,6,none⟩=some (.slice ai I.ims.length ci):=⟨zaa hbx 0 _ rfl,zaa hbx 1 _ rfl,zaa hbx 2 _ rfl,zaa hbx 3 _ rfl,zaa hbx 4 _ rfl,zaa hbx 5 _ rfl,zaa hbx 6 _ rfl⟩;unfold obC at HR7;clear hr7 ho7 hc7 hn7 hvo hbx HI5 hol hiO oz0 oz1 oz2 HNq HsN hsl HT2 HLs
    go_wp2_with (at_builtin;refine Lib.wpList_append_run _ rfl _ _ 67 67 rfl _ _ rfl rfl _ _ HR7.o ?_)
    go_roundw
    case rel=>exact⟨v+1,tx3,HV.o,by go_num,HI8⟩
    case measure=>have:=HV.o;simp [intOf];omega } } }
  {
  have hv5:v=4:=by omega
  subst hv5;clear hv hv4;obtain ⟨vo,hvo,hvs⟩:=hI.o.or;obtain ⟨vf,hvf,hfs⟩:=hI.o.fr;obtain ⟨an,cn,hon⟩:=zbk hI.o.bk.row;obtain ⟨ao,co,hoo⟩:=zbk hvo;obtain ⟨al,cl,hol⟩:=zbk hI.o.lr;obtain ⟨af,cf,hof⟩:=zbk hvf;subst hon hoo hol hof;obtain ⟨r0,r1,r2⟩:=HR.o wq hI.o.bel;have y0:=zaa hI.o.bk.box 0 _ rfl;obtain ⟨z0,z1,z2⟩:wq.cell? ⟨w.heap.size+1+1,0,none⟩=some (iV 1)/\wq.cell? ⟨w.heap.size+1+1,1,none⟩=some (sV (w.heap.size+1) 3 3)/\wq.cell? ⟨w.heap.size+1+1,2,none⟩=some (iV 2):=⟨zaa r2 0 _ rfl,zaa r2 1 _ rfl,zaa r2 2 _ rfl⟩;have HSz:=uH (zjf units u 4);have hwq:bZ w wq:=hW.trans (hI.o.bel.mono (by omega));have HB4:Hd (BB wq an (outF units u 4).ss.length cn (outF units u 4).ss):=⟨zn2 hI.o.bk.row rfl,rfl,zlo hI.o.bk.row,by have:=zj0 HK.o.bk;unfold maxLen;omega,zpj HK.o.bk⟩;have HNew:Hd (Cq 12 #[.agg #[.slice an (outF units u 4).ss.length cn],.slice al (outF units u 4).sg.length cl,.agg #[iV 1,sV (w.heap.size+1) 3 3,iV 2],.slice af (outF units u 4).fst.length cf] wq (NwAns wq (nwV (outF units u 4).ss (outF units u 4).sg rtF (outF units u 4).fst,0))):=(vNew_any an (outF units u 4).ss.length cn (outF units u 4).ss al (outF units u 4).sg.length cl (outF units u 4).sg rtF (some ⟨w.heap.size+1,0,none⟩) 3 3 af (outF units u 4).fst.length cf (outF units u 4).fst wq HB4.o ⟨sgs_of (zdd hI.o.lr),rfl,by have:=HSz.o.2.1;unfold maxLen;omega⟩ ⟨.inr ⟨w.heap.size+1,0,rfl,fun i hi=>by
   match i,hi with
   |0,_=>exact zaa r1 0 _ rfl
   |1,_=>exact zaa r1 1 _ rfl
   |2,_=>exact zaa r1 2 _ rfl⟩,rfl,by decide⟩ ⟨ziz (zdd hvf) hfs,rfl,by rw [HK.o.fl];have:=HK.o.n4;unfold maxLen;omega⟩ (HT.o.bl hwq) HK.o.bk HK.o.sg HK.o.gt HK.o.un (by rw [HK.o.fl];have:=HK.o.n4;omega))
  have HOf:Hd (RIn OR wq (fun b=>b<=w.heap.size) ao (outF units u 4).offs.length co (facO units u)):=by
   refine⟨⟨vo,zdd hvo,hvs.mono (OR.off fun b e=>.inl (.inl (by show b<=w.heap.size+1+1+1;omega))),.inr fun ad e c=> ?_⟩,rfl,zlo hvo,by have:=HSz.o.2.2.1;unfold maxLen;omega⟩
   rcases hvo.2 with ⟨x,-⟩| ⟨g,cap,cur,x,hg,-⟩
   { rw [e] at x;cases x }
   {
   cases x;cases e;have:=hI.o.hB;have c:g<=w.heap.size:=c;omega }
  have HFu:=uH HK.o.fl;have R0:=uH r0;clear r0 r1 r2 hvo hvs hvf hfs HB4 HSz HR HK hI;go_wp2_with fail;refine(zae HNew).mono ?_;rintro e w1 ⟨⟨m,rfl,hv1⟩,hb1⟩;clear HNew y0 z0 z1 z2;unfold vhv;dsimp only;have hnu:m.nu=units:=by rw [<-hv1.us.len];unfold nwV;rw [Kr];exact HFu.o
  have HA:Hd (zh8 w units u=fun e w' =>(∃m oa n c,e=.returned (.tuple #[vhv (nwV (outF units u 4).ss (outF units u 4).sg rtF (outF units u 4).fst) m,.slice oa n c,.bool true])/\VIn w' (fun b=>b<w.heap.size/\Sm w b) m (nwV (outF units u 4).ss (outF units u 4).sg rtF (outF units u 4).fst)/\RIn OR w' (fun b=>b<w.heap.size) oa n c (facO units u))/\bZ w w'):=rfl
  change Hd (VIn w1 _ m (nwV (outF units u 4).ss (outF units u 4).sg rtF (outF units u 4).fst)) at hv1
  generalize nwV (outF units u 4).ss (outF units u 4).sg rtF (outF units u 4).fst=V at *;generalize facO units u=fo at *;have hb2:bZ w1 (w1.alloc (.cells (vhC V m) 40)).drew:=(bA1).drew;have hbq:=bT hb1 hb2;have h24:=kP w1 (.cells (vhC V m) 40);have hlt0:=zak R0.o;have hv2:=hv1.o.bl hb2;have hs1:=hb1.size;have HK2:Hd (∀b,((b<w.heap.size/\Sm w b)\/b=w.heap.size)->b<wq.heap.size/\Sm wq b):=fun b e=>by
   rcases e with ⟨e1,cs1,t1,e2,e3⟩|e
   { exact⟨kw e1 hwq.size,cs1,t1,zab e2 hwq,e3⟩ }
   { rw [e];exact⟨hlt0,_,_,R0.o,by show 15<192;decide⟩ }
  have hR2:=zab R0.o hbq;have HFin:Hd (zh8 w units u (.returned (.tuple #[vhv V m,.slice ao (outF units u 4).offs.length co,.bool true])) ((w1.alloc (.cells (vhC V m) 40)).drew.setRow w.heap.size (vhC V m))):=by
   show zh8 w units u _ _
   rw [HA.o];have hch:=zcv (w1.alloc (.cells (vhC V m) 40)).drew w.heap.size (vhC V m);have hx:=bT hwq hbq;refine⟨⟨m,ao,_,co,rfl, ?_, ?_⟩,hx.trans (hch.bl (fun b e=>Kg e.symm) hx.size)⟩
   { exact((hv2.wide (K' :=fun b=>(b<w.heap.size/\Sm w b)\/b=w.heap.size) fun b e=>.inl (HK2.o b e)).chg (hch.mono fun b e=>.inr e)).wide fun b e=>.inl (.inl e) }
   { exact((HOf.o.chg OR.chg (.of hbq _)).chg OR.chg (hch.mono fun b e=>Kg e)).wide OR.off fun b e=>.inl (Nat.le_of_lt e) }
  have HZ:=uH (setRow_heap (w1.alloc (.cells (vhC V m) 40)).drew w.heap.size _ (vhC V m) _ _ hR2);have hne:w1.heap.size≠w.heap.size:=by omega
  have x11: (w1.alloc (.cells (vhC V m) 40)).cell? ⟨w1.heap.size,11,none⟩=some (.slice m.au m.nu m.cu):=zaa h24 11 _ rfl;have hb24:=bk_v h24;have hb0:=bk_v hR2;rw [hnu] at x11;clear hv1 hv2 hR2 h24 hbq hb2 HOf HK2 R0 HFu HA hlt0 hs1 hb1 hwq;go_upto_region 36 with fail
  generalize w1.alloc (.cells (vhC V m) 40)=W7 at *;refine km (S:=fun W' =>W'.cell? ⟨w1.heap.size,11,none⟩=some (.slice m.au units m.cu)/\bk W' w1.heap.size=some (.cells (vhC V m) 40 (0,0))) (by kernel_rfl) ⟨x11,hb24⟩ ?_;intro hHeld;refine Htk 0 ?_
  try simp only [sq]
  refine Htk 2 ?_
  try simp only [sq]
  refine Htk 3 ?_
  try simp only [sq]
  refine Htk 4 ?_
  try simp only [sq]
  refine Htk 5 ?_
  try simp only [sq]
  refine Htk 6 ?_
  try simp only [sq]
  refine Htk 7 ?_
  try simp only [sq]
  refine Htk 1 ?_
  try simp only [sq]
  refine Htk 8 ?_
  try simp only [sq]
  refine Htk 9 ?_
  try simp only [sq]
  refine Htk 10 ?_
  try simp only [sq]
  refine wr1 11 (fun K hK=> ?_);go_simp;have hch:=zcv W7.drew w.heap.size (vhC V m);refine hK.out _ _ (⟨hch.cell hHeld.1 hne,hch.blk hHeld.2 hne⟩) (fun hHeld=> ?_);clear hK K
  try simp only [sq]
  refine Htk 12 ?_
  try simp only [sq]
  refine Htk 13 ?_
  try simp only [sq]
  refine KE (by kernel_rfl) ?_ _;go_wp2_with fail;refine kT (resV3 rfl rfl rfl rfl HZ.o) rfl ?_;exact HFin.o }
end
section
attribute [local go_sem ↓] kM kO zhy zhp zhu exV_bd zyt zyu zyr
attribute [local go_sem] zgl zgn zgi bdV_run zuu zup rdF_V wrF_V rdF_H wrF_H zur zgj World.setRow_alloc_new
theorem VTw.vin {F bu bc bn:Nat} (h:VTw w F bu bc bn m v):VIn w (fun b=>b<F) m v:=by
 have k: ∀b,b<F->KT F bu bc bn b:=fun b e=>.inl e
 have l1:=h.us.lt;have l2:=h.cs.lt;have l3:=h.net.lt;exact⟨h.ss,h.sg,h.g,h.us.rin UR.off k (by omega),h.cs.rin CR.off k (by omega),h.net.rin MR.off k (by omega),h.ob.mono k,h.os.mono k,h.og.wide h.g (fun b e=>.inl (.inl e))⟩
theorem RInv.first {w2 w3:World} {n bu bc bn:Nat} (l:List Hp) {cur:Array Value} (hw:bZ w w2) (hR:w2.heap[w.heap.size+1]?=some (vhO vh0 va0)) (hb:bZ w2 w3) (ht:VTw w3 w2.heap.size bu bc bn m v) (hc:cur.size=n * 1):
 RInv w w3.heap.size n v l 0 v m ((w3.alloc (.cells (vhC v m) 40)).alloc (.cells cur 51)):=by
 have b1:bZ w3 ((w3.alloc (.cells (vhC v m) 40)).alloc (.cells cur 51)):=bA2;have b2:=bT hb b1;have hl:=zak hR;have hs:=hb.size;have hs2:=hw.size;refine⟨(bT hw b2),zab hR b2,zai (kP w3 _) _,⟨cur, [], ?_,by omega,rfl,fun i x hx=>by simp at hx,by simp⟩, ?_,by omega⟩
 {
 have:=kP (w3.alloc (.cells (vhC v m) 40)) (.cells cur 51)
 simpa using this }
 {
 refine(ht.vin.wide (K' :=KR w w3.heap.size) fun b e=> ?_).bl b1
 rcases e with e|e|e|e
 { exact .inl (by show b<_;omega) }
 { exact .inl (by show b<_;omega) }
 { exact .inr (by omega) }
 { exact .inr (by omega) } }
theorem RInv.last {B n:Nat} {vk:Vh} {mk:VA} {wq:World} (h:RInv w B n v l n vk mk wq) (hl:l.length=n) (hn:n<=160):
 zfr w ((runL v l).1,(runL v l).2,0) (.returned (.tuple #[vhv vk mk,sV (B+1) n n,iV 0])) (wq.setRow (w.heap.size+1) (vhC vk mk)):=by
 obtain ⟨cur,sd,h1,h2,h3,h4,h5⟩:=h.said;have hB:=h.hB;rw [List.drop_of_length_le (by omega)] at h5;have e1: (runL v l).1=vk:=by rw [h5];rfl
 have e2: (runL v l).2=sd:=by rw [h5];simp [runL]
 have hp:=zcv wq (w.heap.size+1) (vhC vk mk);rw [e1,e2];refine⟨⟨mk,some ⟨B+1,0,none⟩,n,n,rfl, ?_,⟨.inr ⟨B+1,0,rfl,fun i hi=> ?_⟩,h3,by unfold maxLen;omega⟩,fun ad e=>by cases e;show w.heap.size<=B+1;omega⟩, ?_⟩
 { exact(h.veh.chg (hp.mono fun b e=>.inr (.inl e))).wide fun b e=>.inl (.inl e) }
 {
 rw [Kl];refine hp.cell (zaa h1 i _ (h4 i _ ?_)) (by show¬B+1=_;omega)
 simp [hi] }
 { exact h.bel.trans (hp.bl (fun b e=>by omega) h.bel.size) }
theorem infoErrno: (Tryz.prog.info? 51).map (fun i=>(i.zero,i.size,i.bytes))=some (some (iV 0),1,8):=by kernel_rfl
theorem run_ok (v:Vh) (m:VA) (l:List Hp) (a:oA) (n c:Nat) (w:World) (h:VIn w (fun _=>False) m v) (hT:Tab w) (hr:RIn HR w (fun _=>False) a n c l) (he:vhE v=0) (hn:n<=160):
 Cq 21 #[vhv v m,.slice a n c] w (zfr w (runS v l)):=by
 have HN:=uH hr.len;have HE:Hd (runS v l= ((runL v l).1,(runL v l).2,0)):=by show _=_;unfold runS;rw [KJ (by simpa using he),KJ (by rw [HN.o];omega)]
 obtain ⟨vs,r1,r2,-⟩:=hr.row;have R1:=uH r1;have R2:=uH r2;have HT:=uH hT;have HV:=uH h;have H160:=uH hn;have hnI: ¬(160:Int)< (n:Int):=by omega
 have hnJ: (n:Int)<=9223372036854775807:=by omega
 clear r1 r2 hr hT hn;have hw:bZ w ((w.alloc (.cells (vhC v m) 40)).alloc (.cells (vhC vh0 va0) 40)):=bA2;have b0:=bk_of (zai (kP w (.cells (vhC v m) 40)) (.cells (vhC vh0 va0) 40));have b1:=uH (zau w (.cells (vhC v m) 40) (.cells (vhC vh0 va0) 40));have HC:=uH (fun W (hW:bZ w W)=>zct v m W (h.bl hW));have HF:=uH (zec he);clear h;unfold vhv at HC;unfold vhv;go_enter Tryz.func21,Tryz.ntmps21;go_wp2_with fail;generalize ((w.alloc (.cells (vhC v m) 40)).alloc (.cells (vhC vh0 va0) 40))=W at *;refine(zae HC _ hw).mono ?_;rintro e w2 ⟨rfl,hb⟩;replace b0:=bk_of (zab b0 hb);replace b1:=uH (zab b1.o hb);replace hw:=bT hw hb;clear HC hb;rw [he];clear he;have HTw:=uH (zhm v m (fun _=>False) w2 (HV.o.bl hw) (HF.o.small HV.o));unfold vhv at HTw;go_wp2_with fail;refine(zae HTw).mono ?_;rintro e w3 ⟨⟨m3,bu,bc,bn,rfl,hvt⟩,hb3⟩;unfold vhv;clear HTw b0;obtain ⟨irr,hir,rz0,rz1,rz2⟩:=info_parts infoErrno;obtain ⟨cur,hcs,hmk⟩:=zbh Tryz.prog (w3.alloc (.cells (vhC v m3) 40)) 62 51 irr _ 1 8 n Tryz.underlying62 hir rz0 rz1 rz2 (by omega) (by unfold maxLen;omega);have I0:=uH (RInv.first l hw b1.o hb3 hvt hcs);clear hvt hcs hir rz0 rz1 rz2;go_wp2_with fail;generalize ((w3.alloc (.cells (vhC v m3) 40)).alloc (.cells cur 51))=W5 at *;clear hmk;have hsB:w3.heap.size+1≠w.heap.size+1:=by have:=I0.o.hB;omega
 have hsC:w.heap.size+1≠w3.heap.size:=by have:=I0.o.hB;omega
 clear hw hb3 b1 HF HV
 go_loopw [31] (fun i wq=>∃(k:Nat) (vk:Vh) (mk:VA),k<=n/\i=iV k/\Hd (RInv w w3.heap.size n v l k vk mk wq)) (fun i _=>n - (intOf i).toNat)
 case atStart=>exact⟨0,v,m3,by omega,rfl,I0⟩
 case round=>
  clear I0;obtain ⟨wq,rfl⟩: ∃wq:World,wq=wr:=⟨_,rfl⟩;obtain ⟨k,vk,mk,hk,rfl,hI⟩:=hrel
  by_cases hkn:k<n
  {
  have hkI: (k:Int)< (n:Int):=by omega
  have hul:k<l.length:=by rw [HN.o];exact hkn
  have hB:=hI.o.bel;obtain ⟨b,off,mo,rfl,q0,qc⟩:=zuh R1.o R2.o (kX hul);have HX:Hd (l[k]?=some l[k]):=kX hul;generalize l[k]=x at *;have y0:=zuq wq b (off+k * 10) x mo (fun j u hu=>(hB.cell (zah (qc j u hu))).trans (qc j u hu));have hW:bZ wq (wq.alloc (.cells (hpC x mo) 49)):=bA1;have hown:bk (wq.alloc (.cells (hpC x mo) 49)) w3.heap.size=some (.cells (vhC vk mk) 40 (0,0)):=zab hI.o.own hW;have HD:=uH (zyq vk mk x mo _ ((hI.o.veh.bl hW).wide (K' :=fun _=>False) fun b e=>e.elim) (HT.o.bl (bT hB hW)) (q0.bl (bT hB hW)));unfold vhv at HD;rw [zys] at HD;clear q0 qc hul hB;have HK:Hd (k<n):=hkn;clear hkn hk;go_wp2_with fail;refine(zae HD).mono ?_;rintro e w5 ⟨⟨m5,rfl,hv5⟩,hb5⟩;unfold vhv;clear HD hown y0;have hb7:bZ w5 (w5.alloc (.cells (vhC (doS' vk x).1 m5) 40)):=bA1;have hb8:=bT hb5 hb7;have hb6:=bT hW hb8;obtain ⟨curq,sd,s1,s2,-⟩:=hI.o.said;have S1:=uH (zab s1 hb6);have hPe:=uH (fun he=>RInv.err hI.o HK.o HX.o hb6 he);have hPo:=uH (fun he=>RInv.ok hI.o H160.o HK.o HX.o hW hb8 he (hv5.bl hb7));have hob:=uH (zab hI.o.own hb6);have hne:w3.heap.size+1≠w3.heap.size:=by omega
  have hks:k<curq.size:=by rw [s2];exact HK.o
  clear s1 s2 hb5 hb6 hb7 hb8 hv5 hW hI HX;generalize doS' vk x=r at *;obtain ⟨rv,re⟩:=r;dsimp only at hPe hPo hob S1|-
  by_cases hz:re=0
  {
  subst hz;have HP:=uH (hPo.o rfl);clear hPe hPo;have h8:=bk_v hob.o;obtain ⟨v0,s0,f0⟩:=zbe (Chg.blk S1.o (zcv _ w3.heap.size (vhC rv m5)) hne) (i:=k) hks;clear S1 hob hks;go_wp2_with fail;refine⟨⟨k+1,rv,m5,HK.o,by simp,HP.o⟩,by have:=HK.o;simp [intOf];omega⟩ }
  {
  have HP:=uH (hPe.o hz);have d: (re==0)=false:=by simpa using hz
  obtain ⟨v0,s0,f0⟩:=zbe S1.o (i:=k) hks;clear hPe hPo hob hz S1 hks;go_wp2_with fail;refine⟨⟨k+1,vk,mk,HK.o,by simp,HP.o⟩,by have:=HK.o;simp [intOf];omega⟩ } }
  {
  have hkk:k=n:=by omega
  subst hkk;clear hk hkn;have hown:=bk_v hI.o.own;have hres:=bk_v hI.o.res;have HL:=uH (RInv.last hI.o HN.o H160.o);have hz:=uH (setRow_heap wq (w.heap.size+1) _ (vhC vk mk) _ _ hI.o.res);clear hI;go_wp2_with fail;refine kT (resV3 rfl rfl rfl rfl hz.o) rfl ?_;have hfin:=HL.o;rw [<-HE.o] at hfin
  exact hfin }
theorem zy0 (v:Vh) (m:VA) (l:List Hp) (a:oA) (n c:Nat) (w:World) (h:VIn w (fun _=>False) m v) (hT:Tab w) (hr:RIn HR w (fun _=>False) a n c l):
 Cq 21 #[vhv v m,.slice a n c] w (zfr w (runS v l)):=by
 by_cases he:vhE v=0
 {
 by_cases hn:n<=160
 { exact run_ok v m l a n c w h hT hr he hn }
 { exact run_many v m l a n c w h hr.len he (by omega) } }
 {
 exact run_bad v m l a n c w h he }
end
theorem row_appN {P:Program} (w:World) (t e:TypeId) (F:Nat) (i:TypeInfo) (z:Value) (size bytes:Nat) (ht:P.underlying t=some (.slice e)) (hi:P.info? e=some i) (hz:i.zero=some z) (hs:i.size=size) (hb:i.bytes=bytes) (hzs:z.cells.size=size) (hs0:0<size) (hb2:bytes<=1000)
 (v:Value) (n:Nat) (vs:LV) (h:w.ownsRow F e size v n vs) (m:Nat) (hm0:0<m) (hm:m<=1000) (c:Array Value) (hc:c.size=m * size) (h1:c.all (·.oneCell')=true) (hn:n<=1000) (hF:F<=w.heap.size):
 ∃g cap w4,(Builtin.append_ #[t,t] t #[v,sV w.heap.size m m]).run P (w.alloc (.cells c e))=.ok (sV g (n+m) cap) w4/\w4.ownsRow F e size (sV g (n+m) cap) (n+m) (vs++c.toList)/\Chg (fun b=>v.ownBlock=some b) w w4/\Nw w v (sV g (n+m) cap):=by
 have hbl:bZ w (w.alloc (.cells c e)):=bA1;have hby: (n+m)* bytes<=140737488355328:=kc (Nat.mul_le_mul (show n+m<=2000 by omega) hb2) (by decide);obtain ⟨g,cap,w4,hr,ho,hg,hat,-⟩:=run_append_lies (P:=P) (w.alloc (.cells c e)) t t F e i z size bytes ht hi hz hs hb hzs hs0 v n vs (h.alloc _) ⟨w.heap.size,0,none⟩ m m c.toList (by rw [Ki,hc]) (World.news_of_block (kP w (.cells c e))) (fun u hu=>Array.all_eq_true_iff_forall_mem.1 h1 u (by simpa using hu)) hm0 (by unfold maxLen;omega) hby (kc hF hbl.size) _ rfl;refine⟨g,cap,w4,hr,ho,(Chg.of hbl _).trans (Chg.grown hg fun b e=>e), ?_⟩
 rcases hat with h|h
 { exact .inl (by rw [h];rfl) }
 {
 exact .inr ⟨g,rfl,by rw [h];exact hbl.size⟩ }
structure SI (W:World) (l:List Hp) (v:Value) (wr:World):Prop where
 bel:bZ W wr
 row: ∃vs,wr.ownsRow W.heap.size 49 10 v l.length vs/\Vs (HR W (fun _=>False)) l vs
theorem HR.bl {w' :World} (hb:bZ w w') (x:Hp) (c:LV) (h:HR w K x c):HR w' K x c:=by
 obtain ⟨mo,e,h1⟩:=h;exact⟨mo,e,h1.bl hb⟩
theorem SI.nil (W wr:World) (hb:bZ W wr):SI W [] (nV) wr:=⟨hb, [],KZ _ _ _ _,rfl⟩
theorem SI.rin {n c:Nat} (h:SI W l (.slice a n c) wr) (hn:l.length=n) (hm:n<=1000):RIn HR wr (fun _=>False) a n c l:=by
 obtain ⟨vs,h1,h2⟩:=h.row;rw [hn] at h1;exact⟨⟨vs,zdd h1,h2.mono (HR.bl h.bel),Ao.no⟩,hn,zlo h1,by unfold maxLen;omega⟩
theorem SI.keep {w' :World} {v:Value} (h:SI W l v wr) (hb:bZ wr w'):SI W l v w' :=by
 obtain ⟨vs,h1,h2⟩:=h.row;exact⟨(bT h.bel hb),vs,zba h1 hb,h2⟩
theorem SI.app {w4:World} {l2:List Hp} {v v' :Value} (h:SI W l v wr) (hc:Chg (fun b=>v.ownBlock=some b) wr w4) (hv:Vs (HR W (fun _=>False)) l2 cs)
 (ho: ∀vs,wr.ownsRow W.heap.size 49 10 v l.length vs->w4.ownsRow W.heap.size 49 10 v' (l.length+l2.length) (vs++cs)):SI W (l++l2) v' w4:=by
 obtain ⟨vs,h1,h2⟩:=h.row;refine⟨h.bel.trans (hc.bl (fun b e=>(h1.lt b e).1) h.bel.size),_,by simpa using ho vs h1,h2.app hv⟩
theorem OR.bo {o:Of} {c:LV} (h:OR w K o c): ∃mo,c= (ofC o.v o.u mo).toList/\BO w mo o:=by
 obtain ⟨h1,h2,m,e,n1,n2,⟨t1,-⟩,⟨s1,-⟩,⟨vs,i1,i2,-⟩,i4,i5⟩:=h;exact⟨m,e,⟨.inl h1,by rw [h1,n1];rfl,by rw [n1];decide⟩,⟨.inl h2,by rw [h2,n2];rfl,by rw [n2];decide⟩,t1,s1,⟨ziz i1 i2,i4,i5⟩⟩
theorem bo9 (w:World):BO w oa9 of9:=⟨⟨.inl rfl,rfl,by decide⟩,⟨.inl rfl,rfl,by decide⟩,⟨.inl rfl,rfl,by decide⟩,⟨.inl rfl,rfl,by decide⟩,⟨.inl rfl,rfl,by decide⟩⟩
theorem zme {l:List Of} {vs:LV} {i:Nat} {o:Of} (hr:IsRow w a vs) (h:Vs (OR w K) l vs) (hi:l[i]?=some o): ∃b off mo,a=some ⟨b,off,none⟩/\BO w mo o/\∀j v,(ofC o.v o.u mo).toList[j]?=some v->w.cell? ⟨b,off+i * 7+j,none⟩=some v:=by
 obtain ⟨b,off,c,rfl,h1,hc⟩:=hr.elem OR.len (by decide) h hi;obtain ⟨mo,e,hb⟩:=h1.bo;exact⟨b,off,mo,rfl,hb,fun j v hv=>hc j v (by rw [e];exact hv)⟩
theorem zyv: (Tryz.prog.info? 49).map (fun i=>(i.zero,i.size,i.bytes))=some (some (.agg (hpC hp9 oa9)),10,160):=by kernel_rfl
def dV:Vh:=nwV (outF 1 9 4).ss (outF 1 9 4).sg rtF (outF 1 9 4).fst
def hpK (k:Int):Hp:=⟨k,0,0,of9⟩
def dO (k:Nat):Of:=(facO 1 9).getD k of9
def dS:List Hp:= [⟨1,0,0,dO 2⟩,⟨1,0,0,dO 0⟩,hpK 2]++ [hpK 3]++ [hpK 3]++ [hpK 3]++ [hpK 3]++ [hpK 2,hpK 3,hpK 3]
theorem dV_ok:vhE dV=0/\(facO 1 9).length=3/\(dO 0).imgs.length=1/\(dO 0).imgs.getD 0 []=imgF 1 0:=by decide+kernel
theorem dR_ok: (runL dV dS).2.length=10/\(runL dV dS).2.getD 0 5=9/\(runL dV dS).2.getD 1 5=0/\(runL dV dS).1.us.length=1:=by decide+kernel
theorem dU_ok: (runsS ((runL dV dS).1.us.getD 0 un9)).1=imgF 1 0/\(runsS ((runL dV dS).1.us.getD 0 un9)).2.2=0:=by decide+kernel
theorem dG_ok: (zc3 (runL dV dS).1.g).2=0/\(zc3 (runL dV dS).1.g).1.en=true/\(zc3 (runL dV dS).1.g).1.co=true:=by decide+kernel
theorem dS_run:runS dV dS= ((runL dV dS).1,(runL dV dS).2,0):=by
 unfold runS;rw [KJ (by simpa using dV_ok.1),KJ (by decide)]
theorem facOk_1:FacOk 1 9:=⟨by decide,by decide,by decide+kernel,by decide+kernel,by decide+kernel,by decide+kernel,by unfold UnOk;decide+kernel,by decide+kernel⟩
section
attribute [local go_sem ↓] kM kO zhy zhp zhu exO_ld zy3 zxe
attribute [local go_sem] zgl zgn zgi rdF_V wrF_V zgj zli World.setRow_alloc_new
theorem dO_at {k:Nat} (h:k<3): (facO 1 9)[k]?=some (dO k):=by
 unfold dO;rw [ka,kX (by rw [dV_ok.2.1];exact h)];rfl
theorem own_made {g F n size:Nat} {c:Array Value} {e:TypeId} (h:w.heap[g]?=some (.cells c e (0,0))) (hc:c.size=n * size) (hF:F<=g) (hn:n<=maxLen):w.ownsRow F e size (sV g n n) n c.toList:=
 ⟨by rw [Ki,hc],.inr ⟨g,n,c,rfl,hF,h,kQ _,hn,hc,by rw [<-hc,<-Ki,List.take_length]⟩⟩
theorem zyj {b o:Nat} {x:Of} {mo:OA} (hc: ∀j v,(ofC x.v x.u mo).toList[j]?=some v->w.cell? ⟨b,o+j,none⟩=some v) (hb:bZ w W):
 (rdB 47 (.pointer (some ⟨b,o,none⟩))).run Tryz.prog W=.ok (.agg (aO mo x)) W:=
 rdO_mid W b o x.v x.u mo (fun j v hv=>(hb.cell (zah (hc j v hv))).trans (hc j v hv))
theorem zqf (w:World) (hT:Tab w):Cq 15 #[] w fun e w' =>e=.returned (.bool true)/\bZ w w' :=by
 have HF:Hd (Cq 23 #[iV 1,iV 9] w (zh8 w 1 9)):=zpb 1 9 w hT facOk_1;have HT:=uH hT;clear hT;go_enter Tryz.func15,Tryz.ntmps15;go_wp2_with fail;refine(zae HF).mono ?_;rintro e w1 ⟨⟨m,oa,n,c,rfl,hv1,ho1⟩,hb1⟩;clear HF
 change VIn w1 _ m dV at hv1
 rw [show nwV (outF 1 9 4).ss (outF 1 9 4).sg rtF (outF 1 9 4).fst=dV from rfl];obtain rfl:n=3:=by rw [<-ho1.len];exact dV_ok.2.1
 have hc3:=ho1.cap;obtain ⟨vs,r1,r2,-⟩:=ho1.row;obtain ⟨b,off,m2,rfl,hbo2,hc2⟩:=zme r1 r2 (dO_at (k:=2) (by omega));obtain ⟨b',off',m0,e0,hbo0,hc0⟩:=zme r1 r2 (dO_at (k:=0) (by omega));cases e0;simp only [Nat.reduceMul,Nat.add_zero] at hc2 hc0;have HL0:=uH (zfd hbo0.imgs.at_ 0 (by rw [dV_ok.2.2.1];omega));have HD2:=uH (fun W (hW:bZ w1 W)=>zyj hc2 hW);have HD0:=uH (fun W (hW:bZ w1 W)=>zyj hc0 hW);have H5:=uH (fun W (hW:bZ w1 W)=>(hW.cell (zah (hc0 6 _ rfl))).trans (hc0 6 _ rfl));have hb2:bZ w1 (w1.alloc (.cells (vhC dV m) 40)):=bA1;have bv:=uH (kP w1 (.cells (vhC dV m) 40));have HV:=uH (hv1.bl hb2);have HW1:=uH hb1;unfold vhv;clear hc0 hc2 r1 r2 ho1 hv1 hb1 vs;go_upto_region 4 with fail
 have hd:=hb2.drew;generalize w1.alloc (.cells (vhC dV m) 40)=W2 at *;refine km (S:=fun W' =>(rdB 47 (.pointer (some ⟨b,off+14,none⟩))).run Tryz.prog W' =.ok (.agg #[.slice m2.a1 m2.n1 m2.c1,.slice m2.a2 m2.n2 m2.c2,iV (dO 2).v,iV (dO 2).u,.slice m2.a3 m2.n3 m2.c3,.slice m2.a4 m2.n4 m2.c4,.slice m2.a5 m2.n5 m2.c5]) W' /\(rdB 47 (.pointer (some ⟨b,off,none⟩))).run Tryz.prog W' =.ok (.agg #[.slice m0.a1 m0.n1 m0.c1,.slice m0.a2 m0.n2 m0.c2,iV (dO 0).v,iV (dO 0).u,.slice m0.a3 m0.n3 m0.c3,.slice m0.a4 m0.n4 m0.c4,.slice m0.a5 m0.n5 m0.c5]) W') (by kernel_rfl) ⟨HD2.o _ hd,HD0.o _ hd⟩ ?_;intro hHeld;refine Htk 0 ?_
 try simp only [sq]
 refine Htk 1 ?_
 try simp only [sq]
 refine Htk 2 ?_
 try simp only [sq]
 refine Htk 3 ?_
 try simp only [sq]
 refine Htk 4 ?_
 try simp only [sq]
 refine Htk 5 ?_
 try simp only [sq]
 refine Htk 6 ?_
 try simp only [sq]
 refine Htk 7 ?_
 try simp only [sq]
 refine Htk 8 ?_
 try simp only [sq]
 refine wr1 9 (fun K hK=> ?_);go_simp;have hb3:bZ W2 (W2.alloc (.cells #[iV 1,iV 0,iV 0,.slice m2.a1 m2.n1 m2.c1,.slice m2.a2 m2.n2 m2.c2,iV (dO 2).v,iV (dO 2).u,.slice m2.a3 m2.n3 m2.c3,.slice m2.a4 m2.n4 m2.c4,.slice m2.a5 m2.n5 m2.c5,iV 1,iV 0,iV 0,.slice m0.a1 m0.n1 m0.c1,.slice m0.a2 m0.n2 m0.c2,iV (dO 0).v,iV (dO 0).u,.slice m0.a3 m0.n3 m0.c3,.slice m0.a4 m0.n4 m0.c4,.slice m0.a5 m0.n5 m0.c5,iV 2,iV 0,iV 0,nV,nV,iV 0,iV 0,nV,nV,nV] 49)).drew:=(bA1).drew;have hb13:=bT hb2 hb3;have HS3:Hd (SI W2 [⟨1,0,0,dO 2⟩,⟨1,0,0,dO 0⟩,hpK 2] (sV W2.heap.size 3 3) (W2.alloc (.cells #[iV 1,iV 0,iV 0,.slice m2.a1 m2.n1 m2.c1,.slice m2.a2 m2.n2 m2.c2,iV (dO 2).v,iV (dO 2).u,.slice m2.a3 m2.n3 m2.c3,.slice m2.a4 m2.n4 m2.c4,.slice m2.a5 m2.n5 m2.c5,iV 1,iV 0,iV 0,.slice m0.a1 m0.n1 m0.c1,.slice m0.a2 m0.n2 m0.c2,iV (dO 0).v,iV (dO 0).u,.slice m0.a3 m0.n3 m0.c3,.slice m0.a4 m0.n4 m0.c4,.slice m0.a5 m0.n5 m0.c5,iV 2,iV 0,iV 0,nV,nV,iV 0,iV 0,nV,nV,nV] 49)).drew):=
  ⟨hb3,_,own_made (show(W2.alloc (.cells #[iV 1,iV 0,iV 0,.slice m2.a1 m2.n1 m2.c1,.slice m2.a2 m2.n2 m2.c2,iV (dO 2).v,iV (dO 2).u,.slice m2.a3 m2.n3 m2.c3,.slice m2.a4 m2.n4 m2.c4,.slice m2.a5 m2.n5 m2.c5,iV 1,iV 0,iV 0,.slice m0.a1 m0.n1 m0.c1,.slice m0.a2 m0.n2 m0.c2,iV (dO 0).v,iV (dO 0).u,.slice m0.a3 m0.n3 m0.c3,.slice m0.a4 m0.n4 m0.c4,.slice m0.a5 m0.n5 m0.c5,iV 2,iV 0,iV 0,nV,nV,iV 0,iV 0,nV,nV,nV] 49)).drew.heap[W2.heap.size]?=some (.cells #[iV 1,iV 0,iV 0,.slice m2.a1 m2.n1 m2.c1,.slice m2.a2 m2.n2 m2.c2,iV (dO 2).v,iV (dO 2).u,.slice m2.a3 m2.n3 m2.c3,.slice m2.a4 m2.n4 m2.c4,.slice m2.a5 m2.n5 m2.c5,iV 1,iV 0,iV 0,.slice m0.a1 m0.n1 m0.c1,.slice m0.a2 m0.n2 m0.c2,iV (dO 0).v,iV (dO 0).u,.slice m0.a3 m0.n3 m0.c3,.slice m0.a4 m0.n4 m0.c4,.slice m0.a5 m0.n5 m0.c5,iV 2,iV 0,iV 0,nV,nV,iV 0,iV 0,nV,nV,nV] 49 (0,0)) from kP W2 _) rfl (kQ _) (by decide),⟨(hpC ⟨1,0,0,dO 2⟩ m2).toList,_,rfl,⟨m2,rfl,hbo2.bl hb2⟩,(hpC ⟨1,0,0,dO 0⟩ m0).toList,_,rfl,⟨m0,rfl,hbo0.bl hb2⟩,(hpC (hpK 2) oa9).toList, [],rfl,⟨oa9,rfl,bo9 _⟩,rfl⟩⟩
 refine hK.out _ _ (⟨HD2.o _ hb13,HD0.o _ hb13⟩) (fun hHeld=> ?_);clear hK K
 try simp only [sq]
 refine Htk 10 ?_
 try simp only [sq]
 refine KE (by kernel_rfl) ?_ _;generalize (W2.alloc (.cells #[iV 1,iV 0,iV 0,.slice m2.a1 m2.n1 m2.c1,.slice m2.a2 m2.n2 m2.c2,iV (dO 2).v,iV (dO 2).u,.slice m2.a3 m2.n3 m2.c3,.slice m2.a4 m2.n4 m2.c4,.slice m2.a5 m2.n5 m2.c5,iV 1,iV 0,iV 0,.slice m0.a1 m0.n1 m0.c1,.slice m0.a2 m0.n2 m0.c2,iV (dO 0).v,iV (dO 0).u,.slice m0.a3 m0.n3 m0.c3,.slice m0.a4 m0.n4 m0.c4,.slice m0.a5 m0.n5 m0.c5,iV 2,iV 0,iV 0,nV,nV,iV 0,iV 0,nV,nV,nV] 49)).drew=W3 at *;clear hHeld hd hb3 HD2 HD0 hbo2;obtain ⟨iH,hiH,hz0,hz1,hz2⟩:=info_parts zyv;go_wp2_with fail
 go_loopw [4,29] (fun v i wq=>∃(k:Nat) (l:List Hp),k<=4/\i=iV k/\Hd (l= [⟨1,0,0,dO 2⟩,⟨1,0,0,dO 0⟩,hpK 2]++List.replicate k (hpK 3))/\Hd (SI W2 l v wq)) (fun _ i _=>4 - (intOf i).toNat)
 case atStart=>exact⟨0,_,by omega,rfl,rfl,HS3⟩
 case round=>
  clear HS3;obtain ⟨wq,rfl⟩: ∃wq:World,wq=wr:=⟨_,rfl⟩;obtain ⟨k,l,hk,rfl,HL,hI⟩:=hrel;obtain ⟨vs,hvs,-⟩:=hI.o.row;obtain ⟨aa,ca,rfl⟩:=zbk hvs;have hl3:Hd (l.length=3+k):=by show _=_;rw [HL.o];simp;omega
  by_cases hk4:k<4
  {
  have hkI: (k:Int)<4:=by omega
  have HK:Hd (k<4):=hk4;obtain ⟨g,cap,w4,hr,ho,hc,-⟩:=zed (P:=Tryz.prog) wq 61 49 W2.heap.size iH _ 10 160 Tryz.underlying61 hiH hz0 hz1 hz2 rfl (by omega) (by omega) _ _ vs hvs (hpC (hpK 3) oa9) rfl (by simp [hpC,Value.oneCell']) (by rw [hl3.o];omega) hI.o.bel.size;have HI2:Hd (SI W2 (l++ [hpK 3]) (sV g (l.length+1) cap) w4):=by
   refine hI.o.app (l2:= [hpK 3]) (cs:=(hpC (hpK 3) oa9).toList) hc ⟨(hpC (hpK 3) oa9).toList, [],by simp,⟨oa9,rfl,bo9 _⟩,rfl⟩ (fun us hus=> ?_);obtain rfl:=zfg hus hvs;exact ho
  have HL2:Hd (l++ [hpK 3]= [⟨1,0,0,dO 2⟩,⟨1,0,0,dO 0⟩,hpK 2]++List.replicate (k+1) (hpK 3)):=by show _=_;rw [List.replicate_succ',<-KW,HL.o]
  have HR:Hd ((Builtin.append_ #[61,61] 61 #[.slice aa l.length ca,sV wq.heap.size 1 1]).run Tryz.prog (wq.alloc (.cells #[iV 3,iV 0,iV 0,nV,nV,iV 0,iV 0,nV,nV,nV] 49))=.ok (sV g (l.length+1) cap) w4):=hr;clear hr ho hc hvs hI hk hk4 hl3 HL
  go_wp2_with (at_builtin;refine Lib.wpList_append_run _ rfl _ _ 61 61 rfl _ _ rfl rfl _ _ HR.o ?_)
  go_roundw
  case rel=>exact⟨k+1,_,HK.o,by go_num,HL2,HI2⟩
  case measure=>have:=HK.o;simp [intOf];omega }
  {
  have hk5:k=4:=by omega
  subst hk5;clear hk hk4;obtain ⟨g,cap,w4,hr,ho,hc,-⟩:=row_appN (P:=Tryz.prog) wq 61 49 W2.heap.size iH _ 10 160 Tryz.underlying61 hiH hz0 hz1 hz2 rfl (by omega) (by omega) _ _ vs hvs 3 (by omega) (by omega) #[iV 2,iV 0,iV 0,nV,nV,iV 0,iV 0,nV,nV,nV,iV 3,iV 0,iV 0,nV,nV,iV 0,iV 0,nV,nV,nV,iV 3,iV 0,iV 0,nV,nV,iV 0,iV 0,nV,nV,nV] rfl (by simp [Value.oneCell']) (by rw [hl3.o];omega) hI.o.bel.size;have HI2:Hd (SI W2 dS (sV g (l.length+3) cap) w4):=by
   have e:dS=l++ [hpK 2,hpK 3,hpK 3]:=by rw [HL.o];rfl
   show SI _ _ _ _
   rw [e];refine hI.o.app (l2:= [hpK 2,hpK 3,hpK 3]) (cs:=(#[iV 2,iV 0,iV 0,nV,nV,iV 0,iV 0,nV,nV,nV,iV 3,iV 0,iV 0,nV,nV,iV 0,iV 0,nV,nV,nV,iV 3,iV 0,iV 0,nV,nV,iV 0,iV 0,nV,nV,nV]:Array Value).toList) hc ⟨(hpC (hpK 2) oa9).toList,_,rfl,⟨oa9,rfl,bo9 _⟩,(hpC (hpK 3) oa9).toList,_,rfl,⟨oa9,rfl,bo9 _⟩,(hpC (hpK 3) oa9).toList, [],rfl,⟨oa9,rfl,bo9 _⟩,rfl⟩ (fun us hus=> ?_);obtain rfl:=zfg hus hvs;exact ho
  have HR:=uH hr;have hl10:l.length+3=10:=by rw [hl3.o]
  have HN10:=uH hl10;have hbw:=HI2.o.bel;have bv4:=uH (zab bv.o hbw);have hv4:=bk_v bv4.o;have HRun:=uH (zy0 dV m dS (some ⟨g,0,none⟩) (l.length+3) cap w4 ((HV.o.bl hbw).wide (K' :=fun _=>False) fun _ e=>e.elim) (HT.o.bl (HW1.o.trans ((bT hb2 hbw).mono HW1.o.size))) (HI2.o.rin (by rw [hl10];rfl) (by omega)));rw [dS_run] at HRun;unfold vhv at HRun;clear hr ho hc hvs hI hl3 HL hiH hz0 hz1 hz2 hl10
  go_wp2_with (at_builtin;refine Lib.wpList_append_run _ rfl _ _ 61 61 rfl _ _ rfl rfl _ _ HR.o ?_)
  refine(zae HRun).mono ?_;rintro e w5 ⟨⟨m5,sa,n5,c5,rfl,hv5,hs5,hf5⟩,hb5⟩;clear HRun hv4;have HR1:=uH dR_ok;have HU1:=uH dU_ok;have HG1:=uH dG_ok;unfold vhv;generalize runL dV dS=R at *;obtain ⟨V,sd⟩:=R;dsimp only at HR1 HU1 HG1 hv5 hs5|-;obtain rfl:n5=10:=by rw [<-hs5.len];exact HR1.o.1
  have hnu:m5.nu=1:=by rw [<-hv5.us.len];exact HR1.o.2.2.2
  have bv5:=zab bv4.o hb5;have hbk:=bk_v bv5;have hlt:=zak bv4.o;have hch:=zcv w5 w1.heap.size (vhC V m5);have hbx:=setRow_heap w5 w1.heap.size _ (vhC V m5) _ _ bv5;have hv6:=(hv5.wide (K' :=fun b=>b=w1.heap.size) fun b e=>.inl (by rw [e];exact⟨hlt,_,_,bv4.o,by show 15<192;decide⟩)).chg hch;have hi6:=hs5.at_.chg hch (.inr fun ad e c=>by have:=hf5 ad e;omega);have hb6:bZ w1 (w5.setRow w1.heap.size (vhC V m5)):=(hb2.trans ((bT hbw hb5).mono hb2.size)).trans (hch.bl (fun b e=>Kg e.symm) (kc hb2.size (kc hbw.size hb5.size)));obtain ⟨bs,os,rfl,hcs⟩: ∃bs os,sa=some ⟨bs,os,none⟩/\∀i,i<sd.length->(w5.setRow w1.heap.size (vhC V m5)).cell? ⟨bs,os+i,none⟩=some (iV (sd.getD i 0)):=by
   rcases hi6 with e| ⟨bs,os,e,h⟩
   { have:=HR1.o.1;rw [e] at this;cases this }
   { exact⟨bs,os,e,h⟩ }
  have s0:=hcs 0 (by rw [HR1.o.1];omega);have s1:=hcs 1 (by rw [HR1.o.1];omega);rw [show sd.getD 0 0=9 by have:=HR1.o.2.1;cases sd with|nil=>(have h:=HR1.o.1;cases h)|cons x r=>exact this] at s0;rw [show sd.getD 1 0=0 by have:=HR1.o.2.2.1;have h:=HR1.o.1;match sd,h,this with|x::y::r,_,h=>exact h] at s1;rw [Nat.add_zero] at s0;have x11: (w5.setRow w1.heap.size (vhC V m5)).cell? ⟨w1.heap.size,11,none⟩=some (.slice m5.au m5.nu m5.cu):=zaa hbx 11 _ rfl;rw [hnu] at x11;have HV6:=uH hv6;have HB6:=uH hb6;have HX6:=uH hbx;have HNu:=uH hnu;have hcu:1<=m5.cu:=by rw [<-hnu];exact hv5.us.cap
  have hl10:=HN10.o;clear hv5 hs5 hf5 hb5 hi6 hv6 hb6 hbx hch hlt bv5 hcs hnu;go_upto_region 13 with fail
  generalize w5.setRow w1.heap.size (vhC V m5)=W6 at *;clear s0 s1 hbk;obtain ⟨vu,ru1,ru2,-⟩:=HV6.o.us.row;obtain ⟨u0,hu0⟩: ∃u0,V.us[0]?=some u0:=⟨V.us[0]'(by rw [HR1.o.2.2.2];omega),kX _⟩;obtain ⟨bu,ou,ux,un,uc,hau,hbw0,-,u1,u2,u3,u4,u5⟩:=zdz ru1 ru2 hu0;simp only [Nat.zero_mul,Nat.add_zero] at u1 u2 u3 u4 u5;rw [hau] at x11;have hrd:=zyz W6 bu ou u0 ux un uc (fun j v hv=>by
   match j,hv with
   |0,e=>cases e;exact u1
   |1,e=>cases e;exact u2
   |2,e=>cases e;exact u3
   |3,e=>cases e;exact u4
   |4,e=>cases e;exact u5)
  have HC:=uH (zn0 u0 ux un uc W6 hbw0);rw [zx9] at HC;have hU: (runsS u0).1=imgF 1 0/\(runsS u0).2.2=0:=by
   have:=HU1.o;rw [ka,hu0] at this;exact this
  have HUR:=uH hU;clear hU u1 u2 u3 u4 u5 ru1 ru2 hu0 hbw0 HU1 hau;go_wp2_with fail;refine(zae HC).mono ?_;rintro e w7 ⟨⟨ar,nr,cr,rfl,hir,hnr,hcr,-⟩,hb7⟩;clear HC hrd;have hb67:=hb7;have hx7:=zab HX6.o hb7;have hg7:=rdG_mid w7 w1.heap.size 2 V.g m5.g (fun j v hv=>by
   have h9:j<9:=by have:=(kY.1 hv).1;exact this
   match j,hv with
   |0,e=>cases e;exact zaa hx7 2 _ rfl
   |1,e=>cases e;exact zaa hx7 3 _ rfl
   |2,e=>cases e;exact zaa hx7 4 _ rfl
   |3,e=>cases e;exact zaa hx7 5 _ rfl
   |4,e=>cases e;exact zaa hx7 6 _ rfl
   |5,e=>cases e;exact zaa hx7 7 _ rfl
   |6,e=>cases e;exact zaa hx7 8 _ rfl
   |7,e=>cases e;exact zaa hx7 9 _ rfl
   |8,e=>cases e;exact zaa hx7 10 _ rfl
   |j+9,_=>omega)
  have HC:=uH (zh0 V.g m5.g w7 (HV6.o.bl hb7).g);rw [zud] at HC;clear x11;go_wp2_with fail;refine(zae HC).mono ?_;rintro e w8 ⟨rfl,hb8⟩;clear HC hg7;generalize runsS u0=r at *;obtain ⟨r1,r2,r3⟩:=r;obtain ⟨rfl,rfl⟩:=HUR.o;generalize zc3 V.g=q at *;obtain ⟨st,e9⟩:=q;obtain ⟨g1,g2,g3⟩:=HG1.o;have HXl:Hd ((dO 0).imgs[0]'(by rw [dV_ok.2.2.1];omega)=imgF 1 0):=by
   show _=_
   have:=dV_ok.2.2.2;rw [ka,kX (by rw [dV_ok.2.2.1];omega)] at this;exact this
  obtain ⟨bi,oi,ai,ci,ha5,hci,hii,hic,hmc⟩:=HL0.o;rw [HXl.o] at hci hii hic;rw [Nat.add_zero] at hci;have hn5:m0.n5=1:=by rw [<-hbo0.imgs.len];exact dV_ok.2.2.1
  dsimp only at g1 g2 g3 hir hnr|-;subst g1;unfold gsv;rw [g2,g3];have hb9:bZ w8 (w8.alloc (.cells #[iV st.n,iV st.v,.bool true,.bool st.ab,.bool true] 72)):=bA1;have hb79:=bT hb8 hb9;have hb69:=bT hb7 hb79;have hb19:=bT HB6.o hb69;have z5:=H5.o _ hb19;rw [ha5,hn5] at z5;have zi: (w8.alloc (.cells #[iV st.n,iV st.v,.bool true,.bool st.ab,.bool true] 72)).cell? ⟨bi,oi,none⟩=some (.slice ai (imgF 1 0).length ci):=(hb19.cell (zah hci)).trans hci;have HQ:=uH (zl3 ar ai cr ci (imgF 1 0) (imgF 1 0) _ (hir.bl hb79) (hii.bl hb19) (by decide) (by decide));rw [hnr,show eqL (imgF 1 0) (imgF 1 0)=true by decide] at HQ;rw [hnr] at zi;have HFin:=uH (bT HW1.o hb19);have bg9:=uH (kP w8 (.cells #[iV st.n,iV st.v,.bool true,.bool st.ab,.bool true] 72));clear hb9 hb79 hb69 hb19 hir hnr hci hii hic hmc HL0 H5 hb7 hb8 hb67 hx7 HXl g2 g3 HG1 HUR;go_upto_region 15 with fail
  generalize (w8.alloc (.cells #[iV st.n,iV st.v,.bool true,.bool st.ab,.bool true] 72))=W9 at *;go_wp2_with fail;refine(zae HQ).mono ?_;rintro e w10 ⟨rfl,nd,rfl⟩;have hd10:bZ W9 (W9.drewN nd):=kA (kS _ _) nd;have c4:=zaa (zab bg9.o hd10) 4 _ rfl;have c2:=zaa (zab bg9.o hd10) 2 _ rfl;have HE:=uH (bT HFin.o hd10);clear HQ z5 zi hd10;generalize W9.drewN nd=W10 at *;go_wp2_with fail;go_ret;exact⟨rfl,HE.o⟩ }
end
section
attribute [local go_sem ↓] kM kO zyt zyu zyr exO_ld
attribute [local go_sem] zuu zup rdF_H wrF_H zur zgj zli World.setRow_alloc_new
theorem rdF_10 {P:Program} {w:World} {t u:TypeId} {b:Nat} {fr:Nat×Nat} (v0 v1 v2 v3 v4 v5 v6 v7 v8 v9:Value):rdF P w t 10 b (some (.cells #[v0,v1,v2,v3,v4,v5,v6,v7,v8,v9] u fr))=.ok (.agg #[v0,v1,v2,v3,v4,v5,v6,v7,v8,v9]) w:=zub rfl
attribute [local go_sem] rdF_10
def offX (os:List Of) (x:Hp):Hp:=if x.k=1 then⟨x.k,x.u,x.j,os.getD (x.j % 3).toNat of9⟩ else x
def offL (os:List Of) (l:List Hp):List Hp:=(l.take 160).map (offX os)
structure SJ (W w:World) (l:List Hp) (v:Value) (wr:World):Prop where
 bel:bZ w wr
 row: ∃vs,wr.ownsRow w.heap.size 49 10 v l.length vs/\Vs (HR W (fun _=>False)) l vs
theorem SJ.keep {w' :World} {v:Value} (h:SJ W w l v wr) (hb:bZ wr w'):SJ W w l v w' :=by
 obtain ⟨vs,h1,h2⟩:=h.row;exact⟨(bT h.bel hb),vs,zba h1 hb,h2⟩
theorem SJ.app {w4:World} {l2:List Hp} {v v' :Value} (h:SJ W w l v wr) (hc:Chg (fun b=>v.ownBlock=some b) wr w4) (hv:Vs (HR W (fun _=>False)) l2 cs)
 (ho: ∀vs,wr.ownsRow w.heap.size 49 10 v l.length vs->w4.ownsRow w.heap.size 49 10 v' (l.length+l2.length) (vs++cs)):SJ W w (l++l2) v' w4:=by
 obtain ⟨vs,h1,h2⟩:=h.row;refine⟨h.bel.trans (hc.bl (fun b e=>(h1.lt b e).1) h.bel.size),_,by simpa using ho vs h1,h2.app hv⟩
def OffAns (W w:World) (os:List Of) (l:List Hp) (e:Ending) (w' :World):Prop:=∃a n c,e=.returned (.slice a n c)/\(offL os l).length=n/\SJ W w (offL os l) (.slice a n c) w'
theorem zvv (l:List Hp) (a:oA) (n c:Nat) (os:List Of) (K:Nat->Prop) (oa:oA) (oc:Nat) (W0 w:World) (h:RIn HR W0 (fun _=>False) a n c l) (ho:RIn OR W0 K oa 3 oc os) (hw0:bZ W0 w) (hB: ∀x∈l,-9223372036854775808<=x.j/\x.j<=9223372036854775807):
 Cq 24 #[.slice a n c,.slice oa 3 oc] w (OffAns W0 w os l):=by
 have hcap:=h.cap;have hoc:=ho.cap;have HH:=uH h;have HO:=uH ho;have HB:=uH hB;have HW0:=uH hw0;clear h ho hB hw0;go_enter Tryz.func24,Tryz.ntmps24;go_upto_region 2 with fail
 go_cut [12,13,14] (fun x y i wc=>∃q:Nat,x=.slice a q c/\y=iV q/\i=iV 0/\wc=w/\Hd (q=min n 160))
 case first=>
  by_cases hn:n<=160
  {
  have h1: (n:Int)<=160:=by omega
  have h2: ¬(160:Int)<n:=by omega
  go_wp2_with fail
  go_meet
  case rel=>exact⟨(min (n:Int) 160).toNat,rfl,congrArg (iV) (by omega),rfl,rfl,by show _=_;omega⟩ }
  {
  have h1: ¬(n:Int)<=160:=by omega
  have h2: (160:Int)<n:=by omega
  have h3:160<=c:=by omega
  go_wp2_with fail
  go_meet
  case rel=>exact⟨(min (n:Int) 160).toNat,rfl,congrArg (iV) (by omega),rfl,rfl,by show _=_;omega⟩ }
 case rest=>
  obtain ⟨q,rfl,rfl,rfl,hwc,HQ⟩:=hcut;replace hwc:=hwc.symm;subst hwc;have HN:=uH HH.o.len;obtain ⟨vs,r1,r2,-⟩:=HH.o.row;have R1:=uH r1;have R2:=uH r2;obtain ⟨vo,p1,p2,-⟩:=HO.o.row;have P1:=uH p1;have P2:=uH p2;have HOl:=uH HO.o.len;have hqn:q<=n/\q<=160:=by have:=HQ.o;omega
  obtain ⟨iH,hiH,hz0,hz1,hz2⟩:=info_parts zyv;clear r1 r2 p1 p2 HH HO;go_wp2_with fail
  go_loopw [5,14] (fun v i wq=>∃k:Nat,k<=q/\i=iV k/\Hd (SJ W0 w ((l.take k).map (offX os)) v wq)) (fun _ i _=>q - (intOf i).toNat)
  case atStart=>exact⟨0,by omega,rfl,⟨kS _ _, [],KZ _ _ _ _,rfl⟩⟩
  case round=>
   obtain ⟨wq,rfl⟩: ∃wq:World,wq=wr:=⟨_,rfl⟩;obtain ⟨k,hk,rfl,hI⟩:=hrel;obtain ⟨vz,hvs,-⟩:=hI.o.row;obtain ⟨aa,ca,rfl⟩:=zbk hvs;have hll: ((l.take k).map (offX os)).length=k:=by rw [Kr,KQ,HN.o];omega
   by_cases hkq:k<q
   {
   have hkI: (k:Int)< (q:Int):=by omega
   have hul:k<l.length:=by rw [HN.o];omega
   have hB0:=hI.o.bel;have hB:=bT HW0.o hB0;obtain ⟨b,off,mo,rfl,q0,qc⟩:=zuh R1.o R2.o (kX hul);have HX:Hd ((l.take (k+1)).map (offX os)= (l.take k).map (offX os)++ [offX os l[k]]):=by show _=_;rw [kl hul,List.map_append];rfl
   have hxb:=HB.o l[k] (KH hul);generalize l[k]=x at *;have y0:=zuq wq b (off+k * 10) x mo (fun j u hu=>(hB.cell (zah (qc j u hu))).trans (qc j u hu));have hxo:BO W0 mo x.o:=q0;have HXO:=uH hxo;have hbW:bZ wq (wq.alloc (.cells (hpC x mo) 49)):=bA1;have hbx:=kP wq (.cells (hpC x mo) 49);generalize (l.take k).map (offX os)=lk at *;have HI:=hI;have HLL:=uH hll;have HKQ:=uH hkq;clear q0 qc hul hI hvs hk hkq hxo hll;go_upto_region 5 with fail
   generalize wq.alloc (.cells (hpC x mo) 49)=W at *;have c0:=zaa hbx 0 (iV x.k) rfl
   go_cut [25] (fun z wc=>z=.bool (decide (x.k=1))/\wc=W)
   case first=>
    by_cases hk1:x.k=1
    {
    have hne: (x.k==1)=true:=by simpa using hk1
    have HD:Hd (decide (x.k=1)=true):=by show _=_;simpa using hk1
    clear hk1;go_wp2_with fail
    go_meet
    case rel=>exact⟨by rw [HD.o],rfl⟩ }
    {
    have hne: (x.k==1)=false:=by simpa using hk1
    have HD:Hd (decide (x.k=1)=false):=by show _=_;simpa using hk1
    clear hk1;go_wp2_with fail
    go_meet
    case rel=>exact⟨by rw [HD.o],rfl⟩ }
   case rest=>
    obtain ⟨rfl,hwc⟩:=hcut;replace hwc:=hwc.symm;subst hwc
    go_upto_if 25 with fail
    go_cut [] (fun wc=>∃mo' :OA,Hd (BO W0 mo' (offX os x).o)/\Hd (wc.heap[wq.heap.size]?=some (.cells (hpC (offX os x) mo') 49 (0,0)))/\Hd (bZ wq wc))
    case first=>
     by_cases hk1:x.k=1
     {
     have hd:decide (x.k=1)=true:=by simpa using hk1
     rw [hd];clear hd;have HK1:=uH hk1;have c2:=zaa hbx 2 (iV x.j) rfl;have HAt:=uH (fun W' =>zy4 x.j 3 W' (by decide) (by decide) hxb);obtain ⟨i,hi⟩: ∃i:Nat,(i:Int)=x.j % 3:=⟨(x.j % 3).toNat,Int.toNat_of_nonneg (Int.emod_nonneg _ (by decide))⟩;have hi3: (i:Int)<3:=by rw [hi];exact Int.emod_lt_of_pos _ (by decide)
     have hin:i<os.length:=by rw [HOl.o];omega
     obtain ⟨bo,oo,mo',rfl,hbo,hco⟩:=zme P1.o P2.o (kX hin);have HOX:Hd ((offX os x).o=os[i]/\offX os x= ⟨x.k,x.u,x.j,os[i]⟩):=by
      have: (x.j % 3).toNat=i:=by omega
      unfold offX;rw [KK hk1,this,ka,kX hin];exact⟨rfl,rfl⟩
     have HBO:=uH hbo;generalize os[i]=o at *;have HRd:=uH (fun W' (hW' :bZ W0 W')=>zyj hco hW');clear hk1 hbo hco;have HW2:=uH (bT hB hbW);have y1:=HRd.o _ HW2.o;have d3:=zaa hbx 3 _ rfl;have d4:=zaa hbx 4 _ rfl;have d5:=zaa hbx 5 _ rfl;have d6:=zaa hbx 6 _ rfl;have d7:=zaa hbx 7 _ rfl;have d8:=zaa hbx 8 _ rfl;have d9:=zaa hbx 9 _ rfl;have f3:=zad hbx 3;have f4:=zad hbx 4;have f5:=zad hbx 5;have f6:=zad hbx 6;have f7:=zad hbx 7;have f8:=zad hbx 8;have f9:=zad hbx 9;have HBX:=uH hbx;have HBW:=uH hbW;clear hbx hbW hin
     go_wp2_with fail;refine(zae HAt _).mono ?_;rintro e w7 ⟨rfl,h7⟩;replace h7:=h7.symm;subst h7;rw [<-hi];clear hi HAt;go_wp2_with fail
     go_meet
     case rel=>
      refine⟨mo',by rw [HOX.o.1];exact HBO, ?_, ?_⟩
      {
      rw [HOX.o.2];exact zie (zie (zie (zie (zie (zie (zie HBX.o)))))) }
      { exact HBW.o.trans ((((((((Chg.refl (fun b=>b=wq.heap.size) W).set (p:=⟨wq.heap.size,3,none⟩) rfl _).set (p:=⟨wq.heap.size,4,none⟩) rfl _).set (p:=⟨wq.heap.size,5,none⟩) rfl _).set (p:=⟨wq.heap.size,6,none⟩) rfl _).set (p:=⟨wq.heap.size,7,none⟩) rfl _).set (p:=⟨wq.heap.size,8,none⟩) rfl _).set (p:=⟨wq.heap.size,9,none⟩) rfl _|>.bl (fun b e=>Kg e.symm) HBW.o.size) } }
     {
     have hd:decide (x.k=1)=false:=by simpa using hk1
     rw [hd];have HF:Hd (BO W0 mo (offX os x).o)/\Hd (W.heap[wq.heap.size]?=some (.cells (hpC (offX os x) mo) 49 (0,0)))/\Hd (bZ wq W):=by
      unfold offX;rw [KJ hk1];exact⟨HXO,hbx,hbW⟩
     clear hk1 hbx hbW hd;go_wp2_with fail
     go_meet
     case rel=>exact⟨mo,HF⟩ }
    case rest=>
     obtain ⟨w8,rfl⟩: ∃w8:World,w8=wc:=⟨_,rfl⟩;obtain ⟨mo',H1,H2,H3⟩:=hcut;have hS:=HI.o.keep H3.o;obtain ⟨vy,hvy,-⟩:=hS.row;obtain ⟨g,cap,w4,hr,hown,hc,-⟩:=zed (P:=Tryz.prog) w8 61 49 w.heap.size iH _ 10 160 Tryz.underlying61 hiH hz0 hz1 hz2 rfl (by omega) (by omega) _ _ vy hvy (hpC (offX os x) mo') rfl (by simp [hpC,Value.oneCell']) (by rw [HLL.o];omega) hS.bel.size;have HI2:Hd (SJ W0 w (lk++ [offX os x]) (sV g (lk.length+1) cap) w4):=by
      refine hS.app (l2:= [offX os x]) (cs:=(hpC (offX os x) mo').toList) hc ⟨(hpC (offX os x) mo').toList, [],by simp,⟨mo',rfl,H1⟩,rfl⟩ (fun us hus=> ?_);obtain rfl:=zfg hus hvy;exact hown
     have bx:bk w8 wq.heap.size=some (.cells (hpC (offX os x) mo') 49 (0,0)):=H2;have HR:=uH hr;generalize offX os x=y at *;unfold hpC at bx HR;clear hr hown hc hvy hS hbx hbW c0 HI y0
     go_wp2_with (at_builtin;refine Lib.wpList_append_run _ rfl _ _ 61 61 rfl _ _ rfl rfl _ _ HR.o ?_)
     go_roundw
     case rel=>exact⟨k+1,HKQ.o,by go_num,by show SJ _ _ _ _ _;rw [HX.o];exact HI2⟩
     case measure=>have:=HKQ.o;simp [intOf];omega }
   {
   have hkk:k=q:=by omega
   subst hkk;have HA:Hd (OffAns W0 w os l (.returned (.slice aa ((l.take k).map (offX os)).length ca)) wq):=by
    have e:offL os l= (l.take k).map (offX os):=by
     unfold offL;have:=HQ.o
     by_cases h:n<=160
     { rw [show k=n by omega,kh (by rw [HN.o];omega),kh (by rw [HN.o];omega)] }
     { rw [show k=160 by omega] }
    refine⟨_,_,_,rfl,by rw [e], ?_⟩;rw [e];exact hI.o
   clear hI hvs hk hkq hll;go_wp2_with fail;go_ret;exact HA }
end
def facN (U:Nat) (u:Int):Vh:=nwV (outF U u 4).ss (outF U u 4).sg rtF (outF U u 4).fst
def facC (U:Nat) (u:Int):Bool:=decide ((facO U u).length=3)&&(facO U u).all fun o=>decide (o.roots.length=0)&&(decide (o.u=u)&&(decide (o.v≠3)||decide (crE (outF U u 4).ss (outF U u 4).sg rtF o.v o.u o.ts o.sigs=9)))
theorem zza: ∀U,U<4->facC (U+1) 50=true/\facC (U+1) 100=true:=by decide+kernel
theorem facR_ok: ∀U,U<4->∀v:Nat,v<4->v≠0->relE v 50 (inF (outF (U+1) 50 v).ss v (U+1)).ts=0/\relE v 100 (inF (outF (U+1) 100 v).ss v (U+1)).ts=0:=by decide+kernel
theorem zry: ∀U,U<4->(bookE (outF (U+1) 50 4).ss=0/\bookE (outF (U+1) 100 4).ss=0)/\(sigE (outF (U+1) 50 4).sg=0/\sigE (outF (U+1) 100 4).sg=0)/\((outF (U+1) 50 4).fst.length=U+1/\(outF (U+1) 100 4).fst.length=U+1)/\(gNew rtF (U+1:Nat)).2=0:=by decide+kernel
theorem facU_ok: ∀U,U<4->(∀im∈(outF (U+1) 50 4).fst,UnOk (outF (U+1) 50 4).ss im)/\(∀im∈(outF (U+1) 100 4).fst,UnOk (outF (U+1) 100 4).ss im):=by unfold UnOk;decide+kernel
theorem zzc (h:U<4):FacOk (U+1) 50:=⟨by omega,by omega,fun v h1 h2=>(facR_ok U h v h1 h2).1,(zry U h).1.1,(zry U h).2.1.1,by rw [(zry U h).2.2.1.1];exact(zry U h).2.2.2,(facU_ok U h).1,(zry U h).2.2.1.1⟩
theorem facOk_100 (h:U<4):FacOk (U+1) 100:=⟨by omega,by omega,fun v h1 h2=>(facR_ok U h v h1 h2).2,(zry U h).1.2,(zry U h).2.1.2,by rw [(zry U h).2.2.1.2];exact(zry U h).2.2.2,(facU_ok U h).2,(zry U h).2.2.1.2⟩
theorem fac_off (h:facC U u=true) {o:Of} (ho:o∈facO U u):o.roots= []/\o.u=u/\(o.v=3->crE (outF U u 4).ss (outF U u 4).sg rtF o.v o.u o.ts o.sigs=9):=by
 unfold facC at h;simp only [kr,kH] at h;have:=h.2 o ho;simp only [KF,Bool.or_eq_true] at this;exact⟨kn this.1,this.2.1,fun e=>this.2.2.resolve_left (fun h=>h e)⟩
theorem zy5 (h:facC U u=true): (facO U u).length=3:=by
 unfold facC at h;simp only [kr,KF] at h;exact h.1
theorem gw0_rk:logR gw0= []:=by decide+kernel
theorem zyi (h:U<4) (u:Int) (hu:u=50\/u=100): (facN (U+1) u).g=gNw rtF (U+1:Nat):=by
 have hl: (outF (U+1) u 4).fst.length=U+1:=by rcases hu with rfl|rfl;exact(zry U h).2.2.1.1;exact(zry U h).2.2.1.2
 show(gNew rtF _).1=_
 rw [hl];have:=(zry U h).2.2.2;unfold gNew at this|-
 split
 { rename_i e;rw [KK e] at this;cases this }
 {
 rename_i e
 rw [KJ e] at this
 split
 { rename_i e2;rw [KK e2] at this;exact absurd this e2 }
 {
 rfl } }
structure TkI (U:Nat) (u:Int) (v:Vh):Prop where
 ss:v.ss= (outF U u 4).ss
 sg:v.sg= (outF U u 4).sg
 rt:v.g.t.r=rtF
 rk:RK v.g.ws
structure TkS (u:Int) (v:Vh) (x:Hp) (y:Vh):Prop where
 ok0:gtE v.g=0
 ok:gtE y.g=0
 up: (gOf v.g.ws).n<=(gOf y.g.ws).n/\(gOf y.g.ws).n<=(gOf v.g.ws).n+1
 ver:v.g.t.ver<=y.g.t.ver
 new: (gOf v.g.ws).n< (gOf y.g.ws).n->x.k=1/\x.o.v≠3/\v.now<=u/\(gOf y.g.ws).v=x.o.v/\((gOf v.g.ws).n=0\/(gOf v.g.ws).en=true)
 few: (logR y.g.ws).length<=16
theorem tk_first (h:U<4) (u:Int) (hu:u=50\/u=100):TkI (U+1) u (facN (U+1) u):=by
 have e:=zyi h u hu;refine⟨rfl,rfl,by rw [e];rfl, ?_⟩;rw [e]
 show RK gw0
 intro r hr;rw [gw0_rk] at hr;cases hr
theorem tk_step {x:Hp} (hC:facC U u=true) (hI:TkI U u v) (ho:x.k=1->x.o∈facO U u) (h: (doS' v x).2=0):TkI U u (doS' v x).1/\TkS u v x (doS' v x).1:=by
 have g:=zun h;generalize (doS' v x).1=y at *;have hrk:=g.lg.rk hI.rk;have hl:=(zdm (zrp g.ok).1).2.1;have hfew:=hrk.few hl
 rcases g.or' with ⟨n1,n2⟩| ⟨k1,b,n2,n3⟩
 { exact⟨⟨by rw [g.ss];exact hI.ss,by rw [g.sg];exact hI.sg,by rw [n2];exact hI.rt,hrk⟩,⟨g.ok0,g.ok,by omega,by rw [n2];omega,fun e=>by omega,by omega⟩⟩ }
 {
 obtain ⟨o1,o2,o3⟩:=fac_off hC (ho k1);obtain ⟨t1,t2,t3,t4⟩:=zsh b.tk;obtain ⟨r1,r2,-⟩:=zty t4;rw [o1] at n2 t3;have hr:lastR v.g.t.r []=rtF:=hI.rt;rw [hr] at n2 t3;refine⟨⟨by rw [g.ss];exact hI.ss,by rw [g.sg];exact hI.sg,by rw [n2],hrk⟩,⟨g.ok0,g.ok,by rw [n3];exact⟨by show(gOf v.g.ws).n<=(gOf v.g.ws).n+1;omega,Int.le_refl _⟩,by rw [n2];show v.g.t.ver<=x.o.v;omega,fun _=>⟨k1,fun e=> ?_,by omega,by rw [n3],b.fr⟩,by omega⟩⟩;rw [hI.ss,hI.sg,o3 e] at t3;cases t3 }
section
variable {w W0 w3:World} {B:Nat} {sv:Value} {L:List Hp} {v:Vh} {m:VA} {wq:World}
theorem zve {b:Nat} (h:W.heap[b]?=some (vhO v m)): (rdB 35 (.pointer (some ⟨b,2,none⟩))).run Tryz.prog W=.ok (.agg (gaC v.g m.g)) W:=
 rdG_mid W b 2 v.g m.g fun j u hu=>by
  match j,hu with
  |0,e=>cases e;exact zaa h 2 _ rfl
  |1,e=>cases e;exact zaa h 3 _ rfl
  |2,e=>cases e;exact zaa h 4 _ rfl
  |3,e=>cases e;exact zaa h 5 _ rfl
  |4,e=>cases e;exact zaa h 6 _ rfl
  |5,e=>cases e;exact zaa h 7 _ rfl
  |6,e=>cases e;exact zaa h 8 _ rfl
  |7,e=>cases e;exact zaa h 9 _ rfl
  |8,e=>cases e;exact zaa h 10 _ rfl
  |j+9,hu=>exact absurd (kY.1 hu).1 (by show¬j+9<9;omega)
end
theorem off_in {os:List Of} (hl:os.length=3): ∀x∈offL os l,x.k=1->x.o∈os:=by
 intro x hx hk;unfold offL at hx;obtain ⟨y,-,rfl⟩:=kL.1 hx;unfold offX at hk|-
 split
 {
 have h3: (y.j % 3).toNat<os.length:=by rw [hl];omega
 show os.getD _ _∈os
 rw [ka,kX h3];exact KH h3 }
 {
 rename_i h;rw [KJ h] at hk;exact absurd hk h }
def facH (U:Nat) (u:Int):Bool:=decide (vhE (facN U u)=0)&&(decide ((facN U u).us.length=U)&&((List.range U).all fun k=>decide ((stOf ((facN U u).us.getD k un9).ws).by' =0)&&(decide ((stOf ((facN U u).us.getD k un9).ws).rdy=0)&&(decide ((runsS (btd ((facN U u).us.getD k un9))).1= (outF U u 4).fst.getD k [])&&(decide ((runsS (btd ((facN U u).us.getD k un9))).2.2=0)&&
 (decide ((runsS ((facN U u).us.getD k un9)).1= (outF U u 4).fst.getD k [])&&decide ((runsS ((facN U u).us.getD k un9)).2.2=0)))))))
theorem zwy: ∀U,U<4->facH (U+1) 50=true/\facH (U+1) 100=true:=by decide+kernel
theorem gw0_of:gOf gw0=gs0:=(zrr _).none (by decide+kernel)
theorem zwx (h:facH U u=true) {k:Nat} {x:Un} (hx: (facN U u).us[k]?=some x): (stOf x.ws).by' =0/\(stOf x.ws).rdy=0/\(runsS (btd x)).1= (outF U u 4).fst.getD k []/\(runsS (btd x)).2.2=0/\(runsS x).1= (outF U u 4).fst.getD k []/\(runsS x).2.2=0:=by
 unfold facH at h;simp only [kr,KF,kH,List.mem_range] at h;have hk:k<U:=by have:=(kY.1 hx).1;omega
 have:=h.2.2 k hk;rw [ka,hx] at this;exact this
theorem zzd (h:U<4) (hu:u=50\/u=100):HI (outF (U+1) u 4).fst (fun _=>False) (facN (U+1) u):=by
 have hH:facH (U+1) u=true:=by rcases hu with rfl|rfl;exact(zwy U h).1;exact(zwy U h).2
 have hl: (outF (U+1) u 4).fst.length=U+1:=by rcases hu with rfl|rfl;exact(zry U h).2.2.1.1;exact(zry U h).2.2.1.2
 have hs:gOf (facN (U+1) u).g.ws=gs0:=by rw [zyi h u hu];exact gw0_of
 have h0:=hH;unfold facH at h0;simp only [kr,KF] at h0;refine⟨vg_of h0.1,h0.2.1.trans hl.symm,by rw [hs];rfl,fun c hc=>(by cases hc),fun e=> ?_,fun m hm=>(by cases hm),fun k x hx=> ?_⟩
 { rw [hs] at e;cases e }
 {
 obtain ⟨a,b,c,d,-⟩:=zwx hH hx;refine⟨by omega,⟨(runsS (btd x)).2.1,(runsS (btd x)).1, ?_,.inl ⟨a,c⟩⟩,.inl b⟩;rw [<-d] }
theorem zye (h:VIn W K m v) {k:Nat} {u:Un} (hk:v.us[k]?=some u): ∃b off xa xn xc,m.au=some ⟨b,off,none⟩/\BW W xa xn xc u.ws/\(rdB 82 (.pointer (some ⟨b,off+k * 5,none⟩))).run Tryz.prog W=.ok (.agg (unC u xa xn xc)) W:=by
 obtain ⟨vs,r1,r2,-⟩:=h.us.row;obtain ⟨b,off,xa,xn,xc,eb,hbw,-,c0,c1,c2,c3,c4⟩:=zdz r1 r2 hk;refine⟨b,off,xa,xn,xc,eb,hbw,zyz W b (off+k * 5) u xa xn xc fun j v hv=> ?_⟩
 match j,hv with
 |0,e=>cases e;exact c0
 |1,e=>cases e;exact c1
 |2,e=>cases e;exact c2
 |3,e=>cases e;exact c3
 |4,e=>cases e;exact c4
 |j+5,hv=>exact absurd (kY.1 hv).1 (by show¬j+5<5;omega)
theorem zzb (u:Un): (runsS u).1.length<=u.ws.length:=by
 unfold runsS
 split
 { simp }
 {
 exact zyg _ _ _ }
end Go.Proofs.YthmekfcgdfckaaaGreatDoor
