/- The contract of the statements' factory. The contract of vehicle.Run: its loop. -/
import Derived.Test.YthmekfcgdfckaaaGreatDoorWt37
import Derived.Deep.DeepCutAuto
import Derived.Test.YthmekfcgdfckaaaGreatDoorWt35
import Derived.Deep.MidRow
set_option maxRecDepth 1000000
set_option maxHeartbeats 0
namespace Go.Proofs.YthmekfcgdfckaaaGreatDoor
section
open Go.RowKit
attribute [local go_sem ↓] Go.wp_at_zero Go.wp_at_succ zhy zhp zhu exV_bd
attribute [local go_sem] zgl zgn zgi bdV_run rdF_V wrF_V zgj zli World.setRow_alloc_new
def zh8 (w:World) (units:Nat) (u:Int) (e:Ending) (w' :World):Prop:=
  (∃m oa n c,e=.returned (.tuple #[vhv (nwV (outF units u 4).ss (outF units u 4).sg rtF (outF units u 4).fst) m,.slice oa n c,.bool true])∧VIn w' (fun b=>b<w.heap.size∧Sm w b) m (nwV (outF units u 4).ss (outF units u 4).sg rtF (outF units u 4).fst)∧RIn OR w' (fun b=>b<w.heap.size) oa n c (facO units u))∧Below w.heap.size w w'
theorem zhv: ∀(l seen:List ByteArray),zcc seen l=0→∀s∈l,s.size≤2000
  | [],_,_,s,h=>by cases h
  |x::r,seen,h,s,hs=>by
    unfold zcc at h
    split at h
    { cases h }
    {
    split at h
    {
    rcases List.mem_cons.1 hs with e|e
    { rw [e];omega }
    { exact zhv r _ h s e }
    }
    { cases h }
    }
theorem zpj {ss:List ByteArray} (h:bookE ss=0): ∀s∈ss,s.size≤maxLen:=by
  unfold bookE at h
  split at h
  { cases h }
  {
  intro s hs;have:=zhv _ _ h s hs;unfold maxLen;omega
  }
structure FacOk (units:Nat) (u:Int):Prop where
  n1:1≤units
  n4:units≤4
  rel: ∀v:Nat,v<4→v≠0→relE v u (inF (outF units u v).ss v units).ts=0
  bk:bookE (outF units u 4).ss=0
  sg:sigE (outF units u 4).sg=0
  gt: (gNew rtF (outF units u 4).fst.length).2=0
  un: ∀im∈(outF units u 4).fst,UnOk (outF units u 4).ss im
  fl: (outF units u 4).fst.length=units
theorem zpb (units:Nat) (u:Int) (w:World) (hT:Tab w) (hk:FacOk units u):
    Calls Tryz.prog 23 #[.int .i64 units,.int .i64 u] w (zh8 w units u):=by
  have HK:=hide hk;have HT:=hide hT;have hu4: (units:Int)≤4:=by have:=hk.n4;omega
  clear hk hT;go_enter Tryz.func23,Tryz.ntmps23;go_wp2_with fail;have hW:Below w.heap.size w ((((w.alloc (.cells (vhC vh0 va0) 40)).alloc (.cells #[.int .i64 3,.int .i64 4,.int .i64 5] 3)).alloc (.cells #[.int .i64 1,.slice (some ⟨w.heap.size+1,0,none⟩) 3 3,.int .i64 2] 30)).alloc (.cells #[.slice none 0 0] 24)):=((bA2).alloc (by simp;omega) _).alloc (by simp;omega) _;have HR:Hid (∀W',Below (w.heap.size+1+1+1) ((((w.alloc (.cells (vhC vh0 va0) 40)).alloc (.cells #[.int .i64 3,.int .i64 4,.int .i64 5] 3)).alloc (.cells #[.int .i64 1,.slice (some ⟨w.heap.size+1,0,none⟩) 3 3,.int .i64 2] 30)).alloc (.cells #[.slice none 0 0] 24)) W' →W'.heap[w.heap.size]?=some (vhO vh0 va0)∧W'.heap[w.heap.size+1]?=some (.cells #[.int .i64 3,.int .i64 4,.int .i64 5] 3 (0,0))∧W'.heap[w.heap.size+1+1]?=some (.cells #[.int .i64 1,.slice (some ⟨w.heap.size+1,0,none⟩) 3 3,.int .i64 2] 30 (0,0))):=fun W' hb=>⟨(hb.block _ (by omega)).trans (zai (zai (zai (heap_alloc_last w _) _) _) _),(hb.block _ (by omega)).trans (zai (zai (zau w _ _) _) _),(hb.block _ (by omega)).trans (zai (zb9 w _ _ _) _)⟩
  have I0:Hid (FO ((((w.alloc (.cells (vhC vh0 va0) 40)).alloc (.cells #[.int .i64 3,.int .i64 4,.int .i64 5] 3)).alloc (.cells #[.int .i64 1,.slice (some ⟨w.heap.size+1,0,none⟩) 3 3,.int .i64 2] 30)).alloc (.cells #[.slice none 0 0] 24)) (w.heap.size+1+1+1) (KO (w.heap.size+1+1+1) (.slice none 0 0) (.slice none 0 0) (.slice none 0 0) (.slice none 0 0)) (.slice none 0 0) (.slice none 0 0) (.slice none 0 0) (.slice none 0 0) (outF units u 0) ((((w.alloc (.cells (vhC vh0 va0) 40)).alloc (.cells #[.int .i64 3,.int .i64 4,.int .i64 5] 3)).alloc (.cells #[.int .i64 1,.slice (some ⟨w.heap.size+1,0,none⟩) 3 3,.int .i64 2] 30)).alloc (.cells #[.slice none 0 0] 24))):=
    ⟨by simp,Below.refl _ _,⟨by have:=heap_alloc_last (((w.alloc (.cells (vhC vh0 va0) 40)).alloc (.cells #[.int .i64 3,.int .i64 4,.int .i64 5] 3)).alloc (.cells #[.int .i64 1,.slice (some ⟨w.heap.size+1,0,none⟩) 3 3,.int .i64 2] 30)) (.cells #[.slice none 0 0] 24);simpa using this,World.ownsRow_nil _ _ _ _⟩,World.ownsRow_nil _ _ _ _,⟨[],World.ownsRow_nil _ _ _ _,rfl⟩,⟨[],World.ownsRow_nil _ _ _ _,rfl⟩,fun _ e=>e⟩
  generalize ((((w.alloc (.cells (vhC vh0 va0) 40)).alloc (.cells #[.int .i64 3,.int .i64 4,.int .i64 5] 3)).alloc (.cells #[.int .i64 1,.slice (some ⟨w.heap.size+1,0,none⟩) 3 3,.int .i64 2] 30)).alloc (.cells #[.slice none 0 0] 24))=W at *
  go_loopw [9,12,13,29] (fun l f o i wq=>∃(v:Nat) (tx:Value),v≤4∧i=.int .i64 v∧Hid (FO W (w.heap.size+1+1+1) (KO (w.heap.size+1+1+1) tx l f o) tx l f o (outF units u v) wq)) (fun _ _ _ i _=>4 - (intOf i).toNat)
  case atStart=>exact⟨0,.slice none 0 0,by omega,rfl,I0⟩
  case round=>
    clear I0;obtain ⟨wq,rfl⟩: ∃wq:World,wq=wr:=⟨_,rfl⟩;obtain ⟨v,tx,hv,rfl,hI⟩:=hrel;obtain ⟨l,rfl⟩: ∃l,l=u9:=⟨_,rfl⟩;obtain ⟨o,rfl⟩: ∃o,o=u13:=⟨_,rfl⟩
    by_cases hv4:v<4
    {
    have hvI: (v:Int)<4:=by omega
    obtain ⟨vm,hvm⟩: ∃vm:Int,max (v:Int) 1=vm:=⟨_,rfl⟩;have J0:=hide (FO.start (v:=vm) (u:=u) hI.out);have HV:Hid (v<4):=hv4;have HVM:Hid (v≠0→vm=v):=fun h=>by omega
    clear hv hv4;unfold obC at J0;go_wp2_with fail;generalize ((wq.alloc (.cells #[.int .i64 3,.int .i64 5] 3)).alloc (.cells #[.slice none 0 0,.slice none 0 0,.int .i64 vm,.int .i64 u,.slice none 0 0,.slice (some ⟨wq.heap.size,0,none⟩) 2 2,.slice none 0 0] 47))=W2 at *;clear hvm;obtain ⟨Bo,hBo⟩: ∃Bo,wq.heap.size+1=Bo:=⟨_,rfl⟩;rw [hBo] at J0;simp only [hBo];have HBo:Hid (wq.heap.size<Bo):=by show _<_;omega
    have HQ:Hid (Below (w.heap.size+1+1+1) W wq):=hI.out.bel;have HSz:=hide (zjf units u v);clear hBo hI
    go_loopw [12,39] (fun f k w' =>∃(j:Nat) (tx ts im:Value),j≤units∧k=.int .i64 j∧Hid (FI W (w.heap.size+1+1+1) ⟨tx,l,f,o,ts,im,Bo⟩ (spI (outF units u v) v j) (inF (outF units u v).ss v j) vm u w')) (fun _ k _=>units - (intOf k).toNat)
    case atStart=>exact⟨0,tx,.slice none 0 0,.slice none 0 0,by omega,rfl,by
      have e:spI (outF units u v) v 0=outF units u v:=by
        unfold spI
        show Fo.mk (outF units u v).ss _ (if v=0 then [] else _) _=_
        by_cases h:v=0
        { subst h;rfl }
        { rw [if_neg h] }
      rw [e];exact J0⟩
    case round=>
      clear J0;obtain ⟨wi,rfl⟩: ∃wi:World,wi=wr:=⟨_,rfl⟩;obtain ⟨j,tx,ts,im,hj,rfl,hI⟩:=hrel;obtain ⟨f,rfl⟩: ∃f,f=u12:=⟨_,rfl⟩
      by_cases hju:j<units
      {
      have hjI: (j:Int)< (units:Int):=by omega
      have hj4:j<4:=by have:=HK.out.n4;omega
      have HJ:Hid (j<units):=hju;have HC:=hide (zn5 v j HV.out hj4 wi);have HO:=hide (imgF_ok v j HV.out hj4);have HLn:=hide (imgF_len v j);have HNx:Hid (inF (outF units u v).ss v (j+1)= ⟨adF (inF (outF units u v).ss v j).ss (bs (imgT (imgF v j))),(inF (outF units u v).ss v j).ts++ [((j:Int),(nmF (inF (outF units u v).ss v j).ss (bs (imgT (imgF v j))):Int),((3+9 * j+v:Nat):Int))],(inF (outF units u v).ss v j).ims++ [imgF v j]⟩):=rfl;have HNs:Hid (spI (outF units u v) v (j+1)= ⟨adF (inF (outF units u v).ss v j).ss (bs (imgT (imgF v j))),(outF units u v).sg,if v=0 then(inF (outF units u v).ss v j).ims++ [imgF v j] else(outF units u v).fst,(outF units u v).offs⟩):=rfl;have HLs:=hide (zid (outF units u v).ss v j);have HL5:Hid ((inF (outF units u v).ss v j).ss.length≤1000):=by
        have h1:=zjz (outF units u v).ss v j;have h2:=HSz.out.1;have h3:v *(units+1)≤4 * 5:=Nat.mul_le_mul (by have:=HV.out;omega) (by have:=HK.out.n4;omega)
        show _≤1000
        omega
      have HFl:Hid ((if v=0 then(inF (outF units u v).ss v j).ims else(outF units u v).fst).length≤1000):=by
        have h2:=HSz.out.2.2.2;have h4:=HK.out.n4;have h5:=HLs.out.2
        show _≤1000
        split<;>omega
      change Hid (FI W (w.heap.size+1+1+1) ⟨tx,l,f,o,ts,im,Bo⟩ ⟨(inF (outF units u v).ss v j).ss,(outF units u v).sg,if v=0 then(inF (outF units u v).ss v j).ims else(outF units u v).fst,(outF units u v).offs⟩ (inF (outF units u v).ss v j) vm u wi) at hI
      have hL40:3+9 * j+v≤40:=by have:=HV.out;omega
      clear hj hju hj4;have HT2:Hid (∀W',Below wi.heap.size wi W' →Tab W'):=fun W' hW' =>HT.out.below (hW.trans (((hI.out.out.bel).mono (by have:=hI.out.out.hB;omega)).trans (hW'.mono (Nat.le_trans hW.size hI.out.base))))
      generalize inF (outF units u v).ss v j=I at *;generalize hF0: (if v=0 then I.ims else(outF units u v).fst)=F0 at *;have HF0:=hide hF0;clear hF0;generalize imgF v j=X at *;generalize 3+9 * j+v=L at *;obtain ⟨vf,hvf,-⟩:=hI.out.out.fr;obtain ⟨af,cf,rfl⟩:=zbk hvf;obtain ⟨at3,ct3,rfl⟩:=zbk hI.out.tr;obtain ⟨vi,hvi,-⟩:=hI.out.ir;obtain ⟨ai,ci,rfl⟩:=zbk hvi;clear hvf hvi;go_wp2_with fail;refine(zae HC).mono ?_;rintro e w1 ⟨g,rfl,hg,ho,hb1⟩;clear HC;have HX1:=hide (zat.isInts ho);have HI1:=hide (hI.out.below hb1);have hlt:=hI.out.lt;have hg1:g<w1.heap.size:=zak ho;clear ho;have HC:=hide (zg9 (some ⟨g,0,none⟩) L L X w1 HX1.out HLn.out (by unfold maxLen;omega) (HT2.out w1 hb1));have hTx:imgTx X=imgT X:=by unfold imgTx;rw [if_pos HO.out]
      rw [hTx,HO.out] at HC;clear hTx;go_wp2_with fail;refine(zae HC).mono ?_;rintro e w2 ⟨rfl,hb2⟩;clear HC;have hI2:=HI1.out.below hb2;have HC:=hide (zix W.heap.size (w.heap.size+1+1+1) tx I.ss (bs (imgT X)) w2 hI2.out.bk HL5.out hI2.base);have HX2:=hide (HX1.out.below hb2);have HI2:=hide hI2;clear HX1 HI1 hI2;go_wp2_with fail;refine(zae HC).mono ?_;rintro e w3 ⟨rfl,tx3,hk3,hc3,hn3⟩;clear HC;have hKn: ∀b,KI (w.heap.size+1+1+1) ⟨tx3,l,.slice af F0.length cf,o,.slice at3 I.ts.length ct3,.slice ai I.ims.length ci,Bo⟩ b→KI (w.heap.size+1+1+1) ⟨tx,l,.slice af F0.length cf,o,.slice at3 I.ts.length ct3,.slice ai I.ims.length ci,Bo⟩ b∨w2.heap.size≤b:=fun b e=>by
        rcases e with (e|e|e)|e
        { exact .inl (.inl (.inl e)) }
        { exact(Nw.or hn3 e).imp (fun e=>.inl (.inr (.inl e))) id }
        { exact .inl (.inl (.inr (.inr e))) }
        { exact .inl (.inr e) }
      have hgK: ¬KI (w.heap.size+1+1+1) ⟨tx3,l,.slice af F0.length cf,o,.slice at3 I.ts.length ct3,.slice ai I.ims.length ci,Bo⟩ g:=fun e=>by
        have:=hb2.size
        rcases hKn g e with e|e
        { have:=hlt g e;omega }
        { omega }
      have HX3:=hide (HX2.out.chg hc3 (.at_ fun e=>by have:=hlt g (.inl (e.imp Nat.le_of_eq .inl));omega));have HI3:=hide (HI2.out.name hk3 hc3 hn3);have hg3:g<w3.heap.size:=Nat.lt_of_lt_of_le hg1 (Nat.le_trans hb2.size hc3.size);have HG3:Hid (¬KI (w.heap.size+1+1+1) ⟨tx3,l,.slice af F0.length cf,o,.slice at3 I.ts.length ct3,.slice ai I.ims.length ci,Bo⟩ g∧g<w3.heap.size):=⟨hgK,hg3⟩;clear hKn hgK hg3 hk3 hc3 hn3 HX2 HI2 hb2 hb1 hg1 hlt hI hg;dsimp only at HI3;generalize adF I.ss (bs (imgT X))=ss3 at *;generalize nmF I.ss (bs (imgT X))=nm at *
      go_upto_if 58 with fail
      obtain ⟨Fn,hFn⟩: ∃Fn:List (List Int),Fn=if v=0 then F0++ [X] else F0:=⟨_,rfl⟩;have HFn:=hide hFn;clear hFn;obtain ⟨iL,hiL,lz0,lz1,lz2⟩:=info_parts infoLs
      go_cut [12] (fun f4 wc=>∃f5,f5=f4∧Hid (FI W (w.heap.size+1+1+1) ⟨tx3,l,f5,o,.slice at3 I.ts.length ct3,.slice ai I.ims.length ci,Bo⟩ ⟨ss3,(outF units u v).sg,Fn,(outF units u v).offs⟩ ⟨ss3,I.ts,I.ims⟩ vm u wc)∧Hid (zag wc (some ⟨g,0,none⟩) X∧¬KI (w.heap.size+1+1+1) ⟨tx3,l,f5,o,.slice at3 I.ts.length ct3,.slice ai I.ims.length ci,Bo⟩ g∧g<wc.heap.size))
      case first=>
        by_cases hv0:v=0
        {
        have d: ((v:Int)==0)=true:=by simp;omega
        have hsz:=HI3.out.base;obtain ⟨vf,hvf,-⟩:=HI3.out.out.fr;obtain ⟨g4,c4,w4,hr4,ho4,hc4,hn4⟩:=zed (P:=Tryz.prog) w3 42 26 W.heap.size iL _ 1 24 Tryz.underlying42 hiL lz0 lz1 lz2 rfl (by omega) (by omega) _ F0.length vf hvf #[.slice (some ⟨g,0,none⟩) L L] rfl (by simp [Value.oneCell']) HFl.out hsz;have HR4:=hide hr4;have hlt3:=HI3.out.lt;have HI4:Hid (FI W (w.heap.size+1+1+1) ⟨tx3,l,.slice (some ⟨g4,0,none⟩) (F0.length+1) c4,o,.slice at3 I.ts.length ct3,.slice ai I.ims.length ci,Bo⟩ ⟨ss3,(outF units u v).sg,Fn,(outF units u v).offs⟩ ⟨ss3,I.ts,I.ims⟩ vm u w4):=by
          show FI _ _ _ _ _ _ _ _
          rw [HFn.out,if_pos hv0];refine HI3.out.first (HI3.out.out.fr.snoc (fun b e=>.inl (.inr (.inr (.inr (.inl e))))) HX3.out (by rw [HLn.out];unfold maxLen;omega) (.at_ fun e=> ?_) (fun vs hvs=> ?_) hc4) hc4 hn4
          {
          rcases e with e|e
          { exact HG3.out.1 e }
          { have:=HG3.out.2;omega }
          }
          {
          obtain rfl:=zfg hvs hvf;rw [HLn.out];exact ho4
          }
        have HX4:Hid (zag w4 (some ⟨g,0,none⟩) X∧¬KI (w.heap.size+1+1+1) ⟨tx3,l,.slice (some ⟨g4,0,none⟩) (F0.length+1) c4,o,.slice at3 I.ts.length ct3,.slice ai I.ims.length ci,Bo⟩ g∧g<w4.heap.size):=by
          refine⟨HX3.out.chg hc4 (.at_ fun e=>HG3.out.1 (.inl (.inr (.inr (.inr (.inl e)))))),fun e=> ?_,Nat.lt_of_lt_of_le HG3.out.2 hc4.size⟩
          rcases e with (e|e|e|e|e)|e
          { exact HG3.out.1 (.inl (.inl e)) }
          { exact HG3.out.1 (.inl (.inr (.inl e))) }
          { exact HG3.out.1 (.inl (.inr (.inr (.inl e)))) }
          {
          rcases Nw.or hn4 e with e|e
          { exact HG3.out.1 (.inl (.inr (.inr (.inr (.inl e))))) }
          { have:=HG3.out.2;omega }
          }
          { exact HG3.out.1 (.inl (.inr (.inr (.inr (.inr e))))) }
          { exact HG3.out.1 (.inr e) }
        clear hv0 hr4 ho4 hc4 hn4 hvf hlt3 hsz
        go_wp2_with (at_builtin;refine Lib.wpList_append_run _ rfl _ _ 42 42 rfl _ _ rfl rfl _ _ HR4.out ?_)
        go_meet
        case rel=>exact⟨_,rfl,HI4,HX4⟩
        }
        {
        have d: ((v:Int)==0)=false:=by simp;omega
        have HI4:Hid (FI W (w.heap.size+1+1+1) ⟨tx3,l,.slice af F0.length cf,o,.slice at3 I.ts.length ct3,.slice ai I.ims.length ci,Bo⟩ ⟨ss3,(outF units u v).sg,Fn,(outF units u v).offs⟩ ⟨ss3,I.ts,I.ims⟩ vm u w3):=by show FI _ _ _ _ _ _ _ _;rw [HFn.out,if_neg hv0];exact HI3.out
        clear hv0;go_wp2_with fail
        go_meet
        case rel=>exact⟨_,rfl,HI4,⟨HX3.out,HG3.out⟩⟩
        }
      case rest=>
        obtain ⟨f5,rfl,HI4,HX4⟩:=hcut;clear HI3 HX3 HG3;have HFe:Hid (Fn=if v=0 then I.ims++ [X] else(outF units u v).fst):=by
          show _=_
          rw [HFn.out];have:=HF0.out
          by_cases h:v=0
          { rw [if_pos h] at this⊢;rw [if_pos h,this] }
          { rw [if_neg h] at this⊢;rw [if_neg h,this] }
        obtain ⟨iT,hiT,tz0,tz1,tz2⟩:=info_parts infoCpT;obtain ⟨bs0,hbx,-,-⟩:=HI4.out.box;have hj4:I.ts.length≤1000:=by rw [HLs.out.1];have:=HJ.out;have:=HK.out.n4;omega
        have hj5:I.ims.length≤1000:=by rw [HLs.out.2];have:=HJ.out;have:=HK.out.n4;omega
        obtain ⟨g5,c5,w5,hr5,ho5,hc5,hn5⟩:=zed (P:=Tryz.prog) wc 43 163 W.heap.size iT _ 3 24 Tryz.underlying43 hiT tz0 tz1 tz2 rfl (by omega) (by omega) _ I.ts.length (tgs I.ts) HI4.out.tr #[.int .i64 j,.int .i64 nm,.int .i64 L] rfl (by simp [Value.oneCell']) hj4 HI4.out.base;have HR5:=hide hr5;have y4:=zaa hbx 4 (.slice at3 I.ts.length ct3) rfl;have hx5:=(hc5.block Bo (zak hbx) (zb1 HI4.out.tr hbx (by decide))).trans hbx;have y5:=zaa hx5 4 _ rfl;have z5:=zad hx5 4;have HI5:Hid (FI W (w.heap.size+1+1+1) ⟨tx3,l,f5,o,.slice (some ⟨g5,0,none⟩) (I.ts.length+1) c5,.slice ai I.ims.length ci,Bo⟩ ⟨ss3,(outF units u v).sg,Fn,(outF units u v).offs⟩ ⟨ss3,I.ts++ [((j:Int),(nm:Int),(L:Int))],I.ims⟩ vm u (w5.setCell ⟨Bo,4,none⟩ (.slice (some ⟨g5,0,none⟩) (I.ts.length+1) c5))):=
          HI4.out.tgt (its:=I.ts++ [((j:Int),(nm:Int),(L:Int))]) (by simpa [tgs] using ho5) hc5 hn5
        have hcs:Chg (fun b=>(Value.slice at3 I.ts.length ct3).ownBlock=some b∨b=Bo) wc (w5.setCell ⟨Bo,4,none⟩ (.slice (some ⟨g5,0,none⟩) (I.ts.length+1) c5)):=(hc5.mono fun b e=>.inl e).set (p:=⟨Bo,4,none⟩) (.inr rfl) _;have HX5:Hid (zag (w5.setCell ⟨Bo,4,none⟩ (.slice (some ⟨g5,0,none⟩) (I.ts.length+1) c5)) (some ⟨g,0,none⟩) X∧¬KI (w.heap.size+1+1+1) ⟨tx3,l,f5,o,.slice (some ⟨g5,0,none⟩) (I.ts.length+1) c5,.slice ai I.ims.length ci,Bo⟩ g∧g< (w5.setCell ⟨Bo,4,none⟩ (.slice (some ⟨g5,0,none⟩) (I.ts.length+1) c5)).heap.size):=by
          refine⟨HX4.out.1.chg hcs (.at_ fun e=>HX4.out.2.1 ?_),fun e=> ?_,Nat.lt_of_lt_of_le HX4.out.2.2 hcs.size⟩
          {
          rcases e with e|e
          { exact .inr (.inr (.inl e)) }
          { exact .inr (.inl e) }
          }
          {
          rcases e with e|e|e|e
          { exact HX4.out.2.1 (.inl e) }
          { exact HX4.out.2.1 (.inr (.inl e)) }
          {
          rcases Nw.or hn5 e with e|e
          { exact HX4.out.2.1 (.inr (.inr (.inl e))) }
          { have:=HX4.out.2.2;omega }
          }
          { exact HX4.out.2.1 (.inr (.inr (.inr e))) }
          }
        clear hr5 ho5 hc5 hn5 hx5 hcs hbx HI4 HX4 hj4 hiT tz0 tz1 tz2;go_upto_region 23 with (at_builtin;refine Lib.wpList_append_run _ rfl _ _ 43 43 rfl _ _ rfl rfl _ _ HR5.out ?_)
        clear y4 y5 z5 HR5;generalize w5.setCell ⟨Bo,4,none⟩ (.slice (some ⟨g5,0,none⟩) (I.ts.length+1) c5)=W6 at *;obtain ⟨bs6,hbx,-,-⟩:=HI5.out.box;obtain ⟨vi,hvi,-⟩:=HI5.out.ir;obtain ⟨g6,c6,w6,hr6,ho6,hc6,hn6⟩:=zed (P:=Tryz.prog) W6 42 26 W.heap.size iL _ 1 24 Tryz.underlying42 hiL lz0 lz1 lz2 rfl (by omega) (by omega) _ I.ims.length vi hvi #[.slice (some ⟨g,0,none⟩) L L] rfl (by simp [Value.oneCell']) hj5 HI5.out.base;have HR6:=hide hr6;have y4:=zaa hbx 6 (.slice ai I.ims.length ci) rfl;have hx6:=(hc6.block Bo (zak hbx) (zb1 hvi hbx (by decide))).trans hbx;have y5:=zaa hx6 6 _ rfl;have z5:=zad hx6 6;have HI6:Hid (FI W (w.heap.size+1+1+1) ⟨tx3,l,f5,o,.slice (some ⟨g5,0,none⟩) (I.ts.length+1) c5,.slice (some ⟨g6,0,none⟩) (I.ims.length+1) c6,Bo⟩ (spI (outF units u v) v (j+1)) (inF (outF units u v).ss v (j+1)) vm u (w6.setCell ⟨Bo,6,none⟩ (.slice (some ⟨g6,0,none⟩) (I.ims.length+1) c6))):=by
          show FI _ _ _ _ _ _ _ _
          rw [HNs.out,HNx.out,←HFe.out];refine HI5.out.img (HI5.out.ir.snoc (fun b e=>.inr (.inr (.inr e))) HX5.out.1 (by rw [HLn.out];unfold maxLen;omega) (.at_ fun e=> ?_) (fun vs hvs=> ?_) hc6) hc6 hn6
          {
          rcases e with e|e
          { exact HX5.out.2.1 e }
          { have:=HX5.out.2.2;omega }
          }
          {
          obtain rfl:=zfg hvs hvi;rw [HLn.out];exact ho6
          }
        clear hr6 ho6 hc6 hn6 hx6 hbx HI5 HX5 hj5 hiL lz0 lz1 lz2 hvi HT2 HNx HNs HFe HFn HF0 HFl
        go_wp2_with (at_builtin;refine Lib.wpList_append_run _ rfl _ _ 42 42 rfl _ _ rfl rfl _ _ HR6.out ?_)
        go_roundw
        case rel=>exact⟨j+1,_,_,_,HJ.out,by go_num,HI6⟩
        case measure=>have:=HJ.out;simp [intOf];omega
      }
      {
      have hju2:j=units:=by omega
      subst hju2;clear hj hju
      by_cases hv0:v=0
      {
      have d: ((v:Int)==0)=true:=by simp;omega
      have HI8:Hid (FO W (w.heap.size+1+1+1) (KO (w.heap.size+1+1+1) tx l f o) tx l f o (outF j u (v+1)) wi):=by
        have:=hI.out.drop;subst hv0;exact this
      clear hI hv0;go_wp2_with fail
      go_roundw
      case rel=>exact⟨v+1,tx,HV.out,by go_num,HI8⟩
      case measure=>have:=HV.out;simp [intOf];omega
      }
      {
      have d: ((v:Int)==0)=false:=by simp;omega
      have HRl:=hide (HK.out.rel v HV.out hv0);have HLs:=hide (zid (outF j u v).ss v j);have HL5:Hid ((inF (outF j u v).ss v j).ss.length≤1000):=by
        have h1:=zjz (outF j u v).ss v j;have h2:=HSz.out.1;have h3:v *(j+1)≤4 * 5:=Nat.mul_le_mul (by have:=HV.out;omega) (by have:=HK.out.n4;omega);have:=HK.out.n4
        show _≤1000
        omega
      have HNo:Hid (outF j u (v+1)=outQ v u (outF j u v) (inF (outF j u v).ss v j) (bs (relT v u (inF (outF j u v).ss v j).ts))):=by show outP u v _ _=_;unfold outP;rw [if_neg hv0]
      have hvm:=HVM.out hv0;subst hvm;have hI9:FI W (w.heap.size+1+1+1) ⟨tx,l,f,o,ts,im,Bo⟩ ⟨(inF (outF j u v).ss v j).ss,(outF j u v).sg,(outF j u v).fst,(outF j u v).offs⟩ (inF (outF j u v).ss v j) v u wi:=by
        have:=hI.out;unfold spI at this;rw [if_neg hv0] at this;exact this
      replace hI:=hide hI9;clear hI9;have HT2:Hid (∀W',Below wi.heap.size wi W' →Tab W'):=fun W' hW' =>HT.out.below (hW.trans (((hI.out.out.bel).mono (by have:=hI.out.out.hB;omega)).trans (hW'.mono (Nat.le_trans hW.size hI.out.base))))
      generalize inF (outF j u v).ss v j=I at *;obtain ⟨vo,hvo,-⟩:=hI.out.out.or;obtain ⟨ao,co,rfl⟩:=zbk hvo;obtain ⟨al,cl,rfl⟩:=zbk hI.out.out.lr;obtain ⟨at3,ct3,e3⟩:=zbk hI.out.tr;obtain ⟨vi,hvi,-⟩:=hI.out.ir;obtain ⟨ai,ci,e5⟩:=zbk hvi;dsimp only at e3 e5;subst e3 e5;obtain ⟨bs0,hbx,-,-⟩:=hI.out.box;obtain ⟨y2,y3,y4⟩:wi.cell? ⟨Bo,2,none⟩=some (.int .i64 v)∧wi.cell? ⟨Bo,3,none⟩=some (.int .i64 u)∧wi.cell? ⟨Bo,4,none⟩=some (.slice at3 I.ts.length ct3):=⟨zaa hbx 2 _ rfl,zaa hbx 3 _ rfl,zaa hbx 4 _ rfl⟩;have HC:=hide (zfx v u at3 I.ts.length ct3 I.ts wi (tgs_of (zdd hI.out.tr)) rfl (by rw [HLs.out.1];unfold maxLen;have:=HK.out.n4;omega) (HT2.out wi (Below.refl _ _)));have hTx:relTx v u I.ts=relT v u I.ts:=by unfold relTx;rw [if_pos HRl.out]
      rw [hTx,HRl.out] at HC;unfold relv at HC;clear hTx hvo hvi hbx hv0;go_wp2_with fail;refine(zae HC).mono ?_;rintro e w2 ⟨rfl,hb2⟩;clear HC y2 y3 y4;have hI2:=hI.out.below hb2;have HC:=hide (zix W.heap.size (w.heap.size+1+1+1) tx I.ss (bs (relT v u I.ts)) w2 hI2.out.bk HL5.out hI2.base);have HI2:=hide hI2;clear hI2 hb2 hI;go_wp2_with fail;refine(zae HC).mono ?_;rintro e w3 ⟨rfl,tx3,hk3,hc3,hn3⟩;have HI3:=hide (HI2.out.name hk3 hc3 hn3);clear HC hk3 hc3 hn3 HI2;dsimp only at HI3;have HNq:Hid (outF j u (v+1)= ⟨adF I.ss (bs (relT v u I.ts)),(if v=3 then(outF j u v).sg else(outF j u v).sg++ [(3,(nmF I.ss (bs (relT v u I.ts)):Int))])++ [(5,(nmF I.ss (bs (relT v u I.ts)):Int))],(outF j u v).fst,(outF j u v).offs++ [⟨[], [],v,u,I.ts, [3,5],I.ims⟩]⟩):=HNo.out;clear HNo HL5;generalize adF I.ss (bs (relT v u I.ts))=ss3 at *;generalize nmF I.ss (bs (relT v u I.ts))=nm at *;obtain ⟨iG,hiG,gz0,gz1,gz2⟩:=info_parts infoCpG;obtain ⟨sgN,hsgN⟩: ∃sgN:List S2,sgN=if v=3 then(outF j u v).sg else(outF j u v).sg++ [(3,(nm:Int))]:=⟨_,rfl⟩;rw [←hsgN] at HNq;have HsN:=hide hsgN;clear hsgN;have hsl: (outF j u v).sg.length≤1000:=by have:=HSz.out.2.1;have:=HV.out;omega
      go_upto_if 97 with fail
      go_cut [9] (fun l4 wc=>∃l5,l5=l4∧Hid (FI W (w.heap.size+1+1+1) ⟨tx3,l5,f,.slice ao (outF j u v).offs.length co,.slice at3 I.ts.length ct3,.slice ai I.ims.length ci,Bo⟩ ⟨ss3,sgN,(outF j u v).fst,(outF j u v).offs⟩ ⟨ss3,I.ts,I.ims⟩ v u wc))
      case first=>
        by_cases hv3:v=3
        {
        have d3: ((v:Int) !=3)=false:=by simp;omega
        have HI4:Hid (FI W (w.heap.size+1+1+1) ⟨tx3,.slice al (outF j u v).sg.length cl,f,.slice ao (outF j u v).offs.length co,.slice at3 I.ts.length ct3,.slice ai I.ims.length ci,Bo⟩ ⟨ss3,sgN,(outF j u v).fst,(outF j u v).offs⟩ ⟨ss3,I.ts,I.ims⟩ v u w3):=by show FI _ _ _ _ _ _ _ _;rw [HsN.out,if_pos hv3];exact HI3.out
        clear hv3;go_wp2_with fail
        go_meet
        case rel=>exact⟨_,rfl,HI4⟩
        }
        {
        have d3: ((v:Int) !=3)=true:=by simp;omega
        obtain ⟨g4,c4,w4,hr4,ho4,hc4,hn4⟩:=zed (P:=Tryz.prog) w3 25 111 W.heap.size iG _ 2 16 Tryz.underlying25 hiG gz0 gz1 gz2 rfl (by omega) (by omega) _ _ _ HI3.out.out.lr #[.int .i64 3,.int .i64 nm] rfl (by simp [Value.oneCell']) hsl HI3.out.base;have HR4:=hide hr4;have HI4:Hid (FI W (w.heap.size+1+1+1) ⟨tx3,.slice (some ⟨g4,0,none⟩) ((outF j u v).sg.length+1) c4,f,.slice ao (outF j u v).offs.length co,.slice at3 I.ts.length ct3,.slice ai I.ims.length ci,Bo⟩ ⟨ss3,sgN,(outF j u v).fst,(outF j u v).offs⟩ ⟨ss3,I.ts,I.ims⟩ v u w4):=by
          show FI _ _ _ _ _ _ _ _
          rw [HsN.out,if_neg hv3];exact HI3.out.sign (by simpa [sgs] using ho4) hc4 hn4
        clear hv3 hr4 ho4 hc4 hn4
        go_wp2_with (at_builtin;refine Lib.wpList_append_run _ rfl _ _ 25 25 rfl _ _ rfl rfl _ _ HR4.out ?_)
        go_meet
        case rel=>exact⟨_,rfl,HI4⟩
        }
      case rest=>
        obtain ⟨l5,rfl,HI4⟩:=hcut;clear HI3;obtain ⟨a5,c5,rfl⟩:=zbk HI4.out.out.lr;have hsl5:sgN.length≤1000:=by
          rw [HsN.out];have:=HSz.out.2.1;have:=HV.out
          split
          { omega }
          { simp;omega }
        obtain ⟨g5,c6,w5,hr5,ho5,hc5,hn5⟩:=zed (P:=Tryz.prog) wc 25 111 W.heap.size iG _ 2 16 Tryz.underlying25 hiG gz0 gz1 gz2 rfl (by omega) (by omega) _ _ _ HI4.out.out.lr #[.int .i64 5,.int .i64 nm] rfl (by simp [Value.oneCell']) hsl5 HI4.out.base;have HR5:=hide hr5;have HI5:Hid (FI W (w.heap.size+1+1+1) ⟨tx3,.slice (some ⟨g5,0,none⟩) (sgN.length+1) c6,f,.slice ao (outF j u v).offs.length co,.slice at3 I.ts.length ct3,.slice ai I.ims.length ci,Bo⟩ ⟨ss3,sgN++ [(5,(nm:Int))],(outF j u v).fst,(outF j u v).offs⟩ ⟨ss3,I.ts,I.ims⟩ v u w5):=HI4.out.sign (by simpa [sgs] using ho5) hc5 hn5;clear hr5 ho5 hc5 hn5 HI4 hsl5 hiG gz0 gz1 gz2;go_upto_region 33 with (at_builtin;refine Lib.wpList_append_run _ rfl _ _ 25 25 rfl _ _ rfl rfl _ _ HR5.out ?_)
        clear HR5;obtain ⟨iO,hiO,oz0,oz1,oz2⟩:=info_parts infoOf;obtain ⟨bs6,hbx,-,-⟩:=HI5.out.box;obtain ⟨vo,hvo,-⟩:=HI5.out.out.or;have hol: (outF j u v).offs.length≤1000:=by have:=HSz.out.2.2.1;have:=HV.out;omega
        obtain ⟨g7,c7,w7,hr7,ho7,hc7,hn7⟩:=zed (P:=Tryz.prog) w5 67 47 W.heap.size iO _ 7 136 Tryz.underlying67 hiO oz0 oz1 oz2 rfl (by omega) (by omega) _ _ vo hvo (obC v u (.slice at3 I.ts.length ct3) (.slice ai I.ims.length ci) bs6) rfl (by simp [obC,Value.oneCell']) hol HI5.out.base;have HI8:Hid (FO W (w.heap.size+1+1+1) (KO (w.heap.size+1+1+1) tx3 (.slice (some ⟨g5,0,none⟩) (sgN.length+1) c6) f (.slice (some ⟨g7,0,none⟩) ((outF j u v).offs.length+1) c7)) tx3 (.slice (some ⟨g5,0,none⟩) (sgN.length+1) c6) f (.slice (some ⟨g7,0,none⟩) ((outF j u v).offs.length+1) c7) (outF j u (v+1)) w7):=by
          show FO _ _ _ _ _ _ _ _ _
          rw [HNq.out];refine HI5.out.done hc7 hn7 (fun vs bs hvs hb=> ?_) (by rw [HLs.out.1,HLs.out.2];have:=HK.out.n4;omega);obtain rfl:=zfg hvs hvo;have hb2:bs=bs6:=by
            have h:=hb.symm.trans hbx
            injection h with h
            injection h with h
            have:=congrArg (fun a:Array Value=>a[5]?) h
            simpa [obC] using this
          rw [hb2];exact ho7
        have HR7:=hide hr7;obtain ⟨y0,y1,y2,y3,y4,y5,y6⟩:w5.cell? ⟨Bo,0,none⟩=some (.slice none 0 0)∧w5.cell? ⟨Bo,1,none⟩=some (.slice none 0 0)∧w5.cell? ⟨Bo,2,none⟩=some (.int .i64 v)∧w5.cell? ⟨Bo,3,none⟩=some (.int .i64 u)∧w5.cell? ⟨Bo,4,none⟩=some (.slice at3 I.ts.length ct3)∧w5.cell? ⟨Bo,5,none⟩=some (.slice (some ⟨bs6,0,none⟩) 2 2)∧w5.cell? ⟨Bo,6,none⟩=some (.slice ai I.ims.length ci):=⟨zaa hbx 0 _ rfl,zaa hbx 1 _ rfl,zaa hbx 2 _ rfl,zaa hbx 3 _ rfl,zaa hbx 4 _ rfl,zaa hbx 5 _ rfl,zaa hbx 6 _ rfl⟩;unfold obC at HR7;clear hr7 ho7 hc7 hn7 hvo hbx HI5 hol hiO oz0 oz1 oz2 HNq HsN hsl HT2 HLs
        go_wp2_with (at_builtin;refine Lib.wpList_append_run _ rfl _ _ 67 67 rfl _ _ rfl rfl _ _ HR7.out ?_)
        go_roundw
        case rel=>exact⟨v+1,tx3,HV.out,by go_num,HI8⟩
        case measure=>have:=HV.out;simp [intOf];omega
      }
      }
    }
    {
    have hv5:v=4:=by omega
    subst hv5;clear hv hv4;obtain ⟨vo,hvo,hvs⟩:=hI.out.or;obtain ⟨vf,hvf,hfs⟩:=hI.out.fr;obtain ⟨an,cn,hon⟩:=zbk hI.out.bk.row;obtain ⟨ao,co,hoo⟩:=zbk hvo;obtain ⟨al,cl,hol⟩:=zbk hI.out.lr;obtain ⟨af,cf,hof⟩:=zbk hvf;subst hon hoo hol hof;obtain ⟨r0,r1,r2⟩:=HR.out wq hI.out.bel;have y0:=zaa hI.out.bk.box 0 _ rfl;obtain ⟨z0,z1,z2⟩:wq.cell? ⟨w.heap.size+1+1,0,none⟩=some (.int .i64 1)∧wq.cell? ⟨w.heap.size+1+1,1,none⟩=some (.slice (some ⟨w.heap.size+1,0,none⟩) 3 3)∧wq.cell? ⟨w.heap.size+1+1,2,none⟩=some (.int .i64 2):=⟨zaa r2 0 _ rfl,zaa r2 1 _ rfl,zaa r2 2 _ rfl⟩;have HSz:=hide (zjf units u 4);have hwq:Below w.heap.size w wq:=hW.trans (hI.out.bel.mono (by omega));have HB4:Hid (BB wq an (outF units u 4).ss.length cn (outF units u 4).ss):=⟨zn2 hI.out.bk.row rfl,rfl,zlo hI.out.bk.row,by have:=zj0 HK.out.bk;unfold maxLen;omega,zpj HK.out.bk⟩;have HNew:Hid (Calls Tryz.prog 12 #[.agg #[.slice an (outF units u 4).ss.length cn],.slice al (outF units u 4).sg.length cl,.agg #[.int .i64 1,.slice (some ⟨w.heap.size+1,0,none⟩) 3 3,.int .i64 2],.slice af (outF units u 4).fst.length cf] wq (DoAns wq (nwV (outF units u 4).ss (outF units u 4).sg rtF (outF units u 4).fst,0))):=(vNew_any an (outF units u 4).ss.length cn (outF units u 4).ss al (outF units u 4).sg.length cl (outF units u 4).sg rtF (some ⟨w.heap.size+1,0,none⟩) 3 3 af (outF units u 4).fst.length cf (outF units u 4).fst wq HB4.out ⟨sgs_of (zdd hI.out.lr),rfl,by have:=HSz.out.2.1;unfold maxLen;omega⟩ ⟨.inr ⟨w.heap.size+1,0,rfl,fun i hi=>by
      match i,hi with
      |0,_=>exact zaa r1 0 _ rfl
      |1,_=>exact zaa r1 1 _ rfl
      |2,_=>exact zaa r1 2 _ rfl⟩,rfl,by decide⟩ ⟨ziz (zdd hvf) hfs,rfl,by rw [HK.out.fl];have:=HK.out.n4;unfold maxLen;omega⟩ (HT.out.below hwq) HK.out.bk HK.out.sg HK.out.gt HK.out.un (by rw [HK.out.fl];have:=HK.out.n4;omega))
    have HOf:Hid (RIn OR wq (fun b=>b≤w.heap.size) ao (outF units u 4).offs.length co (facO units u)):=by
      refine⟨⟨vo,zdd hvo,hvs.mono (OR.off fun b e=>.inl (.inl (by show b≤w.heap.size+1+1+1;omega))),.inr fun ad e c=> ?_⟩,rfl,zlo hvo,by have:=HSz.out.2.2.1;unfold maxLen;omega⟩
      rcases hvo.2 with ⟨x,-⟩| ⟨g,cap,cur,x,hg,-⟩
      { rw [e] at x;cases x }
      {
      cases x;cases e;have:=hI.out.hB;have c:g≤w.heap.size:=c;omega
      }
    have HFu:=hide HK.out.fl;have R0:=hide r0;clear r0 r1 r2 hvo hvs hvf hfs HB4 HSz HR HK hI;go_wp2_with fail;refine(zae HNew).mono ?_;rintro e w1 ⟨⟨m,rfl,hv1⟩,hb1⟩;clear HNew y0 z0 z1 z2;unfold vhv;dsimp only;have hnu:m.nu=units:=by rw [←hv1.us.len];unfold nwV;rw [List.length_map];exact HFu.out
    have HA:Hid (zh8 w units u=fun e w' =>(∃m oa n c,e=.returned (.tuple #[vhv (nwV (outF units u 4).ss (outF units u 4).sg rtF (outF units u 4).fst) m,.slice oa n c,.bool true])∧VIn w' (fun b=>b<w.heap.size∧Sm w b) m (nwV (outF units u 4).ss (outF units u 4).sg rtF (outF units u 4).fst)∧RIn OR w' (fun b=>b<w.heap.size) oa n c (facO units u))∧Below w.heap.size w w'):=rfl
    change Hid (VIn w1 _ m (nwV (outF units u 4).ss (outF units u 4).sg rtF (outF units u 4).fst)) at hv1
    generalize nwV (outF units u 4).ss (outF units u 4).sg rtF (outF units u 4).fst=V at *;generalize facO units u=fo at *;have hb2:Below w1.heap.size w1 (w1.alloc (.cells (vhC V m) 40)).drew:=(bA1).drew;have hbq:=bT hb1 hb2;have h24:=heap_alloc_last w1 (.cells (vhC V m) 40);have hlt0:=zak R0.out;have hv2:=hv1.out.below hb2;have hs1:=hb1.size;have HK2:Hid (∀b,((b<w.heap.size∧Sm w b)∨b=w.heap.size)→b<wq.heap.size∧Sm wq b):=fun b e=>by
      rcases e with ⟨e1,cs1,t1,e2,e3⟩|e
      { exact⟨Nat.lt_of_lt_of_le e1 hwq.size,cs1,t1,zab e2 hwq,e3⟩ }
      { rw [e];exact⟨hlt0,_,_,R0.out,by show 15<192;decide⟩ }
    have hR2:=zab R0.out hbq;have HFin:Hid (zh8 w units u (.returned (.tuple #[vhv V m,.slice ao (outF units u 4).offs.length co,.bool true])) ((w1.alloc (.cells (vhC V m) 40)).drew.setRow w.heap.size (vhC V m))):=by
      show zh8 w units u _ _
      rw [HA.out];have hch:=zcv (w1.alloc (.cells (vhC V m) 40)).drew w.heap.size (vhC V m);have hx:=bT hwq hbq;refine⟨⟨m,ao,_,co,rfl, ?_, ?_⟩,hx.trans (hch.below (fun b e=>Nat.le_of_eq e.symm) hx.size)⟩
      { exact((hv2.wide (K' :=fun b=>(b<w.heap.size∧Sm w b)∨b=w.heap.size) fun b e=>.inl (HK2.out b e)).chg (hch.mono fun b e=>.inr e)).wide fun b e=>.inl (.inl e) }
      { exact((HOf.out.chg OR.chg (.of hbq _)).chg OR.chg (hch.mono fun b e=>Nat.le_of_eq e)).wide OR.off fun b e=>.inl (Nat.le_of_lt e) }
    have HZ:=hide (setRow_heap (w1.alloc (.cells (vhC V m) 40)).drew w.heap.size _ (vhC V m) _ _ hR2);have hne:w1.heap.size≠w.heap.size:=by omega
    have x11: (w1.alloc (.cells (vhC V m) 40)).cell? ⟨w1.heap.size,11,none⟩=some (.slice m.au m.nu m.cu):=zaa h24 11 _ rfl;have hb24:=bk_v h24;have hb0:=bk_v hR2;rw [hnu] at x11;clear hv1 hv2 hR2 h24 hbq hb2 HOf HK2 R0 HFu HA hlt0 hs1 hb1 hwq;go_upto_region 36 with fail
    generalize w1.alloc (.cells (vhC V m) 40)=W7 at *;refine wp_region_held_drew (S:=fun W' =>W'.cell? ⟨w1.heap.size,11,none⟩=some (.slice m.au units m.cu)∧bk W' w1.heap.size=some (.cells (vhC V m) 40 (0,0))) (by kernel_rfl) ⟨x11,hb24⟩ ?_;intro hHeld;refine Htk (i:=0) ?_
    try simp only [sq]
    refine Htk (i:=2) ?_
    try simp only [sq]
    refine Htk (i:=3) ?_
    try simp only [sq]
    refine Htk (i:=4) ?_
    try simp only [sq]
    refine Htk (i:=5) ?_
    try simp only [sq]
    refine Htk (i:=6) ?_
    try simp only [sq]
    refine Htk (i:=7) ?_
    try simp only [sq]
    refine Htk (i:=1) ?_
    try simp only [sq]
    refine Htk (i:=8) ?_
    try simp only [sq]
    refine Htk (i:=9) ?_
    try simp only [sq]
    refine Htk (i:=10) ?_
    try simp only [sq]
    refine wpAnyH_ready (rs:= [11]) (by kernel_rfl) (by simp) ?_;refine AllReadyH.cons (by rfl) (fun K hK=> ?_) AllReadyH.nil;go_simp;have hch:=zcv W7.drew w.heap.size (vhC V m);refine hK.out _ _ (⟨hch.cell hHeld.1 hne,hch.blk hHeld.2 hne⟩) (fun hHeld=> ?_);clear hK K
    try simp only [sq]
    refine Htk (i:=12) ?_
    try simp only [sq]
    refine Htk (i:=13) ?_
    try simp only [sq]
    refine wpAnyH_done (by kernel_rfl) ?_ _;go_wp2_with fail;refine bodyPost_ret (resV3 rfl rfl rfl rfl HZ.out) rfl ?_;exact HFin.out
    }
end
section
open Go.RowKit
attribute [local go_sem ↓] Go.wp_at_zero Go.wp_at_succ zhy zhp zhu exV_bd exH_ld exH_st exH_al
attribute [local go_sem] zgl zgn zgi bdV_run zuu zup rdF_V wrF_V rdF_H wrF_H zur zgj World.setRow_alloc_new
theorem VTw.vin {w:World} {F bu bc bn:Nat} {m:VA} {v:Vh} (h:VTw w F bu bc bn m v):VIn w (fun b=>b<F) m v:=by
  have k: ∀b,b<F→KT F bu bc bn b:=fun b e=>.inl e
  have l1:=h.us.lt;have l2:=h.cs.lt;have l3:=h.net.lt;exact⟨h.ss,h.sg,h.g,h.us.rin UR.off k (by omega),h.cs.rin CR.off k (by omega),h.net.rin MR.off k (by omega),h.ob.mono k,h.os.mono k,h.og.wide h.g (fun b e=>.inl (.inl e))⟩
theorem RInv.first {w w2 w3:World} {n bu bc bn:Nat} {v:Vh} {m:VA} (l:List Hp) {cur:Array Value} (hw:Below w.heap.size w w2) (hR:w2.heap[w.heap.size+1]?=some (vhO vh0 va0)) (hb:Below w2.heap.size w2 w3) (ht:VTw w3 w2.heap.size bu bc bn m v) (hc:cur.size=n * 1):
    RInv w w3.heap.size n v l 0 v m ((w3.alloc (.cells (vhC v m) 40)).alloc (.cells cur 51)):=by
  have b1:Below w3.heap.size w3 ((w3.alloc (.cells (vhC v m) 40)).alloc (.cells cur 51)):=bA2;have b2:=bT hb b1;have hl:=zak hR;have hs:=hb.size;have hs2:=hw.size;refine⟨(bT hw b2),zab hR b2,zai (heap_alloc_last w3 _) _,⟨cur, [], ?_,by omega,rfl,fun i x hx=>by simp at hx,by simp⟩, ?_,by omega⟩
  {
  have:=heap_alloc_last (w3.alloc (.cells (vhC v m) 40)) (.cells cur 51)
  simpa using this
  }
  {
  refine(ht.vin.wide (K' :=KR w w3.heap.size) fun b e=> ?_).below b1
  rcases e with e|e|e|e
  { exact .inl (by show b<_;omega) }
  { exact .inl (by show b<_;omega) }
  { exact .inr (by omega) }
  { exact .inr (by omega) }
  }
theorem RInv.last {w:World} {B n:Nat} {v:Vh} {l:List Hp} {vk:Vh} {mk:VA} {wq:World} (h:RInv w B n v l n vk mk wq) (hl:l.length=n) (hn:n≤160):
    zfr w ((runL v l).1,(runL v l).2,0) (.returned (.tuple #[vhv vk mk,.slice (some ⟨B+1,0,none⟩) n n,.int .i64 0])) (wq.setRow (w.heap.size+1) (vhC vk mk)):=by
  obtain ⟨cur,sd,h1,h2,h3,h4,h5⟩:=h.said;have hB:=h.hB;rw [List.drop_of_length_le (by omega)] at h5;have e1: (runL v l).1=vk:=by rw [h5];rfl
  have e2: (runL v l).2=sd:=by rw [h5];simp [runL]
  have hp:=zcv wq (w.heap.size+1) (vhC vk mk);rw [e1,e2];refine⟨⟨mk,some ⟨B+1,0,none⟩,n,n,rfl, ?_,⟨.inr ⟨B+1,0,rfl,fun i hi=> ?_⟩,h3,by unfold maxLen;omega⟩,fun ad e=>by cases e;show w.heap.size≤B+1;omega⟩, ?_⟩
  { exact(h.veh.chg (hp.mono fun b e=>.inr (.inl e))).wide fun b e=>.inl (.inl e) }
  {
  rw [Nat.zero_add];refine hp.cell (zaa h1 i _ (h4 i _ ?_)) (by show¬B+1=_;omega)
  simp [hi]
  }
  { exact h.bel.trans (hp.below (fun b e=>by omega) h.bel.size) }
theorem infoErrno: (Tryz.prog.info? 51).map (fun i=>(i.zero,i.size,i.bytes))=some (some (.int .i64 0),1,8):=by kernel_rfl
theorem run_ok (v:Vh) (m:VA) (l:List Hp) (a:Option Addr) (n c:Nat) (w:World) (h:VIn w (fun _=>False) m v) (hT:Tab w) (hr:RIn HR w (fun _=>False) a n c l) (he:vhE v=0) (hn:n≤160):
    Calls Tryz.prog 21 #[vhv v m,.slice a n c] w (zfr w (runS v l)):=by
  have HN:=hide hr.len;have HE:Hid (runS v l= ((runL v l).1,(runL v l).2,0)):=by show _=_;unfold runS;rw [if_neg (by simpa using he),if_neg (by rw [HN.out];omega)]
  obtain ⟨vs,r1,r2,-⟩:=hr.row;have R1:=hide r1;have R2:=hide r2;have HT:=hide hT;have HV:=hide h;have H160:=hide hn;have hnI: ¬(160:Int)< (n:Int):=by omega
  have hnJ: (n:Int)≤9223372036854775807:=by omega
  clear r1 r2 hr hT hn;have hw:Below w.heap.size w ((w.alloc (.cells (vhC v m) 40)).alloc (.cells (vhC vh0 va0) 40)):=bA2;have b0:=bk_of (zai (heap_alloc_last w (.cells (vhC v m) 40)) (.cells (vhC vh0 va0) 40));have b1:=hide (zau w (.cells (vhC v m) 40) (.cells (vhC vh0 va0) 40));have HC:=hide (fun W (hW:Below w.heap.size w W)=>zct v m W (h.below hW));have HF:=hide (zec he);clear h;unfold vhv at HC;unfold vhv;go_enter Tryz.func21,Tryz.ntmps21;go_wp2_with fail;generalize ((w.alloc (.cells (vhC v m) 40)).alloc (.cells (vhC vh0 va0) 40))=W at *;refine(zae HC _ hw).mono ?_;rintro e w2 ⟨rfl,hb⟩;replace b0:=bk_of (zab b0 hb);replace b1:=hide (zab b1.out hb);replace hw:=bT hw hb;clear HC hb;rw [he];clear he;have HTw:=hide (zhm v m (fun _=>False) w2 (HV.out.below hw) (HF.out.small HV.out));unfold vhv at HTw;go_wp2_with fail;refine(zae HTw).mono ?_;rintro e w3 ⟨⟨m3,bu,bc,bn,rfl,hvt⟩,hb3⟩;unfold vhv;clear HTw b0;obtain ⟨irr,hir,rz0,rz1,rz2⟩:=info_parts infoErrno;obtain ⟨cur,hcs,hmk⟩:=zbh Tryz.prog (w3.alloc (.cells (vhC v m3) 40)) 62 51 irr _ 1 8 n Tryz.underlying62 hir rz0 rz1 rz2 (by omega) (by unfold maxLen;omega);have I0:=hide (RInv.first l hw b1.out hb3 hvt hcs);clear hvt hcs hir rz0 rz1 rz2;go_wp2_with fail;generalize ((w3.alloc (.cells (vhC v m3) 40)).alloc (.cells cur 51))=W5 at *;clear hmk;have hsB:w3.heap.size+1≠w.heap.size+1:=by have:=I0.out.hB;omega
  have hsC:w.heap.size+1≠w3.heap.size:=by have:=I0.out.hB;omega
  clear hw hb3 b1 HF HV
  go_loopw [31] (fun i wq=>∃(k:Nat) (vk:Vh) (mk:VA),k≤n∧i=.int .i64 k∧Hid (RInv w w3.heap.size n v l k vk mk wq)) (fun i _=>n - (intOf i).toNat)
  case atStart=>exact⟨0,v,m3,by omega,rfl,I0⟩
  case round=>
    clear I0;obtain ⟨wq,rfl⟩: ∃wq:World,wq=wr:=⟨_,rfl⟩;obtain ⟨k,vk,mk,hk,rfl,hI⟩:=hrel
    by_cases hkn:k<n
    {
    have hkI: (k:Int)< (n:Int):=by omega
    have hul:k<l.length:=by rw [HN.out];exact hkn
    have hB:=hI.out.bel;obtain ⟨b,off,mo,rfl,q0,qc⟩:=zuh R1.out R2.out (List.getElem?_eq_getElem hul);have HX:Hid (l[k]?=some l[k]):=List.getElem?_eq_getElem hul;generalize l[k]=x at *;have y0:=zuq wq b (off+k * 10) x mo (fun j u hu=>(hB.cell (zah (qc j u hu))).trans (qc j u hu));have hW:Below wq.heap.size wq (wq.alloc (.cells (hpC x mo) 49)):=bA1;have hown:bk (wq.alloc (.cells (hpC x mo) 49)) w3.heap.size=some (.cells (vhC vk mk) 40 (0,0)):=zab hI.out.own hW;have HD:=hide (do_any vk mk x mo _ ((hI.out.veh.below hW).wide (K' :=fun _=>False) fun b e=>e.elim) (HT.out.below ((bT hB hW))) (q0.below ((bT hB hW))));unfold vhv at HD;rw [hpv_eq] at HD;clear q0 qc hul hB;have HK:Hid (k<n):=hkn;clear hkn hk;go_wp2_with fail;refine(zae HD).mono ?_;rintro e w5 ⟨⟨m5,rfl,hv5⟩,hb5⟩;unfold vhv;clear HD hown y0;have hb7:Below w5.heap.size w5 (w5.alloc (.cells (vhC (doS' vk x).1 m5) 40)):=bA1;have hb8:=bT hb5 hb7;have hb6:=bT hW hb8;obtain ⟨curq,sd,s1,s2,-⟩:=hI.out.said;have S1:=hide (zab s1 hb6);have hPe:=hide (fun he=>RInv.err hI.out HK.out HX.out hb6 he);have hPo:=hide (fun he=>RInv.ok hI.out H160.out HK.out HX.out hW hb8 he (hv5.below hb7));have hob:=hide (zab hI.out.own hb6);have hne:w3.heap.size+1≠w3.heap.size:=by omega
    have hks:k<curq.size:=by rw [s2];exact HK.out
    clear s1 s2 hb5 hb6 hb7 hb8 hv5 hW hI HX;generalize doS' vk x=r at *;obtain ⟨rv,re⟩:=r;dsimp only at hPe hPo hob S1⊢
    by_cases hz:re=0
    {
    subst hz;have HP:=hide (hPo.out rfl);clear hPe hPo;have h8:=bk_v hob.out;obtain ⟨v0,s0,f0⟩:=zbe (Chg.blk S1.out (zcv _ w3.heap.size (vhC rv m5)) hne) (i:=k) hks;clear S1 hob hks;go_wp2_with fail;refine⟨⟨k+1,rv,m5,HK.out,by simp,HP.out⟩,by have:=HK.out;simp [intOf];omega⟩
    }
    {
    have HP:=hide (hPe.out hz);have d: (re==0)=false:=by simpa using hz
    obtain ⟨v0,s0,f0⟩:=zbe S1.out (i:=k) hks;clear hPe hPo hob hz S1 hks;go_wp2_with fail;refine⟨⟨k+1,vk,mk,HK.out,by simp,HP.out⟩,by have:=HK.out;simp [intOf];omega⟩
    }
    }
    {
    have hkk:k=n:=by omega
    subst hkk;clear hk hkn;have hown:=bk_v hI.out.own;have hres:=bk_v hI.out.res;have HL:=hide (RInv.last hI.out HN.out H160.out);have hz:=hide (setRow_heap wq (w.heap.size+1) _ (vhC vk mk) _ _ hI.out.res);clear hI;go_wp2_with fail;refine bodyPost_ret (resV3 rfl rfl rfl rfl hz.out) rfl ?_;have hfin:=HL.out;rw [←HE.out] at hfin
    exact hfin
    }
theorem run_any (v:Vh) (m:VA) (l:List Hp) (a:Option Addr) (n c:Nat) (w:World) (h:VIn w (fun _=>False) m v) (hT:Tab w) (hr:RIn HR w (fun _=>False) a n c l):
    Calls Tryz.prog 21 #[vhv v m,.slice a n c] w (zfr w (runS v l)):=by
  by_cases he:vhE v=0
  {
  by_cases hn:n≤160
  { exact run_ok v m l a n c w h hT hr he hn }
  { exact run_many v m l a n c w h hr.len he (by omega) }
  }
  {
  exact run_bad v m l a n c w h he
  }
end
end Go.Proofs.YthmekfcgdfckaaaGreatDoor
