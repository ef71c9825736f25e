/- The contracts of vehicle.copiedBy at campaigns, twinGate. The contract of vehicle.propose: its first half, what the gateway begins. -/
import Derived.Test.YthmekfcgdfckaaaGreatDoorWt32
import Derived.Test.YthmekfcgdfckaaaGreatDoorWt28
import Derived.Deep.DeepCutAuto
set_option maxRecDepth 1000000
set_option maxHeartbeats 0
namespace Go.Proofs.YthmekfcgdfckaaaGreatDoor
variable {w:World}
section
open Go.RowKit
attribute [local go_sem ↓] Go.wp_at_zero Go.wp_at_succ
theorem CI.below {w' :World} {K:Nat→Prop} {m:CA} {x:Cp} (h:CI w K m x) (hb:Below w.heap.size w w'):CI w' K m x:=by
  obtain ⟨vs,r1,r2,r3⟩:=h.row;exact⟨h.ts.below hb,h.ot,h.ims.below hb,⟨vs,r1.below hb,r2.mono (LR.chg (.of hb K)),r3⟩⟩
def CSm (x:Cp):Prop:=x.ts.length≤1000000∧x.ims.length≤1000000∧∀r∈x.ims,r.length≤1000000
theorem zm5 (a:Option Addr) (n c c0:Nat) (K:Nat→Prop) (l:List Cp) (w:World) (h:RIn CR w K a n c0 l) (hm:n≤1000000) (hs: ∀x∈l,CSm x):
    Calls Tryz.prog 119 #[.slice a n c,.func (.func 120) #[] #[]] w (zhe CR 5 94 w l):=by
  obtain ⟨irr,hir,rz0,rz1,rz2⟩:=info_parts infoByC;obtain ⟨cur,hcs,hmk⟩:=zbh Tryz.prog w 37 94 irr _ 5 72 n Tryz.underlying37 hir rz0 rz1 rz2 (by omega) (by unfold maxLen;omega);have I0:Hid (CInv CR 5 94 w.heap.size n w l 0 (w.alloc (.cells cur 94))):=CInv.first hcs;obtain ⟨vs,h1,h2,-⟩:=h.row;have H1:=hide h1;have H2:=hide h2;have HN:=hide h.len;have HS:=hide hs;clear h1 h2 h hs hcs;have hnI: (n:Int)≤9223372036854775807:=by omega
  go_enter Tryz.func119,Tryz.ntmps119;go_wp2_with fail;generalize w.alloc (.cells cur 94)=W0 at *;clear hmk
  go_loopw [13] (fun i wq=>∃k:Nat,k≤n∧i=.int .i64 k∧Hid (CInv CR 5 94 w.heap.size n w l k wq)) (fun i _=>n - (intOf i).toNat)
  case atStart=>exact⟨0,by omega,rfl,I0⟩
  case round=>
    clear I0;obtain ⟨wq,rfl⟩: ∃wq:World,wq=wr:=⟨_,rfl⟩;obtain ⟨k,hk,rfl,hI⟩:=hrel
    by_cases hkn:k<n
    {
    have hkI: (k:Int)< (n:Int):=by omega
    have hul:k<l.length:=by rw [HN.out];exact hkn
    have hB:=hI.out.bel;have hsu:=HS.out _ (List.getElem_mem hul);obtain ⟨b,off,mm,rfl,q0,y0,y1,y2,y3,y4⟩:=zfa H1.out H2.out (List.getElem?_eq_getElem hul);have HU:=hide (fun W (hW:Below w.heap.size w W)=>zfb l[k] mm K W (q0.below hW) hsu.1 hsu.2.1 hsu.2.2);unfold cpv at HU;have HX:Hid (l[k]?=some l[k]):=List.getElem?_eq_getElem hul;generalize l[k]=u at *;replace y0:=(hB.cell (zah y0)).trans y0;replace y1:=(hB.cell (zah y1)).trans y1;replace y2:=(hB.cell (zah y2)).trans y2;replace y3:=(hB.cell (zah y3)).trans y3;replace y4:=(hB.cell (zah y4)).trans y4;have HK:Hid (k<n):=hkn;clear hkn hul hsu;have hb1:Below wq.heap.size wq (wq.alloc (.cells (aC u mm) 94)):=bA1;go_wp2_with fail;refine(zae HU _ ((bT hB hb1))).mono ?_;rintro e w3 ⟨⟨m4,rfl,hcr⟩,hb3⟩;have hb4:=bT hb1 hb3;obtain ⟨cq,r1,r2,-⟩:=hI.out.row;have hro:=hide (zab r1 hb4);have hz:k * 5+5≤cq.size:=by rw [r2,←Nat.succ_mul];exact Nat.mul_le_mul_right _ HK.out
    obtain ⟨v0,z0,f0⟩:=zbe hro.out (i:=k * 5) (by omega);obtain ⟨v1,z1,f1⟩:=zbe hro.out (i:=k * 5+1) (by omega);obtain ⟨v2,z2,f2⟩:=zbe hro.out (i:=k * 5+2) (by omega);obtain ⟨v3,z3,f3⟩:=zbe hro.out (i:=k * 5+3) (by omega);obtain ⟨v4,z4,f4⟩:=zbe hro.out (i:=k * 5+4) (by omega);clear r1 r2;go_wp2_with fail;refine⟨⟨k+1,HK.out,by simp, ?_⟩,by have:=HK.out;simp [intOf];omega⟩;have hel:CR w3 (Out (wq.heap.size - 1)) u [.int .i64 u.n,.int .i64 u.v,.int .i64 u.u,.slice m4.at_ m4.nt m4.ct,.slice m4.ai m4.ni m4.ci]:=CR.off (fun b e=>.inl (by show b< (wq.alloc (.cells (aC u mm) 94)).heap.size;have e:b≤wq.heap.size - 1:=e;have:=hI.out.lt;simp;omega)) _ _ hcr;have hst:=hI.out.step CR.chg CR.off CR.len (Nat.le_refl _) HX.out (by rw [HN.out];exact Nat.le_refl _) hb4 hel;exact hst
    }
    {
    have hkk:k=n:=by omega
    subst hkk;clear hk hkn;go_wp2_with fail;go_ret;have hl:=HN.out;subst hl;exact hI.out.last (Nat.le_refl _)
    }
theorem last_4 (w:World) (o0 o1 o2 o3 o4:Obj): (((((w.alloc o0).alloc o1).alloc o2).alloc o3).alloc o4).heap[w.heap.size+1+1+1+1]?=some o4:=by
  have:=heap_alloc_last ((((w.alloc o0).alloc o1).alloc o2).alloc o3) o4
  simpa only [World.size_alloc] using this
theorem last_5 (w:World) (o0 o1 o2 o3 o4 o5:Obj): ((((((w.alloc o0).alloc o1).alloc o2).alloc o3).alloc o4).alloc o5).heap[w.heap.size+1+1+1+1+1]?=some o5:=by
  have:=heap_alloc_last (((((w.alloc o0).alloc o1).alloc o2).alloc o3).alloc o4) o5
  simpa only [World.size_alloc] using this
theorem last_6 (w:World) (o0 o1 o2 o3 o4 o5 o6:Obj): (((((((w.alloc o0).alloc o1).alloc o2).alloc o3).alloc o4).alloc o5).alloc o6).heap[w.heap.size+1+1+1+1+1+1]?=some o6:=by
  have:=heap_alloc_last ((((((w.alloc o0).alloc o1).alloc o2).alloc o3).alloc o4).alloc o5) o6
  simpa only [World.size_alloc] using this
theorem last_7 (w:World) (o0 o1 o2 o3 o4 o5 o6 o7:Obj): ((((((((w.alloc o0).alloc o1).alloc o2).alloc o3).alloc o4).alloc o5).alloc o6).alloc o7).heap[w.heap.size+1+1+1+1+1+1+1]?=some o7:=by
  have:=heap_alloc_last (((((((w.alloc o0).alloc o1).alloc o2).alloc o3).alloc o4).alloc o5).alloc o6) o7
  simpa only [World.size_alloc] using this
theorem below8 (w:World) (o0 o1 o2 o3 o4 o5 o6 o7:Obj):Below w.heap.size w ((((((((w.alloc o0).alloc o1).alloc o2).alloc o3).alloc o4).alloc o5).alloc o6).alloc o7):=
  ((((((bA2).alloc (by simp;omega) _).alloc (by simp;omega) _).alloc (by simp;omega) _).alloc (by simp;omega) _).alloc (by simp;omega) _).alloc (by simp;omega) _
theorem zns (g:Gt) (m:GA) (w:World) (h:GIn w m g) (h1:m.n≤1000000) (h2:m.nk≤1000000) (h3:m.nv≤1000000) (h4:m.nd≤1000000):
    Calls Tryz.prog 115 #[gtv g m] w fun e w' =>(∃k,e=.returned (gtv g k)∧GIn w' k g∧GFr w.heap.size k)∧Below w.heap.size w w' :=by
  have H1:=hide (fun W (hW:Below w.heap.size w W)=>zha g.ws g.fu m.a m.n m.c W (h.ws.below hW).bi h1);have H2:=hide (fun W (hW:Below w.heap.size w W)=>zek m.ak m.nk m.ck (vals g.t.r.ks) W (zg6 (h.ks.below hW).at_) (by rw [za3,h.ks.len,Nat.mul_one]) (zbu _) h2);have H3:=hide (fun W (hW:Below w.heap.size w W)=>ziw m.av m.nv m.cv (bls g.vo) W (bls_row (h.vo.below hW).at_) (by rw [show(bls g.vo).length=g.vo.length by simp [bls],h.vo.len,Nat.mul_one]) (bls_one _) h3);have H4:=hide (fun W (hW:Below w.heap.size w W)=>ziw m.ad m.nd m.cd (bls g.di) W (bls_row (h.di.below hW).at_) (by rw [show(bls g.di).length=g.di.length by simp [bls],h.di.len,Nat.mul_one]) (bls_one _) h4);have HG:=hide h;clear h;unfold gtv;go_enter Tryz.func115,Tryz.ntmps115;go_wp2_with fail;refine(zae H1 _ (zdv _ _ _)).mono ?_;rintro e w1 ⟨rfl,rfl⟩;go_wp2_with fail;refine(zae H2 _ ?_).mono ?_
  { exact(zdv _ _ _).trans ((zds _ _ _ _).mono (by simp;omega)) }
  rintro e w1 ⟨rfl,rfl⟩;go_wp2_with fail;refine(zae H3 _ ?_).mono ?_
  { exact((zdv _ _ _).trans ((zds _ _ _ _).mono (by simp;omega))).alloc (by simp;omega) _ }
  rintro e w1 ⟨rfl,rfl⟩;go_wp2_with fail;refine(zae H4 _ ?_).mono ?_
  { exact(((zdv _ _ _).trans ((zds _ _ _ _).mono (by simp;omega))).alloc (by simp;omega) _).alloc (by simp;omega) _ }
  rintro e w1 ⟨rfl,rfl⟩;go_wp2_with fail;refine bodyPost_ret (v:=gtv g ⟨some ⟨w.heap.size+1+1+1+1,0,none⟩,m.n,m.n,some ⟨w.heap.size+1+1+1+1+1,0,none⟩,m.nk,m.nk,some ⟨w.heap.size+1+1+1+1+1+1,0,none⟩,m.nv,m.nv,some ⟨w.heap.size+1+1+1+1+1+1+1,0,none⟩,m.nd,m.nd⟩) (by simp [results,Tryz.results115,go_sem,gtv]) rfl ?_;have r4:=zai (zai (zai (last_4 w (.cells #[.slice (some ⟨w.heap.size+1+1+1+1,0,none⟩) m.n m.n,.int .i64 g.fu,.bool g.up,.int .i64 g.t.r.v,.slice (some ⟨w.heap.size+1+1+1+1+1,0,none⟩) m.nk m.nk,.int .i64 g.t.r.t,.int .i64 g.t.ver,.slice (some ⟨w.heap.size+1+1+1+1+1+1,0,none⟩) m.nv m.nv,.slice (some ⟨w.heap.size+1+1+1+1+1+1+1,0,none⟩) m.nd m.nd] 35) (.cells #[.slice (some ⟨w.heap.size+1+1+1+1,0,none⟩) m.n m.n,.int .i64 g.fu,.bool g.up,.int .i64 g.t.r.v,.slice (some ⟨w.heap.size+1+1+1+1+1,0,none⟩) m.nk m.nk,.int .i64 g.t.r.t,.int .i64 g.t.ver,.slice (some ⟨w.heap.size+1+1+1+1+1+1,0,none⟩) m.nv m.nv,.slice (some ⟨w.heap.size+1+1+1+1+1+1+1,0,none⟩) m.nd m.nd] 35) (.cells #[.slice (some ⟨w.heap.size+1+1+1+1,0,none⟩) m.n m.n,.int .i64 g.fu] 28) (.cells #[.slice (some ⟨w.heap.size+1+1+1+1,0,none⟩) m.n m.n,.int .i64 g.fu] 28) (.cells (vals g.ws).toArray 3)) (.cells (vals g.t.r.ks).toArray 3)) (.cells (bls g.vo).toArray 4)) (.cells (bls g.di).toArray 4);have r5:=zai (zai (last_5 w (.cells #[.slice (some ⟨w.heap.size+1+1+1+1,0,none⟩) m.n m.n,.int .i64 g.fu,.bool g.up,.int .i64 g.t.r.v,.slice (some ⟨w.heap.size+1+1+1+1+1,0,none⟩) m.nk m.nk,.int .i64 g.t.r.t,.int .i64 g.t.ver,.slice (some ⟨w.heap.size+1+1+1+1+1+1,0,none⟩) m.nv m.nv,.slice (some ⟨w.heap.size+1+1+1+1+1+1+1,0,none⟩) m.nd m.nd] 35) (.cells #[.slice (some ⟨w.heap.size+1+1+1+1,0,none⟩) m.n m.n,.int .i64 g.fu,.bool g.up,.int .i64 g.t.r.v,.slice (some ⟨w.heap.size+1+1+1+1+1,0,none⟩) m.nk m.nk,.int .i64 g.t.r.t,.int .i64 g.t.ver,.slice (some ⟨w.heap.size+1+1+1+1+1+1,0,none⟩) m.nv m.nv,.slice (some ⟨w.heap.size+1+1+1+1+1+1+1,0,none⟩) m.nd m.nd] 35) (.cells #[.slice (some ⟨w.heap.size+1+1+1+1,0,none⟩) m.n m.n,.int .i64 g.fu] 28) (.cells #[.slice (some ⟨w.heap.size+1+1+1+1,0,none⟩) m.n m.n,.int .i64 g.fu] 28) (.cells (vals g.ws).toArray 3) (.cells (vals g.t.r.ks).toArray 3)) (.cells (bls g.vo).toArray 4)) (.cells (bls g.di).toArray 4);have r6:=zai (last_6 w (.cells #[.slice (some ⟨w.heap.size+1+1+1+1,0,none⟩) m.n m.n,.int .i64 g.fu,.bool g.up,.int .i64 g.t.r.v,.slice (some ⟨w.heap.size+1+1+1+1+1,0,none⟩) m.nk m.nk,.int .i64 g.t.r.t,.int .i64 g.t.ver,.slice (some ⟨w.heap.size+1+1+1+1+1+1,0,none⟩) m.nv m.nv,.slice (some ⟨w.heap.size+1+1+1+1+1+1+1,0,none⟩) m.nd m.nd] 35) (.cells #[.slice (some ⟨w.heap.size+1+1+1+1,0,none⟩) m.n m.n,.int .i64 g.fu,.bool g.up,.int .i64 g.t.r.v,.slice (some ⟨w.heap.size+1+1+1+1+1,0,none⟩) m.nk m.nk,.int .i64 g.t.r.t,.int .i64 g.t.ver,.slice (some ⟨w.heap.size+1+1+1+1+1+1,0,none⟩) m.nv m.nv,.slice (some ⟨w.heap.size+1+1+1+1+1+1+1,0,none⟩) m.nd m.nd] 35) (.cells #[.slice (some ⟨w.heap.size+1+1+1+1,0,none⟩) m.n m.n,.int .i64 g.fu] 28) (.cells #[.slice (some ⟨w.heap.size+1+1+1+1,0,none⟩) m.n m.n,.int .i64 g.fu] 28) (.cells (vals g.ws).toArray 3) (.cells (vals g.t.r.ks).toArray 3) (.cells (bls g.vo).toArray 4)) (.cells (bls g.di).toArray 4);have r7:=last_7 w (.cells #[.slice (some ⟨w.heap.size+1+1+1+1,0,none⟩) m.n m.n,.int .i64 g.fu,.bool g.up,.int .i64 g.t.r.v,.slice (some ⟨w.heap.size+1+1+1+1+1,0,none⟩) m.nk m.nk,.int .i64 g.t.r.t,.int .i64 g.t.ver,.slice (some ⟨w.heap.size+1+1+1+1+1+1,0,none⟩) m.nv m.nv,.slice (some ⟨w.heap.size+1+1+1+1+1+1+1,0,none⟩) m.nd m.nd] 35) (.cells #[.slice (some ⟨w.heap.size+1+1+1+1,0,none⟩) m.n m.n,.int .i64 g.fu,.bool g.up,.int .i64 g.t.r.v,.slice (some ⟨w.heap.size+1+1+1+1+1,0,none⟩) m.nk m.nk,.int .i64 g.t.r.t,.int .i64 g.t.ver,.slice (some ⟨w.heap.size+1+1+1+1+1+1,0,none⟩) m.nv m.nv,.slice (some ⟨w.heap.size+1+1+1+1+1+1+1,0,none⟩) m.nd m.nd] 35) (.cells #[.slice (some ⟨w.heap.size+1+1+1+1,0,none⟩) m.n m.n,.int .i64 g.fu] 28) (.cells #[.slice (some ⟨w.heap.size+1+1+1+1,0,none⟩) m.n m.n,.int .i64 g.fu] 28) (.cells (vals g.ws).toArray 3) (.cells (vals g.t.r.ks).toArray 3) (.cells (bls g.vo).toArray 4) (.cells (bls g.di).toArray 4);exact⟨⟨_,rfl,⟨⟨zgw (zcq r4),HG.out.ws.len,Nat.le_refl _,HG.out.ws.max⟩,⟨zgw (zcq r5),HG.out.ks.len,HG.out.ks.max⟩,⟨bls_of (zcq r6),HG.out.vo.len,Nat.le_refl _,HG.out.vo.max⟩,⟨bls_of (zcq r7),HG.out.di.len,Nat.le_refl _,HG.out.di.max⟩⟩,⟨zal.here (by omega) _,zal.here (by omega) _,zal.here (by omega) _,zal.here (by omega) _⟩⟩,below8 _ _ _ _ _ _ _ _ _⟩
end
section
open Go.RowKit
attribute [local go_sem ↓] Go.wp_at_zero Go.wp_at_succ
theorem zn7 {w:World} {b:Nat}: ∀(ls:List (List Int)) (off:Nat),(∀i r,ls[i]?=some r→∃ai ci,w.cell? ⟨b,off+i,none⟩=some (Value.slice ai r.length ci)∧zag w ai r∧r.length≤ci∧ci≤maxLen)→
    ∃vs,(∀j u,vs[j]?=some u→w.cell? ⟨b,off+j,none⟩=some u)∧Vs (LR w (fun _=>False)) ls vs
  | [],off,_=>⟨[],fun j u h=>by simp at h,rfl⟩
  |x::r,off,h=>by
    obtain ⟨ai,ci,c0,h1,h2,h3⟩:=h 0 x rfl;obtain ⟨vs,g1,g2⟩:=zn7 r (off+1) (fun i m hm=>by
      have:=h (i+1) m (by simpa using hm);rw [show off+(i+1)=off+1+i by omega] at this;exact this)
    refine⟨[.slice ai x.length ci]++vs,fun j u hu=> ?_,⟨_,vs,rfl,⟨ai,ci,rfl,h1,h2,h3,.no⟩,g2⟩⟩
    match j,hu with
    |0,hu=>cases hu;exact c0
    |j+1,hu=>
      have:=g1 j u (by simpa using hu)
      rwa [show off+1+j=off+(j+1) by omega] at this
theorem off_ci {m:OA} {o:Of} (h:BO w m o) (n:Int):CI w (fun _=>False) ⟨m.a3,m.n3,m.c3,m.a5,m.n5,m.c5⟩ ⟨n,o.v,o.u,o.ts,o.imgs⟩:=by
  refine⟨h.tgts,.no,h.imgs, ?_⟩
  rcases h.imgs.at_ with e| ⟨b,off,e,hc⟩
  { exact⟨[],.inl rfl,by rw [show(⟨n,o.v,o.u,o.ts,o.imgs⟩:Cp).ims=o.imgs from rfl,e];rfl,.inl rfl⟩ }
  {
  obtain ⟨vs,g1,g2⟩:=zn7 o.imgs off hc;exact⟨vs,.inr ⟨b,off,e,g1⟩,g2,.no⟩
  }
theorem zlg {P:Program} {ops:Array Oper} {rest:List Oper} {o:Oper} {a:Act} {Q:Exit→Act→World→Prop} (hgd:o.guard=none) (s x:Operand) (t tn:TypeId)
    (ho:o.op=.call { callee:=.builtin .append,args:=#[s,x],argTypes:=#[t,tn] }) (vs vx:Value) (hs:a.eval s=vs) (hx:a.eval x=vx)
    (v' :Value) (w' :World) (hr: (Builtin.append_ #[t,tn] o.type #[vs,vx]).run P w=.ok v' w') (h:wpList P ops Q rest (a.put o.dst v') w'):wpList P ops Q (o::rest) a w:=
  wpList_plain hgd fun _ hK=>Lib.wp_append_run w s x t tn ho vs vx hs hx v' w' hr (hK _ _ h)
theorem gBeg_n (ss:List ByteArray) (l:List S2) (g:Gt) (o:Of) (now:Int):0≤(gBeg ss l g o now).2.1∧(gBeg ss l g o now).2.1≤9:=by
  have h:=gOf_n g.ws;unfold gBeg
  split
  { exact⟨Int.le_refl 0,by show(0:Int)≤9;decide⟩ }
  split
  { exact⟨Int.le_refl 0,by show(0:Int)≤9;decide⟩ }
  split
  { exact⟨Int.le_refl 0,by show(0:Int)≤9;decide⟩ }
  split
  { exact⟨Int.le_refl 0,by show(0:Int)≤9;decide⟩ }
  {
  unfold begD
  split
  { exact⟨by show 0≤(gOf g.ws).n+1;omega,by show(gOf g.ws).n+1≤9;omega⟩ }
  { exact⟨Int.le_refl 0,by show(0:Int)≤9;decide⟩ }
  }
theorem zq6 {ts:List T3}: ∀{i:Nat},tgtsE i ts=0→∀t∈ts,t.2.2≤40:=by
  induction ts with
  |nil=>intro i _ t ht;cases ht
  |cons x r ih=>
    intro i h t ht;unfold tgtsE at h
    split at h
    {
    rename_i h1
    rcases List.mem_cons.1 ht with e|e
    { subst e;unfold tOK at h1;simp only [Bool.and_eq_true] at h1;exact(zd1.1 h1.2).2 }
    { exact ih h t e }
    }
    { cases h }
theorem zit {ss:List ByteArray}: ∀{ts:List T3} {ws:List (List Int)},zb2 ss ts ws=true→ws.length=ts.length→(∀t∈ts,t.2.2≤40)→∀r∈ws,r.length≤40
  |_, [],_,_,_,r,hr=>by cases hr
  | [],_::_,_,hl,_,_,_=>by cases hl
  |t::ts,w::ws,h,hl,ht,r,hr=>by
    unfold zb2 at h;simp only [Bool.and_eq_true] at h
    rcases List.mem_cons.1 hr with e|e
    {
    subst e;have h1:=h.1;unfold zcx at h1;simp only [Bool.and_eq_true,decide_eq_true_eq] at h1;have:=ht t (List.mem_cons_self ..);omega
    }
    { exact zit h.2 (by simpa using hl) (fun t h=>ht t (List.mem_cons_of_mem _ h)) r e }
theorem zq2 {ss:List ByteArray} {l:List S2} {g:Gt} {o:Of} {now:Int} (h: (gBeg ss l g o now).2.2=0) (_: (gBeg ss l g o now).2.1≠0):CSm ⟨0,o.v,o.u,o.ts,o.imgs⟩:=by
  unfold gBeg at h
  split at h
  { rename_i c;exact absurd h c }
  split at h
  { cases h }
  split at h
  { cases h }
  split at h
  { rename_i c;exact absurd h c }
  rename_i c
  have c:takeE ss l g.t o now g.vo.length=0:=Classical.byContradiction c;unfold takeE at c
  split at c
  {
  split at c
  {
  split at c
  {
  rename_i c3
  unfold crE at c3
  split at c3
  {
  rename_i c4
  unfold relE at c4
  split at c4
  {
  split at c4
  {
  rename_i c5
  have c5:=zd1.1 c5;unfold restE at c
  split at c
  { cases c }
  split at c
  { cases c }
  split at c
  { cases c }
  split at c
  { cases c }
  rename_i e1 e2
  have e1: (o.ts.length:Int)=g.vo.length:=Classical.byContradiction e1;have e2: (o.imgs.length:Int)=g.vo.length:=Classical.byContradiction e2
  split at c
  {
  rename_i c6
  refine⟨by show o.ts.length≤_;omega,by show o.imgs.length≤_;omega,fun r hr=> ?_⟩;have:=zit c6 (by omega) (zq6 c4) r hr;omega
  }
  { cases c }
  }
  { cases c4 }
  }
  { cases c4 }
  }
  { rename_i c4;exact absurd c3 c4 }
  }
  { rename_i c3;exact absurd c c3 }
  }
  { rename_i c2;exact absurd c c2 }
  }
  { rename_i c1;exact absurd c c1 }
structure BgP (W:World) (r:Gt×Int×Int) (bg:Nat) (k3:GA) (wc:World):Prop where
  box:wc.heap[bg]?=some (gtO r.1 k3)
  gin:GIn wc k3 r.1
  fr:GFr W.heap.size k3
  bel:Below W.heap.size W wc
  lo:W.heap.size≤bg
theorem zpn (F:Nat) (Z:Nat→Prop) (q:VB) (m:VA) (v:Vh) (o:Of) (mo:OA) (w:World) (h:VOwn w F Z q m v) (ok:VOk w F Z m v) (ho: ∀W,Below F w W→BO W mo o):
    Calls Tryz.prog 123 #[.pointer (some ⟨q.B,0,none⟩),offv o.v o.u mo] w (HV w F Z q.B (propS v o)):=by
  have hb1:Below w.heap.size w (w.alloc (.cells (aO mo o) 47)):=bA1;have b1:=hide (heap_alloc_last w (.cells (aO mo o) 47));have hlt:=h.lt;have hBw0:=zak h.box;have H1:=hide (h.below hb1);have HB:=hide (fun W (hW:Below (w.alloc (.cells (aO mo o) 47)).heap.size (w.alloc (.cells (aO mo o) 47)) W)=>zml m.ab m.nb m.cb v.ss m.sa m.ns m.cs v.sg v.g m.g o mo v.now W (H1.out.ss.below hW) (H1.out.sg.below hW) (H1.out.g.below hW) (ho W ((hb1.mono hlt).trans (hW.mono (Nat.le_trans hlt hb1.size)))) (ok.tab W ((hb1.mono hlt).trans (hW.mono (Nat.le_trans hlt hb1.size)))));have HS:Hid (∀W',Below (w.alloc (.cells (aO mo o) 47)).heap.size (w.alloc (.cells (aO mo o) 47)) W' →W'.cell? ⟨q.B,0,none⟩=some (.slice m.ab m.nb m.cb)∧W'.cell? ⟨q.B,1,none⟩=some (.slice m.sa m.ns m.cs)∧W'.cell? ⟨q.B,2,none⟩=some (.slice m.g.a m.g.n m.g.c)∧W'.cell? ⟨q.B,3,none⟩=some (.int .i64 v.g.fu)∧W'.cell? ⟨q.B,4,none⟩=some (.bool v.g.up)∧W'.cell? ⟨q.B,5,none⟩=some (.int .i64 v.g.t.r.v)∧W'.cell? ⟨q.B,6,none⟩=some (.slice m.g.ak m.g.nk m.g.ck)∧W'.cell? ⟨q.B,7,none⟩=some (.int .i64 v.g.t.r.t)∧W'.cell? ⟨q.B,8,none⟩=some (.int .i64 v.g.t.ver)∧W'.cell? ⟨q.B,9,none⟩=some (.slice m.g.av m.g.nv m.g.cv)∧W'.cell? ⟨q.B,10,none⟩=some (.slice m.g.ad m.g.nd m.g.cd)∧W'.cell? ⟨q.B,14,none⟩=some (.int .i64 v.now)∧W'.cell? ⟨w.heap.size,0,none⟩=some (.slice mo.a1 mo.n1 mo.c1)∧W'.cell? ⟨w.heap.size,1,none⟩=some (.slice mo.a2 mo.n2 mo.c2)∧W'.cell? ⟨w.heap.size,2,none⟩=some (.int .i64 o.v)∧W'.cell? ⟨w.heap.size,3,none⟩=some (.int .i64 o.u)∧W'.cell? ⟨w.heap.size,4,none⟩=some (.slice mo.a3 mo.n3 mo.c3)∧W'.cell? ⟨w.heap.size,5,none⟩=some (.slice mo.a4 mo.n4 mo.c4)∧W'.cell? ⟨w.heap.size,6,none⟩=some (.slice mo.a5 mo.n5 mo.c5)):=fun W' hW=>by
    have g:=H1.out.below hW;have k:=zab b1.out hW;exact⟨zaa g.box 0 _ rfl,zaa g.box 1 _ rfl,zaa g.box 2 _ rfl,zaa g.box 3 _ rfl,zaa g.box 4 _ rfl,zaa g.box 5 _ rfl,zaa g.box 6 _ rfl,zaa g.box 7 _ rfl,zaa g.box 8 _ rfl,zaa g.box 9 _ rfl,zaa g.box 10 _ rfl,zaa g.box 14 _ rfl,zaa k 0 _ rfl,zaa k 1 _ rfl,zaa k 2 _ rfl,zaa k 3 _ rfl,zaa k 4 _ rfl,zaa k 5 _ rfl,zaa k 6 _ rfl⟩
  have HBO:=hide ho;have HSm:Hid ((gBeg v.ss v.sg v.g o v.now).2.2=0→(gBeg v.ss v.sg v.g o v.now).2.1≠0→CSm ⟨0,o.v,o.u,o.ts,o.imgs⟩):=zq2;have HP:Hid (propS v o=if(gBeg v.ss v.sg v.g o v.now).2.2≠0 then(vh0,(gBeg v.ss v.sg v.g o v.now).2.2)
    else if(gBeg v.ss v.sg v.g o v.now).2.1=0 then(⟨v.ss,v.sg,(gBeg v.ss v.sg v.g o v.now).1,v.us,v.cs,v.net,v.now⟩,0)
    else(⟨v.ss,v.sg,(gBeg v.ss v.sg v.g o v.now).1,v.us,v.cs.take ((gBeg v.ss v.sg v.g o v.now).2.1 - 1).toNat++ [⟨(gBeg v.ss v.sg v.g o v.now).2.1,o.v,o.u,o.ts,o.imgs⟩],v.net,v.now⟩,0)):=rfl
  have HN:Hid (0≤(gBeg v.ss v.sg v.g o v.now).2.1∧(gBeg v.ss v.sg v.g o v.now).2.1≤9):=gBeg_n _ _ _ _ _;unfold bookv gtv offv at HB;unfold offv;clear h ok ho;generalize gBeg v.ss v.sg v.g o v.now=r at *;go_enter Tryz.func123,Tryz.ntmps123;go_upto_region 1 with fail
  generalize w.alloc (.cells (aO mo o) 47)=W1 at *
  go_cut [5,6,7] (fun v5 v6 v7 wc=>∃bg k3,v5=.pointer (some ⟨bg,0,none⟩)∧v6=.int .i64 r.2.1∧v7=.int .i64 r.2.2∧Hid (BgP W1 r bg k3 wc))
  case first=>
    have hd0:Below W1.heap.size W1 W1.drew:=(Below.refl _ _).drew;refine wp_region_held_drew (S:=fun W' =>W'.cell? ⟨q.B,0,none⟩=some (.slice m.ab m.nb m.cb)∧W'.cell? ⟨q.B,1,none⟩=some (.slice m.sa m.ns m.cs)∧W'.cell? ⟨q.B,2,none⟩=some (.slice m.g.a m.g.n m.g.c)∧W'.cell? ⟨q.B,3,none⟩=some (.int .i64 v.g.fu)∧W'.cell? ⟨q.B,4,none⟩=some (.bool v.g.up)∧W'.cell? ⟨q.B,5,none⟩=some (.int .i64 v.g.t.r.v)∧W'.cell? ⟨q.B,6,none⟩=some (.slice m.g.ak m.g.nk m.g.ck)∧W'.cell? ⟨q.B,7,none⟩=some (.int .i64 v.g.t.r.t)∧W'.cell? ⟨q.B,8,none⟩=some (.int .i64 v.g.t.ver)∧W'.cell? ⟨q.B,9,none⟩=some (.slice m.g.av m.g.nv m.g.cv)∧W'.cell? ⟨q.B,10,none⟩=some (.slice m.g.ad m.g.nd m.g.cd)∧W'.cell? ⟨q.B,14,none⟩=some (.int .i64 v.now)∧W'.cell? ⟨w.heap.size,0,none⟩=some (.slice mo.a1 mo.n1 mo.c1)∧W'.cell? ⟨w.heap.size,1,none⟩=some (.slice mo.a2 mo.n2 mo.c2)∧W'.cell? ⟨w.heap.size,2,none⟩=some (.int .i64 o.v)∧W'.cell? ⟨w.heap.size,3,none⟩=some (.int .i64 o.u)∧W'.cell? ⟨w.heap.size,4,none⟩=some (.slice mo.a3 mo.n3 mo.c3)∧W'.cell? ⟨w.heap.size,5,none⟩=some (.slice mo.a4 mo.n4 mo.c4)∧W'.cell? ⟨w.heap.size,6,none⟩=some (.slice mo.a5 mo.n5 mo.c5)) (by kernel_rfl) (HS.out _ hd0) ?_;intro hHeld;refine Htk (i:=0) ?_
    try simp only [sq]
    refine Htk (i:=1) ?_
    try simp only [sq]
    refine Htk (i:=2) ?_
    try simp only [sq]
    refine Htk (i:=3) ?_
    try simp only [sq]
    refine Htk (i:=4) ?_
    try simp only [sq]
    refine Htk (i:=5) ?_
    try simp only [sq]
    refine Htk (i:=6) ?_
    try simp only [sq]
    refine Htk (i:=7) ?_
    try simp only [sq]
    refine Htk (i:=8) ?_
    try simp only [sq]
    refine Htk (i:=9) ?_
    try simp only [sq]
    refine Htk (i:=10) ?_
    try simp only [sq]
    refine Htk (i:=11) ?_
    try simp only [sq]
    refine Htk (i:=12) ?_
    try simp only [sq]
    refine Htk (i:=13) ?_
    try simp only [sq]
    refine Htk (i:=14) ?_
    try simp only [sq]
    refine Htk (i:=15) ?_
    try simp only [sq]
    refine Htk (i:=16) ?_
    try simp only [sq]
    refine wpAnyH_ready (rs:= [17,22]) (by kernel_rfl) (by simp) ?_;refine AllReadyH.cons (by rfl) (fun K hK=> ?_) (AllReadyH.cons (by rfl) (fun K hK=> ?_) AllReadyH.nil)
    {
    go_simp;refine(zae HB _ hd0).mono ?_;rintro e w3 ⟨⟨k3,rfl,g3,e3⟩,hb3⟩;unfold gtv;have hd3:Below W1.heap.size W1 w3:=hd0.trans hb3;refine hK.out _ _ (HS.out _ hd3) (fun hHeld=> ?_);clear hK K
    try simp only [sq]
    refine Htk (i:=18) ?_
    try simp only [sq]
    refine Htk (i:=19) ?_
    try simp only [sq]
    refine Htk (i:=20) ?_
    try simp only [sq]
    refine Htk (i:=21) ?_
    try simp only [sq]
    refine wpAnyH_ready (rs:= [22]) (by kernel_rfl) (by simp) ?_;refine AllReadyH.cons (by rfl) (fun K hK=> ?_) AllReadyH.nil;go_simp;have hd4:Below W1.heap.size W1 (w3.alloc (.cells aY 35)):=hd3.alloc hd3.size _;refine hK.out _ _ (HS.out _ hd4) (fun hHeld=> ?_);clear hK K
    try simp only [sq]
    refine wpAnyH_ready (rs:= [23]) (by kernel_rfl) (by simp) ?_;refine AllReadyH.cons (by rfl) (fun K hK=> ?_) AllReadyH.nil;go_simp;have hd5:Below W1.heap.size W1 (w3.alloc (.cells #[.slice k3.a k3.n k3.c,.int .i64 r.1.fu,.bool r.1.up,.int .i64 r.1.t.r.v,.slice k3.ak k3.nk k3.ck,.int .i64 r.1.t.r.t,.int .i64 r.1.t.ver,.slice k3.av k3.nv k3.cv,.slice k3.ad k3.nd k3.cd] 35)):=hd3.alloc hd3.size _;have HFn:Hid (BgP W1 r w3.heap.size k3 (w3.alloc (.cells #[.slice k3.a k3.n k3.c,.int .i64 r.1.fu,.bool r.1.up,.int .i64 r.1.t.r.v,.slice k3.ak k3.nk k3.ck,.int .i64 r.1.t.r.t,.int .i64 r.1.t.ver,.slice k3.av k3.nv k3.cv,.slice k3.ad k3.nd k3.cd] 35))):=⟨heap_alloc_last w3 (.cells #[.slice k3.a k3.n k3.c,.int .i64 r.1.fu,.bool r.1.up,.int .i64 r.1.t.r.v,.slice k3.ak k3.nk k3.ck,.int .i64 r.1.t.r.t,.int .i64 r.1.t.ver,.slice k3.av k3.nv k3.cv,.slice k3.ad k3.nd k3.cd] 35),g3.below (bA1),e3,hd5,hd3.size⟩;refine hK.out _ _ (HS.out _ hd5) (fun hHeld=> ?_);clear hK K
    try simp only [sq]
    refine Htk (i:=24) ?_
    try simp only [sq]
    refine Htk (i:=25) ?_
    try simp only [sq]
    refine wpAnyH_done (by kernel_rfl) ?_ _;clear hd4 hd5 hd3 g3 e3 hb3 hHeld;go_wp2_with fail
    go_meet
    case rel=>exact⟨w3.heap.size,k3,rfl,rfl,rfl,HFn⟩
    }
    {
    go_simp;have hd1:Below W1.heap.size W1 (W1.drew.alloc (.cells aY 35)):=hd0.alloc (Nat.le_refl _) _;refine hK.out _ _ (HS.out _ hd1) (fun hHeld=> ?_);clear hK K
    try simp only [sq]
    refine wpAnyH_ready (rs:= [17]) (by kernel_rfl) (by simp) ?_;refine AllReadyH.cons (by rfl) (fun K hK=> ?_) AllReadyH.nil;go_simp;refine(zae HB _ hd1).mono ?_;rintro e w3 ⟨⟨k3,rfl,g3,e3⟩,hb3⟩;unfold gtv;have hd3:Below W1.heap.size W1 w3:=bT hd1 hb3;have bz:Hid (w3.heap[W1.heap.size]?=some (.cells aY 35 (0,0))):=zab (heap_alloc_last W1.drew (.cells aY 35)) hb3;obtain ⟨z0,z1,z2,z3,z4,z5,z6,z7,z8⟩:=cl9 bz.out;obtain ⟨y0,y1,y2,y3,y4,y5,y6,y7,y8⟩:=fr9 bz.out;have hch:Chg (fun b=>b=W1.heap.size) w3 (((((((((w3.setCell ⟨W1.heap.size,0,none⟩ (.slice k3.a k3.n k3.c)).setCell ⟨W1.heap.size,1,none⟩ (.int .i64 r.1.fu)).setCell ⟨W1.heap.size,2,none⟩ (.bool r.1.up)).setCell ⟨W1.heap.size,3,none⟩ (.int .i64 r.1.t.r.v)).setCell ⟨W1.heap.size,4,none⟩ (.slice k3.ak k3.nk k3.ck)).setCell ⟨W1.heap.size,5,none⟩ (.int .i64 r.1.t.r.t)).setCell ⟨W1.heap.size,6,none⟩ (.int .i64 r.1.t.ver)).setCell ⟨W1.heap.size,7,none⟩ (.slice k3.av k3.nv k3.cv)).setCell ⟨W1.heap.size,8,none⟩ (.slice k3.ad k3.nd k3.cd)):=((((((((((Chg.refl (fun b=>b=W1.heap.size) w3).set rfl _).set rfl _).set rfl _).set rfl _).set rfl _).set rfl _).set rfl _).set rfl _).set rfl _);have hd5:Below W1.heap.size W1 (((((((((w3.setCell ⟨W1.heap.size,0,none⟩ (.slice k3.a k3.n k3.c)).setCell ⟨W1.heap.size,1,none⟩ (.int .i64 r.1.fu)).setCell ⟨W1.heap.size,2,none⟩ (.bool r.1.up)).setCell ⟨W1.heap.size,3,none⟩ (.int .i64 r.1.t.r.v)).setCell ⟨W1.heap.size,4,none⟩ (.slice k3.ak k3.nk k3.ck)).setCell ⟨W1.heap.size,5,none⟩ (.int .i64 r.1.t.r.t)).setCell ⟨W1.heap.size,6,none⟩ (.int .i64 r.1.t.ver)).setCell ⟨W1.heap.size,7,none⟩ (.slice k3.av k3.nv k3.cv)).setCell ⟨W1.heap.size,8,none⟩ (.slice k3.ad k3.nd k3.cd)):=hd3.trans (hch.below (fun b e=>by omega) hd3.size);have HFn:Hid (BgP W1 r W1.heap.size k3 (((((((((w3.setCell ⟨W1.heap.size,0,none⟩ (.slice k3.a k3.n k3.c)).setCell ⟨W1.heap.size,1,none⟩ (.int .i64 r.1.fu)).setCell ⟨W1.heap.size,2,none⟩ (.bool r.1.up)).setCell ⟨W1.heap.size,3,none⟩ (.int .i64 r.1.t.r.v)).setCell ⟨W1.heap.size,4,none⟩ (.slice k3.ak k3.nk k3.ck)).setCell ⟨W1.heap.size,5,none⟩ (.int .i64 r.1.t.r.t)).setCell ⟨W1.heap.size,6,none⟩ (.int .i64 r.1.t.ver)).setCell ⟨W1.heap.size,7,none⟩ (.slice k3.av k3.nv k3.cv)).setCell ⟨W1.heap.size,8,none⟩ (.slice k3.ad k3.nd k3.cd))):=⟨by
        have bzo:=bz.out;unfold gtO;simp only [World.setCell,Array.getElem?_modify]
        simp [show w3.heap[W1.heap.size]?=some (.cells aY 35 (0,0)) from bzo],g3.chg hch (.fresh e3 fun b e=>by have e:b=W1.heap.size:=e;simp;omega),e3.lower (by simp),hd5,Nat.le_refl _⟩
    refine hK.out _ _ (HS.out _ hd3) (fun hHeld=> ?_);clear hK K
    try simp only [sq]
    refine Htk (i:=18) ?_
    try simp only [sq]
    refine Htk (i:=19) ?_
    try simp only [sq]
    refine Htk (i:=20) ?_
    try simp only [sq]
    refine Htk (i:=21) ?_
    try simp only [sq]
    refine wpAnyH_ready (rs:= [23]) (by kernel_rfl) (by simp) ?_;refine AllReadyH.cons (by rfl) (fun K hK=> ?_) AllReadyH.nil;go_simp;refine hK.out _ _ (HS.out _ hd5) (fun hHeld=> ?_);clear hK K
    try simp only [sq]
    refine Htk (i:=24) ?_
    try simp only [sq]
    refine Htk (i:=25) ?_
    try simp only [sq]
    refine wpAnyH_done (by kernel_rfl) ?_ _;clear hd1 hd5 hd3 g3 e3 hb3 hHeld hch z0 y0 z1 y1 z2 y2 z3 y3 z4 y4 z5 y5 z6 y6 z7 y7 z8 y8;go_wp2_with fail
    go_meet
    case rel=>exact⟨W1.heap.size,k3,rfl,rfl,rfl,HFn⟩
    }
  case rest=>
    obtain ⟨W3,rfl⟩: ∃W3:World,W3=wc:=⟨_,rfl⟩;obtain ⟨bg,k3,rfl,rfl,rfl,hP⟩:=hcut;have hBl:Below F w W3:=(hb1.mono hlt).trans (hP.out.bel.mono (Nat.le_trans hlt hb1.size))
    by_cases he:r.2.2=0
    rotate_left
    {
    have d: (r.2.2 !=0)=true:=by simpa using he
    have HE:Hid ((propS v o).2=r.2.2):=by rw [HP.out,if_pos he];exact rfl
    have HEz:=hide he;clear he;generalize r.2.2=y at *;go_wp2_with fail;go_ret;exact zbs HE.out HEz.out hBl
    }
    have d: (r.2.2 !=0)=false:=by simpa using he
    have HEz:=hide he;clear he HB HS;have H3:=H1.out.below hP.out.bel;have x2:=zaa H3.box 2 (.slice m.g.a m.g.n m.g.c) rfl;have f2:W3.frozen? ⟨q.B,2,none⟩=false:=zad H3.box 2;have x3:=zaa H3.box 3 (.int .i64 v.g.fu) rfl;have f3:W3.frozen? ⟨q.B,3,none⟩=false:=zad H3.box 3;have x4:=zaa H3.box 4 (.bool v.g.up) rfl;have f4:W3.frozen? ⟨q.B,4,none⟩=false:=zad H3.box 4;have x5:=zaa H3.box 5 (.int .i64 v.g.t.r.v) rfl;have f5:W3.frozen? ⟨q.B,5,none⟩=false:=zad H3.box 5;have x6:=zaa H3.box 6 (.slice m.g.ak m.g.nk m.g.ck) rfl;have f6:W3.frozen? ⟨q.B,6,none⟩=false:=zad H3.box 6;have x7:=zaa H3.box 7 (.int .i64 v.g.t.r.t) rfl;have f7:W3.frozen? ⟨q.B,7,none⟩=false:=zad H3.box 7;have x8:=zaa H3.box 8 (.int .i64 v.g.t.ver) rfl;have f8:W3.frozen? ⟨q.B,8,none⟩=false:=zad H3.box 8;have x9:=zaa H3.box 9 (.slice m.g.av m.g.nv m.g.cv) rfl;have f9:W3.frozen? ⟨q.B,9,none⟩=false:=zad H3.box 9;have x10:=zaa H3.box 10 (.slice m.g.ad m.g.nd m.g.cd) rfl;have f10:W3.frozen? ⟨q.B,10,none⟩=false:=zad H3.box 10;have t0:=zaa hP.out.box 0 (.slice k3.a k3.n k3.c) rfl;have t1:=zaa hP.out.box 1 (.int .i64 r.1.fu) rfl;have t2:=zaa hP.out.box 2 (.bool r.1.up) rfl;have t3:=zaa hP.out.box 3 (.int .i64 r.1.t.r.v) rfl;have t4:=zaa hP.out.box 4 (.slice k3.ak k3.nk k3.ck) rfl;have t5:=zaa hP.out.box 5 (.int .i64 r.1.t.r.t) rfl;have t6:=zaa hP.out.box 6 (.int .i64 r.1.t.ver) rfl;have t7:=zaa hP.out.box 7 (.slice k3.av k3.nv k3.cv) rfl;have t8:=zaa hP.out.box 8 (.slice k3.ad k3.nd k3.cd) rfl;have HW:Hid (VOwn (((((((((W3.setCell ⟨q.B,2,none⟩ (.slice k3.a k3.n k3.c)).setCell ⟨q.B,3,none⟩ (.int .i64 r.1.fu)).setCell ⟨q.B,4,none⟩ (.bool r.1.up)).setCell ⟨q.B,5,none⟩ (.int .i64 r.1.t.r.v)).setCell ⟨q.B,6,none⟩ (.slice k3.ak k3.nk k3.ck)).setCell ⟨q.B,7,none⟩ (.int .i64 r.1.t.r.t)).setCell ⟨q.B,8,none⟩ (.int .i64 r.1.t.ver)).setCell ⟨q.B,9,none⟩ (.slice k3.av k3.nv k3.cv)).setCell ⟨q.B,10,none⟩ (.slice k3.ad k3.nd k3.cd)) F Z q ⟨m.ab,m.nb,m.cb,m.sa,m.ns,m.cs,k3,m.au,m.nu,m.cu,m.ac,m.nc,m.cc,m.an,m.nn,m.cn⟩ ⟨v.ss,v.sg,r.1,v.us,v.cs,v.net,v.now⟩):=H1.out.gate hP.out.bel hP.out.gin hP.out.fr;have hch:Chg (fun b=>b=q.B) W3 (((((((((W3.setCell ⟨q.B,2,none⟩ (.slice k3.a k3.n k3.c)).setCell ⟨q.B,3,none⟩ (.int .i64 r.1.fu)).setCell ⟨q.B,4,none⟩ (.bool r.1.up)).setCell ⟨q.B,5,none⟩ (.int .i64 r.1.t.r.v)).setCell ⟨q.B,6,none⟩ (.slice k3.ak k3.nk k3.ck)).setCell ⟨q.B,7,none⟩ (.int .i64 r.1.t.r.t)).setCell ⟨q.B,8,none⟩ (.int .i64 r.1.t.ver)).setCell ⟨q.B,9,none⟩ (.slice k3.av k3.nv k3.cv)).setCell ⟨q.B,10,none⟩ (.slice k3.ad k3.nd k3.cd)):=((((((((((Chg.refl (fun b=>b=q.B) W3).set rfl _).set rfl _).set rfl _).set rfl _).set rfl _).set rfl _).set rfl _).set rfl _).set rfl _);have hfB:=H1.out.fB;have hBw:q.B<w.heap.size:=hBw0;have b3:=hide (hch.blk (zab b1.out hP.out.bel) (show¬w.heap.size=q.B by omega));have hB4:Below F w (((((((((W3.setCell ⟨q.B,2,none⟩ (.slice k3.a k3.n k3.c)).setCell ⟨q.B,3,none⟩ (.int .i64 r.1.fu)).setCell ⟨q.B,4,none⟩ (.bool r.1.up)).setCell ⟨q.B,5,none⟩ (.int .i64 r.1.t.r.v)).setCell ⟨q.B,6,none⟩ (.slice k3.ak k3.nk k3.ck)).setCell ⟨q.B,7,none⟩ (.int .i64 r.1.t.r.t)).setCell ⟨q.B,8,none⟩ (.int .i64 r.1.t.ver)).setCell ⟨q.B,9,none⟩ (.slice k3.av k3.nv k3.cv)).setCell ⟨q.B,10,none⟩ (.slice k3.ad k3.nd k3.cd)):=hBl.trans (hch.below (fun b e=>by rw [e];exact hfB) (Nat.le_trans hlt hBl.size));clear H3 hch;go_upto_region 5 with fail
    generalize (((((((((W3.setCell ⟨q.B,2,none⟩ (.slice k3.a k3.n k3.c)).setCell ⟨q.B,3,none⟩ (.int .i64 r.1.fu)).setCell ⟨q.B,4,none⟩ (.bool r.1.up)).setCell ⟨q.B,5,none⟩ (.int .i64 r.1.t.r.v)).setCell ⟨q.B,6,none⟩ (.slice k3.ak k3.nk k3.ck)).setCell ⟨q.B,7,none⟩ (.int .i64 r.1.t.r.t)).setCell ⟨q.B,8,none⟩ (.int .i64 r.1.t.ver)).setCell ⟨q.B,9,none⟩ (.slice k3.av k3.nv k3.cv)).setCell ⟨q.B,10,none⟩ (.slice k3.ad k3.nd k3.cd))=W4 at *;clear x2 f2 x3 f3 x4 f4 x5 f5 x6 f6 x7 f7 x8 f8 x9 f9 x10 f10 t0 t1 t2 t3 t4 t5 t6 t7 t8
    by_cases hn0:r.2.1=0
    {
    have d2: (r.2.1==0)=true:=by simpa using hn0
    have HE:Hid (propS v o= (⟨v.ss,v.sg,r.1,v.us,v.cs,v.net,v.now⟩,0)):=by rw [HP.out,if_neg (by simpa using HEz.out),if_pos hn0];exact rfl
    clear hn0;generalize r.2.1=y at *;generalize r.2.2=y2 at *;go_wp2_with fail;go_ret;exact hv_ok HE.out hB4 HW.out
    }
    have d2: (r.2.1==0)=false:=by simpa using hn0
    replace HSm:=hide (HSm.out HEz.out hn0);obtain ⟨n9,hn9⟩: ∃n9,n9=r.2.1:=⟨_,rfl⟩;have HE:Hid (propS v o= (⟨v.ss,v.sg,r.1,v.us,v.cs.take (n9 - 1).toNat++ [⟨n9,o.v,o.u,o.ts,o.imgs⟩],v.net,v.now⟩,0)):=by rw [HP.out,if_neg (by simpa using HEz.out),if_neg hn0,hn9];exact rfl
    have hnr:=HN.out;rw [←hn9] at hnr hn0 d2;rw [←hn9];clear hn9 HN HP HEz;generalize r.2.1=y at *;generalize r.2.2=y2 at *;have hnl:=HW.out.cs.len;have hat:=HW.out.cs.at_;dsimp only at hnl hat;obtain ⟨k0,hk0⟩: ∃k0:Nat,k0=min (n9 - 1).toNat m.nc:=⟨_,rfl⟩;have hmin:min (n9 - 1) (m.nc:Int)= (k0:Int):=by omega
    have hwr:IntKind.i64.wrap (n9 - 1)=n9 - 1:=by rw [IntKind.wrap_i64];omega
    have hcap:=HW.out.cs.caps;dsimp only at hcap;have i2: (k0:Int)≤(m.cc:Int):=by omega
    have x12:=zaa HW.out.box 12 (.slice m.ac m.nc m.cc) rfl;rw [hat] at x12;have HKo:=hide hk0;have HNr:=hide hnr;clear hk0 hnr hn0;go_upto_region 7 with fail
    refine wp_region_held_drew (S:=fun W' =>W'.cell? ⟨q.B,12,none⟩=some (.slice (some ⟨q.bc,0,none⟩) m.nc m.cc)) (by kernel_rfl) x12 ?_;intro hHeld;refine Htk (i:=0) ?_
    try simp only [sq]
    refine Htk (i:=1) ?_
    try simp only [sq]
    refine Htk (i:=2) ?_
    try simp only [sq]
    refine Htk (i:=3) ?_
    try simp only [sq]
    refine Htk (i:=4) ?_
    try simp only [sq]
    refine Htk (i:=5) ?_
    try simp only [sq]
    refine Htk (i:=6) ?_
    try simp only [sq]
    refine Htk (i:=7) ?_
    try simp only [sq]
    refine Htk (i:=8) ?_
    try simp only [sq]
    refine Htk (i:=9) ?_
    try simp only [sq]
    refine Htk (i:=10) ?_
    try simp only [sq]
    refine Htk (i:=11) ?_
    try simp only [sq]
    refine Htk (i:=12) ?_
    try simp only [sq]
    refine Htk (i:=13) ?_
    try simp only [sq]
    refine wpAnyH_done (by kernel_rfl) ?_ _;have hbd:Below W4.heap.size W4 W4.drew:=(Below.refl _ _).drew;have HX:=hide (HW.out.below hbd);have hBX:Below F w W4.drew:=hB4.trans (hbd.mono (Nat.le_trans hlt hB4.size));replace b3:=hide (zab b3.out hbd);generalize W4.drew=X at *;have z2:=zaa b3.out 2 _ rfl;have z3:=zaa b3.out 3 _ rfl;have z4:=zaa b3.out 4 _ rfl;have z6:=zaa b3.out 6 _ rfl;have HTw:=hide (zfb ⟨n9,o.v,o.u,o.ts,o.imgs⟩ ⟨mo.a3,mo.n3,mo.c3,mo.a5,mo.n5,mo.c5⟩ (fun _=>False) X (off_ci (HBO.out X hBX) n9) HSm.out.1 HSm.out.2.1 HSm.out.2.2);unfold cpv at HTw;clear x12 hHeld hmin i2 hwr d d2;go_wp2_with fail;refine(zae HTw).mono ?_;rintro e w5 ⟨⟨m4,rfl,hcr⟩,hb5⟩;have hb6:Below X.heap.size X (w5.alloc (.cells #[.int .i64 n9,.int .i64 o.v,.int .i64 o.u,.slice m4.at_ m4.nt m4.ct,.slice m4.ai m4.ni m4.ci] 94)):=hb5.alloc hb5.size _;have hb6' :Below w5.heap.size w5 (w5.alloc (.cells #[.int .i64 n9,.int .i64 o.v,.int .i64 o.u,.slice m4.at_ m4.nt m4.ct,.slice m4.ai m4.ni m4.ci] 94)):=bA1;have H6:=hide (HX.out.below hb6);have hnr6:IsRow (w5.alloc (.cells #[.int .i64 n9,.int .i64 o.v,.int .i64 o.u,.slice m4.at_ m4.nt m4.ct,.slice m4.ai m4.ni m4.ci] 94)) (some ⟨w5.heap.size,0,none⟩) [.int .i64 n9,.int .i64 o.v,.int .i64 o.u,.slice m4.at_ m4.nt m4.ct,.slice m4.ai m4.ni m4.ci]:=zcq (heap_alloc_last w5 (.cells #[.int .i64 n9,.int .i64 o.v,.int .i64 o.u,.slice m4.at_ m4.nt m4.ct,.slice m4.ai m4.ni m4.ci] 94));have hcr6:CR (w5.alloc (.cells #[.int .i64 n9,.int .i64 o.v,.int .i64 o.u,.slice m4.at_ m4.nt m4.ct,.slice m4.ai m4.ni m4.ci] 94)) (KV Z q) ⟨n9,o.v,o.u,o.ts,o.imgs⟩ [.int .i64 n9,.int .i64 o.v,.int .i64 o.u,.slice m4.at_ m4.nt m4.ct,.slice m4.ai m4.ni m4.ci]:=CR.off (fun b e=>.inl (HX.out.kv b e)) _ _ (CR.chg (.of hb6' _) _ _ hcr);obtain ⟨vs,ho6,hv6⟩:=H6.out.cs.row;dsimp only at ho6;rw [hat] at ho6;have hown: (w5.alloc (.cells #[.int .i64 n9,.int .i64 o.v,.int .i64 o.u,.slice m4.at_ m4.nt m4.ct,.slice m4.ai m4.ni m4.ci] 94)).ownsRow F 94 5 (.slice (some ⟨q.bc,0,none⟩) k0 m.cc) k0 (vs.take (k0 * 5)):=by
      have hko:=HKo.out;obtain ⟨l0,⟨l1,-⟩| ⟨g9,cap,cur,l1,l2,l3,l4,l5,l6,l7⟩⟩:=ho6
      { cases l1 }
      {
      cases l1;refine⟨by rw [List.length_take,l0];omega,.inr ⟨q.bc,m.cc,cur,rfl,l2,l3,by omega,l5,l6, ?_⟩⟩;rw [←l7,List.take_take,Nat.min_eq_left (by omega)]
      }
    obtain ⟨irr,hir,rz0,rz1,rz2⟩:=info_parts infoByC;obtain ⟨v',w7,ha,ho7,hg7,hn7,hat7⟩:=run_append_own_at (P:=Tryz.prog) (w5.alloc (.cells #[.int .i64 n9,.int .i64 o.v,.int .i64 o.u,.slice m4.at_ m4.nt m4.ct,.slice m4.ai m4.ni m4.ci] 94)) F 37 37 94 irr _ 5 72 Tryz.underlying37 hir rz0 rz1 rz2 rfl (by omega) (.slice (some ⟨q.bc,0,none⟩) k0 m.cc) k0 _ hown ⟨w5.heap.size,0,none⟩ 1 1 [.int .i64 n9,.int .i64 o.v,.int .i64 o.u,.slice m4.at_ m4.nt m4.ct,.slice m4.ai m4.ni m4.ci] rfl (fun j u hu=>by rw [zc2];rcases hnr6 with hx| ⟨b,off,hx,hy⟩;cases hx;cases hx;exact hy j u hu) (CR.one _ _ hcr6) (by have:=HKo.out;have:=HNr.out;unfold maxLen;omega) (by have:=HKo.out;have:=HNr.out;omega) (Nat.le_trans (Nat.le_trans hlt hBX.size) hb6.size);obtain ⟨b',c',rfl,hb'⟩: ∃b' c',v' =.slice (some ⟨b',0,none⟩) (k0+1) c' ∧(b' =q.bc∨(w5.alloc (.cells #[.int .i64 n9,.int .i64 o.v,.int .i64 o.u,.slice m4.at_ m4.nt m4.ct,.slice m4.ai m4.ni m4.ci] 94)).heap.size≤b'):=by
      obtain ⟨-,⟨e6,-⟩| ⟨g',c',cur',e6,-⟩⟩:=ho7
      { exact absurd (hn7.1 e6).2 (by decide) }
      {
      subst e6;refine⟨g',c',rfl, ?_⟩
      rcases hat7 with e5|e5
      { exact .inl (Option.some.inj e5) }
      { exact .inr (Nat.le_of_eq (Option.some.inj e5).symm) }
      }
    have hcK:Chg (fun b=>b=q.bc) (w5.alloc (.cells #[.int .i64 n9,.int .i64 o.v,.int .i64 o.u,.slice m4.at_ m4.nt m4.ct,.slice m4.ai m4.ni m4.ci] 94)) w7:=.grown hg7 (fun b e=>by cases e;rfl);have HFn:=hide (H6.out.setCamps (b' :=b') (n:=k0+1) (c:=c') (l:=v.cs.take k0++ [⟨n9,o.v,o.u,o.ts,o.imgs⟩]) hcK hb' ho7 (by
      have hC2:Chg (fun b=>KV Z q b∨(w5.alloc (.cells #[.int .i64 n9,.int .i64 o.v,.int .i64 o.u,.slice m4.at_ m4.nt m4.ct,.slice m4.ai m4.ni m4.ci] 94)).heap.size≤b) (w5.alloc (.cells #[.int .i64 n9,.int .i64 o.v,.int .i64 o.u,.slice m4.at_ m4.nt m4.ct,.slice m4.ai m4.ni m4.ci] 94)) w7:=hcK.mono fun b e=>.inl (kv_bc e)
      have g1:=(((hv6.take CR.len k0).app (vs_one hcr6)).mono (CR.off (K' :=fun b=>KV Z q b∨(w5.alloc (.cells #[.int .i64 n9,.int .i64 o.v,.int .i64 o.u,.slice m4.at_ m4.nt m4.ct,.slice m4.ai m4.ni m4.ci] 94)).heap.size≤b) fun b e=>e)).mono (CR.chg hC2);exact g1.mono (CR.off fun b e=>.inl (kv_camp hb' e))) (by rw [List.length_append,List.length_take];have:=HKo.out;simp;omega))
    have hB7:Below F w w7:=(hBX.trans (hb6.mono (Nat.le_trans hlt hBX.size))).trans (hcK.below (fun b e=>by rw [e];exact H6.out.cs.lt.1) (Nat.le_trans (Nat.le_trans hlt hBX.size) hb6.size));have hn2:=H6.out.n2;have x12: (w5.alloc (.cells #[.int .i64 n9,.int .i64 o.v,.int .i64 o.u,.slice m4.at_ m4.nt m4.ct,.slice m4.ai m4.ni m4.ci] 94)).cell? ⟨q.B,12,none⟩=some (.slice m.ac m.nc m.cc):=zaa H6.out.box 12 _ rfl;have y12:=hcK.cell x12 hn2;have f12:w7.frozen? ⟨q.B,12,none⟩=false:=by rw [World.frozen?_of_block (w:=(w5.alloc (.cells #[.int .i64 n9,.int .i64 o.v,.int .i64 o.u,.slice m4.at_ m4.nt m4.ct,.slice m4.ai m4.ni m4.ci] 94))) (hcK.block q.B (zak H6.out.box) hn2)];exact zad H6.out.box 12
    have HTk:Hid (v.cs.take (n9 - 1).toNat=v.cs.take k0):=by
      have hko:=HKo.out
      by_cases hc: (n9 - 1).toNat≤m.nc
      { rw [show k0= (n9 - 1).toNat by omega];exact rfl }
      { rw [List.take_of_length_le (by omega),List.take_of_length_le (by omega)];exact rfl }
    have hbF:Below F w (w7.setCell ⟨q.B,12,none⟩ (.slice (some ⟨b',0,none⟩) (k0+1) c')):=hB7.setCell hfB _;rw [HTk.out] at HE;clear x12 hcK hg7 hn7 hat7 ho7 hown ho6 hv6 hcr6 hnr6 hcr HTw z2 z3 z4 z6 hb' rz0 rz1 rz2 hir
    go_wp2_with (at_builtin;refine zlg rfl _ _ _ _ rfl (.slice (some ⟨q.bc,0,none⟩) k0 m.cc) (.slice (some ⟨w5.heap.size,0,none⟩) 1 1) rfl rfl _ _ ha ?_)
    go_ret;exact hv_ok (q:=⟨q.B,q.bu,b',q.bn⟩) HE.out hbF HFn.out
end
end Go.Proofs.YthmekfcgdfckaaaGreatDoor
