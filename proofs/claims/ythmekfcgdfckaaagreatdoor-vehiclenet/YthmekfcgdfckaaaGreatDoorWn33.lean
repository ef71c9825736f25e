/- The contracts of vehicle.twinGate, copiedBy, twinCampaign. The contracts of vehicle.copiedBy at campaigns, twinGate. -/
import Derived.Test.YthmekfcgdfckaaaGreatDoorWn28
set_option maxRecDepth 1000000
set_option maxHeartbeats 0
namespace Go.Proofs.YthmekfcgdfckaaaGreatDoor
variable {w:World} {a:Option Addr} {ts:List T3} {bs:List Bool} {K:Nat→Prop}
section
open Go.RowKit
attribute [local go_sem ↓] Go.wp_at_zero Go.wp_at_succ
theorem zbe {g:Nat} {cur:Array Value} {t:TypeId} {i:Nat} (h:w.heap[g]?=some (.cells cur t (0,0))) (hi:i<cur.size): ∃v,w.cell? ⟨g,i,none⟩=some v∧w.frozen? ⟨g,i,none⟩=false:=
  ⟨cur[i],zaa h i _ (by simp [hi]),zad h i⟩
def tgs (ts:List T3):List Value:=(ts.map fun t=> [Value.int .i64 t.1,Value.int .i64 t.2.1,Value.int .i64 t.2.2]).flatten
def sgs (ts:List S2):List Value:=(ts.map fun t=> [Value.int .i64 t.1,Value.int .i64 t.2]).flatten
def bls (bs:List Bool):List Value:=bs.map Value.bool
theorem zj5: ∀ts:List T3,Vs (fun t c=>c= [Value.int .i64 t.1,Value.int .i64 t.2.1,Value.int .i64 t.2.2]) ts (tgs ts)
  | []=>rfl
  |_::r=>⟨_,tgs r,rfl,rfl,zj5 r⟩
theorem zkj: ∀ts:List S2,Vs (fun t c=>c= [Value.int .i64 t.1,Value.int .i64 t.2]) ts (sgs ts)
  | []=>rfl
  |_::r=>⟨_,sgs r,rfl,rfl,zkj r⟩
theorem tgs_len (ts:List T3): (tgs ts).length=ts.length * 3:=(zj5 ts).len (fun x c h=>by rw [h];rfl)
theorem sgs_len (ts:List S2): (sgs ts).length=ts.length * 2:=(zkj ts).len (fun x c h=>by rw [h];rfl)
theorem tgs_one: ∀(ts:List T3) (v:Value),v∈tgs ts→v.oneCell' =true
  | [],_,hv=>by cases hv
  |t::r,v,hv=>by
    rcases List.mem_append.1 (show v∈ [Value.int .i64 t.1,Value.int .i64 t.2.1,Value.int .i64 t.2.2]++tgs r from hv) with h|h
    {
    simp at h
    rcases h with rfl|rfl|rfl<;>rfl
    }
    { exact tgs_one r v h }
theorem zlr: ∀(ts:List S2) (v:Value),v∈sgs ts→v.oneCell' =true
  | [],_,hv=>by cases hv
  |t::r,v,hv=>by
    rcases List.mem_append.1 (show v∈ [Value.int .i64 t.1,Value.int .i64 t.2]++sgs r from hv) with h|h
    {
    simp at h
    rcases h with rfl|rfl<;>rfl
    }
    { exact zlr r v h }
theorem bls_one (bs:List Bool): ∀v∈bls bs,v.oneCell' =true:=by
  intro v hv
  simp [bls] at hv
  rcases hv with ⟨-,rfl⟩| ⟨-,rfl⟩<;>rfl
theorem zk8 {α:Type} {R:α→List Value→Prop} {k:Nat} (hR: ∀x c,R x c→c.length=k) (hk:0<k): ∀{l:List α} {vs:List Value} (j:Nat) (u:Value),Vs R l vs→vs[j]?=some u→∃x c,l[j / k]?=some x∧R x c∧c[j % k]?=some u
  | [],vs,j,u,h,hu=>by have h:vs= []:=h;subst h;simp at hu
  |x::l,vs,j,u,⟨c,r,e,h1,h2⟩,hu=>by
    have hc:=hR _ _ h1
    by_cases hj:j<k
    {
    rw [e,List.getElem?_append_left (by omega)] at hu;exact⟨x,c,by rw [Nat.div_eq_of_lt hj];rfl,h1,by rw [Nat.mod_eq_of_lt hj];exact hu⟩
    }
    {
    rw [e,List.getElem?_append_right (by omega),hc] at hu;obtain ⟨y,d,q1,q2,q3⟩:=zk8 hR hk (j - k) u h2 hu;refine⟨y,d, ?_,q2, ?_⟩
    { rw [Nat.div_eq_sub_div hk (by omega)];simpa using q1 }
    { rw [Nat.mod_eq_sub_mod (by omega)];exact q3 }
    }
theorem tgs_row (h:zbm w a ts):IsRow w a (tgs ts):=by
  rcases h with rfl| ⟨b,off,rfl,hc⟩
  { exact .inl rfl }
  {
  refine .inr ⟨b,off,rfl,fun j u hu=> ?_⟩;obtain ⟨t,c,h1,rfl,h3⟩:=zk8 (k:=3) (fun x c h=>by rw [h];rfl) (by decide) j u (zj5 ts) hu;obtain ⟨c0,c1,c2⟩:=hc _ _ h1;have hj:j=j / 3 * 3+j % 3:=by omega
  have hlt:j % 3<3:=Nat.mod_lt _ (by decide);generalize j / 3=p at *;generalize j % 3=r at *;subst hj
  match r,hlt,h3 with
  |0,_,h3=>cases h3;exact c0
  |1,_,h3=>cases h3;exact c1
  |2,_,h3=>cases h3;exact c2
  }
theorem sgs_row {ts:List S2} (h:zcr w a ts):IsRow w a (sgs ts):=by
  rcases h with rfl| ⟨b,off,rfl,hc⟩
  { exact .inl rfl }
  {
  refine .inr ⟨b,off,rfl,fun j u hu=> ?_⟩;obtain ⟨t,c,h1,rfl,h3⟩:=zk8 (k:=2) (fun x c h=>by rw [h];rfl) (by decide) j u (zkj ts) hu;obtain ⟨c0,c1⟩:=hc _ _ h1;have hj:j=j / 2 * 2+j % 2:=by omega
  have hlt:j % 2<2:=Nat.mod_lt _ (by decide);generalize j / 2=p at *;generalize j % 2=r at *;subst hj
  match r,hlt,h3 with
  |0,_,h3=>cases h3;exact c0
  |1,_,h3=>cases h3;exact c1
  }
theorem bls_row (h:zbz w a bs):IsRow w a (bls bs):=by
  rcases h with rfl| ⟨b,off,rfl,hc⟩
  { exact .inl rfl }
  {
  refine .inr ⟨b,off,rfl,fun j u hu=> ?_⟩;have hj:j<bs.length:=by
    have:=(List.getElem?_eq_some_iff.1 hu).1
    simpa [bls] using this
  simp [bls,hj] at hu
  subst hu;rw [hc j hj]
  simp [hj]
  }
theorem tgs_of (h:IsRow w a (tgs ts)):zbm w a ts:=by
  cases ts with
  |nil=>exact .inl rfl
  |cons t0 r0=>
    rcases h with h| ⟨b,off,rfl,hc⟩
    { simp [tgs] at h }
    {
    refine .inr ⟨b,off,rfl,fun i t hi=> ?_⟩;obtain ⟨c,rfl,hg⟩:=(zj5 (t0::r0)).cell (k:=3) (fun x c h=>by rw [h];rfl) hi;exact⟨hc _ _ (hg 0 _ rfl),by rw [Nat.add_assoc];exact hc _ _ (hg 1 _ rfl),by rw [Nat.add_assoc];exact hc _ _ (hg 2 _ rfl)⟩
    }
theorem sgs_of {ts:List S2} (h:IsRow w a (sgs ts)):zcr w a ts:=by
  cases ts with
  |nil=>exact .inl rfl
  |cons t0 r0=>
    rcases h with h| ⟨b,off,rfl,hc⟩
    { simp [sgs] at h }
    {
    refine .inr ⟨b,off,rfl,fun i t hi=> ?_⟩;obtain ⟨c,rfl,hg⟩:=(zkj (t0::r0)).cell (k:=2) (fun x c h=>by rw [h];rfl) hi;exact⟨hc _ _ (hg 0 _ rfl),by rw [Nat.add_assoc];exact hc _ _ (hg 1 _ rfl)⟩
    }
theorem bls_of (h:IsRow w a (bls bs)):zbz w a bs:=by
  rcases h with h| ⟨b,off,rfl,hc⟩
  { exact .inl (by simpa [bls] using h) }
  { exact .inr ⟨b,off,rfl,fun i hi=>hc i _ (by simp [bls,hi])⟩ }
theorem infoByM: (Tryz.prog.info? 99).map (fun i=>(i.zero,i.size,i.bytes))=some (some (.agg #[.int .i64 0,.int .i64 0,.int .i64 0,.int .i64 0,.int .i64 0,.slice none 0 0,.bool false]),7,72):=by kernel_rfl
theorem zmo (a:Option Addr) (n c c0:Nat) (K:Nat→Prop) (l:List Ms) (w:World) (h:RIn MR w K a n c0 l) (hm:n≤1000000) (hs: ∀m∈l,m.ws.length≤1000000):
    Calls Tryz.prog 121 #[.slice a n c,.func (.func 122) #[] #[]] w (zhe MR 7 99 w l):=by
  obtain ⟨irr,hir,rz0,rz1,rz2⟩:=info_parts infoByM;obtain ⟨cur,hcs,hmk⟩:=zbh Tryz.prog w 38 99 irr _ 7 72 n Tryz.underlying38 hir rz0 rz1 rz2 (by omega) (by unfold maxLen;omega);have I0:Hid (CInv MR 7 99 w.heap.size n w l 0 (w.alloc (.cells cur 99))):=CInv.first hcs;obtain ⟨vs,h1,h2,-⟩:=h.row;have H1:=hide h1;have H2:=hide h2;have HN:=hide h.len;have HS:=hide hs;clear h1 h2 h hs hcs;have hnI: (n:Int)≤9223372036854775807:=by omega
  go_enter Tryz.func121,Tryz.ntmps121;go_wp2_with fail;generalize w.alloc (.cells cur 99)=W0 at *;clear hmk
  go_loopw [13] (fun i wq=>∃k:Nat,k≤n∧i=.int .i64 k∧Hid (CInv MR 7 99 w.heap.size n w l k wq)) (fun i _=>n - (intOf i).toNat)
  case atStart=>exact⟨0,by omega,rfl,I0⟩
  case round=>
    clear I0;obtain ⟨wq,rfl⟩: ∃wq:World,wq=wr:=⟨_,rfl⟩;obtain ⟨k,hk,rfl,hI⟩:=hrel
    by_cases hkn:k<n
    {
    have hkI: (k:Int)< (n:Int):=by omega
    have hul:k<l.length:=by rw [HN.out];exact hkn
    have hB:=hI.out.bel;have hsu:=HS.out _ (List.getElem_mem hul);obtain ⟨b,off,x,nx,cx,rfl,q0,-,y0,y1,y2,y3,y4,y5,y6⟩:=zgd H1.out H2.out (List.getElem?_eq_getElem hul);have HU:=hide (fun W (hW:Below w.heap.size w W)=>zf0 l[k] x nx cx W (q0.below hW) (by rw [←q0.len];exact hsu));unfold msv at HU;have HX:Hid (l[k]?=some l[k]):=List.getElem?_eq_getElem hul;generalize l[k]=u at *;replace y0:=(hB.cell (zah y0)).trans y0;replace y1:=(hB.cell (zah y1)).trans y1;replace y2:=(hB.cell (zah y2)).trans y2;replace y3:=(hB.cell (zah y3)).trans y3;replace y4:=(hB.cell (zah y4)).trans y4;replace y5:=(hB.cell (zah y5)).trans y5;replace y6:=(hB.cell (zah y6)).trans y6;have HK:Hid (k<n):=hkn;clear hkn hul hsu;have hb1:Below wq.heap.size wq (wq.alloc (.cells (aM u x nx cx) 99)):=bA1;go_wp2_with fail;refine(zae HU _ ((bT hB hb1))).mono ?_;rintro e w3 ⟨⟨g,hg,rfl⟩,hb3⟩;have hb4:=bT hb1 hb3;obtain ⟨cq,r1,r2,-⟩:=hI.out.row;have hro:=hide (zab r1 hb4);have hz:k * 7+7≤cq.size:=by rw [r2,←Nat.succ_mul];exact Nat.mul_le_mul_right _ HK.out
    obtain ⟨v0,z0,f0⟩:=zbe hro.out (i:=k * 7) (by omega);obtain ⟨v1,z1,f1⟩:=zbe hro.out (i:=k * 7+1) (by omega);obtain ⟨v2,z2,f2⟩:=zbe hro.out (i:=k * 7+2) (by omega);obtain ⟨v3,z3,f3⟩:=zbe hro.out (i:=k * 7+3) (by omega);obtain ⟨v4,z4,f4⟩:=zbe hro.out (i:=k * 7+4) (by omega);obtain ⟨v5,z5,f5⟩:=zbe hro.out (i:=k * 7+5) (by omega);obtain ⟨v6,z6,f6⟩:=zbe hro.out (i:=k * 7+6) (by omega);clear r1 r2;go_wp2_with fail;refine⟨⟨k+1,HK.out,by simp, ?_⟩,by have:=HK.out;simp [intOf];omega⟩;have hel:MR w3 (Out (wq.heap.size - 1)) u [.int .i64 u.k,.int .i64 u.u,.int .i64 u.n,.int .i64 u.at',.int .i64 u.im,.slice (some ⟨g,0,none⟩) nx nx,.bool u.y]:=⟨some ⟨g,0,none⟩,nx,nx,rfl,hg.2.2,.at_ (by show¬g≤wq.heap.size - 1;have:=hg.1;simp at this;omega)⟩;have hst:=hI.out.step MR.chg MR.off MR.len (Nat.le_refl _) HX.out (by rw [HN.out];exact Nat.le_refl _) hb4 hel;exact hst
    }
    {
    have hkk:k=n:=by omega
    subst hkk;clear hk hkn;go_wp2_with fail;go_ret;have hl:=HN.out;subst hl;exact hI.out.last (Nat.le_refl _)
    }
theorem infoByU: (Tryz.prog.info? 82).map (fun i=>(i.zero,i.size,i.bytes))=some (some (.agg #[.slice none 0 0,.int .i64 0,.bool false,.int .i64 0,.int .i64 0]),5,56):=by kernel_rfl
theorem infoByL: (Tryz.prog.info? 26).map (fun i=>(i.zero,i.size,i.bytes))=some (some (.slice none 0 0),1,24):=by kernel_rfl
theorem infoByC: (Tryz.prog.info? 94).map (fun i=>(i.zero,i.size,i.bytes))=some (some (.agg aW),5,72):=by kernel_rfl
theorem row_list {l:List (List Int)} {vs:List Value} {i:Nat} {r:List Int} (hr:IsRow w a vs) (h:Vs (LR w K) l vs) (hi:l[i]?=some r): ∃b off x c,a=some ⟨b,off,none⟩∧zag w x r∧r.length≤c∧c≤maxLen∧Ao r K x∧w.cell? ⟨b,off+i,none⟩=some (.slice x r.length c):=by
  obtain ⟨b,off,c,rfl,⟨x,cp,rfl,h1,h2,h3,h4⟩,hc⟩:=hr.elem LR.len (by decide) h hi;exact⟨b,off,x,cp,rfl,h1,h2,h3,h4,by have:=hc 0 _ rfl;rwa [Nat.mul_one] at this⟩
theorem zmp (a:Option Addr) (n c c0:Nat) (K:Nat→Prop) (l:List Un) (w:World) (h:RIn UR w K a n c0 l) (hm:n≤1000000) (hs: ∀m∈l,m.ws.length≤1000000):
    Calls Tryz.prog 116 #[.slice a n c,.func (.func 117) #[] #[]] w (zhe UR 5 82 w l):=by
  obtain ⟨irr,hir,rz0,rz1,rz2⟩:=info_parts infoByU;obtain ⟨cur,hcs,hmk⟩:=zbh Tryz.prog w 36 82 irr _ 5 56 n Tryz.underlying36 hir rz0 rz1 rz2 (by omega) (by unfold maxLen;omega);have I0:Hid (CInv UR 5 82 w.heap.size n w l 0 (w.alloc (.cells cur 82))):=CInv.first hcs;obtain ⟨vs,h1,h2,-⟩:=h.row;have H1:=hide h1;have H2:=hide h2;have HN:=hide h.len;have HS:=hide hs;clear h1 h2 h hs hcs;have hnI: (n:Int)≤9223372036854775807:=by omega
  go_enter Tryz.func116,Tryz.ntmps116;go_wp2_with fail;generalize w.alloc (.cells cur 82)=W0 at *;clear hmk
  go_loopw [13] (fun i wq=>∃k:Nat,k≤n∧i=.int .i64 k∧Hid (CInv UR 5 82 w.heap.size n w l k wq)) (fun i _=>n - (intOf i).toNat)
  case atStart=>exact⟨0,by omega,rfl,I0⟩
  case round=>
    clear I0;obtain ⟨wq,rfl⟩: ∃wq:World,wq=wr:=⟨_,rfl⟩;obtain ⟨k,hk,rfl,hI⟩:=hrel
    by_cases hkn:k<n
    {
    have hkI: (k:Int)< (n:Int):=by omega
    have hul:k<l.length:=by rw [HN.out];exact hkn
    have hB:=hI.out.bel;have hsu:=HS.out _ (List.getElem_mem hul);obtain ⟨b,off,x,nx,cx,rfl,q0,-,y0,y1,y2,y3,y4⟩:=zdz H1.out H2.out (List.getElem?_eq_getElem hul);have HU:=hide (fun W (hW:Below w.heap.size w W)=>zok l[k] x nx cx W (q0.below hW).bi (by rw [←q0.len];exact hsu));unfold unv at HU;have HX:Hid (l[k]?=some l[k]):=List.getElem?_eq_getElem hul;generalize l[k]=u at *;replace y0:=(hB.cell (zah y0)).trans y0;replace y1:=(hB.cell (zah y1)).trans y1;replace y2:=(hB.cell (zah y2)).trans y2;replace y3:=(hB.cell (zah y3)).trans y3;replace y4:=(hB.cell (zah y4)).trans y4;have HK:Hid (k<n):=hkn;clear hkn hul hsu;have hb1:Below wq.heap.size wq (wq.alloc (.cells (aU x nx cx u) 82)):=bA1;go_wp2_with fail;refine(zae HU _ ((bT hB hb1))).mono ?_;rintro e w3 ⟨⟨g,hg,rfl⟩,hb3⟩;have hb4:=bT hb1 hb3;obtain ⟨cq,r1,r2,-⟩:=hI.out.row;have hro:=hide (zab r1 hb4);have hz:k * 5+5≤cq.size:=by rw [r2,←Nat.succ_mul];exact Nat.mul_le_mul_right _ HK.out
    obtain ⟨v0,z0,f0⟩:=zbe hro.out (i:=k * 5) (by omega);obtain ⟨v1,z1,f1⟩:=zbe hro.out (i:=k * 5+1) (by omega);obtain ⟨v2,z2,f2⟩:=zbe hro.out (i:=k * 5+2) (by omega);obtain ⟨v3,z3,f3⟩:=zbe hro.out (i:=k * 5+3) (by omega);obtain ⟨v4,z4,f4⟩:=zbe hro.out (i:=k * 5+4) (by omega);clear r1 r2;go_wp2_with fail;refine⟨⟨k+1,HK.out,by simp, ?_⟩,by have:=HK.out;simp [intOf];omega⟩;have hel:UR w3 (Out (wq.heap.size - 1)) u [.slice (some ⟨g,0,none⟩) nx nx,.int .i64 u.fu,.bool u.up,.int .i64 u.n,.int .i64 u.hv]:=⟨some ⟨g,0,none⟩,nx,nx,rfl,⟨hg.2.2.at_,hg.2.2.len,Nat.le_refl _,hg.2.2.max⟩,.at_ (by show¬g≤wq.heap.size - 1;have:=hg.1;simp at this;omega)⟩;have hst:=hI.out.step UR.chg UR.off UR.len (Nat.le_refl _) HX.out (by rw [HN.out];exact Nat.le_refl _) hb4 hel;exact hst
    }
    {
    have hkk:k=n:=by omega
    subst hkk;clear hk hkn;go_wp2_with fail;go_ret;have hl:=HN.out;subst hl;exact hI.out.last (Nat.le_refl _)
    }
theorem zmx (a:Option Addr) (n c c0:Nat) (K:Nat→Prop) (l:List (List Int)) (w:World) (h:RIn LR w K a n c0 l) (hm:n≤1000000) (hs: ∀m∈l,m.length≤1000000):
    Calls Tryz.prog 187 #[.slice a n c,.func (.func 188) #[] #[]] w (zhe LR 1 26 w l):=by
  obtain ⟨irr,hir,rz0,rz1,rz2⟩:=info_parts infoByL;obtain ⟨cur,hcs,hmk⟩:=zbh Tryz.prog w 42 26 irr _ 1 24 n Tryz.underlying42 hir rz0 rz1 rz2 (by omega) (by unfold maxLen;omega);have I0:Hid (CInv LR 1 26 w.heap.size n w l 0 (w.alloc (.cells cur 26))):=CInv.first hcs;obtain ⟨vs,h1,h2,-⟩:=h.row;have H1:=hide h1;have H2:=hide h2;have HN:=hide h.len;have HS:=hide hs;clear h1 h2 h hs hcs;have hnI: (n:Int)≤9223372036854775807:=by omega
  go_enter Tryz.func187,Tryz.ntmps187;go_wp2_with fail;generalize w.alloc (.cells cur 26)=W0 at *;clear hmk
  go_loopw [13] (fun i wq=>∃k:Nat,k≤n∧i=.int .i64 k∧Hid (CInv LR 1 26 w.heap.size n w l k wq)) (fun i _=>n - (intOf i).toNat)
  case atStart=>exact⟨0,by omega,rfl,I0⟩
  case round=>
    clear I0;obtain ⟨wq,rfl⟩: ∃wq:World,wq=wr:=⟨_,rfl⟩;obtain ⟨k,hk,rfl,hI⟩:=hrel
    by_cases hkn:k<n
    {
    have hkI: (k:Int)< (n:Int):=by omega
    have hul:k<l.length:=by rw [HN.out];exact hkn
    have hB:=hI.out.bel;have hsu:=HS.out _ (List.getElem_mem hul);obtain ⟨b,off,x,cx,rfl,q0,qc,qm,-,y0⟩:=row_list H1.out H2.out (List.getElem?_eq_getElem hul);have HU:=hide (fun W (hW:Below w.heap.size w W)=>zmm l[k] x l[k].length cx W ⟨q0.below hW,rfl,Nat.le_trans qc qm⟩ hsu);have HX:Hid (l[k]?=some l[k]):=List.getElem?_eq_getElem hul;generalize l[k]=u at *;replace y0:=(hB.cell (zah y0)).trans y0;have HUL:=hide hsu;have HK:Hid (k<n):=hkn;clear hkn hul hsu;go_wp2_with fail;refine(zae HU _ hB).mono ?_;rintro e w3 ⟨rfl,rfl⟩;have hb3:Below wq.heap.size wq (wq.alloc (.cells (vals u).toArray 3)):=bA1;have hb4:=hb3;obtain ⟨cq,r1,r2,-⟩:=hI.out.row;have hro:=hide (zab r1 hb4);have hz:k * 1+1≤cq.size:=by rw [r2,←Nat.succ_mul];exact Nat.mul_le_mul_right _ HK.out
    obtain ⟨v0,z0,f0⟩:=zbe hro.out (i:=k) (by omega);clear r1 r2;go_wp2_with fail;refine⟨⟨k+1,HK.out,by simp, ?_⟩,by have:=HK.out;simp [intOf];omega⟩;have hel:LR (wq.alloc (.cells (vals u).toArray 3)) (Out (wq.heap.size - 1)) u [.slice (some ⟨wq.heap.size,0,none⟩) u.length u.length]:=⟨some ⟨wq.heap.size,0,none⟩,u.length,rfl,zgw (zcq (heap_alloc_last _ _)),Nat.le_refl _,by have:=HUL.out;unfold maxLen;omega,.at_ (by show¬wq.heap.size≤wq.heap.size - 1;have:=hI.out.lt;omega)⟩;have hst:=hI.out.step LR.chg LR.off LR.len (Nat.le_refl _) HX.out (by rw [HN.out];exact Nat.le_refl _) hb4 hel;rw [Nat.mul_one] at hst;exact hst
    }
    {
    have hkk:k=n:=by omega
    subst hkk;clear hk hkn;go_wp2_with fail;go_ret;have hl:=HN.out;subst hl;exact hI.out.last (Nat.le_refl _)
    }
theorem zfb (x:Cp) (m:CA) (K:Nat→Prop) (w:World) (h:CI w K m x) (ht:x.ts.length≤1000000) (hi:x.ims.length≤1000000) (hr: ∀r∈x.ims,r.length≤1000000):
    Calls Tryz.prog 120 #[cpv x.n x.v x.u m] w fun e w' =>(∃m' :CA,e=.returned (cpv x.n x.v x.u m')∧CR w' (fun b=>b<w.heap.size) x [.int .i64 x.n,.int .i64 x.v,.int .i64 x.u,.slice m'.at_ m'.nt m'.ct,.slice m'.ai m'.ni m'.ci])∧Below w.heap.size w w' :=by
  have HT:=hide (fun W (hW:Below w.heap.size w W)=>zpc m.at_ m.nt m.ct (tgs x.ts) W (tgs_row (h.ts.below hW).at_) (by rw [tgs_len,h.ts.len]) (tgs_one _) (by rw [←h.ts.len];exact ht));obtain ⟨vs,r1,r2,r3⟩:=h.row;have HL:=hide (fun W (hW:Below w.heap.size w W)=>zmx m.ai m.ni m.ci m.ni K x.ims W ⟨⟨vs,r1.below hW,r2.mono (LR.chg (.of hW K)),r3⟩,h.ims.len,Nat.le_refl _,h.ims.max⟩ (by rw [←h.ims.len];exact hi) hr);have HN:=hide (And.intro h.ts.len h.ims.len);have HM:=hide (And.intro h.ts.max h.ims.max);clear r1 r2 r3 h;unfold cpv;go_enter Tryz.func120,Tryz.ntmps120;go_wp2_with fail;refine(zae HT _ (zdv _ _ _)).mono ?_;rintro e w1 ⟨rfl,rfl⟩;have b0:=hide (zai (zai (heap_alloc_last w (.cells #[.int .i64 x.n,.int .i64 x.v,.int .i64 x.u,.slice (some ⟨w.heap.size+1+1,0,none⟩) m.nt m.nt,.slice m.ai m.ni m.ci] 94)) (.cells aW 94)) (.cells (tgs x.ts).toArray 163));have b1:=hide (zai (zau w (.cells #[.int .i64 x.n,.int .i64 x.v,.int .i64 x.u,.slice (some ⟨w.heap.size+1+1,0,none⟩) m.nt m.nt,.slice m.ai m.ni m.ci] 94) (.cells aW 94)) (.cells (tgs x.ts).toArray 163));have b2:=hide (zb9 w (.cells #[.int .i64 x.n,.int .i64 x.v,.int .i64 x.u,.slice (some ⟨w.heap.size+1+1,0,none⟩) m.nt m.nt,.slice m.ai m.ni m.ci] 94) (.cells aW 94) (.cells (tgs x.ts).toArray 163));have hw:=zds w (.cells #[.int .i64 x.n,.int .i64 x.v,.int .i64 x.u,.slice (some ⟨w.heap.size+1+1,0,none⟩) m.nt m.nt,.slice m.ai m.ni m.ci] 94) (.cells aW 94) (.cells (tgs x.ts).toArray 163);have hsz: (((w.alloc (.cells #[.int .i64 x.n,.int .i64 x.v,.int .i64 x.u,.slice (some ⟨w.heap.size+1+1,0,none⟩) m.nt m.nt,.slice m.ai m.ni m.ci] 94)).alloc (.cells aW 94)).alloc (.cells (tgs x.ts).toArray 163)).heap.size=w.heap.size+1+1+1:=by simp
  go_wp2_with fail;generalize (((w.alloc (.cells #[.int .i64 x.n,.int .i64 x.v,.int .i64 x.u,.slice (some ⟨w.heap.size+1+1,0,none⟩) m.nt m.nt,.slice m.ai m.ni m.ci] 94)).alloc (.cells aW 94)).alloc (.cells (tgs x.ts).toArray 163))=W1 at *;refine(zae HL _ hw).mono ?_;rintro e w3 ⟨⟨g,us,g1,g2,rfl,hbk,hul,hvs⟩,hb⟩;replace b0:=hide (zab b0.out hb);replace b1:=hide (zab b1.out hb);replace b2:=hide (zab b2.out hb);replace hw:=bT hw hb;obtain ⟨x0,x1,x2,x3,x4⟩:=cl5 b0.out;have f4:=zad b0.out 4;obtain ⟨y0,y1,y2,y3,y4⟩:=cl5 b1.out;obtain ⟨e0,e1,e2,e3,e4⟩:=fr5 b1.out;have HCR:Hid (CR w3 (fun b=>b<w.heap.size+2) x [.int .i64 x.n,.int .i64 x.v,.int .i64 x.u,.slice (some ⟨w.heap.size+1+1,0,none⟩) m.nt m.nt,.slice (some ⟨g,0,none⟩) x.ims.length x.ims.length]):=
    ⟨⟨some ⟨w.heap.size+1+1,0,none⟩,m.nt,m.nt,some ⟨g,0,none⟩,x.ims.length,x.ims.length⟩,rfl,⟨tgs_of (zcq b2.out),HN.out.1,HM.out.1⟩,.at_ (by show¬w.heap.size+1+1<w.heap.size+2;omega),⟨us,zcq hbk,hvs.mono (LR.off fun b e=>.inl (by show b≤g;have e:b<w.heap.size+2:=e;omega)),.at_ (by show¬g<w.heap.size+2;omega)⟩,rfl,by rw [HN.out.2];exact HM.out.2⟩
  clear b0 b1 b2 hbk hul hvs hb HL HT g1 g2 hsz;go_wp2_with fail;refine bodyPost_ret (v:=.agg #[.int .i64 x.n,.int .i64 x.v,.int .i64 x.u,.slice (some ⟨w.heap.size+1+1,0,none⟩) m.nt m.nt,.slice (some ⟨g,0,none⟩) x.ims.length x.ims.length]) (by simp [results,Tryz.results120,go_sem,y0,y1,y2,y3,y4]) rfl ?_;have hch:Chg (fun b=>b<w.heap.size+2) w3 (puts (w3.setCell ⟨w.heap.size,4,none⟩ (.slice (some ⟨g,0,none⟩) x.ims.length x.ims.length)) (w.heap.size+1) 0 [.int .i64 x.n,.int .i64 x.v,.int .i64 x.u,.slice (some ⟨w.heap.size+1+1,0,none⟩) m.nt m.nt,.slice (some ⟨g,0,none⟩) x.ims.length x.ims.length]):=
    ((Chg.refl (fun b=>b<w.heap.size+2) _).set (by show w.heap.size<w.heap.size+2;omega) _).trans ((zbn _ _ _ _).mono fun b e=>by show b<w.heap.size+2;omega)
  have hbel:Below w.heap.size w (puts (w3.setCell ⟨w.heap.size,4,none⟩ (.slice (some ⟨g,0,none⟩) x.ims.length x.ims.length)) (w.heap.size+1) 0 [.int .i64 x.n,.int .i64 x.v,.int .i64 x.u,.slice (some ⟨w.heap.size+1+1,0,none⟩) m.nt m.nt,.slice (some ⟨g,0,none⟩) x.ims.length x.ims.length]):=
    (hw.setCell (Nat.le_refl _) _).trans ((zbn _ _ _ _).below (fun b e=>by omega) (Nat.le_trans hw.size (by simp [World.setCell])))
  have hfin:=CR.off (K' :=fun b=>b<w.heap.size) (fun b e=>.inl (by show b<w.heap.size+2;have e:b<w.heap.size:=e;omega)) _ _ (CR.chg hch _ _ HCR.out);exact⟨⟨⟨some ⟨w.heap.size+1+1,0,none⟩,m.nt,m.nt,some ⟨g,0,none⟩,x.ims.length,x.ims.length⟩,rfl,hfin⟩,hbel⟩
end
section
open Go.RowKit
attribute [local go_sem ↓] Go.wp_at_zero Go.wp_at_succ
theorem CI.below {w' :World} {m:CA} {x:Cp} (h:CI w K m x) (hb:Below w.heap.size w w'):CI w' K m x:=by
  obtain ⟨vs,r1,r2,r3⟩:=h.row;exact⟨h.ts.below hb,h.ot,h.ims.below hb,⟨vs,r1.below hb,r2.mono (LR.chg (.of hb K)),r3⟩⟩
def CSm (x:Cp):Prop:=x.ts.length≤1000000∧x.ims.length≤1000000∧∀r∈x.ims,r.length≤1000000
theorem zm5 (a:Option Addr) (n c c0:Nat) (K:Nat→Prop) (l:List Cp) (w:World) (h:RIn CR w K a n c0 l) (hm:n≤1000000) (hs: ∀x∈l,CSm x):
    Calls Tryz.prog 119 #[.slice a n c,.func (.func 120) #[] #[]] w (zhe CR 5 94 w l):=by
  obtain ⟨irr,hir,rz0,rz1,rz2⟩:=info_parts infoByC;obtain ⟨cur,hcs,hmk⟩:=zbh Tryz.prog w 37 94 irr _ 5 72 n Tryz.underlying37 hir rz0 rz1 rz2 (by omega) (by unfold maxLen;omega);have I0:Hid (CInv CR 5 94 w.heap.size n w l 0 (w.alloc (.cells cur 94))):=CInv.first hcs;obtain ⟨vs,h1,h2,-⟩:=h.row;have H1:=hide h1;have H2:=hide h2;have HN:=hide h.len;have HS:=hide hs;clear h1 h2 h hs hcs;have hnI: (n:Int)≤9223372036854775807:=by omega
  go_enter Tryz.func119,Tryz.ntmps119;go_wp2_with fail;generalize w.alloc (.cells cur 94)=W0 at *;clear hmk
  go_loopw [13] (fun i wq=>∃k:Nat,k≤n∧i=.int .i64 k∧Hid (CInv CR 5 94 w.heap.size n w l k wq)) (fun i _=>n - (intOf i).toNat)
  case atStart=>exact⟨0,by omega,rfl,I0⟩
  case round=>
    clear I0;obtain ⟨wq,rfl⟩: ∃wq:World,wq=wr:=⟨_,rfl⟩;obtain ⟨k,hk,rfl,hI⟩:=hrel
    by_cases hkn:k<n
    {
    have hkI: (k:Int)< (n:Int):=by omega
    have hul:k<l.length:=by rw [HN.out];exact hkn
    have hB:=hI.out.bel;have hsu:=HS.out _ (List.getElem_mem hul);obtain ⟨b,off,mm,rfl,q0,y0,y1,y2,y3,y4⟩:=zfa H1.out H2.out (List.getElem?_eq_getElem hul);have HU:=hide (fun W (hW:Below w.heap.size w W)=>zfb l[k] mm K W (q0.below hW) hsu.1 hsu.2.1 hsu.2.2);unfold cpv at HU;have HX:Hid (l[k]?=some l[k]):=List.getElem?_eq_getElem hul;generalize l[k]=u at *;replace y0:=(hB.cell (zah y0)).trans y0;replace y1:=(hB.cell (zah y1)).trans y1;replace y2:=(hB.cell (zah y2)).trans y2;replace y3:=(hB.cell (zah y3)).trans y3;replace y4:=(hB.cell (zah y4)).trans y4;have HK:Hid (k<n):=hkn;clear hkn hul hsu;have hb1:Below wq.heap.size wq (wq.alloc (.cells (aC u mm) 94)):=bA1;go_wp2_with fail;refine(zae HU _ ((bT hB hb1))).mono ?_;rintro e w3 ⟨⟨m4,rfl,hcr⟩,hb3⟩;have hb4:=bT hb1 hb3;obtain ⟨cq,r1,r2,-⟩:=hI.out.row;have hro:=hide (zab r1 hb4);have hz:k * 5+5≤cq.size:=by rw [r2,←Nat.succ_mul];exact Nat.mul_le_mul_right _ HK.out
    obtain ⟨v0,z0,f0⟩:=zbe hro.out (i:=k * 5) (by omega);obtain ⟨v1,z1,f1⟩:=zbe hro.out (i:=k * 5+1) (by omega);obtain ⟨v2,z2,f2⟩:=zbe hro.out (i:=k * 5+2) (by omega);obtain ⟨v3,z3,f3⟩:=zbe hro.out (i:=k * 5+3) (by omega);obtain ⟨v4,z4,f4⟩:=zbe hro.out (i:=k * 5+4) (by omega);clear r1 r2;go_wp2_with fail;refine⟨⟨k+1,HK.out,by simp, ?_⟩,by have:=HK.out;simp [intOf];omega⟩;have hel:CR w3 (Out (wq.heap.size - 1)) u [.int .i64 u.n,.int .i64 u.v,.int .i64 u.u,.slice m4.at_ m4.nt m4.ct,.slice m4.ai m4.ni m4.ci]:=CR.off (fun b e=>.inl (by show b< (wq.alloc (.cells (aC u mm) 94)).heap.size;have e:b≤wq.heap.size - 1:=e;have:=hI.out.lt;simp;omega)) _ _ hcr;have hst:=hI.out.step CR.chg CR.off CR.len (Nat.le_refl _) HX.out (by rw [HN.out];exact Nat.le_refl _) hb4 hel;exact hst
    }
    {
    have hkk:k=n:=by omega
    subst hkk;clear hk hkn;go_wp2_with fail;go_ret;have hl:=HN.out;subst hl;exact hI.out.last (Nat.le_refl _)
    }
theorem last_4 (w:World) (o0 o1 o2 o3 o4:Obj): (((((w.alloc o0).alloc o1).alloc o2).alloc o3).alloc o4).heap[w.heap.size+1+1+1+1]?=some o4:=by
  have:=heap_alloc_last ((((w.alloc o0).alloc o1).alloc o2).alloc o3) o4
  simpa only [World.size_alloc] using this
theorem last_5 (w:World) (o0 o1 o2 o3 o4 o5:Obj): ((((((w.alloc o0).alloc o1).alloc o2).alloc o3).alloc o4).alloc o5).heap[w.heap.size+1+1+1+1+1]?=some o5:=by
  have:=heap_alloc_last (((((w.alloc o0).alloc o1).alloc o2).alloc o3).alloc o4) o5
  simpa only [World.size_alloc] using this
theorem last_6 (w:World) (o0 o1 o2 o3 o4 o5 o6:Obj): (((((((w.alloc o0).alloc o1).alloc o2).alloc o3).alloc o4).alloc o5).alloc o6).heap[w.heap.size+1+1+1+1+1+1]?=some o6:=by
  have:=heap_alloc_last ((((((w.alloc o0).alloc o1).alloc o2).alloc o3).alloc o4).alloc o5) o6
  simpa only [World.size_alloc] using this
theorem last_7 (w:World) (o0 o1 o2 o3 o4 o5 o6 o7:Obj): ((((((((w.alloc o0).alloc o1).alloc o2).alloc o3).alloc o4).alloc o5).alloc o6).alloc o7).heap[w.heap.size+1+1+1+1+1+1+1]?=some o7:=by
  have:=heap_alloc_last (((((((w.alloc o0).alloc o1).alloc o2).alloc o3).alloc o4).alloc o5).alloc o6) o7
  simpa only [World.size_alloc] using this
theorem below8 (w:World) (o0 o1 o2 o3 o4 o5 o6 o7:Obj):Below w.heap.size w ((((((((w.alloc o0).alloc o1).alloc o2).alloc o3).alloc o4).alloc o5).alloc o6).alloc o7):=
  ((((((bA2).alloc (by simp;omega) _).alloc (by simp;omega) _).alloc (by simp;omega) _).alloc (by simp;omega) _).alloc (by simp;omega) _).alloc (by simp;omega) _
theorem zns (g:Gt) (m:GA) (w:World) (h:GIn w m g) (h1:m.n≤1000000) (h2:m.nk≤1000000) (h3:m.nv≤1000000) (h4:m.nd≤1000000):
    Calls Tryz.prog 115 #[gtv g m] w fun e w' =>(∃k,e=.returned (gtv g k)∧GIn w' k g∧GFr w.heap.size k)∧Below w.heap.size w w' :=by
  have H1:=hide (fun W (hW:Below w.heap.size w W)=>zha g.ws g.fu m.a m.n m.c W (h.ws.below hW).bi h1);have H2:=hide (fun W (hW:Below w.heap.size w W)=>zek m.ak m.nk m.ck (vals g.t.r.ks) W (zg6 (h.ks.below hW).at_) (by rw [za3,h.ks.len,Nat.mul_one]) (zbu _) h2);have H3:=hide (fun W (hW:Below w.heap.size w W)=>ziw m.av m.nv m.cv (bls g.vo) W (bls_row (h.vo.below hW).at_) (by rw [show(bls g.vo).length=g.vo.length by simp [bls],h.vo.len,Nat.mul_one]) (bls_one _) h3);have H4:=hide (fun W (hW:Below w.heap.size w W)=>ziw m.ad m.nd m.cd (bls g.di) W (bls_row (h.di.below hW).at_) (by rw [show(bls g.di).length=g.di.length by simp [bls],h.di.len,Nat.mul_one]) (bls_one _) h4);have HG:=hide h;clear h;unfold gtv;go_enter Tryz.func115,Tryz.ntmps115;go_wp2_with fail;refine(zae H1 _ (zdv _ _ _)).mono ?_;rintro e w1 ⟨rfl,rfl⟩;go_wp2_with fail;refine(zae H2 _ ?_).mono ?_
  { exact(zdv _ _ _).trans ((zds _ _ _ _).mono (by simp;omega)) }
  rintro e w1 ⟨rfl,rfl⟩;go_wp2_with fail;refine(zae H3 _ ?_).mono ?_
  { exact((zdv _ _ _).trans ((zds _ _ _ _).mono (by simp;omega))).alloc (by simp;omega) _ }
  rintro e w1 ⟨rfl,rfl⟩;go_wp2_with fail;refine(zae H4 _ ?_).mono ?_
  { exact(((zdv _ _ _).trans ((zds _ _ _ _).mono (by simp;omega))).alloc (by simp;omega) _).alloc (by simp;omega) _ }
  rintro e w1 ⟨rfl,rfl⟩;go_wp2_with fail;refine bodyPost_ret (v:=gtv g ⟨some ⟨w.heap.size+1+1+1+1,0,none⟩,m.n,m.n,some ⟨w.heap.size+1+1+1+1+1,0,none⟩,m.nk,m.nk,some ⟨w.heap.size+1+1+1+1+1+1,0,none⟩,m.nv,m.nv,some ⟨w.heap.size+1+1+1+1+1+1+1,0,none⟩,m.nd,m.nd⟩) (by simp [results,Tryz.results115,go_sem,gtv]) rfl ?_;have r4:=zai (zai (zai (last_4 w (.cells #[.slice (some ⟨w.heap.size+1+1+1+1,0,none⟩) m.n m.n,.int .i64 g.fu,.bool g.up,.int .i64 g.t.r.v,.slice (some ⟨w.heap.size+1+1+1+1+1,0,none⟩) m.nk m.nk,.int .i64 g.t.r.t,.int .i64 g.t.ver,.slice (some ⟨w.heap.size+1+1+1+1+1+1,0,none⟩) m.nv m.nv,.slice (some ⟨w.heap.size+1+1+1+1+1+1+1,0,none⟩) m.nd m.nd] 35) (.cells #[.slice (some ⟨w.heap.size+1+1+1+1,0,none⟩) m.n m.n,.int .i64 g.fu,.bool g.up,.int .i64 g.t.r.v,.slice (some ⟨w.heap.size+1+1+1+1+1,0,none⟩) m.nk m.nk,.int .i64 g.t.r.t,.int .i64 g.t.ver,.slice (some ⟨w.heap.size+1+1+1+1+1+1,0,none⟩) m.nv m.nv,.slice (some ⟨w.heap.size+1+1+1+1+1+1+1,0,none⟩) m.nd m.nd] 35) (.cells #[.slice (some ⟨w.heap.size+1+1+1+1,0,none⟩) m.n m.n,.int .i64 g.fu] 28) (.cells #[.slice (some ⟨w.heap.size+1+1+1+1,0,none⟩) m.n m.n,.int .i64 g.fu] 28) (.cells (vals g.ws).toArray 3)) (.cells (vals g.t.r.ks).toArray 3)) (.cells (bls g.vo).toArray 4)) (.cells (bls g.di).toArray 4);have r5:=zai (zai (last_5 w (.cells #[.slice (some ⟨w.heap.size+1+1+1+1,0,none⟩) m.n m.n,.int .i64 g.fu,.bool g.up,.int .i64 g.t.r.v,.slice (some ⟨w.heap.size+1+1+1+1+1,0,none⟩) m.nk m.nk,.int .i64 g.t.r.t,.int .i64 g.t.ver,.slice (some ⟨w.heap.size+1+1+1+1+1+1,0,none⟩) m.nv m.nv,.slice (some ⟨w.heap.size+1+1+1+1+1+1+1,0,none⟩) m.nd m.nd] 35) (.cells #[.slice (some ⟨w.heap.size+1+1+1+1,0,none⟩) m.n m.n,.int .i64 g.fu,.bool g.up,.int .i64 g.t.r.v,.slice (some ⟨w.heap.size+1+1+1+1+1,0,none⟩) m.nk m.nk,.int .i64 g.t.r.t,.int .i64 g.t.ver,.slice (some ⟨w.heap.size+1+1+1+1+1+1,0,none⟩) m.nv m.nv,.slice (some ⟨w.heap.size+1+1+1+1+1+1+1,0,none⟩) m.nd m.nd] 35) (.cells #[.slice (some ⟨w.heap.size+1+1+1+1,0,none⟩) m.n m.n,.int .i64 g.fu] 28) (.cells #[.slice (some ⟨w.heap.size+1+1+1+1,0,none⟩) m.n m.n,.int .i64 g.fu] 28) (.cells (vals g.ws).toArray 3) (.cells (vals g.t.r.ks).toArray 3)) (.cells (bls g.vo).toArray 4)) (.cells (bls g.di).toArray 4);have r6:=zai (last_6 w (.cells #[.slice (some ⟨w.heap.size+1+1+1+1,0,none⟩) m.n m.n,.int .i64 g.fu,.bool g.up,.int .i64 g.t.r.v,.slice (some ⟨w.heap.size+1+1+1+1+1,0,none⟩) m.nk m.nk,.int .i64 g.t.r.t,.int .i64 g.t.ver,.slice (some ⟨w.heap.size+1+1+1+1+1+1,0,none⟩) m.nv m.nv,.slice (some ⟨w.heap.size+1+1+1+1+1+1+1,0,none⟩) m.nd m.nd] 35) (.cells #[.slice (some ⟨w.heap.size+1+1+1+1,0,none⟩) m.n m.n,.int .i64 g.fu,.bool g.up,.int .i64 g.t.r.v,.slice (some ⟨w.heap.size+1+1+1+1+1,0,none⟩) m.nk m.nk,.int .i64 g.t.r.t,.int .i64 g.t.ver,.slice (some ⟨w.heap.size+1+1+1+1+1+1,0,none⟩) m.nv m.nv,.slice (some ⟨w.heap.size+1+1+1+1+1+1+1,0,none⟩) m.nd m.nd] 35) (.cells #[.slice (some ⟨w.heap.size+1+1+1+1,0,none⟩) m.n m.n,.int .i64 g.fu] 28) (.cells #[.slice (some ⟨w.heap.size+1+1+1+1,0,none⟩) m.n m.n,.int .i64 g.fu] 28) (.cells (vals g.ws).toArray 3) (.cells (vals g.t.r.ks).toArray 3) (.cells (bls g.vo).toArray 4)) (.cells (bls g.di).toArray 4);have r7:=last_7 w (.cells #[.slice (some ⟨w.heap.size+1+1+1+1,0,none⟩) m.n m.n,.int .i64 g.fu,.bool g.up,.int .i64 g.t.r.v,.slice (some ⟨w.heap.size+1+1+1+1+1,0,none⟩) m.nk m.nk,.int .i64 g.t.r.t,.int .i64 g.t.ver,.slice (some ⟨w.heap.size+1+1+1+1+1+1,0,none⟩) m.nv m.nv,.slice (some ⟨w.heap.size+1+1+1+1+1+1+1,0,none⟩) m.nd m.nd] 35) (.cells #[.slice (some ⟨w.heap.size+1+1+1+1,0,none⟩) m.n m.n,.int .i64 g.fu,.bool g.up,.int .i64 g.t.r.v,.slice (some ⟨w.heap.size+1+1+1+1+1,0,none⟩) m.nk m.nk,.int .i64 g.t.r.t,.int .i64 g.t.ver,.slice (some ⟨w.heap.size+1+1+1+1+1+1,0,none⟩) m.nv m.nv,.slice (some ⟨w.heap.size+1+1+1+1+1+1+1,0,none⟩) m.nd m.nd] 35) (.cells #[.slice (some ⟨w.heap.size+1+1+1+1,0,none⟩) m.n m.n,.int .i64 g.fu] 28) (.cells #[.slice (some ⟨w.heap.size+1+1+1+1,0,none⟩) m.n m.n,.int .i64 g.fu] 28) (.cells (vals g.ws).toArray 3) (.cells (vals g.t.r.ks).toArray 3) (.cells (bls g.vo).toArray 4) (.cells (bls g.di).toArray 4);exact⟨⟨_,rfl,⟨⟨zgw (zcq r4),HG.out.ws.len,Nat.le_refl _,HG.out.ws.max⟩,⟨zgw (zcq r5),HG.out.ks.len,HG.out.ks.max⟩,⟨bls_of (zcq r6),HG.out.vo.len,Nat.le_refl _,HG.out.vo.max⟩,⟨bls_of (zcq r7),HG.out.di.len,Nat.le_refl _,HG.out.di.max⟩⟩,⟨zal.here (by omega) _,zal.here (by omega) _,zal.here (by omega) _,zal.here (by omega) _⟩⟩,below8 _ _ _ _ _ _ _ _ _⟩
end
end Go.Proofs.YthmekfcgdfckaaaGreatDoor
