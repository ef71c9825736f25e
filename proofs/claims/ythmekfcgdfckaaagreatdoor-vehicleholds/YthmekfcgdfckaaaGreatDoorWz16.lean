/- Facts. -/
import Derived.Test.YthmekfcgdfckaaaGreatDoorWz14
set_option maxRecDepth 1000000
set_option maxHeartbeats 0
namespace Go.Proofs.YthmekfcgdfckaaaGreatDoor
open Go.RowKit
variable {w:World} {a:oA} {ts:List T3} {bs:List Bool} {K:Nat->Prop}
section
attribute [local go_sem ↓] kM kO
theorem zbe {g:Nat} {cur:Array Value} {t:TypeId} {i:Nat} (h:w.heap[g]?=some (.cells cur t (0,0))) (hi:i<cur.size): ∃v,ce w g i=some v/\cZ w g i=false:=
 ⟨cur[i],zaa h i _ (by simp [hi]),zad h i⟩
def tgs (ts:List T3):LV:=(ts.map fun t=> [iV t.1,iV t.2.1,iV t.2.2]).flatten
def sgs (ts:List S2):LV:=(ts.map fun t=> [iV t.1,iV t.2]).flatten
def bls (bs:List Bool):LV:=bs.map Value.bool
theorem zj5: ∀ts:List T3,Vs (fun t c=>c= [iV t.1,iV t.2.1,iV t.2.2]) ts (tgs ts)
 | []=>rfl
 |_::r=>⟨_,tgs r,rfl,rfl,zj5 r⟩
theorem zkj: ∀ts:List S2,Vs (fun t c=>c= [iV t.1,iV t.2]) ts (sgs ts)
 | []=>rfl
 |_::r=>⟨_,sgs r,rfl,rfl,zkj r⟩
theorem tgs_len (ts:List T3): (tgs ts).length=ts.length * 3:=(zj5 ts).len (fun x c h=>by rw [h];rfl)
theorem sgs_len (ts:List S2): (sgs ts).length=ts.length * 2:=(zkj ts).len (fun x c h=>by rw [h];rfl)
theorem tgs_one: ∀(ts:List T3) (v:Value),v∈tgs ts->v.oneCell' =true
 | [],_,hv=>by cases hv
 |t::r,v,hv=>by
  rcases KS.1 (show v∈ [iV t.1,iV t.2.1,iV t.2.2]++tgs r from hv) with h|h
  {
  simp at h
  rcases h with rfl|rfl|rfl<;>rfl }
  { exact tgs_one r v h }
theorem zlr: ∀(ts:List S2) (v:Value),v∈sgs ts->v.oneCell' =true
 | [],_,hv=>by cases hv
 |t::r,v,hv=>by
  rcases KS.1 (show v∈ [iV t.1,iV t.2]++sgs r from hv) with h|h
  {
  simp at h
  rcases h with rfl|rfl<;>rfl }
  { exact zlr r v h }
theorem bls_one (bs:List Bool): ∀v∈bls bs,v.oneCell' =true:=by
 intro v hv
 simp [bls] at hv
 rcases hv with ⟨-,rfl⟩| ⟨-,rfl⟩<;>rfl
theorem zk8 {α:Type} {R:α->LV->Prop} {k:Nat} (hR: ∀x c,R x c->c.length=k) (hk:0<k): ∀{l:List α} {vs:LV} (j:Nat) (u:Value),Vs R l vs->vs[j]?=some u->∃x c,l[j / k]?=some x/\R x c/\c[j % k]?=some u
 | [],vs,j,u,h,hu=>by have h:vs= []:=h;subst h;simp at hu
 |x::l,vs,j,u,⟨c,r,e,h1,h2⟩,hu=>by
  have hc:=hR _ _ h1
  by_cases hj:j<k
  {
  rw [e,KD (by omega)] at hu;exact⟨x,c,by rw [Nat.div_eq_of_lt hj];rfl,h1,by rw [Nat.mod_eq_of_lt hj];exact hu⟩ }
  {
  rw [e,KC (by omega),hc] at hu;obtain ⟨y,d,q1,q2,q3⟩:=zk8 hR hk (j - k) u h2 hu;refine⟨y,d, ?_,q2, ?_⟩
  { rw [Nat.div_eq_sub_div hk (by omega)];simpa using q1 }
  { rw [Nat.mod_eq_sub_mod (by omega)];exact q3 } }
theorem tgs_row (h:zbm w a ts):IsRow w a (tgs ts):=by
 rcases h with rfl| ⟨b,off,rfl,hc⟩
 { exact .inl rfl }
 {
 refine .inr ⟨b,off,rfl,fun j u hu=> ?_⟩;obtain ⟨t,c,h1,rfl,h3⟩:=zk8 (k:=3) (fun x c h=>by rw [h];rfl) (by decide) j u (zj5 ts) hu;obtain ⟨c0,c1,c2⟩:=hc _ _ h1;have hj:j=j / 3 * 3+j % 3:=by omega
 have hlt:j % 3<3:=Nat.mod_lt _ (by decide);generalize j / 3=p at *;generalize j % 3=r at *;subst hj
 match r,hlt,h3 with
 |0,_,h3=>cases h3;exact c0
 |1,_,h3=>cases h3;exact c1
 |2,_,h3=>cases h3;exact c2 }
theorem sgs_row {ts:List S2} (h:zcr w a ts):IsRow w a (sgs ts):=by
 rcases h with rfl| ⟨b,off,rfl,hc⟩
 { exact .inl rfl }
 {
 refine .inr ⟨b,off,rfl,fun j u hu=> ?_⟩;obtain ⟨t,c,h1,rfl,h3⟩:=zk8 (k:=2) (fun x c h=>by rw [h];rfl) (by decide) j u (zkj ts) hu;obtain ⟨c0,c1⟩:=hc _ _ h1;have hj:j=j / 2 * 2+j % 2:=by omega
 have hlt:j % 2<2:=Nat.mod_lt _ (by decide);generalize j / 2=p at *;generalize j % 2=r at *;subst hj
 match r,hlt,h3 with
 |0,_,h3=>cases h3;exact c0
 |1,_,h3=>cases h3;exact c1 }
theorem bls_row (h:zbz w a bs):IsRow w a (bls bs):=by
 rcases h with rfl| ⟨b,off,rfl,hc⟩
 { exact .inl rfl }
 {
 refine .inr ⟨b,off,rfl,fun j u hu=> ?_⟩;have hj:j<bs.length:=by
  have:=(kY.1 hu).1
  simpa [bls] using this
 simp [bls,hj] at hu
 subst hu;rw [hc j hj]
 simp [hj] }
theorem tgs_of (h:IsRow w a (tgs ts)):zbm w a ts:=by
 cases ts with
 |nil=>exact .inl rfl
 |cons t0 r0=>
  rcases h with h| ⟨b,off,rfl,hc⟩
  { simp [tgs] at h }
  {
  refine .inr ⟨b,off,rfl,fun i t hi=> ?_⟩;obtain ⟨c,rfl,hg⟩:=(zj5 (t0::r0)).cell (k:=3) (fun x c h=>by rw [h];rfl) hi;exact⟨hc _ _ (hg 0 _ rfl),by rw [Nat.add_assoc];exact hc _ _ (hg 1 _ rfl),by rw [Nat.add_assoc];exact hc _ _ (hg 2 _ rfl)⟩ }
theorem sgs_of {ts:List S2} (h:IsRow w a (sgs ts)):zcr w a ts:=by
 cases ts with
 |nil=>exact .inl rfl
 |cons t0 r0=>
  rcases h with h| ⟨b,off,rfl,hc⟩
  { simp [sgs] at h }
  {
  refine .inr ⟨b,off,rfl,fun i t hi=> ?_⟩;obtain ⟨c,rfl,hg⟩:=(zkj (t0::r0)).cell (k:=2) (fun x c h=>by rw [h];rfl) hi;exact⟨hc _ _ (hg 0 _ rfl),by rw [Nat.add_assoc];exact hc _ _ (hg 1 _ rfl)⟩ }
theorem bls_of (h:IsRow w a (bls bs)):zbz w a bs:=by
 rcases h with h| ⟨b,off,rfl,hc⟩
 { exact .inl (by simpa [bls] using h) }
 { exact .inr ⟨b,off,rfl,fun i hi=>hc i _ (by simp [bls,hi])⟩ }
theorem infoByM: (Tryz.prog.info? 99).map (fun i=>(i.zero,i.size,i.bytes))=some (some (.agg #[iV 0,iV 0,iV 0,iV 0,iV 0,nV,.bool false]),7,72):=by kernel_rfl
theorem zmo (a:oA) (n c c0:Nat) (K:Nat->Prop) (l:List Ms) (w:World) (h:RIn MR w K a n c0 l) (hm:n<=1000000) (hs: ∀m∈l,m.ws.length<=1000000):
 Cq 121 #[.slice a n c,.func (.func 122) #[] #[]] w (zhe MR 7 99 w l):=by
 obtain ⟨irr,hir,rz0,rz1,rz2⟩:=info_parts infoByM;obtain ⟨cur,hcs,hmk⟩:=zbh Tryz.prog w 38 99 irr _ 7 72 n Tryz.underlying38 hir rz0 rz1 rz2 (by omega) (by unfold maxLen;omega);have I0:Hd (CInv MR 7 99 w.heap.size n w l 0 (w.alloc (.cells cur 99))):=CInv.first hcs;obtain ⟨vs,h1,h2,-⟩:=h.row;have H1:=uH h1;have H2:=uH h2;have HN:=uH h.len;have HS:=uH hs;clear h1 h2 h hs hcs;have hnI: (n:Int)<=9223372036854775807:=by omega
 go_enter Tryz.func121,Tryz.ntmps121;go_wp2_with fail;generalize w.alloc (.cells cur 99)=W0 at *;clear hmk
 go_loopw [13] (fun i wq=>∃k:Nat,k<=n/\i=iV k/\Hd (CInv MR 7 99 w.heap.size n w l k wq)) (fun i _=>n - (intOf i).toNat)
 case atStart=>exact⟨0,by omega,rfl,I0⟩
 case round=>
  clear I0;obtain ⟨wq,rfl⟩: ∃wq:World,wq=wr:=⟨_,rfl⟩;obtain ⟨k,hk,rfl,hI⟩:=hrel
  by_cases hkn:k<n
  {
  have hkI: (k:Int)< (n:Int):=by omega
  have hul:k<l.length:=by rw [HN.o];exact hkn
  have hB:=hI.o.bel;have hsu:=HS.o _ (KH hul);obtain ⟨b,off,x,nx,cx,rfl,q0,-,y0,y1,y2,y3,y4,y5,y6⟩:=zgd H1.o H2.o (kX hul);have HU:=uH (fun W (hW:bZ w W)=>zf0 l[k] x nx cx W (q0.bl hW) (by rw [<-q0.len];exact hsu));unfold msv at HU;have HX:Hd (l[k]?=some l[k]):=kX hul;generalize l[k]=u at *;replace y0:=(hB.cell (zah y0)).trans y0;replace y1:=(hB.cell (zah y1)).trans y1;replace y2:=(hB.cell (zah y2)).trans y2;replace y3:=(hB.cell (zah y3)).trans y3;replace y4:=(hB.cell (zah y4)).trans y4;replace y5:=(hB.cell (zah y5)).trans y5;replace y6:=(hB.cell (zah y6)).trans y6;have HK:Hd (k<n):=hkn;clear hkn hul hsu;have hb1:bZ wq (wq.alloc (.cells (aM u x nx cx) 99)):=bA1;go_wp2_with fail;refine(zae HU _ (bT hB hb1)).mono ?_;rintro e w3 ⟨⟨g,hg,rfl⟩,hb3⟩;have hb4:=bT hb1 hb3;obtain ⟨cq,r1,r2,-⟩:=hI.o.row;have hro:=uH (zab r1 hb4);have hz:k * 7+7<=cq.size:=by rw [r2,<-Nat.succ_mul];exact Kk _ HK.o
  obtain ⟨v0,z0,f0⟩:=zbe hro.o (i:=k * 7) (by omega);obtain ⟨v1,z1,f1⟩:=zbe hro.o (i:=k * 7+1) (by omega);obtain ⟨v2,z2,f2⟩:=zbe hro.o (i:=k * 7+2) (by omega);obtain ⟨v3,z3,f3⟩:=zbe hro.o (i:=k * 7+3) (by omega);obtain ⟨v4,z4,f4⟩:=zbe hro.o (i:=k * 7+4) (by omega);obtain ⟨v5,z5,f5⟩:=zbe hro.o (i:=k * 7+5) (by omega);obtain ⟨v6,z6,f6⟩:=zbe hro.o (i:=k * 7+6) (by omega);clear r1 r2;go_wp2_with fail;refine⟨⟨k+1,HK.o,by simp, ?_⟩,by have:=HK.o;simp [intOf];omega⟩;have hel:MR w3 (Out (wq.heap.size - 1)) u [iV u.k,iV u.u,iV u.n,iV u.at',iV u.im,sV g nx nx,.bool u.y]:=⟨some ⟨g,0,none⟩,nx,nx,rfl,hg.2.2,.at_ (by show¬g<=wq.heap.size - 1;have:=hg.1;simp at this;omega)⟩;have hst:=hI.o.step MR.chg MR.off MR.len (kQ _) HX.o (by rw [HN.o];exact kQ _) hb4 hel;exact hst }
  {
  have hkk:k=n:=by omega
  subst hkk;clear hk hkn;go_wp2_with fail;go_ret;have hl:=HN.o;subst hl;exact hI.o.last (kQ _) }
theorem infoByU: (Tryz.prog.info? 82).map (fun i=>(i.zero,i.size,i.bytes))=some (some (.agg #[nV,iV 0,.bool false,iV 0,iV 0]),5,56):=by kernel_rfl
theorem infoByL: (Tryz.prog.info? 26).map (fun i=>(i.zero,i.size,i.bytes))=some (some (nV),1,24):=by kernel_rfl
theorem infoByC: (Tryz.prog.info? 94).map (fun i=>(i.zero,i.size,i.bytes))=some (some (.agg aW),5,72):=by kernel_rfl
theorem row_list {l:LL} {vs:LV} {i:Nat} {r:LI} (hr:IsRow w a vs) (h:Vs (LR w K) l vs) (hi:l[i]?=some r): ∃b off x c,a=some ⟨b,off,none⟩/\zag w x r/\r.length<=c/\c<=maxLen/\Ao r K x/\w.cell? ⟨b,off+i,none⟩=some (.slice x r.length c):=by
 obtain ⟨b,off,c,rfl,⟨x,cp,rfl,h1,h2,h3,h4⟩,hc⟩:=hr.elem LR.len (by decide) h hi;exact⟨b,off,x,cp,rfl,h1,h2,h3,h4,by have:=hc 0 _ rfl;rwa [Ko] at this⟩
theorem zmp (a:oA) (n c c0:Nat) (K:Nat->Prop) (l:List Un) (w:World) (h:RIn UR w K a n c0 l) (hm:n<=1000000) (hs: ∀m∈l,m.ws.length<=1000000):
 Cq 116 #[.slice a n c,.func (.func 117) #[] #[]] w (zhe UR 5 82 w l):=by
 obtain ⟨irr,hir,rz0,rz1,rz2⟩:=info_parts infoByU;obtain ⟨cur,hcs,hmk⟩:=zbh Tryz.prog w 36 82 irr _ 5 56 n Tryz.underlying36 hir rz0 rz1 rz2 (by omega) (by unfold maxLen;omega);have I0:Hd (CInv UR 5 82 w.heap.size n w l 0 (w.alloc (.cells cur 82))):=CInv.first hcs;obtain ⟨vs,h1,h2,-⟩:=h.row;have H1:=uH h1;have H2:=uH h2;have HN:=uH h.len;have HS:=uH hs;clear h1 h2 h hs hcs;have hnI: (n:Int)<=9223372036854775807:=by omega
 go_enter Tryz.func116,Tryz.ntmps116;go_wp2_with fail;generalize w.alloc (.cells cur 82)=W0 at *;clear hmk
 go_loopw [13] (fun i wq=>∃k:Nat,k<=n/\i=iV k/\Hd (CInv UR 5 82 w.heap.size n w l k wq)) (fun i _=>n - (intOf i).toNat)
 case atStart=>exact⟨0,by omega,rfl,I0⟩
 case round=>
  clear I0;obtain ⟨wq,rfl⟩: ∃wq:World,wq=wr:=⟨_,rfl⟩;obtain ⟨k,hk,rfl,hI⟩:=hrel
  by_cases hkn:k<n
  {
  have hkI: (k:Int)< (n:Int):=by omega
  have hul:k<l.length:=by rw [HN.o];exact hkn
  have hB:=hI.o.bel;have hsu:=HS.o _ (KH hul);obtain ⟨b,off,x,nx,cx,rfl,q0,-,y0,y1,y2,y3,y4⟩:=zdz H1.o H2.o (kX hul);have HU:=uH (fun W (hW:bZ w W)=>zok l[k] x nx cx W (q0.bl hW).bi (by rw [<-q0.len];exact hsu));unfold unv at HU;have HX:Hd (l[k]?=some l[k]):=kX hul;generalize l[k]=u at *;replace y0:=(hB.cell (zah y0)).trans y0;replace y1:=(hB.cell (zah y1)).trans y1;replace y2:=(hB.cell (zah y2)).trans y2;replace y3:=(hB.cell (zah y3)).trans y3;replace y4:=(hB.cell (zah y4)).trans y4;have HK:Hd (k<n):=hkn;clear hkn hul hsu;have hb1:bZ wq (wq.alloc (.cells (aU x nx cx u) 82)):=bA1;go_wp2_with fail;refine(zae HU _ (bT hB hb1)).mono ?_;rintro e w3 ⟨⟨g,hg,rfl⟩,hb3⟩;have hb4:=bT hb1 hb3;obtain ⟨cq,r1,r2,-⟩:=hI.o.row;have hro:=uH (zab r1 hb4);have hz:k * 5+5<=cq.size:=by rw [r2,<-Nat.succ_mul];exact Kk _ HK.o
  obtain ⟨v0,z0,f0⟩:=zbe hro.o (i:=k * 5) (by omega);obtain ⟨v1,z1,f1⟩:=zbe hro.o (i:=k * 5+1) (by omega);obtain ⟨v2,z2,f2⟩:=zbe hro.o (i:=k * 5+2) (by omega);obtain ⟨v3,z3,f3⟩:=zbe hro.o (i:=k * 5+3) (by omega);obtain ⟨v4,z4,f4⟩:=zbe hro.o (i:=k * 5+4) (by omega);clear r1 r2;go_wp2_with fail;refine⟨⟨k+1,HK.o,by simp, ?_⟩,by have:=HK.o;simp [intOf];omega⟩;have hel:UR w3 (Out (wq.heap.size - 1)) u [sV g nx nx,iV u.fu,.bool u.up,iV u.n,iV u.hv]:=⟨some ⟨g,0,none⟩,nx,nx,rfl,⟨hg.2.2.at_,hg.2.2.len,kQ _,hg.2.2.max⟩,.at_ (by show¬g<=wq.heap.size - 1;have:=hg.1;simp at this;omega)⟩;have hst:=hI.o.step UR.chg UR.off UR.len (kQ _) HX.o (by rw [HN.o];exact kQ _) hb4 hel;exact hst }
  {
  have hkk:k=n:=by omega
  subst hkk;clear hk hkn;go_wp2_with fail;go_ret;have hl:=HN.o;subst hl;exact hI.o.last (kQ _) }
theorem zmx (a:oA) (n c c0:Nat) (K:Nat->Prop) (l:LL) (w:World) (h:RIn LR w K a n c0 l) (hm:n<=1000000) (hs: ∀m∈l,m.length<=1000000):
 Cq 187 #[.slice a n c,.func (.func 188) #[] #[]] w (zhe LR 1 26 w l):=by
 obtain ⟨irr,hir,rz0,rz1,rz2⟩:=info_parts infoByL;obtain ⟨cur,hcs,hmk⟩:=zbh Tryz.prog w 42 26 irr _ 1 24 n Tryz.underlying42 hir rz0 rz1 rz2 (by omega) (by unfold maxLen;omega);have I0:Hd (CInv LR 1 26 w.heap.size n w l 0 (w.alloc (.cells cur 26))):=CInv.first hcs;obtain ⟨vs,h1,h2,-⟩:=h.row;have H1:=uH h1;have H2:=uH h2;have HN:=uH h.len;have HS:=uH hs;clear h1 h2 h hs hcs;have hnI: (n:Int)<=9223372036854775807:=by omega
 go_enter Tryz.func187,Tryz.ntmps187;go_wp2_with fail;generalize w.alloc (.cells cur 26)=W0 at *;clear hmk
 go_loopw [13] (fun i wq=>∃k:Nat,k<=n/\i=iV k/\Hd (CInv LR 1 26 w.heap.size n w l k wq)) (fun i _=>n - (intOf i).toNat)
 case atStart=>exact⟨0,by omega,rfl,I0⟩
 case round=>
  clear I0;obtain ⟨wq,rfl⟩: ∃wq:World,wq=wr:=⟨_,rfl⟩;obtain ⟨k,hk,rfl,hI⟩:=hrel
  by_cases hkn:k<n
  {
  have hkI: (k:Int)< (n:Int):=by omega
  have hul:k<l.length:=by rw [HN.o];exact hkn
  have hB:=hI.o.bel;have hsu:=HS.o _ (KH hul);obtain ⟨b,off,x,cx,rfl,q0,qc,qm,-,y0⟩:=row_list H1.o H2.o (kX hul);have HU:=uH (fun W (hW:bZ w W)=>zmm l[k] x l[k].length cx W ⟨q0.bl hW,rfl,kc qc qm⟩ hsu);have HX:Hd (l[k]?=some l[k]):=kX hul;generalize l[k]=u at *;replace y0:=(hB.cell (zah y0)).trans y0;have HUL:=uH hsu;have HK:Hd (k<n):=hkn;clear hkn hul hsu;go_wp2_with fail;refine(zae HU _ hB).mono ?_;rintro e w3 ⟨rfl,rfl⟩;have hb3:bZ wq (wq.alloc (.cells (vals u).toArray 3)):=bA1;have hb4:=hb3;obtain ⟨cq,r1,r2,-⟩:=hI.o.row;have hro:=uH (zab r1 hb4);have hz:k * 1+1<=cq.size:=by rw [r2,<-Nat.succ_mul];exact Kk _ HK.o
  obtain ⟨v0,z0,f0⟩:=zbe hro.o (i:=k) (by omega);clear r1 r2;go_wp2_with fail;refine⟨⟨k+1,HK.o,by simp, ?_⟩,by have:=HK.o;simp [intOf];omega⟩;have hel:LR (wq.alloc (.cells (vals u).toArray 3)) (Out (wq.heap.size - 1)) u [sV wq.heap.size u.length u.length]:=⟨some ⟨wq.heap.size,0,none⟩,u.length,rfl,zgw (zcq (kP _ _)),kQ _,by have:=HUL.o;unfold maxLen;omega,.at_ (by show¬wq.heap.size<=wq.heap.size - 1;have:=hI.o.lt;omega)⟩;have hst:=hI.o.step LR.chg LR.off LR.len (kQ _) HX.o (by rw [HN.o];exact kQ _) hb4 hel;rw [Ko] at hst;exact hst }
  {
  have hkk:k=n:=by omega
  subst hkk;clear hk hkn;go_wp2_with fail;go_ret;have hl:=HN.o;subst hl;exact hI.o.last (kQ _) }
theorem zfb (x:Cp) (m:CA) (K:Nat->Prop) (w:World) (h:CI w K m x) (ht:x.ts.length<=1000000) (hi:x.ims.length<=1000000) (hr: ∀r∈x.ims,r.length<=1000000):
 Cq 120 #[cpv x.n x.v x.u m] w fun e w' =>(∃m' :CA,e=.returned (cpv x.n x.v x.u m')/\CR w' (fun b=>b<w.heap.size) x [iV x.n,iV x.v,iV x.u,.slice m'.at_ m'.nt m'.ct,.slice m'.ai m'.ni m'.ci])/\bZ w w' :=by
 have HT:=uH (fun W (hW:bZ w W)=>zpc m.at_ m.nt m.ct (tgs x.ts) W (tgs_row (h.ts.bl hW).at_) (by rw [tgs_len,h.ts.len]) (tgs_one _) (by rw [<-h.ts.len];exact ht));obtain ⟨vs,r1,r2,r3⟩:=h.row;have HL:=uH (fun W (hW:bZ w W)=>zmx m.ai m.ni m.ci m.ni K x.ims W ⟨⟨vs,r1.bl hW,r2.mono (LR.chg (.of hW K)),r3⟩,h.ims.len,kQ _,h.ims.max⟩ (by rw [<-h.ims.len];exact hi) hr);have HN:=uH (And.intro h.ts.len h.ims.len);have HM:=uH (And.intro h.ts.max h.ims.max);clear r1 r2 r3 h;unfold cpv;go_enter Tryz.func120,Tryz.ntmps120;go_wp2_with fail;refine(zae HT _ (zdv _ _ _)).mono ?_;rintro e w1 ⟨rfl,rfl⟩;have b0:=uH (zai (zai (kP w (.cells #[iV x.n,iV x.v,iV x.u,sV (w.heap.size+1+1) m.nt m.nt,.slice m.ai m.ni m.ci] 94)) (.cells aW 94)) (.cells (tgs x.ts).toArray 163));have b1:=uH (zai (zau w (.cells #[iV x.n,iV x.v,iV x.u,sV (w.heap.size+1+1) m.nt m.nt,.slice m.ai m.ni m.ci] 94) (.cells aW 94)) (.cells (tgs x.ts).toArray 163));have b2:=uH (zb9 w (.cells #[iV x.n,iV x.v,iV x.u,sV (w.heap.size+1+1) m.nt m.nt,.slice m.ai m.ni m.ci] 94) (.cells aW 94) (.cells (tgs x.ts).toArray 163));have hw:=zds w (.cells #[iV x.n,iV x.v,iV x.u,sV (w.heap.size+1+1) m.nt m.nt,.slice m.ai m.ni m.ci] 94) (.cells aW 94) (.cells (tgs x.ts).toArray 163);have hsz: (((w.alloc (.cells #[iV x.n,iV x.v,iV x.u,sV (w.heap.size+1+1) m.nt m.nt,.slice m.ai m.ni m.ci] 94)).alloc (.cells aW 94)).alloc (.cells (tgs x.ts).toArray 163)).heap.size=w.heap.size+1+1+1:=by simp
 go_wp2_with fail;generalize (((w.alloc (.cells #[iV x.n,iV x.v,iV x.u,sV (w.heap.size+1+1) m.nt m.nt,.slice m.ai m.ni m.ci] 94)).alloc (.cells aW 94)).alloc (.cells (tgs x.ts).toArray 163))=W1 at *;refine(zae HL _ hw).mono ?_;rintro e w3 ⟨⟨g,us,g1,g2,rfl,hbk,hul,hvs⟩,hb⟩;replace b0:=uH (zab b0.o hb);replace b1:=uH (zab b1.o hb);replace b2:=uH (zab b2.o hb);replace hw:=bT hw hb;obtain ⟨x0,x1,x2,x3,x4⟩:=cl5 b0.o;have f4:=zad b0.o 4;obtain ⟨y0,y1,y2,y3,y4⟩:=cl5 b1.o;obtain ⟨e0,e1,e2,e3,e4⟩:=fr5 b1.o;have HCR:Hd (CR w3 (fun b=>b<w.heap.size+2) x [iV x.n,iV x.v,iV x.u,sV (w.heap.size+1+1) m.nt m.nt,sV g x.ims.length x.ims.length]):=
  ⟨⟨some ⟨w.heap.size+1+1,0,none⟩,m.nt,m.nt,some ⟨g,0,none⟩,x.ims.length,x.ims.length⟩,rfl,⟨tgs_of (zcq b2.o),HN.o.1,HM.o.1⟩,.at_ (by show¬w.heap.size+1+1<w.heap.size+2;omega),⟨us,zcq hbk,hvs.mono (LR.off fun b e=>.inl (by show b<=g;have e:b<w.heap.size+2:=e;omega)),.at_ (by show¬g<w.heap.size+2;omega)⟩,rfl,by rw [HN.o.2];exact HM.o.2⟩
 clear b0 b1 b2 hbk hul hvs hb HL HT g1 g2 hsz;go_wp2_with fail;refine kT (v:=.agg #[iV x.n,iV x.v,iV x.u,sV (w.heap.size+1+1) m.nt m.nt,sV g x.ims.length x.ims.length]) (by simp [results,Tryz.results120,go_sem,y0,y1,y2,y3,y4]) rfl ?_;have hch:Chg (fun b=>b<w.heap.size+2) w3 (puts (w3.setCell ⟨w.heap.size,4,none⟩ (sV g x.ims.length x.ims.length)) (w.heap.size+1) 0 [iV x.n,iV x.v,iV x.u,sV (w.heap.size+1+1) m.nt m.nt,sV g x.ims.length x.ims.length]):=
  ((Chg.refl (fun b=>b<w.heap.size+2) _).set (by show w.heap.size<w.heap.size+2;omega) _).trans ((zbn _ _ _ _).mono fun b e=>by show b<w.heap.size+2;omega)
 have hbel:bZ w (puts (w3.setCell ⟨w.heap.size,4,none⟩ (sV g x.ims.length x.ims.length)) (w.heap.size+1) 0 [iV x.n,iV x.v,iV x.u,sV (w.heap.size+1+1) m.nt m.nt,sV g x.ims.length x.ims.length]):=
  (hw.setCell (kQ _) _).trans ((zbn _ _ _ _).bl (fun b e=>by omega) (kc hw.size (by simp [World.setCell])))
 have hfin:=CR.off (K' :=fun b=>b<w.heap.size) (fun b e=>.inl (by show b<w.heap.size+2;have e:b<w.heap.size:=e;omega)) _ _ (CR.chg hch _ _ HCR.o);exact⟨⟨⟨some ⟨w.heap.size+1+1,0,none⟩,m.nt,m.nt,some ⟨g,0,none⟩,x.ims.length,x.ims.length⟩,rfl,hfin⟩,hbel⟩
end
section
attribute [local go_sem ↓] kM kO
theorem CI.bl {w' :World} {m:CA} {x:Cp} (h:CI w K m x) (hb:bZ w w'):CI w' K m x:=by
 obtain ⟨vs,r1,r2,r3⟩:=h.row;exact⟨h.ts.bl hb,h.ot,h.ims.bl hb,⟨vs,r1.bl hb,r2.mono (LR.chg (.of hb K)),r3⟩⟩
def CSm (x:Cp):Prop:=x.ts.length<=1000000/\x.ims.length<=1000000/\∀r∈x.ims,r.length<=1000000
theorem zm5 (a:oA) (n c c0:Nat) (K:Nat->Prop) (l:List Cp) (w:World) (h:RIn CR w K a n c0 l) (hm:n<=1000000) (hs: ∀x∈l,CSm x):
 Cq 119 #[.slice a n c,.func (.func 120) #[] #[]] w (zhe CR 5 94 w l):=by
 obtain ⟨irr,hir,rz0,rz1,rz2⟩:=info_parts infoByC;obtain ⟨cur,hcs,hmk⟩:=zbh Tryz.prog w 37 94 irr _ 5 72 n Tryz.underlying37 hir rz0 rz1 rz2 (by omega) (by unfold maxLen;omega);have I0:Hd (CInv CR 5 94 w.heap.size n w l 0 (w.alloc (.cells cur 94))):=CInv.first hcs;obtain ⟨vs,h1,h2,-⟩:=h.row;have H1:=uH h1;have H2:=uH h2;have HN:=uH h.len;have HS:=uH hs;clear h1 h2 h hs hcs;have hnI: (n:Int)<=9223372036854775807:=by omega
 go_enter Tryz.func119,Tryz.ntmps119;go_wp2_with fail;generalize w.alloc (.cells cur 94)=W0 at *;clear hmk
 go_loopw [13] (fun i wq=>∃k:Nat,k<=n/\i=iV k/\Hd (CInv CR 5 94 w.heap.size n w l k wq)) (fun i _=>n - (intOf i).toNat)
 case atStart=>exact⟨0,by omega,rfl,I0⟩
 case round=>
  clear I0;obtain ⟨wq,rfl⟩: ∃wq:World,wq=wr:=⟨_,rfl⟩;obtain ⟨k,hk,rfl,hI⟩:=hrel
  by_cases hkn:k<n
  {
  have hkI: (k:Int)< (n:Int):=by omega
  have hul:k<l.length:=by rw [HN.o];exact hkn
  have hB:=hI.o.bel;have hsu:=HS.o _ (KH hul);obtain ⟨b,off,mm,rfl,q0,y0,y1,y2,y3,y4⟩:=zfa H1.o H2.o (kX hul);have HU:=uH (fun W (hW:bZ w W)=>zfb l[k] mm K W (q0.bl hW) hsu.1 hsu.2.1 hsu.2.2);unfold cpv at HU;have HX:Hd (l[k]?=some l[k]):=kX hul;generalize l[k]=u at *;replace y0:=(hB.cell (zah y0)).trans y0;replace y1:=(hB.cell (zah y1)).trans y1;replace y2:=(hB.cell (zah y2)).trans y2;replace y3:=(hB.cell (zah y3)).trans y3;replace y4:=(hB.cell (zah y4)).trans y4;have HK:Hd (k<n):=hkn;clear hkn hul hsu;have hb1:bZ wq (wq.alloc (.cells (aC u mm) 94)):=bA1;go_wp2_with fail;refine(zae HU _ (bT hB hb1)).mono ?_;rintro e w3 ⟨⟨m4,rfl,hcr⟩,hb3⟩;have hb4:=bT hb1 hb3;obtain ⟨cq,r1,r2,-⟩:=hI.o.row;have hro:=uH (zab r1 hb4);have hz:k * 5+5<=cq.size:=by rw [r2,<-Nat.succ_mul];exact Kk _ HK.o
  obtain ⟨v0,z0,f0⟩:=zbe hro.o (i:=k * 5) (by omega);obtain ⟨v1,z1,f1⟩:=zbe hro.o (i:=k * 5+1) (by omega);obtain ⟨v2,z2,f2⟩:=zbe hro.o (i:=k * 5+2) (by omega);obtain ⟨v3,z3,f3⟩:=zbe hro.o (i:=k * 5+3) (by omega);obtain ⟨v4,z4,f4⟩:=zbe hro.o (i:=k * 5+4) (by omega);clear r1 r2;go_wp2_with fail;refine⟨⟨k+1,HK.o,by simp, ?_⟩,by have:=HK.o;simp [intOf];omega⟩;have hel:CR w3 (Out (wq.heap.size - 1)) u [iV u.n,iV u.v,iV u.u,.slice m4.at_ m4.nt m4.ct,.slice m4.ai m4.ni m4.ci]:=CR.off (fun b e=>.inl (by show b< (wq.alloc (.cells (aC u mm) 94)).heap.size;have e:b<=wq.heap.size - 1:=e;have:=hI.o.lt;simp;omega)) _ _ hcr;have hst:=hI.o.step CR.chg CR.off CR.len (kQ _) HX.o (by rw [HN.o];exact kQ _) hb4 hel;exact hst }
  {
  have hkk:k=n:=by omega
  subst hkk;clear hk hkn;go_wp2_with fail;go_ret;have hl:=HN.o;subst hl;exact hI.o.last (kQ _) }
theorem last_4 (w:World) (o0 o1 o2 o3 o4:Obj): (((((w.alloc o0).alloc o1).alloc o2).alloc o3).alloc o4).heap[w.heap.size+1+1+1+1]?=some o4:=by
 have:=kP ((((w.alloc o0).alloc o1).alloc o2).alloc o3) o4
 simpa only [KB] using this
theorem last_5 (w:World) (o0 o1 o2 o3 o4 o5:Obj): ((((((w.alloc o0).alloc o1).alloc o2).alloc o3).alloc o4).alloc o5).heap[w.heap.size+1+1+1+1+1]?=some o5:=by
 have:=kP (((((w.alloc o0).alloc o1).alloc o2).alloc o3).alloc o4) o5
 simpa only [KB] using this
theorem last_6 (w:World) (o0 o1 o2 o3 o4 o5 o6:Obj): (((((((w.alloc o0).alloc o1).alloc o2).alloc o3).alloc o4).alloc o5).alloc o6).heap[w.heap.size+1+1+1+1+1+1]?=some o6:=by
 have:=kP ((((((w.alloc o0).alloc o1).alloc o2).alloc o3).alloc o4).alloc o5) o6
 simpa only [KB] using this
theorem last_7 (w:World) (o0 o1 o2 o3 o4 o5 o6 o7:Obj): ((((((((w.alloc o0).alloc o1).alloc o2).alloc o3).alloc o4).alloc o5).alloc o6).alloc o7).heap[w.heap.size+1+1+1+1+1+1+1]?=some o7:=by
 have:=kP (((((((w.alloc o0).alloc o1).alloc o2).alloc o3).alloc o4).alloc o5).alloc o6) o7
 simpa only [KB] using this
theorem below8 (w:World) (o0 o1 o2 o3 o4 o5 o6 o7:Obj):bZ w ((((((((w.alloc o0).alloc o1).alloc o2).alloc o3).alloc o4).alloc o5).alloc o6).alloc o7):=
 ((((((bA2).alloc (by simp;omega) _).alloc (by simp;omega) _).alloc (by simp;omega) _).alloc (by simp;omega) _).alloc (by simp;omega) _).alloc (by simp;omega) _
theorem zns (g:Gt) (m:GA) (w:World) (h:GIn w m g) (h1:m.n<=1000000) (h2:m.nk<=1000000) (h3:m.nv<=1000000) (h4:m.nd<=1000000):
 Cq 115 #[gtv g m] w fun e w' =>(∃k,e=.returned (gtv g k)/\GIn w' k g/\GFr w.heap.size k)/\bZ w w' :=by
 have H1:=uH (fun W (hW:bZ w W)=>zha g.ws g.fu m.a m.n m.c W (h.ws.bl hW).bi h1);have H2:=uH (fun W (hW:bZ w W)=>zek m.ak m.nk m.ck (vals g.t.r.ks) W (zg6 (h.ks.bl hW).at_) (by rw [za3,h.ks.len,Ko]) (zbu _) h2);have H3:=uH (fun W (hW:bZ w W)=>ziw m.av m.nv m.cv (bls g.vo) W (bls_row (h.vo.bl hW).at_) (by rw [show(bls g.vo).length=g.vo.length by simp [bls],h.vo.len,Ko]) (bls_one _) h3);have H4:=uH (fun W (hW:bZ w W)=>ziw m.ad m.nd m.cd (bls g.di) W (bls_row (h.di.bl hW).at_) (by rw [show(bls g.di).length=g.di.length by simp [bls],h.di.len,Ko]) (bls_one _) h4);have HG:=uH h;clear h;unfold gtv;go_enter Tryz.func115,Tryz.ntmps115;go_wp2_with fail;refine(zae H1 _ (zdv _ _ _)).mono ?_;rintro e w1 ⟨rfl,rfl⟩;go_wp2_with fail;refine(zae H2 _ ?_).mono ?_
 { exact(zdv _ _ _).trans ((zds _ _ _ _).mono (by simp;omega)) }
 rintro e w1 ⟨rfl,rfl⟩;go_wp2_with fail;refine(zae H3 _ ?_).mono ?_
 { exact((zdv _ _ _).trans ((zds _ _ _ _).mono (by simp;omega))).alloc (by simp;omega) _ }
 rintro e w1 ⟨rfl,rfl⟩;go_wp2_with fail;refine(zae H4 _ ?_).mono ?_
 { exact(((zdv _ _ _).trans ((zds _ _ _ _).mono (by simp;omega))).alloc (by simp;omega) _).alloc (by simp;omega) _ }
 rintro e w1 ⟨rfl,rfl⟩;go_wp2_with fail;refine kT (v:=gtv g ⟨some ⟨w.heap.size+1+1+1+1,0,none⟩,m.n,m.n,some ⟨w.heap.size+1+1+1+1+1,0,none⟩,m.nk,m.nk,some ⟨w.heap.size+1+1+1+1+1+1,0,none⟩,m.nv,m.nv,some ⟨w.heap.size+1+1+1+1+1+1+1,0,none⟩,m.nd,m.nd⟩) (by simp [results,Tryz.results115,go_sem,gtv]) rfl ?_;have r4:=zai (zai (zai (last_4 w (.cells #[sV (w.heap.size+1+1+1+1) m.n m.n,iV g.fu,.bool g.up,iV g.t.r.v,sV (w.heap.size+1+1+1+1+1) m.nk m.nk,iV g.t.r.t,iV g.t.ver,sV (w.heap.size+1+1+1+1+1+1) m.nv m.nv,sV (w.heap.size+1+1+1+1+1+1+1) m.nd m.nd] 35) (.cells #[sV (w.heap.size+1+1+1+1) m.n m.n,iV g.fu,.bool g.up,iV g.t.r.v,sV (w.heap.size+1+1+1+1+1) m.nk m.nk,iV g.t.r.t,iV g.t.ver,sV (w.heap.size+1+1+1+1+1+1) m.nv m.nv,sV (w.heap.size+1+1+1+1+1+1+1) m.nd m.nd] 35) (.cells #[sV (w.heap.size+1+1+1+1) m.n m.n,iV g.fu] 28) (.cells #[sV (w.heap.size+1+1+1+1) m.n m.n,iV g.fu] 28) (.cells (vals g.ws).toArray 3)) (.cells (vals g.t.r.ks).toArray 3)) (.cells (bls g.vo).toArray 4)) (.cells (bls g.di).toArray 4);have r5:=zai (zai (last_5 w (.cells #[sV (w.heap.size+1+1+1+1) m.n m.n,iV g.fu,.bool g.up,iV g.t.r.v,sV (w.heap.size+1+1+1+1+1) m.nk m.nk,iV g.t.r.t,iV g.t.ver,sV (w.heap.size+1+1+1+1+1+1) m.nv m.nv,sV (w.heap.size+1+1+1+1+1+1+1) m.nd m.nd] 35) (.cells #[sV (w.heap.size+1+1+1+1) m.n m.n,iV g.fu,.bool g.up,iV g.t.r.v,sV (w.heap.size+1+1+1+1+1) m.nk m.nk,iV g.t.r.t,iV g.t.ver,sV (w.heap.size+1+1+1+1+1+1) m.nv m.nv,sV (w.heap.size+1+1+1+1+1+1+1) m.nd m.nd] 35) (.cells #[sV (w.heap.size+1+1+1+1) m.n m.n,iV g.fu] 28) (.cells #[sV (w.heap.size+1+1+1+1) m.n m.n,iV g.fu] 28) (.cells (vals g.ws).toArray 3) (.cells (vals g.t.r.ks).toArray 3)) (.cells (bls g.vo).toArray 4)) (.cells (bls g.di).toArray 4);have r6:=zai (last_6 w (.cells #[sV (w.heap.size+1+1+1+1) m.n m.n,iV g.fu,.bool g.up,iV g.t.r.v,sV (w.heap.size+1+1+1+1+1) m.nk m.nk,iV g.t.r.t,iV g.t.ver,sV (w.heap.size+1+1+1+1+1+1) m.nv m.nv,sV (w.heap.size+1+1+1+1+1+1+1) m.nd m.nd] 35) (.cells #[sV (w.heap.size+1+1+1+1) m.n m.n,iV g.fu,.bool g.up,iV g.t.r.v,sV (w.heap.size+1+1+1+1+1) m.nk m.nk,iV g.t.r.t,iV g.t.ver,sV (w.heap.size+1+1+1+1+1+1) m.nv m.nv,sV (w.heap.size+1+1+1+1+1+1+1) m.nd m.nd] 35) (.cells #[sV (w.heap.size+1+1+1+1) m.n m.n,iV g.fu] 28) (.cells #[sV (w.heap.size+1+1+1+1) m.n m.n,iV g.fu] 28) (.cells (vals g.ws).toArray 3) (.cells (vals g.t.r.ks).toArray 3) (.cells (bls g.vo).toArray 4)) (.cells (bls g.di).toArray 4);have r7:=last_7 w (.cells #[sV (w.heap.size+1+1+1+1) m.n m.n,iV g.fu,.bool g.up,iV g.t.r.v,sV (w.heap.size+1+1+1+1+1) m.nk m.nk,iV g.t.r.t,iV g.t.ver,sV (w.heap.size+1+1+1+1+1+1) m.nv m.nv,sV (w.heap.size+1+1+1+1+1+1+1) m.nd m.nd] 35) (.cells #[sV (w.heap.size+1+1+1+1) m.n m.n,iV g.fu,.bool g.up,iV g.t.r.v,sV (w.heap.size+1+1+1+1+1) m.nk m.nk,iV g.t.r.t,iV g.t.ver,sV (w.heap.size+1+1+1+1+1+1) m.nv m.nv,sV (w.heap.size+1+1+1+1+1+1+1) m.nd m.nd] 35) (.cells #[sV (w.heap.size+1+1+1+1) m.n m.n,iV g.fu] 28) (.cells #[sV (w.heap.size+1+1+1+1) m.n m.n,iV g.fu] 28) (.cells (vals g.ws).toArray 3) (.cells (vals g.t.r.ks).toArray 3) (.cells (bls g.vo).toArray 4) (.cells (bls g.di).toArray 4);exact⟨⟨_,rfl,⟨⟨zgw (zcq r4),HG.o.ws.len,kQ _,HG.o.ws.max⟩,⟨zgw (zcq r5),HG.o.ks.len,HG.o.ks.max⟩,⟨bls_of (zcq r6),HG.o.vo.len,kQ _,HG.o.vo.max⟩,⟨bls_of (zcq r7),HG.o.di.len,kQ _,HG.o.di.max⟩⟩,⟨zal.here (by omega) _,zal.here (by omega) _,zal.here (by omega) _,zal.here (by omega) _⟩⟩,below8 _ _ _ _ _ _ _ _ _⟩
end
section
open Go.ChangeShapes Go.WideShapes Go.ChangeAt Go.RowKit Go.Joins
theorem zb3 {f:Int} (h: (Lit.int .i64 f).wf=true): -9223372036854775808<=f/\f<=9223372036854775807:=by
 simp [Lit.wf,IntKind.min,IntKind.max,IntKind.bits,IntKind.signed] at h
 omega
end
end Go.Proofs.YthmekfcgdfckaaaGreatDoor
