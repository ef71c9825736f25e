/- Facts. -/
import Derived.Test.YthmekfcgdfckaaaGreatDoorWz6
import Derived.Lib.AppendZeros
set_option maxRecDepth 1000000
set_option maxHeartbeats 0
namespace Go.Proofs.YthmekfcgdfckaaaGreatDoor
open Go.RowKit
variable {u:Un} {st:Stu} {r:List Stu} {W w w' :World} {b n c F B b2 base:Nat} {t:TypeId} {a:oA} {ws xs:LI} {f:Int} {s:Us} {g:Gt} {m:Ms} {bs:List Bool} {vs:LV}
section
attribute [local go_sem ↓] kM kO
theorem doU_7 {r:LI×Int×Int} (h:r.2.2=7):doU u r= (⟨r.1,r.2.1,false,0,0⟩,false):=by unfold doU;rw [KK h]
theorem doU_0 {r:LI×Int×Int} (h:r.2.2=0):doU u r= (⟨r.1,r.2.1,u.up,u.n,u.hv⟩,true):=by unfold doU;rw [KJ (by rw [h];decide),KK h]
theorem doU_e {r:LI×Int×Int} (h7:r.2.2≠7) (h0:r.2.2≠0):doU u r= (u,false):=by unfold doU;rw [KJ h7,KJ h0]
theorem ziy (h: (doV u st).2=true):turnU (st::r) u=turnU r (doV u st).1:=by show(if _ then _ else _)=_;rw [KK h]
theorem zez (h: (doV u st).2=false):turnU (st::r) u= ((doV u st).1,false):=by show(if _ then _ else _)=_;rw [KJ (by rw [h];decide)]
theorem turnU_one (st:Stu) (u:Un):turnU [st] u=doV u st:=by
 cases h: (doV u st).2
 { rw [zez h,<-h] }
 {
 rw [ziy h];show((doV u st).1,true)=_;rw [<-h] }
theorem un_set5 {t:Un} {a2:oA} {n2 c2:Nat} (h:W.heap[b]?=some (unO u a n c)):
 (((((W.setCell ⟨b,0,none⟩ (.slice a2 n2 c2)).setCell ⟨b,1,none⟩ (iV t.fu)).setCell ⟨b,2,none⟩ (.bool t.up)).setCell ⟨b,3,none⟩ (iV t.n)).setCell ⟨b,4,none⟩ (iV t.hv)).heap[b]?=some (unO t a2 n2 c2):=by
 unfold unO at h|-;simp only [World.setCell,KP]
 simp [h]
theorem un_set2 {a2:oA} {n2 c2:Nat} (h:W.heap[b]?=some (unO u a n c)):
 ((W.setCell ⟨b,0,none⟩ (.slice a2 n2 c2)).setCell ⟨b,1,none⟩ (iV f)).heap[b]?=some (unO ⟨ws,f,u.up,u.n,u.hv⟩ a2 n2 c2):=by
 unfold unO at h|-;simp only [World.setCell,KP]
 simp [h]
theorem zig {x y:Int} (h:W.heap[b]?=some (unO u a n c)):
 ((W.setCell ⟨b,3,none⟩ (iV x)).setCell ⟨b,4,none⟩ (iV y)).heap[b]?=some (unO (mind u x y) a n c):=by
 unfold unO mind at *;simp only [World.setCell,KP]
 simp [h]
theorem un_hv {y:Int} (h:W.heap[b]?=some (unO u a n c)):
 (W.setCell ⟨b,4,none⟩ (iV y)).heap[b]?=some (unO (mind u u.n y) a n c):=by
 unfold unO mind at *;simp only [World.setCell,KP]
 simp [h]
theorem OwnU.bl (h:OwnU F w B u) (hb:bZ w w'):OwnU F w' B u:=by
 obtain ⟨a,n,c,h1,h2,h3⟩:=h;exact⟨a,n,c,zab h1 hb,h2.bl hb,h3⟩
theorem OwnU.lt (h:OwnU F w B u):B<w.heap.size:=by
 obtain ⟨a,n,c,h1,_⟩:=h;exact zak h1
theorem zgg (B bs L cl:Nat) (sts:List Stu) (u:Un) (w:World) (hU:OwnU F w B u) (hst: ∀(i:Nat) (st:Stu),sts[i]?=some st->∃v,w.cell? ⟨bs,i,none⟩=some v/\IsStu w B v st) (hne:bs≠B) (hL:sts.length=L) (hL2:L<=100):
 Cq 206 #[.pointer (some ⟨B,0,none⟩),sV bs L cl] w fun e w' =>e=.returned (.bool (turnU sts u).2)/\OwnU F w' B (turnU sts u).1/\w.grownBy w' (some B):=by
 have HS:=uH hst;have HL:=uH hL;have HU:=uH hU;clear hst hL hU;go_enter Tryz.func206,Tryz.ntmps206;go_wp2_with fail
 go_loopw [11] (fun i wr=>∃(k:Nat) (us:Un),k<=L/\i=iV k/\Hd (OwnU F wr B us)/\w.grownBy wr (some B)/\Hd (turnU sts u=turnU (sts.drop k) us)) (fun i _=>L - (intOf i).toNat)
 case atStart=>exact⟨0,u,KG _,rfl,HU,kf _ _,by show _=_;rw [List.drop_zero]⟩
 case round=>
  clear HU;obtain ⟨wq,rfl⟩: ∃wq:World,wq=wr:=⟨_,rfl⟩;obtain ⟨k,us,hk,rfl,hu,hg,ht⟩:=hrel
  by_cases hlt:k<L
  {
  have hkl:k<sts.length:=by rw [HL.o];exact hlt
  obtain ⟨v,hv,hsv⟩:=HS.o k sts[k] (kX hkl);have hv' :=hg.cell hv (fun e=>hne (by cases e;rfl));have hs0:=hsv wq hg;have hd:Hd (sts.drop k=sts[k]::sts.drop (k+1)):=kq hkl;obtain ⟨a,n,c,hb,hi,hl,hc,hm,ho,hfr,hFB⟩:=hu.o;have hFs:F<=wq.heap.size:=kc hFB (Nat.le_of_lt (zak hb));generalize sts[k]=st at *;clear hv hsv;obtain ⟨fn,caps,⟨rfl,hcaps⟩,hcall⟩:=step_any v st a n c us.ws us.fu wq hs0 ⟨hi,hl,hc,hm⟩;have HCall:=uH hcall;have hle:=doT_le st us.ws us.fu;rw [hl] at hle;have HV:Hd (doV us st=doU us (doT st us.ws us.fu)):=rfl;have HB:=uH hb;have hltB:=zak hb;have hi0:=uH hi;have hl0:=uH hl;clear hs0 hcall hi hl;unfold unO at hb;have x0:=zaa hb 0 _ rfl;have x1:=zaa hb 1 _ rfl;clear hb;generalize doT st us.ws us.fu=R at *
  rcases hcaps with ⟨rfl,rfl⟩| ⟨rfl,p,rfl⟩| ⟨rfl,p,q,r,rfl⟩| ⟨rfl,p,q,r,rfl⟩| ⟨rfl,p,q,rfl⟩
  all_goals
   go_wp2_with fail;refine(zae HCall).mono ?_;rintro e w1 ⟨⟨a2,n2,c2,rfl,hi2,hn2,hc2,hf2⟩,hb2⟩;have hbA:=zaf hb2 (.cells #[.slice a2 n2 c2,iV R.2.1] 28);have B1:=uH (zab HB.o hbA);have hi2A:=hi2.alloc (.cells #[.slice a2 n2 c2,iV R.2.1] 28);have bT:=uH (kP w1 (.cells #[.slice a2 n2 c2,iV R.2.1] 28));have hgA:=hg.trans (zaj hbA B);have hneT:w1.heap.size≠B:=by have:=hb2.size;omega
   have HI2:=uH hi2A;have HN2:=uH hn2;have HF2:=uH hf2;rw [HN2.o] at hle;have hm2:n2<=maxLen:=kc hle hm;have huA:=uH (OwnU.bl hu.o hbA);clear hn2 hi2 hi2A hf2 hb2 hbA;have t0:=zaa bT.o 0 _ rfl;have t1:=zaa bT.o 1 _ rfl;have hB5:=B1.o;unfold unO at hB5;obtain ⟨y0,y1,y2,y3,y4⟩:=cl5 hB5;obtain ⟨f0,f1,f2,f3,f4⟩:=fr5 hB5;clear hB5
   by_cases z7:R.2.2=7
   {
   have HT:Hd (turnU sts u= (⟨R.1,R.2.1,false,0,0⟩,false)):=by
    show _=_
    have h7:=HV.o.trans (doU_7 z7);rw [ht.o,hd.o,zez (by rw [h7]),h7]
   have d7: (R.2.2==7)=true:=by simpa using z7
   have d0: (R.2.2 !=0)=true:=by rw [z7];decide
   clear z7 huA;go_wp2_with fail;go_ret;rw [HT.o];refine⟨rfl, ?_,zac (zac (zac (zac (zac hgA _ _) _ _) _ _) _ _) _ _⟩;have hfar:=za6 HF2.o hltB;exact⟨a2,n2,c2,un_set5 (t:=⟨R.1,R.2.1,false,0,0⟩) B1.o,zax HI2.o (zac (zac (zac (zac (zac (kf _ _) _ _) _ _) _ _) _ _) _ _) hfar,HN2.o,hc2,hm2,hfar,zal.mono HF2.o hFs,hFB⟩ }
   {
   have d7: (R.2.2==7)=false:=by simpa using z7
   by_cases z0:R.2.2=0
   {
   have hV0:=HV.o.trans (doU_0 (u:=us) z0);have HT:Hd (turnU sts u=turnU (sts.drop (k+1)) ⟨R.1,R.2.1,us.up,us.n,us.hv⟩):=by
    show _=_
    rw [ht.o,hd.o,ziy (by rw [hV0]),hV0]
   have d0: (R.2.2 !=0)=false:=by simpa using z0
   clear z0 z7 huA hV0;go_wp2_with fail
   go_roundw
   case rel=>
    have hfar:=za6 HF2.o hltB;refine⟨k+1,⟨R.1,R.2.1,us.up,us.n,us.hv⟩,by omega,by go_num, ?_,zac (zac hgA _ _) _ _,HT⟩;exact⟨a2,n2,c2,un_set2 B1.o,zax HI2.o (zac (zac (kf _ _) _ _) _ _) hfar,HN2.o,hc2,hm2,hfar,zal.mono HF2.o hFs,hFB⟩
   case measure=>simp [intOf];omega }
   {
   have hV0:=HV.o.trans (doU_e (u:=us) z7 z0);have HT:Hd (turnU sts u= (us,false)):=by
    show _=_
    rw [ht.o,hd.o,zez (by rw [hV0]),hV0]
   have d0: (R.2.2 !=0)=true:=by simpa using z0
   clear z0 z7 hV0;go_wp2_with fail;go_ret;rw [HT.o];exact⟨rfl,huA.o,hgA⟩ } } }
  {
  have HT:Hd (turnU sts u= (us,true)):=by show _=_;rw [ht.o,Kj (by rw [HL.o];omega)];rfl
  go_wp2_with fail;go_ret;rw [HT.o];exact⟨rfl,hu.o,hg⟩ }
end
section
attribute [local go_sem ↓] kM kO
def Makes (w:World) (B:Nat) (st:Stu) (e:Ending) (w' :World):Prop:=(∃fn caps,e=.returned (.func (.func fn) #[] caps)/\IsStu w' B (.func (.func fn) #[] caps) st)/\bZ w w'
theorem zav {i:Nat} {v:Value} (h:ce w b i=some v) (hg:w.grownBy w' (some B)) (hne:b≠B):ce w' b i=some v:=hg.cell h (fun e=>hne (by cases e;rfl))
theorem uLast4 (w:World) (o1 o2 o3 o4 o5:Obj): (((((w.alloc o1).alloc o2).alloc o3).alloc o4).alloc o5).heap[w.heap.size+1+1+1+1]?=some o5:=by
 have:=kP ((((w.alloc o1).alloc o2).alloc o3).alloc o4) o5
 rwa [KB,KB,KB,KB] at this
theorem zb0 (h:BI w a n xs) (hg:w.grownBy w' (some B)) (ho:xs= []\/Off B a):BI w' a n xs:=by
 refine⟨?_,h.len,h.max⟩
 rcases ho with e|ho
 { exact .inl e }
 {
 exact zax h.at_ hg ho }
theorem zoi (s:Int) (B:Nat) (w:World) (hB:B<w.heap.size):Cq 310 #[iV s] w (Makes w B (.clr s)):=by
 have b0:=kP w (.cells #[iV s] 3);have HB0:=uH (zaa b0 0 _ rfl);clear b0;go_enter Tryz.func310,Tryz.ntmps310;go_wp2;go_ret;exact⟨⟨_,_,rfl,fun w' hg=>⟨_,rfl,zav HB0.o hg (by omega)⟩⟩,bA1⟩
theorem zel (s p:Int) (a2:oA) (n2 c2:Nat) (words:LI) (B:Nat) (w:World) (hB:B<w.heap.size) (h2:BI w a2 n2 words) (ho:words= []\/Off B a2):Cq 207 #[iV s,iV p,.slice a2 n2 c2] w (Makes w B (.fil s p words)):=by
 have hb:bZ w (((w.alloc (.cells #[iV s] 3)).alloc (.cells #[iV p] 3)).alloc (.cells #[.slice a2 n2 c2] 26)):=(bA2).alloc (by simp;omega) _;have c0:=uH (zaa (zai (zai (kP w (.cells #[iV s] 3)) (.cells #[iV p] 3)) (.cells #[.slice a2 n2 c2] 26)) 0 _ rfl);have c1:=uH (zaa (zai (zau w (.cells #[iV s] 3) (.cells #[iV p] 3)) (.cells #[.slice a2 n2 c2] 26)) 0 _ rfl);have c2' :=uH (zaa (zb9 w (.cells #[iV s] 3) (.cells #[iV p] 3) (.cells #[.slice a2 n2 c2] 26)) 0 _ rfl);have HI:=uH (h2.bl hb);clear h2;go_enter Tryz.func207,Tryz.ntmps207;go_wp2;go_ret;exact⟨⟨_,_,rfl,fun w' hg=>⟨_,_,_,a2,n2,c2,rfl,zav c0.o hg (by omega),zav c1.o hg (by omega),zav c2'.o hg (by omega),zb0 HI.o hg ho⟩⟩,hb⟩
theorem ziv (s l nm:Int) (B:Nat) (w:World) (hB:B<w.heap.size):Cq 208 #[iV s,iV l,iV nm] w (Makes w B (.sea s l nm)):=by
 have hb:bZ w (((w.alloc (.cells #[iV s] 3)).alloc (.cells #[iV l] 3)).alloc (.cells #[iV nm] 3)):=(bA2).alloc (by simp;omega) _;have c0:=uH (zaa (zai (zai (kP w (.cells #[iV s] 3)) (.cells #[iV l] 3)) (.cells #[iV nm] 3)) 0 _ rfl);have c1:=uH (zaa (zai (zau w (.cells #[iV s] 3) (.cells #[iV l] 3)) (.cells #[iV nm] 3)) 0 _ rfl);have c2' :=uH (zaa (zb9 w (.cells #[iV s] 3) (.cells #[iV l] 3) (.cells #[iV nm] 3)) 0 _ rfl);go_enter Tryz.func208,Tryz.ntmps208;go_wp2;go_ret;exact⟨⟨_,_,rfl,fun w' hg=>⟨_,_,_,rfl,zav c0.o hg (by omega),zav c1.o hg (by omega),zav c2'.o hg (by omega)⟩⟩,hb⟩
theorem zlp {x y z:Int} (h0:ce w b 0=some (iV x)) (h1:ce w b 1=some (iV y)) (h2:ce w b 2=some (iV z)):zag w (some ⟨b,0,none⟩) [x,y,z]:=by
 refine .inr ⟨b,0,rfl,fun i hi=> ?_⟩
 simp at hi
 rcases i with _|_|_|i
 { exact h0 }
 { exact h1 }
 { exact h2 }
 { omega }
theorem zk9 {x y:Int} (h0:ce w b 0=some (iV x)) (h1:ce w b 1=some (iV y)):zag w (some ⟨b,0,none⟩) [x,y]:=by
 refine .inr ⟨b,0,rfl,fun i hi=> ?_⟩
 simp at hi
 rcases i with _|_|i
 { exact h0 }
 { exact h1 }
 { omega }
theorem keepU_0 (h:s.rdy=0):keepU s= [[1,s.slot,s.by']]:=by unfold keepU;rw [KK h]
theorem keepU_1 (h: ¬s.rdy=0):keepU s= [[1,s.slot,s.by'], [2,s.rdy]]:=by unfold keepU;rw [KJ h]
theorem zqy {g:Nat} {r:LI} (hc:w.cell? ⟨g,0,none⟩=some (sV b n c)) (hi:zag w (some ⟨b,0,none⟩) r) (hn:r.length=n) (h1:n<=c) (h2:c<=maxLen):zck w (some ⟨g,0,none⟩) [r]:=by
 refine .inr ⟨g,0,rfl,fun i x hx=> ?_⟩
 match i with
 |0=>simp at hx;subst hx;exact⟨_,c,by rw [hn];exact hc,hi,by rw [hn];exact h1,h2⟩
 |i+1=>simp at hx
theorem zqq {g:Nat} {r r2:LI} {n2 c2:Nat} (hc:ce w g 0=some (sV b n c)) (hi:zag w (some ⟨b,0,none⟩) r) (hn:r.length=n) (h1:n<=c) (h2:c<=maxLen)
 (hc' :ce w g 1=some (sV b2 n2 c2)) (hi' :zag w (some ⟨b2,0,none⟩) r2) (hn' :r2.length=n2) (h1' :n2<=c2) (h2' :c2<=maxLen):zck w (some ⟨g,0,none⟩) [r,r2]:=by
 refine .inr ⟨g,0,rfl,fun i x hx=> ?_⟩
 match i with
 |0=>simp at hx;subst hx;exact⟨_,c,by rw [hn];exact hc,hi,by rw [hn];exact h1,h2⟩
 |1=>simp at hx;subst hx;exact⟨_,c2,by rw [hn'];exact hc',hi',by rw [hn'];exact h1',h2'⟩
 |i+2=>simp at hx
theorem recRow {g cap:Nat} {v0 v1:Value} (h:w.ownsRow base 208 1 (sV g (1+1) cap) (1+1) ([v0]++ [v1])): (∃cur,w.heap[g]?=some (.cells cur 208 (0,0)))/\ce w g 0=some v0/\ce w g 1=some v1:=by
 obtain ⟨_,⟨hv,_⟩| ⟨g',cap',cur,hv,hg,hh,hc,_,_,ht⟩⟩:=h
 { cases hv }
 {
 cases hv;have h0: (cur.toList.take 2)[0]?=some v0:=by rw [show cur.toList.take 2= [v0]++ [v1] from ht];rfl
 have h1: (cur.toList.take 2)[1]?=some v1:=by rw [show cur.toList.take 2= [v0]++ [v1] from ht];rfl
 refine⟨⟨cur,hh⟩,zaa hh 0 _ ?_,zaa hh 1 _ ?_⟩
 { simpa using h0 }
 {
 simpa using h1 } }
structure NB (W:World) (n:Nat) (s:Us) (ar:oA) (nr cr:Nat):Prop where
 b0:W.heap[n]?=some (usO s)
 b1:W.heap[n+1]?=some (.cells #[.slice ar nr cr] 26 (0,0))
 b2:W.heap[n+1+1]?=some (.cells #[iV 1,iV s.slot,iV s.by'] 3 (0,0))
 b3:W.heap[n+1+1+1]?=some (.cells #[sV (n+1+1) 3 3] 208 (0,0))
 b4:W.heap[n+1+1+1+1]?=some (.cells #[sV (n+1+1+1) 1 1] 75 (0,0))
def nW (w:World) (s:Us) (ar:oA) (nr cr:Nat):World:=
 ((((w.alloc (.cells #[iV s.slot,iV s.by',iV s.rdy] 84)).alloc (.cells #[.slice ar nr cr] 26)).alloc (.cells #[iV 1,iV s.slot,iV s.by'] 3)).alloc (.cells #[sV (w.heap.size+1+1) 3 3] 208)).alloc (.cells #[sV (w.heap.size+1+1+1) 1 1] 75)
theorem nW_nb (w:World) (s:Us) (ar:oA) (nr cr:Nat):NB (nW w s ar nr cr) w.heap.size s ar nr cr:=
 ⟨zai (zai (zai (zai (kP _ _) _) _) _) _,zai (zai (zai (zau _ _ _) _) _) _,zai (zai (zb9 _ _ _ _) _) _,zai (zj3 _ _ _ _ _) _,uLast4 _ _ _ _ _ _⟩
theorem nW_below (w:World) (s:Us) (ar:oA) (nr cr:Nat):bZ w (nW w s ar nr cr):=
 ((((bA2).alloc (by simp;omega) _).alloc (by simp;omega) _).alloc (by simp;omega) _)
theorem nW_size (w:World) (s:Us) (ar:oA) (nr cr:Nat): (nW w s ar nr cr).heap.size=w.heap.size+1+1+1+1+1:=by unfold nW;simp
theorem ze0 (s:Us) (ar:oA) (nr cr:Nat) (r:LI) (B:Nat) (w:World) (hB:B<w.heap.size) (hr:BI w ar nr r) (ho:Off B ar):Cq 209 #[usv s,.slice ar nr cr] w (Makes w B (.not s r)):=by
 obtain ⟨irr,hir,rz0,rz1,rz2⟩:=info_parts zgb;have nb:=uH (nW_nb w s ar nr cr);have hw0:=nW_below w s ar nr cr;have hsz:w.heap.size+1+1+1+1< (nW w s ar nr cr).heap.size:=by rw [nW_size];omega
 have HR:=uH (hr.bl hw0);have HO3:Hd (Off (w.heap.size+1+1+1) ar/\Off (w.heap.size+1+1+1+1) ar\/r= []):=by
  rcases zcu hr.at_ (w.heap.size+1+1+1) (by omega) with h|h
  { exact .inr h }
  {
  rcases zcu hr.at_ (w.heap.size+1+1+1+1) (by omega) with h2|h2
  { exact .inr h2 }
  { exact .inl ⟨h,h2⟩ } }
 clear hr;have ml3:3<=maxLen:=by decide
 unfold usv
 by_cases z:s.rdy=0
 {
 have HK:=uH (keepU_0 z);have d: (s.rdy !=0)=false:=by simpa using z
 clear z;unfold nW at nb hw0 hsz HR;go_enter Tryz.func209,Tryz.ntmps209;go_wp2_with fail;go_ret;refine⟨⟨_,_,rfl,fun w' hg=> ?_⟩,hw0⟩;refine⟨_,_,ar,nr,cr,_,1,1,rfl,zav (zaa nb.o.b1 0 _ rfl) hg (by omega),zav (zaa nb.o.b4 0 _ rfl) hg (by omega),zb0 HR.o hg (.inr ho), ?_,by rw [HK.o];rfl,kc (by decide) ml3⟩;rw [HK.o];refine zqy (zav (zaa nb.o.b3 0 _ rfl) hg (by omega)) ?_ rfl (kQ _) ml3;exact zlp (zav (zaa nb.o.b2 0 _ rfl) hg (by omega)) (zav (zaa nb.o.b2 1 _ rfl) hg (by omega)) (zav (zaa nb.o.b2 2 _ rfl) hg (by omega)) }
 {
 have HK:=uH (keepU_1 z);have d: (s.rdy !=0)=true:=by simpa using z
 clear z;go_enter Tryz.func209,Tryz.ntmps209;go_upto_region 3 with fail
 rw [show((((w.alloc (.cells #[iV s.slot,iV s.by',iV s.rdy] 84)).alloc (.cells #[.slice ar nr cr] 26)).alloc (.cells #[iV 1,iV s.slot,iV s.by'] 3)).alloc (.cells #[sV (w.heap.size+1+1) 3 3] 208)).alloc (.cells #[sV (w.heap.size+1+1+1) 1 1] 75)=nW w s ar nr cr from rfl];generalize nW w s ar nr cr=W at *;have a0:=nb.o.b0;unfold usO at a0;have x2:=zaa a0 2 _ rfl;have x4:=zaa nb.o.b4 0 _ rfl;have fx4:=zad nb.o.b4 0;have hbB:=zaf (zaf (kS W.heap.size W) (.cells #[iV 2,iV s.rdy] 3)) (.cells #[sV W.heap.size 2 2] 208);have hrow: ((W.alloc (.cells #[iV 2,iV s.rdy] 3)).alloc (.cells #[sV W.heap.size 2 2] 208)).ownsRow (w.heap.size+1+1+1) 208 1 (sV (w.heap.size+1+1+1) 1 1) 1 [sV (w.heap.size+1+1) 3 3]:=
  ⟨rfl,.inr ⟨_,1,_,rfl,kQ _,zab nb.o.b3 hbB,kQ _,by decide,rfl,rfl⟩⟩
 have hnews:=zg5 (W.alloc (.cells #[iV 2,iV s.rdy] 3)) (sV W.heap.size 2 2) 208;rw [KB] at hnews;have bR:=uH (zai (kP W (.cells #[iV 2,iV s.rdy] 3)) (.cells #[sV W.heap.size 2 2] 208));clear a0
 go_wp2_with (at_builtin;refine wpList_append_lies _ rfl _ _ 75 rfl (w.heap.size+1+1+1) 208 irr _ 1 24 Tryz.underlying75 hir rz0 rz1 rz2 rfl (by omega) _ 1 _ rfl hrow ⟨W.heap.size+1,0,none⟩ 1 1 [sV W.heap.size 2 2] rfl rfl hnews (zkz _ _ _) (by omega) (by unfold maxLen;omega) (by omega) (by simp;omega) _ rfl ?_)
 intro g cap w5 hown hgr hat hlt;have hk5:Below (w.heap.size+1+1+1) W w5:=(hbB.mono (by omega)).grown hgr (by simp;omega) (zc5 hrow);have hgr' : ((W.alloc (.cells #[iV 2,iV s.rdy] 3)).alloc (.cells #[sV W.heap.size 2 2] 208)).grownBy w5 (some (w.heap.size+1+1+1)):=hgr;have hgW:W.grownBy w5 (some (w.heap.size+1+1+1)):=(zaj hbB _).trans hgr;have c1:=uH (zav (zaa nb.o.b1 0 _ rfl) hgW (by omega));have c20:=uH (zav (zaa nb.o.b2 0 _ rfl) hgW (by omega));have c21:=uH (zav (zaa nb.o.b2 1 _ rfl) hgW (by omega));have c22:=uH (zav (zaa nb.o.b2 2 _ rfl) hgW (by omega));have r0:=uH (zav (zaa bR.o 0 _ rfl) hgr' (by omega));have r1:=uH (zav (zaa bR.o 1 _ rfl) hgr' (by omega));have y4:=zav (zaa nb.o.b4 0 _ rfl) hgW (by omega);have b4' :=uH (zar nb.o.b4 hgW (by omega));have fy4:=zad b4'.o 0;have HR5:=uH (zb0 HR.o hgW (HO3.o.elim (fun h=>.inr h.1) .inl));have hrow5:=uH (recRow hown);have hgB:w.heap.size+1+1+1<=g:=by
  rcases hat with e|e
  {
  have:=zc5 hrow _ e;omega }
  { omega }
 have hg4:g≠w.heap.size+1+1+1+1:=fun e=>by
  obtain ⟨cur,h1⟩:=hrow5.o.1;rw [e,b4'.o] at h1;exact absurd h1 (by simp)
 have hw5:bZ w w5:=hw0.trans (hk5.mono (by omega));have hlt5:w.heap.size+1+1+1+1<w5.heap.size:=zak b4'.o;clear hown hgr hgr' hat x2 x4 fx4 hrow hnews;go_wp2_with fail;go_ret;have hs4:w5.grownBy (w5.setCell ⟨w.heap.size+1+1+1+1,0,none⟩ (sV g (1+1) cap)) (some (w.heap.size+1+1+1+1)):=zaw _ _ _ _;refine⟨⟨_,_,rfl,fun w' hg=> ?_⟩,hw5.setCell (by show w.heap.size<=w.heap.size+1+1+1+1;omega) _⟩;have hv4: (w5.setCell ⟨w.heap.size+1+1+1+1,0,none⟩ (sV g (1+1) cap)).cell? ⟨w.heap.size+1+1+1+1,0,none⟩=some (sV g (1+1) cap):=by
  refine zaa (cs:=#[sV g (1+1) cap]) (t:=75) ?_ 0 _ rfl;have:=b4'.o;simp only [World.setCell,KP]
  simp [this]
 have go: ∀{b i:Nat} {v:Value},w5.cell? ⟨b,i,none⟩=some v->b≠w.heap.size+1+1+1+1->b≠B->w'.cell? ⟨b,i,none⟩=some v:=fun h h1 h2=>zav (zav h hs4 h1) hg h2
 refine⟨_,_,ar,nr,cr,_,2,cap,rfl,go c1.o (by omega) (by omega),zav hv4 hg (by omega),zb0 (zb0 HR5.o hs4 (HO3.o.elim (fun h=>.inr h.2) .inl)) hg (.inr ho), ?_,by rw [HK.o];rfl,kc (by decide) ml3⟩;rw [HK.o];have ml2:2<=maxLen:=by decide
 refine zqq (go hrow5.o.2.1 hg4 (by omega)) ?_ rfl (kQ _) ml3 (go hrow5.o.2.2 hg4 (by omega)) ?_ rfl (kQ _) ml2
 { exact zlp (go c20.o (by omega) (by omega)) (go c21.o (by omega) (by omega)) (go c22.o (by omega) (by omega)) }
 {
 exact zk9 (go r0.o (by omega) (by omega)) (go r1.o (by omega) (by omega)) } }
end
section
attribute [local go_sem ↓] kM kO
theorem zb5 (B:Nat) (st:Stu) (u:Un) (v:Value) (t:TypeId) (w:World) (hU:OwnU F w B u) (hs:IsStu w B v st):
 Cq 206 #[.pointer (some ⟨B,0,none⟩),sV w.heap.size 1 1] (w.alloc (.cells #[v] t)) fun e w' =>e=.returned (.bool (doV u st).2)/\OwnU F w' B (doV u st).1/\w.grownBy w' (some B):=by
 have hb:=kP w (.cells #[v] t);have hbA:bZ w (w.alloc (.cells #[v] t)):=bA1;refine(zgg B w.heap.size 1 1 [st] u _ (hU.bl hbA) (fun i x hx=> ?_) (by have:=hU.lt;omega) rfl (by decide)).mono ?_
 {
 match i with
 |0=>simp at hx;subst hx;exact⟨v,zaa hb 0 _ rfl,hs.turns (zaj hbA B)⟩
 |i+1=>simp at hx }
 {
 rintro e w' ⟨rfl,h2,h3⟩;rw [turnU_one] at h2|-;exact⟨rfl,h2,(zaj hbA B).trans h3⟩ }
def HAns (F:Nat) (w:World) (B:Nat) (r:Un×List Ms) (e:Ending) (w' :World):Prop:=
 (∃a n c,e=.returned (.slice a n c)/\za9 w' a r.2/\r.2.length=n/\n<=c/\c<=1)/\OwnU F w' B r.1/\w.grownBy w' (some B)
theorem zde {r:Un×List Ms} (hr:r= (u, [])) (hu:OwnU F w' B u) (hg:w.grownBy w' (some B)):HAns F w B r (.returned (nV)) w' :=by
 subst hr;exact⟨⟨none,0,0,rfl,.inl rfl,rfl,kQ _,by decide⟩,hu,hg⟩
structure HB (W:World) (X:Nat) (s:Us) (m:Ms) (a:oA) (n c:Nat):Prop where
 b0:W.heap[X]?=some (.cells #[iV s.slot,iV s.by',iV s.rdy] 84 (0,0))
 b1:W.heap[X+1]?=some (.cells (aM m a n c) 99 (0,0))
theorem HB.turns {W' :World} {X:Nat} (h:HB W X s m a n c) (hg:W.grownBy W' (some B)) (hX:B<X):HB W' X s m a n c:=⟨zar h.b0 hg (by omega),zar h.b1 hg (by omega)⟩
theorem HB.bl {W' :World} {X:Nat} (h:HB W X s m a n c) (hb:bZ W W'):HB W' X s m a n c:=⟨zab h.b0 hb,zab h.b1 hb⟩
def hW (w:World) (s:Us) (m:Ms) (a:oA) (n c:Nat):World:=
 (w.alloc (.cells #[iV s.slot,iV s.by',iV s.rdy] 84)).alloc (.cells (aM m a n c) 99)
theorem hW_hb (w:World) (s:Us) (m:Ms) (a:oA) (n c:Nat):HB (hW w s m a n c) w.heap.size s m a n c:=⟨zai (kP _ _) _,zau _ _ _⟩
theorem zi5 (w:World) (s:Us) (m:Ms) (a:oA) (n c:Nat):bZ w (hW w s m a n c):=bA2
def HS (X:Nat) (s:Us) (m:Ms) (a:oA) (n c:Nat) (W:World):Prop:=
 W.cell? ⟨X,0,none⟩=some (iV s.slot)/\W.cell? ⟨X,1,none⟩=some (iV s.by')/\W.cell? ⟨X,2,none⟩=some (iV s.rdy)/\W.cell? ⟨X+1,2,none⟩=some (iV m.n)/\W.cell? ⟨X+1,3,none⟩=some (iV m.at')/\W.cell? ⟨X+1,4,none⟩=some (iV m.im)/\W.cell? ⟨X+1,5,none⟩=some (.slice a n c)
theorem HB.hs {X:Nat} (h:HB W X s m a n c):HS X s m a n c W:=
 ⟨zaa h.b0 0 _ rfl,zaa h.b0 1 _ rfl,zaa h.b0 2 _ rfl,zaa h.b1 2 _ rfl,zaa h.b1 3 _ rfl,zaa h.b1 4 _ rfl,zaa h.b1 5 _ rfl⟩
theorem comS_1 (h:s.by' =m.n):comS u s m= (u, [doneM m]):=by unfold comS;rw [KK h]
theorem comS_2 (h: ¬s.by' =m.n) (h2: ¬s.rdy=m.n):comS u s m= (u, []):=by unfold comS;rw [KJ h,KK h2]
theorem comS_3 (h: ¬s.by' =m.n) (h2:s.rdy=m.n) (h3: (doV u (.not s [1,oth s,m.n])).2=true):comS u s m= ((doV u (.not s [1,oth s,m.n])).1, [doneM m]):=by unfold comS;rw [KJ h,KJ (by simpa using h2),KK h3]
theorem comS_4 (h: ¬s.by' =m.n) (h2:s.rdy=m.n) (h3: (doV u (.not s [1,oth s,m.n])).2=false):comS u s m= ((doV u (.not s [1,oth s,m.n])).1, []):=by unfold comS;rw [KJ h,KJ (by simpa using h2),KJ (by rw [h3];decide)]
theorem aboS_1 (h:m.n<=s.by'):aboS u s m= (u, []):=by unfold aboS;rw [KK h]
theorem aboS_2 (h: ¬m.n<=s.by') (h2: ¬s.rdy=m.n):aboS u s m=aboB u m:=by unfold aboS;rw [KJ h,KJ h2]
theorem aboS_3 (h: ¬m.n<=s.by') (h2:s.rdy=m.n) (h3: (doV u (.not s [3,m.n])).2=true):aboS u s m=aboB (doV u (.not s [3,m.n])).1 m:=by unfold aboS;rw [KJ h,KK h2,KK h3]
theorem aboS_4 (h: ¬m.n<=s.by') (h2:s.rdy=m.n) (h3: (doV u (.not s [3,m.n])).2=false):aboS u s m= ((doV u (.not s [3,m.n])).1, []):=by unfold aboS;rw [KJ h,KK h2,KJ (by rw [h3];decide)]
theorem aboB_1 (h:u.n=m.n):aboB u m= (mind u 0 0, [doneM m]):=by unfold aboB;rw [KK h]
theorem aboB_2 (h: ¬u.n=m.n):aboB u m= (u, [doneM m]):=by unfold aboB;rw [KJ h]
theorem zgt (w:World) (x y z:Int) (t:TypeId):BI (w.alloc (.cells #[iV x,iV y,iV z] t)) (some ⟨w.heap.size,0,none⟩) 3 [x,y,z]:=
 ⟨zlp (zaa (kP _ _) 0 _ rfl) (zaa (kP _ _) 1 _ rfl) (zaa (kP _ _) 2 _ rfl),rfl,by decide⟩
theorem zne (w:World) (x y:Int) (t:TypeId):BI (w.alloc (.cells #[iV x,iV y] t)) (some ⟨w.heap.size,0,none⟩) 2 [x,y]:=
 ⟨zk9 (zaa (kP _ _) 0 _ rfl) (zaa (kP _ _) 1 _ rfl),rfl,by decide⟩
theorem zlk (B:Nat) (u:Un) (s:Us) (m:Ms) (a:oA) (n c:Nat) (w:World) (hU:OwnU F w B u) (hs0:0<=s.slot) (hs1:s.slot<=1):
 Cq 299 #[.pointer (some ⟨B,0,none⟩),usv s,msv m a n c] w (HAns F w B (comS u s m)):=by
 have hb:=uH (hW_hb w s m a n c);have hw0:=zi5 w s m a n c;have hB:=hU.lt;have hU0:=uH (hU.bl hw0);clear hU;unfold usv msv;have q:=hb.o.hs;unfold HS at q;obtain ⟨x0,x1,x2,y2,y3,y4,y5⟩:=q
 by_cases z1:s.by' =m.n
 {
 have HE:=uH (comS_1 (u:=u) z1);have d1: (s.by' ==m.n)=true:=by simpa using z1
 have b1:=uH hb.o.b1;clear z1;unfold hW at x0 x1 x2 y2 y3 y4 y5 hw0 hU0 b1;have v0:=zaa b1.o 0 _ rfl;have v1:=zaa b1.o 1 _ rfl;have v6:=zaa b1.o 6 _ rfl;go_enter Tryz.func299,Tryz.ntmps299;go_wp2_with fail;refine(zdy m a n c _).mono ?_;rintro e w1 ⟨⟨b,rfl,hm,_⟩,hb1⟩;go_wp2_with fail;go_ret;rw [HE.o];exact⟨⟨_,1,1,rfl,hm,rfl,kQ _,kQ _⟩,hU0.o.bl hb1,(zaj hw0 B).trans (zaj hb1 B)⟩ }
 have d1: (s.by' ==m.n)=false:=by simpa using z1
 have Z1:=uH z1;go_enter Tryz.func299,Tryz.ntmps299;unfold hW at x0 x1 x2 y2 y3 y4 y5;go_upto_region 3 with fail
 clear x0 x1 x2 y2 y3 y4 y5;rw [show(w.alloc (.cells #[iV s.slot,iV s.by',iV s.rdy] 84)).alloc (.cells (aM m a n c) 99)=hW w s m a n c from rfl];generalize hW w s m a n c=W at *
 by_cases z2:s.rdy=m.n
 rotate_left
 {
 have HE:=uH (comS_2 (u:=u) z1 z2);have d2: (s.rdy !=m.n)=true:=by simpa using z2
 clear z1 z2;refine km (S:=fun W' =>W'.cell? ⟨w.heap.size,0,none⟩=some (iV s.slot)/\W'.cell? ⟨w.heap.size,1,none⟩=some (iV s.by')/\W'.cell? ⟨w.heap.size,2,none⟩=some (iV s.rdy)/\W'.cell? ⟨w.heap.size+1,2,none⟩=some (iV m.n)/\W'.cell? ⟨w.heap.size+1,3,none⟩=some (iV m.at')/\W'.cell? ⟨w.heap.size+1,4,none⟩=some (iV m.im)/\W'.cell? ⟨w.heap.size+1,5,none⟩=some (.slice a n c)) (by kernel_rfl) hb.o.hs ?_;intro hHeld;refine Htk 0 ?_
 try simp only [sq]
 refine Htk 1 ?_
 try simp only [sq]
 refine Htk 2 ?_
 try simp only [sq]
 refine Htk 3 ?_
 try simp only [sq]
 refine Htk 4 ?_
 try simp only [sq]
 refine Htk 5 ?_
 try simp only [sq]
 refine wpAnyH_take (i:=6) (v:=undef) (by simp only [KN,KM,KL];rfl) (by kernel_rfl) (by kernel_rfl) (by kernel_rfl) (by exact fun _ _ _ h=>h) (Or.inr ⟨by rfl,rfl⟩) (by assumption) ?_
 try simp only [sq]
 refine wpAnyH_take (i:=7) (v:=undef) (by simp only [KN,KM,KL];rfl) (by kernel_rfl) (by kernel_rfl) (by kernel_rfl) (by exact fun _ _ _ h=>h) (Or.inr ⟨by rfl,rfl⟩) (by assumption) ?_
 try simp only [sq]
 refine wpAnyH_take (i:=8) (v:=undef) (by simp only [KN,KM,KL];rfl) (by kernel_rfl) (by kernel_rfl) (by kernel_rfl) (by exact fun _ _ _ h=>h) (Or.inr ⟨by rfl,rfl⟩) (by assumption) ?_
 try simp only [sq]
 refine wpAnyH_take (i:=9) (v:=undef) (by simp only [KN,KM,KL];rfl) (by kernel_rfl) (by kernel_rfl) (by kernel_rfl) (by exact fun _ _ _ h=>h) (Or.inr ⟨by rfl,rfl⟩) (by assumption) ?_
 try simp only [sq]
 refine wpAnyH_take (i:=10) (v:=undef) (by simp only [KN,KM,KL];rfl) (by kernel_rfl) (by kernel_rfl) (by kernel_rfl) (by exact fun _ _ _ h=>h) (Or.inr ⟨by rfl,rfl⟩) (by assumption) ?_
 try simp only [sq]
 refine wpAnyH_take (i:=11) (v:=undef) (by simp only [KN,KM,KL];rfl) (by kernel_rfl) (by kernel_rfl) (by kernel_rfl) (by exact fun _ _ _ h=>h) (Or.inr ⟨by rfl,rfl⟩) (by assumption) ?_
 try simp only [sq]
 refine wpAnyH_take (i:=12) (v:=undef) (by simp only [KN,KM,KL];rfl) (by kernel_rfl) (by kernel_rfl) (by kernel_rfl) (by exact fun _ _ _ h=>h) (Or.inr ⟨by rfl,rfl⟩) (by assumption) ?_
 try simp only [sq]
 refine wpAnyH_take (i:=13) (v:=undef) (by simp only [KN,KM,KL];rfl) (by kernel_rfl) (by kernel_rfl) (by kernel_rfl) (by exact fun _ _ _ h=>h) (Or.inr ⟨by rfl,rfl⟩) (by assumption) ?_
 try simp only [sq]
 refine wpAnyH_take (i:=14) (v:=undef) (by simp only [KN,KM,KL];rfl) (by kernel_rfl) (by kernel_rfl) (by kernel_rfl) (by exact fun _ _ _ h=>h) (Or.inr ⟨by rfl,rfl⟩) (by assumption) ?_
 try simp only [sq]
 refine wpAnyH_take (i:=15) (v:=undef) (by simp only [KN,KM,KL];rfl) (by kernel_rfl) (by kernel_rfl) (by kernel_rfl) (by exact fun _ _ _ h=>h) (Or.inr ⟨by rfl,rfl⟩) (by assumption) ?_
 try simp only [sq]
 refine wpAnyH_take (i:=16) (v:=undef) (by simp only [KN,KM,KL];rfl) (by kernel_rfl) (by kernel_rfl) (by kernel_rfl) (by exact fun _ _ _ h=>h) (Or.inr ⟨by rfl,rfl⟩) (by assumption) ?_
 try simp only [sq]
 refine Htk 17 ?_
 try simp only [sq]
 refine KE (by kernel_rfl) ?_ _;go_wp2_with fail;go_ret;exact zde HE.o (hU0.o.bl (kS _ _).drew) (zbv (zaj hw0 B)) }
 have d2: (s.rdy !=m.n)=false:=by simpa using z2
 have HE3:=uH (comS_3 (u:=u) z1 z2);have HE4:=uH (comS_4 (u:=u) z1 z2);have hne:w.heap.size≠B:=by omega
 clear z1 z2;refine km (S:=fun W' =>W'.cell? ⟨w.heap.size,0,none⟩=some (iV s.slot)/\W'.cell? ⟨w.heap.size,1,none⟩=some (iV s.by')/\W'.cell? ⟨w.heap.size,2,none⟩=some (iV s.rdy)/\W'.cell? ⟨w.heap.size+1,2,none⟩=some (iV m.n)/\W'.cell? ⟨w.heap.size+1,3,none⟩=some (iV m.at')/\W'.cell? ⟨w.heap.size+1,4,none⟩=some (iV m.im)/\W'.cell? ⟨w.heap.size+1,5,none⟩=some (.slice a n c)) (by kernel_rfl) hb.o.hs ?_;intro hHeld;refine Htk 0 ?_
 try simp only [sq]
 refine Htk 1 ?_
 try simp only [sq]
 refine Htk 2 ?_
 try simp only [sq]
 refine Htk 3 ?_
 try simp only [sq]
 refine Htk 4 ?_
 try simp only [sq]
 refine Htk 5 ?_
 try simp only [sq]
 refine Htk 6 ?_
 try simp only [sq]
 refine Htk 7 ?_
 try simp only [sq]
 refine Htk 8 ?_
 try simp only [sq]
 refine Htk 10 ?_
 try simp only [sq]
 refine Htk 11 ?_
 try simp only [sq]
 refine wr1 9 (fun K hK=> ?_);go_simp;have hk0:bZ W W.drew:=(kS _ _).drew;have HO:=uH (zcs s W.drew hs0 hs1);refine(zae HO).mono ?_;rintro e w1 ⟨rfl,hb1⟩;have hk1:=bT hk0 hb1;clear hb1 HO hk0;go_wp2_with fail;refine hK.out _ _ ((hb.o.bl hk1).hs) (fun hHeld=> ?_);clear hK K
 try simp only [sq]
 refine wr1 12 (fun K hK=> ?_);go_simp;have hk2:=zaf hk1 (.cells #[iV 1,iV (oth s),iV m.n] 3);refine hK.out _ _ ((hb.o.bl hk2).hs) (fun hHeld=> ?_);clear hK K
 try simp only [sq]
 refine wr1 13 (fun K hK=> ?_);go_simp;have HNt:=uH (ze0 s (some ⟨w1.heap.size,0,none⟩) 3 3 [1,oth s,m.n] B _ (by simp;have:=hk1.size;have:=hw0.size;omega) (zgt w1 1 (oth s) m.n 3) (fun ad e=>by cases e;show w1.heap.size≠B;have:=hk1.size;have:=hw0.size;omega));unfold usv at HNt;refine(zae HNt).mono ?_;rintro e w3 ⟨⟨fn3,caps3,rfl,hv3⟩,hb3⟩;have hk3:=bT hk2 hb3;clear hb3 HNt;go_wp2_with fail;refine hK.out _ _ ((hb.o.bl hk3).hs) (fun hHeld=> ?_);clear hK K
 try simp only [sq]
 refine wr1 14 (fun K hK=> ?_);go_simp;have hk4:=zaf hk3 (.cells #[.func (.func fn3) #[] caps3] 258);refine hK.out _ _ ((hb.o.bl hk4).hs) (fun hHeld=> ?_);clear hK K
 try simp only [sq]
 refine wr1 15 (fun K hK=> ?_);go_simp;have HCh:=uH (zb5 B _ u (.func (.func fn3) #[] caps3) 258 w3 (hU0.o.bl hk3) hv3);refine(zae HCh).mono ?_;rintro e w5 ⟨rfl,hU5,hg5⟩;have hg:=(zaj hk3 B).trans hg5;have HU5:=uH hU5;have HG:=uH ((zaj hw0 B).trans hg);have HB5:=uH (hb.o.turns hg hB);clear hU5 hg5 HCh hk1 hk2 hk3 hk4 hg;generalize doV u (.not s [1,oth s,m.n])=R at *;go_wp2_with fail;refine hK.out _ _ (HB5.o.hs) (fun hHeld=> ?_);clear hK K
 try simp only [sq]
 refine Htk 16 ?_
 try simp only [sq]
 refine Htk 17 ?_
 try simp only [sq]
 refine KE (by kernel_rfl) ?_ _;clear hHeld;cases g:R.2
 {
 have HE:=uH (HE4.o g);go_wp2_with fail;go_ret;exact zde HE.o HU5.o HG.o }
 {
 have HE:=uH (HE3.o g);have v0:=zaa HB5.o.b1 0 _ rfl;have v1:=zaa HB5.o.b1 1 _ rfl;have v2:=zaa HB5.o.b1 2 _ rfl;have v3' :=zaa HB5.o.b1 3 _ rfl;have v4:=zaa HB5.o.b1 4 _ rfl;have v5:=zaa HB5.o.b1 5 _ rfl;have v6:=zaa HB5.o.b1 6 _ rfl;have HDn:=uH (zdy m a n c w5);unfold msv at HDn;go_wp2_with fail;refine(zae HDn).mono ?_;rintro e w6 ⟨⟨b,rfl,hm,_⟩,hb6⟩;go_wp2_with fail;go_ret;rw [HE.o];exact⟨⟨_,1,1,rfl,hm,rfl,kQ _,kQ _⟩,HU5.o.bl hb6,HG.o.trans (zaj hb6 B)⟩ }
end
theorem zc2 (b off j:Nat): (⟨b,off,none⟩:Addr).add j= ⟨b,off+j,none⟩:=by unfold Addr.add;split<;>simp_all
theorem BI.news {off:Nat} (h:BI w (some ⟨b,off,none⟩) n xs): ∀j u,(vals xs)[j]?=some u->w.cell? ((⟨b,off,none⟩:Addr).add j)=some u:=by
 intro j u hu;have hj:j<xs.length:=by
  have:=(kY.1 hu).1
  simpa [vals] using this
 rw [zc9 xs j hj] at hu;cases hu
 rcases h.at_ with e| ⟨b',off',e,hc⟩
 { rw [e] at hj;simp at hj }
 {
 cases e;rw [zc2];exact hc j hj }
theorem BI.spot (h:BI w a n xs) (h0: ¬n=0): ∃b off,a=some ⟨b,off,none⟩:=by
 rcases h.at_ with e| ⟨b,off,e,_⟩
 { have:=h.len;rw [e] at this;simp at this;omega }
 {
 exact⟨b,off,e⟩ }
theorem zms (ty:TypeId) (g:Nat) (ad:Addr) (c:Nat) (w:World):
 (Builtin.append_ #[26,26] ty #[sV g 0 0,.slice (some ad) 0 c]).run Tryz.prog w=.ok (sV g 0 0) w:=by
 obtain ⟨i0,hi0,hz0,hz1,hz2⟩:=info_parts zef;have hl: ∀(x:Addr),(loadCells x 0).run Tryz.prog w=.ok #[] w:=fun x=>by simpa using run_loadCells_list (P:=Tryz.prog) w x [] (by simp)
 simp [Builtin.append_,run_underlying Tryz.underlying26,Builtin.lenOf,Builtin.firstCells,sizeOf,typeInfo,hi0,storeCells,hl]
def ClI (w:World) (xs:LI) (e:Ending) (w' :World):Prop:=(∃a c,e=.returned (.slice a xs.length c)/\w'.ownsRow w.heap.size 3 1 (.slice a xs.length c) xs.length (vals xs))/\bZ w w'
theorem ze1 (a:oA) (n c:Nat) (xs:LI) (w:World) (h:BI w a n xs) (hb:n * 8<=140737488355328):
 Cq 183 #[.slice a n c] w (ClI w xs):=by
 obtain ⟨irr,hir,rz0,rz1,rz2⟩:=info_parts zef;have HN:=uH h.len;have heq:=fun (a:oA) (n c:Nat) (W:World)=>Go.Lib.run_eql_slice_nil (P:=Tryz.prog) W 26 _ a n c 0 0 Tryz.underlying26
 by_cases h0:n=0
 {
 subst h0;have hx:xs= []:=kn HN.o;subst hx;cases a with
 |none=>
  go_enter Tryz.func183,Tryz.ntmps183;go_wp2;go_ret;exact⟨⟨none,0,rfl,KZ _ _ _ _⟩,kS _ _⟩
 |some ad=>
  have he:=zms;go_enter Tryz.func183,Tryz.ntmps183;go_wp2;go_ret;exact⟨⟨_,_,rfl,⟨rfl,.inr ⟨w.heap.size,0,#[],rfl,kQ _,kP _ _,kQ _,by decide,rfl,rfl⟩⟩⟩,bA1⟩ }
 {
 obtain ⟨b,off,rfl⟩:=h.spot h0;have hW:=(kS _ w).alloc (kQ _) (.cells #[] 3);have hnews:=(h.bl hW).news;have hrow0: (w.alloc (.cells #[] 3)).ownsRow w.heap.size 3 1 (sV w.heap.size 0 0) 0 []:=
  ⟨rfl,.inr ⟨w.heap.size,0,#[],rfl,kQ _,kP _ _,kQ _,by decide,rfl,rfl⟩⟩
 have HNW:=uH hnews;have hm:=h.max;clear h hnews;go_enter Tryz.func183,Tryz.ntmps183
 go_wp2_with (at_builtin;refine wpList_append_lies _ rfl _ _ 26 rfl w.heap.size 3 irr _ 1 8 Tryz.underlying26 hir rz0 rz1 rz2 rfl (by omega) (sV w.heap.size 0 0) 0 [] rfl hrow0 ⟨b,off,none⟩ n c (vals xs) rfl (by rw [za3,HN.o,Ko]) HNW.o (zbu xs) (by omega) (by omega) (by omega) (by simp) (w.heap.size+1) (by simp) ?_)
 intro g cap w1 hown hgrow hat hlt;have hB:bZ w w1:=((kS _ w).alloc (kQ _) _).grown hgrow (by simp) (fun k hk=>by simp [Value.ownBlock] at hk;omega);have HR:=uH hown;clear hown hgrow hat;go_wp2;go_ret;rw [<-HN.o] at HR|-;exact⟨⟨_,cap,by simp,HR.o⟩,hB⟩ }
theorem zgz (h:w.ownsRow base 3 1 (.slice a n c) n (vals xs)) (hn:xs.length=n):zag w a xs/\zal base a/\n<=c:=by
 obtain ⟨_,⟨hv,h0⟩| ⟨g,cap,cur,hv,hg,hh,hc,_,_,ht⟩⟩:=h
 {
 cases hv;have:xs= []:=by
  apply kn;omega
 exact⟨.inl this,(fun _ e=>by cases e),kQ _⟩ }
 {
 cases hv;refine⟨.inr ⟨g,0,rfl,fun i hi=> ?_⟩,fun ad e=>by cases e;exact hg,hc⟩;rw [Kl];refine zaa hh i _ ?_;have hv:=zc9 xs i hi;rw [<-ht,List.getElem?_take] at hv
 split at hv
 { simpa using hv }
 {
 cases hv } }
def UTwin (w:World) (u:Un) (e:Ending) (w' :World):Prop:=
 (∃a c,e=.returned (unv u a u.ws.length c)/\zag w' a u.ws/\zal w.heap.size a/\u.ws.length<=c)/\bZ w w'
theorem zhf (u:Un) (a:oA) (n c:Nat) (w:World) (h:BW w a n c u.ws) (hb:n * 8<=140737488355328):
 Cq 114 #[unv u a n c] w (UTwin w u):=by
 have hw0:bZ w ((w.alloc (unO u a n c)).alloc (unO ⟨[],0,false,0,0⟩ none 0 0)):=bA2;have b0:Hd (((w.alloc (unO u a n c)).alloc (unO ⟨[],0,false,0,0⟩ none 0 0)).heap[w.heap.size]?=some (unO u a n c)):=zai (kP _ _) _;have b1:Hd (((w.alloc (unO u a n c)).alloc (unO ⟨[],0,false,0,0⟩ none 0 0)).heap[w.heap.size+1]?=some (unO ⟨[],0,false,0,0⟩ none 0 0)):=zau _ _ _;have HC:=uH (fun W (hW:bZ w W)=>ze1 a n c u.ws W (h.bl hW).bi hb);clear h;unfold unv;unfold unO at hw0 b0 b1;have x0:=zaa b0.o 0 _ rfl;have f0:=zad b0.o 0;go_enter Tryz.func114,Tryz.ntmps114;go_wp2_with fail;generalize (w.alloc (.cells (aU a n c u) 82)).alloc (.cells #[nV,iV 0,.bool false,iV 0,iV 0] 82)=W at *;refine(zae HC _ hw0).mono ?_;rintro e w1 ⟨⟨a1,c1,rfl,hown⟩,hb1⟩;obtain ⟨hi1,hf1,hc1⟩:=zgz hown rfl;have HI:=uH hi1;have HF:=uH hf1;have HB1:=uH b1.o;replace b0:=uH (zab b0.o hb1);replace b1:=uH (zab b1.o hb1);have hk:=bT hw0 hb1;clear hown hi1 hf1 hb1 x0 f0 HC;obtain ⟨y0,y1,y2,y3,y4⟩:=cl5 b0.o;obtain ⟨z0,z1,z2,z3,z4⟩:=cl5 b1.o;have g0:=zad b0.o 0;obtain ⟨h0,h1,h2,h3,h4⟩:=fr5 b1.o;go_wp2_with fail;refine kT (v:=unv u a1 u.ws.length c1) (by simp [results,Tryz.results114,go_sem,unv,z0,z1,z2,z3,z4]) rfl ?_;have hx:w.heap.size<=w.heap.size+1:=by omega
 have hs1:w.heap.size+1<W.heap.size:=zak HB1.o;refine⟨⟨a1,c1,rfl, ?_,fun ad e=>by have:=HF.o ad e;have:=hw0.size;omega,hc1⟩, ?_⟩
 { exact zag.other (zag.other (zag.other (zag.other (zag.other (zag.other HI.o HF.o (by omega) _ _) HF.o hs1 _ _) HF.o hs1 _ _) HF.o hs1 _ _) HF.o hs1 _ _) HF.o hs1 _ _ }
 {
 exact(((((hk.setCell (kQ _) _).setCell hx _).setCell hx _).setCell hx _).setCell hx _).setCell hx _ }
section
attribute [local go_sem ↓] kM kO
def bvals (bs:List Bool):LV:=bs.map Value.bool
theorem zh2 (bs:List Bool): (bvals bs).length=bs.length:=by simp [bvals]
theorem zhw (bs:List Bool) (i:Nat) (h:i<bs.length): (bvals bs)[i]?=some (.bool (bs.getD i false)):=by simp [bvals,h]
theorem bvals_one (bs:List Bool): ∀v∈bvals bs,v.oneCell' =true:=by
 intro v hv;unfold bvals at hv;rw [kL] at hv;obtain ⟨x,_,rfl⟩:=hv;rfl
theorem zf2: (Tryz.prog.info? 4).map (fun i=>(i.zero,i.size,i.bytes))=some (some (.bool false),1,1):=by kernel_rfl
theorem BV.news {off:Nat} (h:BV w (some ⟨b,off,none⟩) n c bs): ∀j u,(bvals bs)[j]?=some u->w.cell? ((⟨b,off,none⟩:Addr).add j)=some u:=by
 intro j u hu;have hj:j<bs.length:=by
  have:=(kY.1 hu).1
  simpa [bvals] using this
 rw [zhw bs j hj] at hu;cases hu
 rcases h.at_ with e| ⟨b',off',e,hc⟩
 { rw [e] at hj;simp at hj }
 {
 cases e;rw [zc2];exact hc j hj }
theorem BV.spot (h:BV w a n c bs) (h0: ¬n=0): ∃b off,a=some ⟨b,off,none⟩:=by
 rcases h.at_ with e| ⟨b,off,e,_⟩
 { have:=h.len;rw [e] at this;simp at this;omega }
 { exact⟨b,off,e⟩ }
theorem zm0 (ty:TypeId) (g:Nat) (ad:Addr) (c:Nat) (w:World):
 (Builtin.append_ #[33,33] ty #[sV g 0 0,.slice (some ad) 0 c]).run Tryz.prog w=.ok (sV g 0 0) w:=by
 obtain ⟨i0,hi0,hz0,hz1,hz2⟩:=info_parts zf2;have hl: ∀(x:Addr),(loadCells x 0).run Tryz.prog w=.ok #[] w:=fun x=>by simpa using run_loadCells_list (P:=Tryz.prog) w x [] (by simp)
 simp [Builtin.append_,run_underlying Tryz.underlying33,Builtin.lenOf,Builtin.firstCells,sizeOf,typeInfo,hi0,storeCells,hl]
def ClB (w:World) (bs:List Bool) (e:Ending) (w' :World):Prop:=(∃a c,e=.returned (.slice a bs.length c)/\w'.ownsRow w.heap.size 4 1 (.slice a bs.length c) bs.length (bvals bs))/\bZ w w'
theorem zkf (a:oA) (n c:Nat) (bs:List Bool) (w:World) (h:BV w a n c bs) (hb:n<=1000):
 Cq 204 #[.slice a n c] w (ClB w bs):=by
 obtain ⟨irr,hir,rz0,rz1,rz2⟩:=info_parts zf2;have HN:=uH h.len;have heq:=fun (a:oA) (n c:Nat) (W:World)=>Go.Lib.run_eql_slice_nil (P:=Tryz.prog) W 33 _ a n c 0 0 Tryz.underlying33
 by_cases h0:n=0
 {
 subst h0;have hx:bs= []:=kn HN.o;subst hx;cases a with
 |none=>
  go_enter Tryz.func204,Tryz.ntmps204;go_wp2;go_ret;exact⟨⟨none,0,rfl,KZ _ _ _ _⟩,kS _ _⟩
 |some ad=>
  have he:=zm0;go_enter Tryz.func204,Tryz.ntmps204;go_wp2;go_ret;exact⟨⟨_,_,rfl,⟨rfl,.inr ⟨w.heap.size,0,#[],rfl,kQ _,kP _ _,kQ _,by decide,rfl,rfl⟩⟩⟩,bA1⟩ }
 {
 obtain ⟨b,off,rfl⟩:=h.spot h0;have hW:=(kS _ w).alloc (kQ _) (.cells #[] 4);have hnews:=(h.bl hW).news;have hrow0: (w.alloc (.cells #[] 4)).ownsRow w.heap.size 4 1 (sV w.heap.size 0 0) 0 []:=
  ⟨rfl,.inr ⟨w.heap.size,0,#[],rfl,kQ _,kP _ _,kQ _,by decide,rfl,rfl⟩⟩
 have HNW:=uH hnews;have hm:=h.max;clear h hnews;go_enter Tryz.func204,Tryz.ntmps204
 go_wp2_with (at_builtin;refine wpList_append_lies _ rfl _ _ 33 rfl w.heap.size 4 irr _ 1 1 Tryz.underlying33 hir rz0 rz1 rz2 rfl (by omega) (sV w.heap.size 0 0) 0 [] rfl hrow0 ⟨b,off,none⟩ n c (bvals bs) rfl (by rw [zh2,HN.o,Ko]) HNW.o (bvals_one bs) (by omega) (by omega) (by omega) (by simp) (w.heap.size+1) (by simp) ?_)
 intro g cap w1 hown hgrow hat hlt;have hB:bZ w w1:=((kS _ w).alloc (kQ _) _).grown hgrow (by simp) (fun k hk=>by simp [Value.ownBlock] at hk;omega);have HR:=uH hown;clear hown hgrow hat;go_wp2;go_ret;rw [<-HN.o] at HR|-;exact⟨⟨_,cap,by simp,HR.o⟩,hB⟩ }
theorem any_take {k:Nat} (hk:k<bs.length) (h: (bs.take k).any (fun b=>!b)=false) (hv:bs[k]=true): (bs.take (k+1)).any (fun b=>!b)=false:=by
 rw [kl hk,List.any_append,h]
 simp [hv]
theorem any_hit {k:Nat} (hk:k<bs.length) (hv:bs[k]=false):bs.any (fun b=>!b)=true:=by
 rw [List.any_eq_true];exact⟨bs[k],KH hk,by simp [hv]⟩
theorem zrl (a:oA) (n c:Nat) (bs:List Bool) (w:World) (h:BV w a n c bs) (hb:n<=1000):
 Cq 223 #[.slice a n c,.bool false] w fun e w' =>(∃q:Int,e=.returned (iV q)/\decide (0<=q)=bs.any (fun b=>!b))/\w' =w:=by
 have HN:=uH h.len;have h1:=h.at_;clear h;go_enter Tryz.func223,Tryz.ntmps223;go_wp2
 go_loop [8] (fun i=>∃k:Nat,k<=n/\i=iV k/\Hd ((bs.take k).any (fun b=>!b)=false)) (fun i=>n - (intOf i).toNat)
 case atStart=>exact⟨0,KG _,rfl,rfl⟩
 case round=>
  obtain ⟨k,hk,rfl,ht⟩:=hrel
  by_cases hlt:k<n
  {
  have hkx:k<bs.length:=by rw [HN.o];exact hlt
  rcases h1 with e| ⟨b0,o0,rfl,hc0⟩
  { rw [e] at hkx;simp at hkx }
  have e0:=hc0 k hkx;rw [show bs.getD k false=bs[k] by simp [hkx]] at e0;clear hc0;cases hv:bs[k]
  {
  have HV:Hd (bs[k]=false):=hv;rw [hv] at e0;clear hv;go_wp2;go_ret;exact⟨⟨k,rfl,by rw [any_hit hkx HV.o];simp⟩,rfl⟩ }
  {
  have HV:Hd (bs[k]=true):=hv;rw [hv] at e0;clear hv;go_wp2
  go_round
  case rel=>exact⟨k+1,by omega,by go_num,any_take hkx ht.o HV.o⟩
  case measure=>simp [intOf];omega } }
  {
  go_wp2;go_ret;have hx:=ht.o;rw [kh (by rw [HN.o];omega)] at hx;exact⟨⟨-1,rfl,by rw [hx];rfl⟩,rfl⟩ }
theorem zhb (a:oA) (n c:Nat) (bs:List Bool) (w:World) (h:BV w a n c bs) (hb:n<=1000):
 Cq 158 #[.slice a n c,.bool false] w fun e w' =>e=.returned (.bool (!allB bs))/\w' =w:=by
 have HC:=uH (zrl a n c bs w h hb);clear h;go_enter Tryz.func158,Tryz.ntmps158;go_wp2_with fail;refine(zae HC).mono ?_;rintro e w' ⟨⟨q,rfl,hq⟩,rfl⟩;go_wp2;go_ret;exact⟨zan (by unfold allB;simp),rfl⟩
def OwnB (w:World) (b:Nat) (bs:List Bool):Prop:=∃cur:Array Value,w.heap[b]?=some (.cells cur 4 (0,0))/\cur.toList.take bs.length=bvals bs/\bs.length<=cur.size
theorem OwnB.bools (h:OwnB w b bs):zbz w (some ⟨b,0,none⟩) bs:=by
 obtain ⟨cur,h1,h2,h3⟩:=h;refine .inr ⟨b,0,rfl,fun i hi=> ?_⟩;rw [Kl];refine zaa h1 i _ ?_;have:=zhw bs i hi;rw [<-h2,List.getElem?_take,KK hi] at this
 simpa using this
theorem zl1 (h:w.ownsRow base 4 1 (.slice a n c) n (bvals bs)) (hn:bs.length=n) (h0:0<n): ∃b,a=some ⟨b,0,none⟩/\base<=b/\OwnB w b bs/\n<=c:=by
 obtain ⟨_,⟨hv,h1⟩| ⟨g,cap,cur,hv,hg,hh,hc,_,hsz,ht⟩⟩:=h
 { omega }
 {
 cases hv;exact⟨g,rfl,hg,⟨cur,hh,by rw [hn];simpa using ht,by rw [hsz,hn];omega⟩,hc⟩ }
theorem OwnB.set (h:OwnB w b bs) (i:Nat) (v:Bool):OwnB (w.setCell ⟨b,i,none⟩ (.bool v)) b (bs.set i v):=by
 obtain ⟨cur,h1,h2,h3⟩:=h;refine⟨cur.setIfInBounds i (.bool v), ?_, ?_,by simpa using h3⟩
 {
 simp only [World.setCell,KP]
 simp [h1] }
 {
 rw [List.length_set,Array.toList_setIfInBounds,List.take_set,h2]
 simp [bvals] }
theorem zma (b n c:Nat) (bs:List Bool) (w:World) (h:OwnB w b bs) (hn:bs.length=n) (h0:0<n):
 ∃w',(∀ty:TypeId,(Builtin.clear_ #[33] ty #[sV b n c]).run Tryz.prog w=.ok (.tuple #[]) w')/\OwnB w' b (zbj bs)/\w.grownBy w' (some b):=by
 obtain ⟨i0,hi0,hz0,hz1,hz2⟩:=info_parts zf2;obtain ⟨cur,h1,h2,h3⟩:=h;have hst:=run_storeCells_at Tryz.prog b 0 4 (List.replicate n (Value.bool false)) 0 cur w h1 (by simp;omega) (by intro u hu;rw [List.eq_of_mem_replicate hu];rfl);have hz: (Builtin.zeroCells (Value.bool false).cells n).toList=List.replicate n (Value.bool false):=by
  unfold Builtin.zeroCells
  apply List.ext_getElem?
  intro i;simp only [Value.cells,Array.toList_map,Array.toList_range,List.getElem?_map]
  by_cases c:i<n
  { simp [c,Nat.mod_one] }
  { simp [c] }
 have hn0: ¬n=0:=by omega
 refine⟨w.setRow b (cur.toList.take (0+0)++List.replicate n (Value.bool false)++cur.toList.drop (0+0+(List.replicate n (Value.bool false)).length)).toArray, ?_, ?_, ?_⟩
 {
 intro ty
 simp [Builtin.clear_,run_underlying Tryz.underlying33,zeroValue,typeInfo,hi0,hz0,hz,hst] }
 {
 refine⟨_,setRow_heap w b cur _ 4 _ h1, ?_, ?_⟩
 {
 have e:bvals (zbj bs)=List.replicate n (Value.bool false):=by
  refine List.eq_replicate_iff.2 ⟨by unfold bvals zbj;simp [hn],fun x hx=> ?_⟩;unfold bvals zbj at hx;rw [List.map_map,kL] at hx;obtain ⟨y,_,rfl⟩:=hx;rfl
 have el: (zbj bs).length=n:=by unfold zbj;simp [hn]
 rw [e,el]
 simp }
 {
 have el: (zbj bs).length=n:=by unfold zbj;simp [hn]
 rw [el]
 simp } }
 {
 exact⟨rfl,rfl,rfl,by simp,fun k _ hk=>setRow_other w b k _ (fun e=>hk (by rw [e]))⟩ }
end
section
attribute [local go_sem ↓] kM kO
structure GOwn (w:World) (F:Nat) (m:GA) (g:Gt) (bv bd:Nat):Prop where
 ws:BW w m.a m.n m.c g.ws
 ks:BI w m.ak m.nk g.t.r.ks
 av:m.av=some ⟨bv,0,none⟩
 ad:m.ad=some ⟨bd,0,none⟩
 vo:OwnB w bv g.vo
 di:OwnB w bd g.di
 nv:g.vo.length=m.nv/\m.nv<=m.cv/\0<m.nv/\m.nv<=4
 nd:g.di.length=m.nd/\m.nd<=m.cd/\0<m.nd/\m.nd<=4
 fv:F<=bv
 fd:F<=bd
 ne:bv≠bd
 wv:Off bv m.a
 wd:Off bd m.a
 kv:Off bv m.ak
 kd:Off bd m.ak
 fa:zal F m.a
 fk:zal F m.ak
def TwinG (w:World) (g:Gt) (e:Ending) (w' :World):Prop:=(∃m bv bd,e=.returned (gtv g m)/\GOwn w' w.heap.size m g bv bd/\∀B,B<w.heap.size\/w'.heap.size<=B->Off B m.a/\Off B m.ak)/\bZ w w'
theorem OwnB.turns (h:OwnB w b bs) (hg:w.grownBy w' (some B)) (hne:b≠B):OwnB w' b bs:=by
 obtain ⟨cur,h1,h2,h3⟩:=h;exact⟨cur,zar h1 hg hne,h2,h3⟩
theorem OwnB.bl (h:OwnB w b bs) (hb:bZ w w'):OwnB w' b bs:=by
 obtain ⟨cur,h1,h2,h3⟩:=h;exact⟨cur,zab h1 hb,h2,h3⟩
theorem OwnB.lt (h:OwnB w b bs):b<w.heap.size:=by
 obtain ⟨cur,h1,_⟩:=h;exact zak h1
theorem ze8 (h:w.ownsRow base t 1 (.slice a n c) n vs) (hB:w.heap.size<=B):Off B a:=by
 obtain ⟨_,⟨hv,_⟩| ⟨g,cap,cur,hv,hg,hh,_⟩⟩:=h
 { cases hv;exact zn3 _ }
 {
 cases hv;intro ad e;cases e;have:=zak hh
 show g≠B
 omega }
theorem zcd (h:w.ownsRow base t 1 (.slice a n c) n vs) (hB:B<base):Off B a:=by
 obtain ⟨_,⟨hv,_⟩| ⟨g,cap,cur,hv,hg,hh,_⟩⟩:=h
 { cases hv;exact zn3 _ }
 {
 cases hv;intro ad e;cases e
 show g≠B
 omega }
theorem zl7 (h:w.ownsRow base t 1 (.slice a n c) n vs) (hF:F<=base):zal F a:=by
 obtain ⟨_,⟨hv,_⟩| ⟨g,cap,cur,hv,hg,hh,_⟩⟩:=h
 { cases hv;intro ad e;cases e }
 {
 cases hv;intro ad e;cases e
 show F<=g
 omega }
theorem zbr (h:Off B a): (Value.slice a n c).ownBlock=none\/(Value.slice a n c).ownBlock≠some B:=by
 cases a with
 |none=>exact .inl rfl
 |some ad=>exact .inr (fun e=>h ad rfl (by simpa [Value.ownBlock] using e))
theorem zdc (g:Gt) (m:GA) (w:World) (h:GIn w m g) (hn:m.n<=192) (hk:m.nk<=1000) (hv:0<m.nv/\m.nv<=4) (hd:0<m.nd/\m.nd<=4):
 Cq 138 #[gtv g m] w (TwinG w g):=by
 have hw:bZ w ((w.alloc (.cells (aG m g) 35)).alloc (.cells aY 35)):=bA2;have b0:Hd (((w.alloc (.cells (aG m g) 35)).alloc (.cells aY 35)).heap[w.heap.size]?=some (.cells (aG m g) 35 (0,0))):=zai (kP _ _) _;have b1:Hd (((w.alloc (.cells (aG m g) 35)).alloc (.cells aY 35)).heap[w.heap.size+1]?=some (.cells aY 35 (0,0))):=zau _ _ _;have Lw:=uH h.ws.len;have Lk:=uH h.ks.len;have Lv:=uH h.vo.len;have Ld:=uH h.di.len;have H1:=uH (fun W (hW:bZ w W)=>ze1 m.a m.n m.c g.ws W (h.ws.bl hW).bi (by omega));have H2:=uH (fun W (hW:bZ w W)=>ze1 m.ak m.nk m.ck g.t.r.ks W (h.ks.bl hW) (by omega));have H3:=uH (fun W (hW:bZ w W)=>zkf m.av m.nv m.cv g.vo W (h.vo.bl hW) (by omega));have H4:=uH (fun W (hW:bZ w W)=>zkf m.ad m.nd m.cd g.di W (h.di.bl hW) (by omega));have hmx:Hd (m.n<=maxLen/\m.nk<=maxLen):=⟨h.ws.max,h.ks.max⟩;unfold gtv;clear h;go_enter Tryz.func138,Tryz.ntmps138;have x0:=zaa b0.o 0 _ rfl;go_wp2_with fail;generalize ((w.alloc (.cells (aG m g) 35)).alloc (.cells aY 35))=W at *;have hs1:=hw.size;refine(zae H1 _ hw).mono ?_;rintro e w1 ⟨⟨a1,c1,rfl,ho1⟩,hb⟩;have hlo1:=zcd ho1 (B:=w.heap.size) (zak b0.o);have hlp1:=zcd ho1 (B:=w.heap.size+1) (zak b1.o);replace b0:=uH (zab b0.o hb);replace b1:=uH (zab b1.o hb);replace hw:=bT hw hb;clear hb x0 H1;have x0:=zaa b0.o 0 _ rfl;have f0:=zad b0.o 0;go_upto_region 2 with fail
 have hT:w1.grownBy (w1.setCell ⟨w.heap.size,0,none⟩ (.slice a1 g.ws.length c1)) (some w.heap.size):=zaw _ _ _ _;have b0n:Hd ((w1.setCell ⟨w.heap.size,0,none⟩ (.slice a1 g.ws.length c1)).heap[w.heap.size]?=some (.cells #[.slice a1 g.ws.length c1,iV g.fu,.bool g.up,iV g.t.r.v,.slice m.ak m.nk m.ck,iV g.t.r.t,iV g.t.ver,.slice m.av m.nv m.cv,.slice m.ad m.nd m.cd] 35 (0,0))):=heap_setCell_same _ _ _ _ _ _ b0.o;replace b1:=uH (zar b1.o hT (by omega));replace ho1:=ho1.kept hT (zbr hlo1);replace hw:=zam hw hT (kQ _) hw.size;clear x0 f0 b0 hT;generalize w1.setCell ⟨w.heap.size,0,none⟩ (.slice a1 g.ws.length c1)=W1 at *;have b0:=b0n;clear b0n;have x0:=zaa b0.o 4 _ rfl;go_wp2_with fail;have hs2:=hw.size;refine(zae H2 _ hw).mono ?_;rintro e w2 ⟨⟨a2,c2,rfl,ho2⟩,hb⟩;have hlo2:=zcd ho2 (B:=w.heap.size) (zak b0.o);have hlp2:=zcd ho2 (B:=w.heap.size+1) (zak b1.o);replace ho1:=ho1.kept (zaj hb w.heap.size) (zbr hlo1);replace b0:=uH (zab b0.o hb);replace b1:=uH (zab b1.o hb);replace hw:=bT hw hb;clear hb x0 H2;have x0:=zaa b0.o 4 _ rfl;have f0:=zad b0.o 4;go_upto_region 3 with fail
 have hT:w2.grownBy (w2.setCell ⟨w.heap.size,4,none⟩ (.slice a2 g.t.r.ks.length c2)) (some w.heap.size):=zaw _ _ _ _;have b0n:Hd ((w2.setCell ⟨w.heap.size,4,none⟩ (.slice a2 g.t.r.ks.length c2)).heap[w.heap.size]?=some (.cells #[.slice a1 g.ws.length c1,iV g.fu,.bool g.up,iV g.t.r.v,.slice a2 g.t.r.ks.length c2,iV g.t.r.t,iV g.t.ver,.slice m.av m.nv m.cv,.slice m.ad m.nd m.cd] 35 (0,0))):=heap_setCell_same _ _ _ _ _ _ b0.o;replace b1:=uH (zar b1.o hT (by omega));replace ho1:=ho1.kept hT (zbr hlo1);replace ho2:=ho2.kept hT (zbr hlo2);replace hw:=zam hw hT (kQ _) hw.size;clear x0 f0 b0 hT;generalize w2.setCell ⟨w.heap.size,4,none⟩ (.slice a2 g.t.r.ks.length c2)=W2 at *;have b0:=b0n;clear b0n;have x0:=zaa b0.o 7 _ rfl;go_wp2_with fail;refine(zae H3 _ hw).mono ?_;rintro e w3 ⟨⟨a3,c3,rfl,ho3⟩,hb⟩;have hlo3:=zcd ho3 (B:=w.heap.size) (zak b0.o);obtain ⟨q3,rfl,hqb3,hqo3,hqc3⟩:=zl1 ho3 rfl (by rw [Lv.o];omega);have hqX3:q3≠w.heap.size:=by have:=zak b0.o;omega
 have hqY3:q3≠w.heap.size+1:=by have:=zak b1.o;omega
 have hqF3:w.heap.size<=q3:=by have:=hw.size;omega
 have hw31:Off q3 a1:=ze8 ho1 hqb3;have hw32:Off q3 a2:=ze8 ho2 hqb3;replace ho1:=ho1.kept (zaj hb w.heap.size) (zbr hlo1);replace ho2:=ho2.kept (zaj hb w.heap.size) (zbr hlo2);replace b0:=uH (zab b0.o hb);replace b1:=uH (zab b1.o hb);replace hw:=bT hw hb;clear hb x0 H3;have x0:=zaa b0.o 7 _ rfl;have f0:=zad b0.o 7;go_upto_region 4 with fail
 have hT:w3.grownBy (w3.setCell ⟨w.heap.size,7,none⟩ (sV q3 g.vo.length c3)) (some w.heap.size):=zaw _ _ _ _;have b0n:Hd ((w3.setCell ⟨w.heap.size,7,none⟩ (sV q3 g.vo.length c3)).heap[w.heap.size]?=some (.cells #[.slice a1 g.ws.length c1,iV g.fu,.bool g.up,iV g.t.r.v,.slice a2 g.t.r.ks.length c2,iV g.t.r.t,iV g.t.ver,sV q3 g.vo.length c3,.slice m.ad m.nd m.cd] 35 (0,0))):=heap_setCell_same _ _ _ _ _ _ b0.o;replace b1:=uH (zar b1.o hT (by omega));replace ho1:=ho1.kept hT (zbr hlo1);replace ho2:=ho2.kept hT (zbr hlo2);replace hqo3:=hqo3.turns hT hqX3;replace hw:=zam hw hT (kQ _) hw.size;clear x0 f0 b0 hT;generalize w3.setCell ⟨w.heap.size,7,none⟩ (sV q3 g.vo.length c3)=W3 at *;have b0:=b0n;clear b0n;have x0:=zaa b0.o 8 _ rfl;go_wp2_with fail;refine(zae H4 _ hw).mono ?_;rintro e w4 ⟨⟨a4,c4,rfl,ho4⟩,hb⟩;have hlo4:=zcd ho4 (B:=w.heap.size) (zak b0.o);obtain ⟨q4,rfl,hqb4,hqo4,hqc4⟩:=zl1 ho4 rfl (by rw [Ld.o];omega);have hqX4:q4≠w.heap.size:=by have:=zak b0.o;omega
 have hqY4:q4≠w.heap.size+1:=by have:=zak b1.o;omega
 have hqF4:w.heap.size<=q4:=by have:=hw.size;omega
 have hw41:Off q4 a1:=ze8 ho1 hqb4;have hw42:Off q4 a2:=ze8 ho2 hqb4;have hne:q3≠q4:=by have:=hqo3.lt;omega
 replace ho1:=ho1.kept (zaj hb w.heap.size) (zbr hlo1);replace ho2:=ho2.kept (zaj hb w.heap.size) (zbr hlo2);replace hqo3:=hqo3.bl hb;replace b0:=uH (zab b0.o hb);replace b1:=uH (zab b1.o hb);replace hw:=bT hw hb;clear hb x0 H4;have x0:=zaa b0.o 8 _ rfl;have f0:=zad b0.o 8;go_upto_region 5 with fail
 have hT:w4.grownBy (w4.setCell ⟨w.heap.size,8,none⟩ (sV q4 g.di.length c4)) (some w.heap.size):=zaw _ _ _ _;have b0n:Hd ((w4.setCell ⟨w.heap.size,8,none⟩ (sV q4 g.di.length c4)).heap[w.heap.size]?=some (.cells #[.slice a1 g.ws.length c1,iV g.fu,.bool g.up,iV g.t.r.v,.slice a2 g.t.r.ks.length c2,iV g.t.r.t,iV g.t.ver,sV q3 g.vo.length c3,sV q4 g.di.length c4] 35 (0,0))):=heap_setCell_same _ _ _ _ _ _ b0.o;replace b1:=uH (zar b1.o hT (by omega));replace ho1:=ho1.kept hT (zbr hlo1);replace ho2:=ho2.kept hT (zbr hlo2);replace hqo3:=hqo3.turns hT hqX3;replace hqo4:=hqo4.turns hT hqX4;replace hw:=zam hw hT (kQ _) hw.size;clear x0 f0 b0 hT;generalize w4.setCell ⟨w.heap.size,8,none⟩ (sV q4 g.di.length c4)=W4 at *;have b0:=b0n;clear b0n;have y0:=zgz ho1 rfl;have y4:=zgz ho2 rfl;obtain ⟨x0,x1,x2,x3,x4,x5,x6,x7,x8⟩:=cl9 b0.o;obtain ⟨z0,z1,z2,z3,z4,z5,z6,z7,z8⟩:=cl9 b1.o;obtain ⟨v0,v1,v2,v3,v4,v5,v6,v7,v8⟩:=fr9 b1.o;have O1:=uH ho1;have O2:=uH ho2;have Y0:=uH y0;have Y4:=uH y4;clear ho1 ho2 ho3 ho4 y0 y4;go_wp2_with fail;refine kT (v:=gtv g ⟨a1,g.ws.length,c1,a2,g.t.r.ks.length,c2,some ⟨q3,0,none⟩,g.vo.length,c3,some ⟨q4,0,none⟩,g.di.length,c4⟩) (by simp [results,Tryz.results138,go_sem,gtv,z0,z1,z2,z3,z4,z5,z6,z7,z8]) rfl ?_;have hT:=(zac (zac (zac (zac (zac (zac (zac (zac (zac (kf W4 (some (w.heap.size+1))) 0 (.slice a1 g.ws.length c1)) 1 (iV g.fu)) 2 (.bool g.up)) 3 (iV g.t.r.v)) 4 (.slice a2 g.t.r.ks.length c2)) 5 (iV g.t.r.t)) 6 (iV g.t.ver)) 7 (sV q3 g.vo.length c3)) 8 (sV q4 g.di.length c4));refine⟨⟨_,q3,q4,rfl, ?_,fun B hB=>hB.elim (fun h=>⟨zcd O1.o (kw h hs1),zcd O2.o (kw h hs2)⟩) (fun h=>⟨ze8 O1.o (kc hT.size h),ze8 O2.o (kc hT.size h)⟩)⟩,zam hw hT (by omega) hw.size⟩;exact⟨⟨zax Y0.o.1 hT hlp1,rfl,Y0.o.2.2,by rw [Lw.o];exact hmx.o.1⟩,⟨zax Y4.o.1 hT hlp2,rfl,by rw [Lk.o];exact hmx.o.2⟩,rfl,rfl,hqo3.turns hT hqY3,hqo4.turns hT hqY4,⟨rfl,hqc3,by rw [Lv.o];exact hv.1,by rw [Lv.o];exact hv.2⟩,⟨rfl,hqc4,by rw [Ld.o];exact hd.1,by rw [Ld.o];exact hd.2⟩,hqF3,hqF4,hne,hw31,hw41,hw32,hw42,zl7 O1.o hs1,zl7 O2.o hs2⟩
end
section
attribute [local go_sem ↓] kM kO
structure G3 (w w' :World) (B b1 b2:Nat):Prop where
 os:w'.os=w.os
 tape:w'.tape=w.tape
 output:w'.output=w.output
 size:w.heap.size<=w'.heap.size
 block: ∀k,k<w.heap.size->k≠B->k≠b1->k≠b2->w'.heap[k]?=w.heap[k]?
theorem G3.refl (w:World) (B b1 b2:Nat):G3 w w B b1 b2:=⟨rfl,rfl,rfl,kQ _,fun _ _ _ _ _=>rfl⟩
theorem G3.trans {w1 w2:World} {b1:Nat} (h:G3 w w1 B b1 b2) (h2:G3 w1 w2 B b1 b2):G3 w w2 B b1 b2:=
 ⟨h2.os.trans h.os,h2.tape.trans h.tape,h2.output.trans h.output,kc h.size h2.size,fun k hk n0 n1 n2=>(h2.block k (kw hk h.size) n0 n1 n2).trans (h.block k hk n0 n1 n2)⟩
theorem g3_of {b1:Nat} (h:w.grownBy w' (some b)) (hb:b=B\/b=b1\/b=b2):G3 w w' B b1 b2:=
 ⟨h.os,h.tape,h.output,h.size,fun k hk n0 n1 n2=>h.block k hk (fun e=>by cases e;omega)⟩
theorem zcw {b1:Nat} (h:bZ w w'):G3 w w' B b1 b2:=g3_of (zaj h B) (.inl rfl)
theorem G3.bel {a:World} {b1:Nat} (h:G3 w w' B b1 b2) (hb:Below F a w) (h0:F<=B) (h1:F<=b1) (h2:F<=b2) (hs:F<=w.heap.size):Below F a w' :=
 ⟨h.os.trans hb.os,h.tape.trans hb.tape,h.output.trans hb.output,kc hb.size h.size,fun k hk=>(h.block k (kw hk hs) (by omega) (by omega) (by omega)).trans (hb.block k hk)⟩
theorem G3.blk {b1 k:Nat} {o:Obj} (h:G3 w w' B b1 b2) (hk:w.heap[k]?=some o) (h0:k≠B) (h1:k≠b1) (h2:k≠b2):w'.heap[k]?=some o:=by rw [h.block k (zak hk) h0 h1 h2];exact hk
structure GBox (w:World) (F B:Nat) (m:GA) (g:Gt) (bv bd:Nat):Prop where
 box:w.heap[B]?=some (gtO g m)
 own:GOwn w F m g bv bd
 fB:F<=B
 nv:B≠bv
 nd:B≠bd
 oa:Off B m.a
 ok:Off B m.ak
theorem zkh (l:List Bool): (zbj l).length=l.length:=by unfold zbj;simp
theorem zgq (F B:Nat) (m:GA) (g:Gt) (bv bd:Nat) (w:World) (h:GBox w F B m g bv bd):
 Cq 242 #[.pointer (some ⟨B,0,none⟩)] w fun e w' =>e=.returned (.tuple #[])/\GBox w' F B m (forgG g) bv bd/\G3 w w' B bv bd:=by
 have b0:=uH h.box;unfold gtO at b0;have hav:=h.own.av;have had:=h.own.ad;obtain ⟨w1,hc1,ho1,hg1⟩:=zma bv m.nv m.cv g.vo w h.own.vo h.own.nv.1 h.own.nv.2.2.1;have hd1:=h.own.di.turns hg1 (Ne.symm h.own.ne);obtain ⟨w2,hc2,ho2,hg2⟩:=zma bd m.nd m.cd g.di w1 hd1 h.own.nd.1 h.own.nd.2.2.1;have b1:=uH (zar b0.o hg1 h.nv);have x7:=zaa b0.o 7 _ rfl;have x8:=zaa b1.o 8 _ rfl;rw [hav] at x7;rw [had] at x8;have HP:=uH h;have HO:=uH (show OwnB w2 bv (zbj g.vo)/\OwnB w2 bd (zbj g.di) from⟨ho1.turns hg2 h.own.ne,ho2⟩);clear h hav had ho1 ho2 hd1;go_enter Tryz.func242,Tryz.ntmps242;go_wp2_with fail
 go_end0
 have hG:=(g3_of hg1 (.inr (.inl rfl))).trans (g3_of (B:=B) hg2 (.inr (.inr rfl)));have hp:=HP.o;have hw2: ∀{a:oA} {xs:LI},zag w a xs->Off bv a->Off bd a->zag w2 a xs:=fun h h1 h2=>zax (zax h hg1 h1) hg2 h2
 refine⟨rfl,⟨?_,⟨⟨hw2 hp.own.ws.at_ hp.own.wv hp.own.wd,hp.own.ws.len,hp.own.ws.cap,hp.own.ws.max⟩,⟨hw2 hp.own.ks.at_ hp.own.kv hp.own.kd,hp.own.ks.len,hp.own.ks.max⟩,hp.own.av,hp.own.ad,HO.o.1,HO.o.2,⟨(zkh _).trans hp.own.nv.1,hp.own.nv.2⟩,⟨(zkh _).trans hp.own.nd.1,hp.own.nd.2⟩,hp.own.fv,hp.own.fd,hp.own.ne,hp.own.wv,hp.own.wd,hp.own.kv,hp.own.kd,hp.own.fa,hp.own.fk⟩,hp.fB,hp.nv,hp.nd,hp.oa,hp.ok⟩,hG⟩;exact zar b1.o hg2 hp.nd
end
section
attribute [local go_sem ↓] kM kO
theorem zoj (h:s.rdy≠0\/m.n<=s.by'):zda u s m=u:=by unfold zda;rw [KK h]
theorem pieceS_2 (h: ¬(s.rdy≠0\/m.n<=s.by')) (h2: (zb8 u s m).2=false):zda u s m= (zb8 u s m).1:=by unfold zda;rw [KJ h,KJ (by rw [h2];decide)]
theorem pieceS_3 (h: ¬(s.rdy≠0\/m.n<=s.by')) (h2: (zb8 u s m).2=true):zda u s m=zcj (zb8 u s m).1 s m:=by unfold zda;rw [KJ h,KK h2]
theorem zl9 (h: ¬(m.at' =0/\(u.n≠m.n\/u.hv=0))):zb8 u s m= (u,true):=by unfold zb8;rw [KJ h]
theorem pieceA_ok (h:m.at' =0/\(u.n≠m.n\/u.hv=0)) (h2: (doV u (.clr (oth s))).2=true):zb8 u s m= (mind (doV u (.clr (oth s))).1 m.n 0,true):=by unfold zb8;rw [KK h,KK h2]
theorem zp5 (h:m.at' =0/\(u.n≠m.n\/u.hv=0)) (h2: (doV u (.clr (oth s))).2=false):zb8 u s m= ((doV u (.clr (oth s))).1,false):=by unfold zb8;rw [KK h,KJ (by rw [h2];decide)]
theorem zht (h: ¬(u.n=m.n/\u.hv=m.at' /\(m.ws.length:Int)<=40 - m.at')):zcj u s m=u:=by unfold zcj;rw [KJ h]
theorem zia (h:u.n=m.n/\u.hv=m.at' /\(m.ws.length:Int)<=40 - m.at') (h2: (doV u (.fil (oth s) m.at' m.ws)).2=true):zcj u s m=mind (doV u (.fil (oth s) m.at' m.ws)).1 (doV u (.fil (oth s) m.at' m.ws)).1.n ((doV u (.fil (oth s) m.at' m.ws)).1.hv+m.ws.length):=by unfold zcj;rw [KK h,KK h2]
theorem zgu (h:u.n=m.n/\u.hv=m.at' /\(m.ws.length:Int)<=40 - m.at') (h2: (doV u (.fil (oth s) m.at' m.ws)).2=false):zcj u s m= (doV u (.fil (oth s) m.at' m.ws)).1:=by unfold zcj;rw [KK h,KJ (by rw [h2];decide)]
theorem doV_hv (h: (doV u st).2=true): (doV u st).1.hv=u.hv:=by
 unfold doV doU at h|-
 split at h
 { cases h }
 {
 rename_i h1
 split at h
 {
 rename_i h2
 rw [KJ h1,KK h2] }
 {
 cases h } }
theorem zmq (B:Nat) (u:Un) (s:Us) (m:Ms) (a:oA) (n c:Nat) (w:World) (hU:OwnU F w B u) (hs0:0<=s.slot) (hs1:s.slot<=1) (hbi:BI w a n m.ws) (ho:m.ws= []\/Off B a) (hat0:0<=m.at') (hat1:m.at' <=40) (hn8:n<=8):
 Cq 297 #[.pointer (some ⟨B,0,none⟩),usv s,msv m a n c] w fun e w' =>e=.returned (.tuple #[])/\OwnU F w' B (zda u s m)/\w.grownBy w' (some B):=by
 have hb:=uH (hW_hb w s m a n c);have hw0:=zi5 w s m a n c;have hB:=hU.lt;have hU0:=uH (hU.bl hw0);have LW:=uH hbi.len;have HG:=uH (zaj hw0 B);have hwl:=uH (kS w.heap.size w);clear hU;unfold usv msv;have q:=hb.o.hs;unfold HS at q;obtain ⟨x0,x1,x2,y2,y3,y4,y5⟩:=q;unfold hW at x0 x1 x2 y2 y3 y4 y5
 by_cases z1:s.rdy=0
 rotate_left
 · have HE:=uH (zoj (u:=u) (m:=m) (.inl z1))
   have d1: (s.rdy !=0)=true:=by simpa using z1
   clear z1 y3 y4 y5;unfold hW at hw0 hU0 HG;go_enter Tryz.func297,Tryz.ntmps297;go_wp2_with fail
   first|go_end0|refine kT (results_none rfl _ _ _) rfl ?_
   rw [HE.o];exact⟨rfl,hU0.o,HG.o⟩
 have d1: (s.rdy !=0)=false:=by simpa using z1
 by_cases z2:m.n<=s.by'
 · have HE:=uH (zoj (u:=u) (s:=s) (m:=m) (.inr z2))
   clear z1 y3 y4 y5;unfold hW at hw0 hU0 HG;go_enter Tryz.func297,Tryz.ntmps297;go_wp2_with fail
   first|go_end0|refine kT (results_none rfl _ _ _) rfl ?_
   rw [HE.o];exact⟨rfl,hU0.o,HG.o⟩
 have d2:decide (m.n<=s.by')=false:=by simpa using z2
 have hnn: ¬(s.rdy≠0\/m.n<=s.by'):=fun h=>h.elim (fun h=>h z1) z2
 have HS2:=uH (pieceS_2 (u:=u) hnn);have HS3:=uH (pieceS_3 (u:=u) hnn);clear z1 z2 hnn;go_enter Tryz.func297,Tryz.ntmps297;go_upto_region 2 with fail
 clear x0 x1 x2 y2 y3 y4 y5 d1 d2;rw [show(w.alloc (.cells #[iV s.slot,iV s.by',iV s.rdy] 84)).alloc (.cells (aM m a n c) 99)=hW w s m a n c from rfl];generalize hW w s m a n c=W at *;obtain ⟨oa,on,oc,ob,oi,ol,ocap,omax,ooff⟩:=hU0.o;unfold unO at ob;have u3:=zaa ob 3 _ rfl;have u4:=zaa ob 4 _ rfl;have y2:=zaa hb.o.b1 2 _ rfl;have y3:=zaa hb.o.b1 3 _ rfl;clear ob oi ol
 by_cases z3:m.at' =0
 rotate_left
 · have hA:=zl9 (u:=u) (s:=s) (m:=m) (fun h=>z3 h.1)
   have HEp:=uH (HS3.o (by rw [hA]));rw [hA] at HEp;have d3: (m.at' ==0)=false:=by simpa using z3
   clear HS2 HS3 hA z3;go_quiet (fail);obtain ⟨wa,hwa⟩: ∃wa:World,wa=W.drewN nq:=⟨_,rfl⟩;have hba:bZ W wa:=by rw [hwa];exact kA (kS _ _) nq
   rw [<-hwa];clear hwa u3 u4 y2 y3 d3;have HUa:=uH (hU0.o.bl hba);have HBa:=uH (hb.o.bl hba);have HGa:=uH (HG.o.trans (zaj hba B));clear hba hU0 hb HG hw0;go_upto_region 5 with fail
   obtain ⟨ua,un,uc,ub,ui,ul,ucap,umax,uoff,ufr⟩:=HUa.o;have UB:=uH ub;unfold unO at ub;have u3:=zaa ub 3 _ rfl;have u4:=zaa ub 4 _ rfl;have y2:=zaa HBa.o.b1 2 _ rfl;have y3:=zaa HBa.o.b1 3 _ rfl;have y5:=zaa HBa.o.b1 5 _ rfl;clear ub ui ul;have hno: ∀(h: ¬(u.n=m.n/\u.hv=m.at' /\(m.ws.length:Int)<=40 - m.at')),zcj u s m=u:=fun h=>zht h
   have HNO:=uH hno;have HOK:=uH (fun h1 h2=>zia (s:=s) (m:=m) (u:=u) h1 h2);have HBAD:=uH (fun h1 h2=>zgu (s:=s) (m:=m) (u:=u) h1 h2);rw [LW.o] at HNO HOK HBAD;clear hno
   by_cases b1:u.n=m.n
   rotate_left
   · have HE:=uH (HEp.o.trans (HNO.o (fun h=>b1 h.1)))
     have d1: (u.n !=m.n)=true:=by simpa using b1
     clear b1 HNO HOK HBAD;go_wp2_with fail;go_quiet (fail);go_wp2_with fail
     first|go_end0|refine kT (results_none rfl _ _ _) rfl ?_
     rw [HE.o];exact⟨rfl,HUa.o.bl (kA (kS _ _) nq),HGa.o.trans (zaj (kA (kS _ _) nq) B)⟩
   have d1: (u.n !=m.n)=false:=by simpa using b1
   by_cases b2:u.hv=m.at'
   rotate_left
   · have HE:=uH (HEp.o.trans (HNO.o (fun h=>b2 h.2.1)))
     have d2: (u.hv !=m.at')=true:=by simpa using b2
     clear b1 b2 HNO HOK HBAD;go_wp2_with fail;go_quiet (fail);go_wp2_with fail
     first|go_end0|refine kT (results_none rfl _ _ _) rfl ?_
     rw [HE.o];exact⟨rfl,HUa.o.bl (kA (kS _ _) nq),HGa.o.trans (zaj (kA (kS _ _) nq) B)⟩
   have d2: (u.hv !=m.at')=false:=by simpa using b2
   by_cases b3: (n:Int)<=40 - m.at'
   rotate_left
   · have HE:=uH (HEp.o.trans (HNO.o (fun h=>b3 h.2.2)))
     have d3:decide (40 - m.at' < (n:Int))=true:=by simp;omega
     clear b1 b2 b3 HNO HOK HBAD;go_wp2_with fail;go_quiet (fail);go_wp2_with fail
     first|go_end0|refine kT (results_none rfl _ _ _) rfl ?_
     rw [HE.o];exact⟨rfl,HUa.o.bl (kA (kS _ _) nq),HGa.o.trans (zaj (kA (kS _ _) nq) B)⟩
   have d3:decide (40 - m.at' < (n:Int))=false:=by simp;omega
   have HEo:=uH (fun h=>HEp.o.trans (HOK.o ⟨b1,b2,b3⟩ h));have HEb:=uH (fun h=>HEp.o.trans (HBAD.o ⟨b1,b2,b3⟩ h));have B2:=uH b2;clear b1 b2 HNO HOK HBAD;go_wp2_with fail;go_quiet (fail);obtain ⟨wz,hwz⟩: ∃wz:World,wz=wa.drewN nq:=⟨_,rfl⟩;have hbz:bZ wa wz:=by rw [hwz];exact kA (kS _ _) nq
   rw [<-hwz];clear hwz u3 u4 y2 y3 y5 d1 d2 d3;have HUz:=uH (HUa.o.bl hbz);have HBz:=uH (HBa.o.bl hbz);have HGz:=uH (HGa.o.trans (zaj hbz B));clear hbz UB;have hBz:=HUz.o.lt;go_upto_region 6 with fail
   refine km (S:=fun W' =>W'.cell? ⟨w.heap.size,0,none⟩=some (iV s.slot)/\W'.cell? ⟨w.heap.size,1,none⟩=some (iV s.by')/\W'.cell? ⟨w.heap.size,2,none⟩=some (iV s.rdy)/\W'.cell? ⟨w.heap.size+1,2,none⟩=some (iV m.n)/\W'.cell? ⟨w.heap.size+1,3,none⟩=some (iV m.at')/\W'.cell? ⟨w.heap.size+1,4,none⟩=some (iV m.im)/\W'.cell? ⟨w.heap.size+1,5,none⟩=some (.slice a n c)) (by kernel_rfl) HBz.o.hs ?_;intro hHeld;refine Htk 0 ?_
   refine Htk 1 ?_
   refine Htk 3 ?_
   refine Htk 4 ?_
   refine Htk 5 ?_
   refine Htk 6 ?_
   refine wr1 2 (fun K hK=> ?_);go_simp;have hk0:bZ wz wz.drew:=(kS _ _).drew;have HO:=uH (zcs s wz.drew hs0 hs1);refine(zae HO).mono ?_;rintro e w1 ⟨rfl,hb1⟩;have hk1:=bT hk0 hb1;clear hb1 HO hk0;go_wp2_with fail;refine hK.out _ _ ((HBz.o.bl hk1).hs) (fun hHeld=> ?_);clear hK K
   refine wr1 7 (fun K hK=> ?_);go_simp;have HFl:=uH (zel (oth s) m.at' a n c m.ws B w1 (by have:=hk1.size;omega) (zb0 (hbi.bl hwl.o) (HGz.o.trans (zaj hk1 B)) ho) ho);refine(zae HFl).mono ?_;rintro e w3 ⟨⟨fn3,caps3,rfl,hv3⟩,hb3⟩;have hk3:=bT hk1 hb3;clear hb3 HFl;go_wp2_with fail;refine hK.out _ _ ((HBz.o.bl hk3).hs) (fun hHeld=> ?_);clear hK K
   refine wr1 8 (fun K hK=> ?_);go_simp;have hk4:=zaf hk3 (.cells #[.func (.func fn3) #[] caps3] 258);refine hK.out _ _ ((HBz.o.bl hk4).hs) (fun hHeld=> ?_);clear hK K
   refine wr1 9 (fun K hK=> ?_);go_simp;have HCh:=uH (zb5 B _ u (.func (.func fn3) #[] caps3) 258 w3 (HUz.o.bl hk3) hv3);refine(zae HCh).mono ?_;rintro e w5 ⟨rfl,hU5,hg5⟩;have hg:=(zaj hk3 B).trans hg5;have HU5:=uH hU5;have HG5:=uH (HGz.o.trans hg);have HB5:=uH (HBz.o.turns hg hB);clear hU5 hg5 HCh hk1 hk3 hk4 hg hv3;have HN5:=uH (doV_hv (st:=.fil (oth s) m.at' m.ws) (u:=u));generalize doV u (.fil (oth s) m.at' m.ws)=R at *;go_wp2_with fail;refine hK.out _ _ (HB5.o.hs) (fun hHeld=> ?_);clear hK K
   try simp only [sq]
   refine KE (by kernel_rfl) ?_ _;clear hHeld;cases g:R.2
   · have HE:=uH (HEb.o g)
     go_wp2_with fail
     first|go_end0|refine kT (results_none rfl _ _ _) rfl ?_
     rw [HE.o];exact⟨rfl,HU5.o,HG5.o⟩
   · have HE:=uH (HEo.o g)
     obtain ⟨R1,R2⟩:=R;simp only at HU5 HE HN5 g;have hhv:R1.hv=m.at' :=by rw [HN5.o g,B2.o]
     obtain ⟨va,vn,vc,vb,vi,vl,vcap,vmax,voff,vfr⟩:=HU5.o;have VB:=uH vb;have VI:=uH vi;have VL:=uH vl;unfold unO at vb;rw [hhv] at vb;have u4:=zaa vb 4 _ rfl;have fu4:=zad vb 4;have y5:=zaa HB5.o.b1 5 _ rfl;have hneX:B≠w.heap.size+1:=by omega
     have HHV:=uH hhv;clear vb vi vl hhv g;go_upto_region 7 with fail
     go_region
     go_wp2_with fail
     first|go_end0|refine kT (results_none rfl _ _ _) rfl ?_
     rw [HE.o];rw [HHV.o];exact⟨rfl,⟨va,vn,vc,zfn (un_hv VB.o),zax VI.o (zbv (zaw _ _ _ _)) voff,VL.o,vcap,vmax,voff,vfr⟩,zbv (zac HG5.o _ _)⟩
 have d3: (m.at' ==0)=true:=by simpa using z3
 by_cases z4:u.n=m.n/\¬u.hv=0
 · have hA:=zl9 (u:=u) (s:=s) (m:=m) (fun h=>h.2.elim (fun h=>h z4.1) z4.2)
   have HEp:=uH (HS3.o (by rw [hA]));rw [hA] at HEp;have d4: (u.n !=m.n)=false:=by simpa using z4.1
   have d5: (u.hv==0)=false:=by simpa using z4.2
   clear HS2 HS3 hA z4 z3;go_quiet (fail);obtain ⟨wa,hwa⟩: ∃wa:World,wa=W.drewN nq:=⟨_,rfl⟩;have hba:bZ W wa:=by rw [hwa];exact kA (kS _ _) nq
   rw [<-hwa];clear hwa u3 u4 y2 y3 d3 d4 d5;have HUa:=uH (hU0.o.bl hba);have HBa:=uH (hb.o.bl hba);have HGa:=uH (HG.o.trans (zaj hba B));clear hba hU0 hb HG hw0;go_upto_region 5 with fail
   obtain ⟨ua,un,uc,ub,ui,ul,ucap,umax,uoff,ufr⟩:=HUa.o;have UB:=uH ub;unfold unO at ub;have u3:=zaa ub 3 _ rfl;have u4:=zaa ub 4 _ rfl;have y2:=zaa HBa.o.b1 2 _ rfl;have y3:=zaa HBa.o.b1 3 _ rfl;have y5:=zaa HBa.o.b1 5 _ rfl;clear ub ui ul;have hno: ∀(h: ¬(u.n=m.n/\u.hv=m.at' /\(m.ws.length:Int)<=40 - m.at')),zcj u s m=u:=fun h=>zht h
   have HNO:=uH hno;have HOK:=uH (fun h1 h2=>zia (s:=s) (m:=m) (u:=u) h1 h2);have HBAD:=uH (fun h1 h2=>zgu (s:=s) (m:=m) (u:=u) h1 h2);rw [LW.o] at HNO HOK HBAD;clear hno
   by_cases b1:u.n=m.n
   rotate_left
   · have HE:=uH (HEp.o.trans (HNO.o (fun h=>b1 h.1)))
     have d1: (u.n !=m.n)=true:=by simpa using b1
     clear b1 HNO HOK HBAD;go_wp2_with fail;go_quiet (fail);go_wp2_with fail
     first|go_end0|refine kT (results_none rfl _ _ _) rfl ?_
     rw [HE.o];exact⟨rfl,HUa.o.bl (kA (kS _ _) nq),HGa.o.trans (zaj (kA (kS _ _) nq) B)⟩
   have d1: (u.n !=m.n)=false:=by simpa using b1
   by_cases b2:u.hv=m.at'
   rotate_left
   · have HE:=uH (HEp.o.trans (HNO.o (fun h=>b2 h.2.1)))
     have d2: (u.hv !=m.at')=true:=by simpa using b2
     clear b1 b2 HNO HOK HBAD;go_wp2_with fail;go_quiet (fail);go_wp2_with fail
     first|go_end0|refine kT (results_none rfl _ _ _) rfl ?_
     rw [HE.o];exact⟨rfl,HUa.o.bl (kA (kS _ _) nq),HGa.o.trans (zaj (kA (kS _ _) nq) B)⟩
   have d2: (u.hv !=m.at')=false:=by simpa using b2
   by_cases b3: (n:Int)<=40 - m.at'
   rotate_left
   · have HE:=uH (HEp.o.trans (HNO.o (fun h=>b3 h.2.2)))
     have d3:decide (40 - m.at' < (n:Int))=true:=by simp;omega
     clear b1 b2 b3 HNO HOK HBAD;go_wp2_with fail;go_quiet (fail);go_wp2_with fail
     first|go_end0|refine kT (results_none rfl _ _ _) rfl ?_
     rw [HE.o];exact⟨rfl,HUa.o.bl (kA (kS _ _) nq),HGa.o.trans (zaj (kA (kS _ _) nq) B)⟩
   have d3:decide (40 - m.at' < (n:Int))=false:=by simp;omega
   have HEo:=uH (fun h=>HEp.o.trans (HOK.o ⟨b1,b2,b3⟩ h));have HEb:=uH (fun h=>HEp.o.trans (HBAD.o ⟨b1,b2,b3⟩ h));have B2:=uH b2;clear b1 b2 HNO HOK HBAD;go_wp2_with fail;go_quiet (fail);obtain ⟨wz,hwz⟩: ∃wz:World,wz=wa.drewN nq:=⟨_,rfl⟩;have hbz:bZ wa wz:=by rw [hwz];exact kA (kS _ _) nq
   rw [<-hwz];clear hwz u3 u4 y2 y3 y5 d1 d2 d3;have HUz:=uH (HUa.o.bl hbz);have HBz:=uH (HBa.o.bl hbz);have HGz:=uH (HGa.o.trans (zaj hbz B));clear hbz UB;have hBz:=HUz.o.lt;go_upto_region 6 with fail
   refine km (S:=fun W' =>W'.cell? ⟨w.heap.size,0,none⟩=some (iV s.slot)/\W'.cell? ⟨w.heap.size,1,none⟩=some (iV s.by')/\W'.cell? ⟨w.heap.size,2,none⟩=some (iV s.rdy)/\W'.cell? ⟨w.heap.size+1,2,none⟩=some (iV m.n)/\W'.cell? ⟨w.heap.size+1,3,none⟩=some (iV m.at')/\W'.cell? ⟨w.heap.size+1,4,none⟩=some (iV m.im)/\W'.cell? ⟨w.heap.size+1,5,none⟩=some (.slice a n c)) (by kernel_rfl) HBz.o.hs ?_;intro hHeld;refine Htk 0 ?_
   refine Htk 1 ?_
   refine Htk 3 ?_
   refine Htk 4 ?_
   refine Htk 5 ?_
   refine Htk 6 ?_
   refine wr1 2 (fun K hK=> ?_);go_simp;have hk0:bZ wz wz.drew:=(kS _ _).drew;have HO:=uH (zcs s wz.drew hs0 hs1);refine(zae HO).mono ?_;rintro e w1 ⟨rfl,hb1⟩;have hk1:=bT hk0 hb1;clear hb1 HO hk0;go_wp2_with fail;refine hK.out _ _ ((HBz.o.bl hk1).hs) (fun hHeld=> ?_);clear hK K
   refine wr1 7 (fun K hK=> ?_);go_simp;have HFl:=uH (zel (oth s) m.at' a n c m.ws B w1 (by have:=hk1.size;omega) (zb0 (hbi.bl hwl.o) (HGz.o.trans (zaj hk1 B)) ho) ho);refine(zae HFl).mono ?_;rintro e w3 ⟨⟨fn3,caps3,rfl,hv3⟩,hb3⟩;have hk3:=bT hk1 hb3;clear hb3 HFl;go_wp2_with fail;refine hK.out _ _ ((HBz.o.bl hk3).hs) (fun hHeld=> ?_);clear hK K
   refine wr1 8 (fun K hK=> ?_);go_simp;have hk4:=zaf hk3 (.cells #[.func (.func fn3) #[] caps3] 258);refine hK.out _ _ ((HBz.o.bl hk4).hs) (fun hHeld=> ?_);clear hK K
   refine wr1 9 (fun K hK=> ?_);go_simp;have HCh:=uH (zb5 B _ u (.func (.func fn3) #[] caps3) 258 w3 (HUz.o.bl hk3) hv3);refine(zae HCh).mono ?_;rintro e w5 ⟨rfl,hU5,hg5⟩;have hg:=(zaj hk3 B).trans hg5;have HU5:=uH hU5;have HG5:=uH (HGz.o.trans hg);have HB5:=uH (HBz.o.turns hg hB);clear hU5 hg5 HCh hk1 hk3 hk4 hg hv3;have HN5:=uH (doV_hv (st:=.fil (oth s) m.at' m.ws) (u:=u));generalize doV u (.fil (oth s) m.at' m.ws)=R at *;go_wp2_with fail;refine hK.out _ _ (HB5.o.hs) (fun hHeld=> ?_);clear hK K
   try simp only [sq]
   refine KE (by kernel_rfl) ?_ _;clear hHeld;cases g:R.2
   · have HE:=uH (HEb.o g)
     go_wp2_with fail
     first|go_end0|refine kT (results_none rfl _ _ _) rfl ?_
     rw [HE.o];exact⟨rfl,HU5.o,HG5.o⟩
   · have HE:=uH (HEo.o g)
     obtain ⟨R1,R2⟩:=R;simp only at HU5 HE HN5 g;have hhv:R1.hv=m.at' :=by rw [HN5.o g,B2.o]
     obtain ⟨va,vn,vc,vb,vi,vl,vcap,vmax,voff,vfr⟩:=HU5.o;have VB:=uH vb;have VI:=uH vi;have VL:=uH vl;unfold unO at vb;rw [hhv] at vb;have u4:=zaa vb 4 _ rfl;have fu4:=zad vb 4;have y5:=zaa HB5.o.b1 5 _ rfl;have hneX:B≠w.heap.size+1:=by omega
     have HHV:=uH hhv;clear vb vi vl hhv g;go_upto_region 7 with fail
     go_region
     go_wp2_with fail
     first|go_end0|refine kT (results_none rfl _ _ _) rfl ?_
     rw [HE.o];rw [HHV.o];exact⟨rfl,⟨va,vn,vc,zfn (un_hv VB.o),zax VI.o (zbv (zaw _ _ _ _)) voff,VL.o,vcap,vmax,voff,vfr⟩,zbv (zac HG5.o _ _)⟩
 have hcl:m.at' =0/\(u.n≠m.n\/u.hv=0):=⟨z3,by
  by_cases h:u.n=m.n
  · exact .inr (ky fun h2=>z4 ⟨h,h2⟩)
  · exact .inl h⟩
 have HAo:=uH (fun h=>pieceA_ok (s:=s) hcl h);have HAb:=uH (fun h=>zp5 (s:=s) hcl h);have HCl:=uH hcl.2;have Z3:=uH z3;have hgo: ((u.n !=m.n)=true)\/((u.n !=m.n)=false/\(u.hv==0)=true):=by
  rcases HCl.o with h|h
  · exact .inl (by simpa using h)
  · by_cases h3:u.n=m.n
    · exact .inr ⟨by simpa using h3,by simpa using h⟩
    · exact .inl (by simpa using h3)
 clear z3 z4 hcl HCl
 go_cut [34] (fun v wa=>v=.bool true/\bZ W wa)
 case first=>
  rcases hgo with d4| ⟨d4,d5⟩
  · go_quiet (fail)
    go_wp2_with fail
    go_meet
    case rel=>exact⟨rfl,kA (kS _ _) nq⟩
  · go_quiet (fail)
    go_wp2_with fail
    go_meet
    case rel=>exact⟨rfl,kA (kS _ _) nq⟩
 case rest=>
 obtain ⟨rfl,hba⟩:=hcut;obtain ⟨wa,rfl⟩: ∃wa:World,wa=wc:=⟨_,rfl⟩;clear u3 u4 y2 y3 d3 hgo;have HUa:=uH (hU0.o.bl hba);have HBa:=uH (hb.o.bl hba);have HGa:=uH (HG.o.trans (zaj hba B));have hBa:=HUa.o.lt;clear hba hU0 hb HG hw0;have x0:=zaa HBa.o.b0 0 _ rfl;have x1:=zaa HBa.o.b0 1 _ rfl;have x2:=zaa HBa.o.b0 2 _ rfl;go_wp2_with fail;refine(zcs s wa hs0 hs1).mono ?_;rintro e w1 ⟨rfl,hb1⟩;go_wp2_with fail;refine(zoi (oth s) B w1 (by have:=hb1.size;omega)).mono ?_;rintro e w2 ⟨⟨fn2,caps2,rfl,hv2⟩,hb2⟩;have hk2:=bT hb1 hb2;have HCh:=uH (zb5 B _ u (.func (.func fn2) #[] caps2) 258 w2 (HUa.o.bl hk2) hv2);clear x0 x1 x2 hb1 hb2 hv2;go_wp2_with fail;refine(zae HCh).mono ?_;rintro e w4 ⟨rfl,hU4,hg4⟩;have hg:=(zaj hk2 B).trans hg4;have HU4:=uH hU4;have HG4:=uH (HGa.o.trans hg);have HB4:=uH (HBa.o.turns hg hB);clear hU4 hg4 hg hk2 HCh HUa HBa HGa;generalize doV u (.clr (oth s))=R at *;cases g:R.2
 · have hA:=HAb.o g
   have HE:=uH (HS2.o (by rw [hA]));rw [hA] at HE;clear hA;go_wp2_with fail
   first|go_end0|refine kT (results_none rfl _ _ _) rfl ?_
   rw [HE.o];exact⟨rfl,HU4.o,HG4.o⟩
 · have hA:=HAo.o g
   have HEp:=uH (HS3.o (by rw [hA]));rw [hA] at HEp;clear hA HS2 HS3 HAo HAb;obtain ⟨R1,R2⟩:=R;simp only at HU4 HEp;obtain ⟨va,vn,vc,vb,vi,vl,vcap,vmax,voff,vfr⟩:=HU4.o;have VB:=uH vb;have VI:=uH vi;have VL:=uH vl;unfold unO at vb;have u3:=zaa vb 3 _ rfl;have fu3:=zad vb 3;have u4:=zaa vb 4 _ rfl;have fu4:=zad vb 4;have y2:=zaa HB4.o.b1 2 _ rfl;have hneX:B≠w.heap.size+1:=by omega
   clear vb vi vl;have hgS:w4.grownBy ((w4.setCell ⟨B,3,none⟩ (iV m.n)).setCell ⟨B,4,none⟩ (iV 0)) (some B):=zac (zaw _ _ _ _) _ _;have HUs:Hd (OwnU F ((w4.setCell ⟨B,3,none⟩ (iV m.n)).setCell ⟨B,4,none⟩ (iV 0)) B (mind R1 m.n 0)):=⟨va,vn,vc,zig VB.o,zax VI.o hgS voff,VL.o,vcap,vmax,voff,vfr⟩;have HBs:=uH (HB4.o.turns hgS hB);have HGs:=uH (HG4.o.trans hgS);go_upto_region 5 with fail
   generalize (w4.setCell ⟨B,3,none⟩ (iV m.n)).setCell ⟨B,4,none⟩ (iV 0)=ws5 at *;clear u3 u4 fu3 fu4 y2 hgS VB VI VL voff HU4 HB4 HG4;generalize mind R1 m.n 0=u5 at *;obtain ⟨ua,un,uc,ub,ui,ul,ucap,umax,uoff,ufr⟩:=HUs.o;have UB:=uH ub;unfold unO at ub;have u3:=zaa ub 3 _ rfl;have u4:=zaa ub 4 _ rfl;have y2:=zaa HBs.o.b1 2 _ rfl;have y3:=zaa HBs.o.b1 3 _ rfl;have y5:=zaa HBs.o.b1 5 _ rfl;clear ub ui ul;have hno: ∀(h: ¬(u5.n=m.n/\u5.hv=m.at' /\(m.ws.length:Int)<=40 - m.at')),zcj u5 s m=u5:=fun h=>zht h
   have HNO:=uH hno;have HOK:=uH (fun h1 h2=>zia (s:=s) (m:=m) (u:=u5) h1 h2);have HBAD:=uH (fun h1 h2=>zgu (s:=s) (m:=m) (u:=u5) h1 h2);rw [LW.o] at HNO HOK HBAD;clear hno
   by_cases b1:u5.n=m.n
   rotate_left
   · have HE:=uH (HEp.o.trans (HNO.o (fun h=>b1 h.1)))
     have d1: (u5.n !=m.n)=true:=by simpa using b1
     clear b1 HNO HOK HBAD;go_wp2_with fail;go_quiet (fail);go_wp2_with fail
     first|go_end0|refine kT (results_none rfl _ _ _) rfl ?_
     rw [HE.o];exact⟨rfl,HUs.o.bl (kA (kS _ _) nq),HGs.o.trans (zaj (kA (kS _ _) nq) B)⟩
   have d1: (u5.n !=m.n)=false:=by simpa using b1
   by_cases b2:u5.hv=m.at'
   rotate_left
   · have HE:=uH (HEp.o.trans (HNO.o (fun h=>b2 h.2.1)))
     have d2: (u5.hv !=m.at')=true:=by simpa using b2
     clear b1 b2 HNO HOK HBAD;go_wp2_with fail;go_quiet (fail);go_wp2_with fail
     first|go_end0|refine kT (results_none rfl _ _ _) rfl ?_
     rw [HE.o];exact⟨rfl,HUs.o.bl (kA (kS _ _) nq),HGs.o.trans (zaj (kA (kS _ _) nq) B)⟩
   have d2: (u5.hv !=m.at')=false:=by simpa using b2
   by_cases b3: (n:Int)<=40 - m.at'
   rotate_left
   · have HE:=uH (HEp.o.trans (HNO.o (fun h=>b3 h.2.2)))
     have d3:decide (40 - m.at' < (n:Int))=true:=by simp;omega
     clear b1 b2 b3 HNO HOK HBAD;go_wp2_with fail;go_quiet (fail);go_wp2_with fail
     first|go_end0|refine kT (results_none rfl _ _ _) rfl ?_
     rw [HE.o];exact⟨rfl,HUs.o.bl (kA (kS _ _) nq),HGs.o.trans (zaj (kA (kS _ _) nq) B)⟩
   have d3:decide (40 - m.at' < (n:Int))=false:=by simp;omega
   have HEo:=uH (fun h=>HEp.o.trans (HOK.o ⟨b1,b2,b3⟩ h));have HEb:=uH (fun h=>HEp.o.trans (HBAD.o ⟨b1,b2,b3⟩ h));have B2:=uH b2;clear b1 b2 HNO HOK HBAD;go_wp2_with fail;go_quiet (fail);obtain ⟨wz,hwz⟩: ∃wz:World,wz=ws5.drewN nq:=⟨_,rfl⟩;have hbz:bZ ws5 wz:=by rw [hwz];exact kA (kS _ _) nq
   rw [<-hwz];clear hwz u3 u4 y2 y3 y5 d1 d2 d3;have HUz:=uH (HUs.o.bl hbz);have HBz:=uH (HBs.o.bl hbz);have HGz:=uH (HGs.o.trans (zaj hbz B));clear hbz UB;have hBz:=HUz.o.lt;go_upto_region 6 with fail
   refine km (S:=fun W' =>W'.cell? ⟨w.heap.size,0,none⟩=some (iV s.slot)/\W'.cell? ⟨w.heap.size,1,none⟩=some (iV s.by')/\W'.cell? ⟨w.heap.size,2,none⟩=some (iV s.rdy)/\W'.cell? ⟨w.heap.size+1,2,none⟩=some (iV m.n)/\W'.cell? ⟨w.heap.size+1,3,none⟩=some (iV m.at')/\W'.cell? ⟨w.heap.size+1,4,none⟩=some (iV m.im)/\W'.cell? ⟨w.heap.size+1,5,none⟩=some (.slice a n c)) (by kernel_rfl) HBz.o.hs ?_;intro hHeld;refine Htk 0 ?_
   refine Htk 1 ?_
   refine Htk 3 ?_
   refine Htk 4 ?_
   refine Htk 5 ?_
   refine Htk 6 ?_
   refine wr1 2 (fun K hK=> ?_);go_simp;have hk0:bZ wz wz.drew:=(kS _ _).drew;have HO:=uH (zcs s wz.drew hs0 hs1);refine(zae HO).mono ?_;rintro e w1 ⟨rfl,hb1⟩;have hk1:=bT hk0 hb1;clear hb1 HO hk0;go_wp2_with fail;refine hK.out _ _ ((HBz.o.bl hk1).hs) (fun hHeld=> ?_);clear hK K
   refine wr1 7 (fun K hK=> ?_);go_simp;have HFl:=uH (zel (oth s) m.at' a n c m.ws B w1 (by have:=hk1.size;omega) (zb0 (hbi.bl hwl.o) (HGz.o.trans (zaj hk1 B)) ho) ho);refine(zae HFl).mono ?_;rintro e w3 ⟨⟨fn3,caps3,rfl,hv3⟩,hb3⟩;have hk3:=bT hk1 hb3;clear hb3 HFl;go_wp2_with fail;refine hK.out _ _ ((HBz.o.bl hk3).hs) (fun hHeld=> ?_);clear hK K
   refine wr1 8 (fun K hK=> ?_);go_simp;have hk4:=zaf hk3 (.cells #[.func (.func fn3) #[] caps3] 258);refine hK.out _ _ ((HBz.o.bl hk4).hs) (fun hHeld=> ?_);clear hK K
   refine wr1 9 (fun K hK=> ?_);go_simp;have HCh:=uH (zb5 B _ u5 (.func (.func fn3) #[] caps3) 258 w3 (HUz.o.bl hk3) hv3);refine(zae HCh).mono ?_;rintro e w5 ⟨rfl,hU5,hg5⟩;have hg:=(zaj hk3 B).trans hg5;have HU5:=uH hU5;have HG5:=uH (HGz.o.trans hg);have HB5:=uH (HBz.o.turns hg hB);clear hU5 hg5 HCh hk1 hk3 hk4 hg hv3;have HN5:=uH (doV_hv (st:=.fil (oth s) m.at' m.ws) (u:=u5));generalize doV u5 (.fil (oth s) m.at' m.ws)=R at *;go_wp2_with fail;refine hK.out _ _ (HB5.o.hs) (fun hHeld=> ?_);clear hK K
   try simp only [sq]
   refine KE (by kernel_rfl) ?_ _;clear hHeld;cases g:R.2
   · have HE:=uH (HEb.o g)
     go_wp2_with fail
     first|go_end0|refine kT (results_none rfl _ _ _) rfl ?_
     rw [HE.o];exact⟨rfl,HU5.o,HG5.o⟩
   · have HE:=uH (HEo.o g)
     obtain ⟨R1,R2⟩:=R;simp only at HU5 HE HN5 g;have hhv:R1.hv=m.at' :=by rw [HN5.o g,B2.o]
     obtain ⟨va,vn,vc,vb,vi,vl,vcap,vmax,voff,vfr⟩:=HU5.o;have VB:=uH vb;have VI:=uH vi;have VL:=uH vl;unfold unO at vb;rw [hhv] at vb;have u4:=zaa vb 4 _ rfl;have fu4:=zad vb 4;have y5:=zaa HB5.o.b1 5 _ rfl;have hneX:B≠w.heap.size+1:=by omega
     have HHV:=uH hhv;clear vb vi vl hhv g;go_upto_region 7 with fail
     go_region
     go_wp2_with fail
     first|go_end0|refine kT (results_none rfl _ _ _) rfl ?_
     rw [HE.o];rw [HHV.o];exact⟨rfl,⟨va,vn,vc,zfn (un_hv VB.o),zax VI.o (zbv (zaw _ _ _ _)) voff,VL.o,vcap,vmax,voff,vfr⟩,zbv (zac HG5.o _ _)⟩
end
section
attribute [local go_sem ↓] kM kO
theorem bodyS_len (ws:LI) (fu s k:Int): (bodyS ws fu s k).1.length<=ws.length:=by
 unfold bodyS
 split
 { simp }
 {
 split
 { simp }
 {
 simp
 omega } }
def mntB (ss:LB) (ws:LI) (fu s:Int) (m:Ms):Bool:=
 decide ((bodyS ws fu s m.at').2=0)&&(decide (inE ss (bodyS ws fu s m.at').1=0)&&(decide (inN ss (bodyS ws fu s m.at').1≠0)&&decide (inN ss (bodyS ws fu s m.at').1=m.im)))
theorem bodyS_bad {fu s k:Int} (h: (bodyS ws fu s k).2≠0): (bodyS ws fu s k).1= []:=by
 unfold bodyS at h|-
 split
 { rfl }
 {
 rename_i h1
 rw [KJ h1] at h
 split
 { rfl }
 {
 rename_i h2
 rw [KJ h2] at h;exact absurd rfl h } }
def MntAns (w:World) (words:LI) (q:Bool) (e:Ending) (w' :World):Prop:=
 (∃a n c,e=.returned (.tuple #[.slice a n c,.bool q])/\BI w' a n words/\zal w.heap.size a)/\bZ w w'
theorem bk3 {o0 o1 o2:Obj}: (((w.alloc o0).alloc o1).alloc o2).heap[w.heap.size]?=some o0/\(((w.alloc o0).alloc o1).alloc o2).heap[w.heap.size+1]?=some o1/\(((w.alloc o0).alloc o1).alloc o2).heap[w.heap.size+1+1]?=some o2:=
 ⟨zai (zai (kP _ _) _) _,zai (zau _ _ _) _,zb9 _ _ _ _⟩
theorem zlu (ab:oA) (nb cb:Nat) (ss:LB) (a:oA) (n c:Nat) (ws:LI) (fu s:Int) (m:Ms) (am:oA) (nm cm:Nat) (w:World) (h0:BB w ab nb cb ss) (h:BW w a n c ws) (hT:Tab w):
 Cq 314 #[bookv ab nb cb,.agg #[.slice a n c,iV fu],iV s,msv m am nm cm] w (MntAns w (bodyS ws fu s m.at').1 (mntB ss ws fu s m)):=by
 have hw0:bZ w (((w.alloc (.cells #[.slice ab nb cb] 24)).alloc (.cells #[.slice a n c,iV fu] 28)).alloc (.cells (aM m am nm cm) 99)):=(bA2).alloc (by simp;omega) _;have bb:=uH (bk3 (w:=w) (o0:=.cells #[.slice ab nb cb] 24 (0,0)) (o1:=.cells #[.slice a n c,iV fu] 28 (0,0)) (o2:=.cells (aM m am nm cm) 99 (0,0)));have HB:=uH (fun W (hW:bZ w W)=>zq0 a n c ws fu s m.at' W (h.bl hW).at_ h.len h.max h.cap);have HI:=uH (fun W a2 n2 c2 xs (hW:bZ w W) (hi:BI W a2 n2 xs)=>zew ab nb cb ss a2 n2 c2 xs W (h0.bl hW).at_ h0.len h0.cap h0.max h0.short hi.at_ hi.len hi.max (hT.bl hW));have hlen:=bodyS_len ws fu s m.at';rw [h.len] at hlen;have hmx:=h.max;have hbad:=uH (bodyS_bad (ws:=ws) (fu:=fu) (s:=s) (k:=m.at'));unfold mntB;unfold bookv msv;unfold bookv at HI;clear h h0 hT;have f0:=zaa bb.o.2.1 0 _ rfl;have f1:=zaa bb.o.2.1 1 _ rfl;have y3:=zaa bb.o.2.2 3 _ rfl;generalize bodyS ws fu s m.at' =R at *;obtain ⟨Q,hQ⟩: ∃Q:Bool,Q= (decide (R.2=0)&&(decide (inE ss R.1=0)&&(decide (inN ss R.1≠0)&&decide (inN ss R.1=m.im)))):=⟨_,rfl⟩;rw [<-hQ];replace hQ:=uH hQ;go_enter Tryz.func314,Tryz.ntmps314;go_wp2_with fail;generalize ((w.alloc (.cells #[.slice ab nb cb] 24)).alloc (.cells #[.slice a n c,iV fu] 28)).alloc (.cells (aM m am nm cm) 99)=W at *;refine(zae HB _ hw0).mono ?_;rintro e w1 ⟨⟨a1,n1,c1,rfl,hi1,hn1,hc1,hf1⟩,hb⟩;replace hf1:=zal.mono hf1 hw0.size;have hi1' :BI w1 a1 n1 R.1:=⟨hi1,hn1,by rw [<-hn1];exact kc hlen hmx⟩;have B0:=uH (zab bb.o.1 hb);have B2:=uH (zab bb.o.2.2 hb);replace hw0:=bT hw0 hb;clear hb HB f0 f1 y3 bb hn1 hi1
 by_cases z1:R.2=0
 rotate_left
 {
 have hq: (R.2 !=0)=true:=by simpa using z1
 have HE:=uH (hbad.o z1);have hd:Q=false:=by rw [hQ.o];simp [z1]
 subst hd;clear z1 hQ;go_wp2_with fail;go_ret2;rw [HE.o];exact⟨⟨none,0,0,rfl,⟨.inl rfl,rfl,by decide⟩,zal.nil _⟩,hw0⟩ }
 have hq: (R.2 !=0)=false:=by simpa using z1
 have hd:Hd (Q= (decide (inE ss R.1=0)&&(decide (inN ss R.1≠0)&&decide (inN ss R.1=m.im)))):=by show _=_;rw [hQ.o];simp [z1]
 rw [z1];clear z1 hq hbad hQ;have k0:=zaa B0.o 0 _ rfl;go_wp2_with fail;refine(zae HI _ a1 n1 c1 R.1 hw0 hi1').mono ?_;rintro e w2 ⟨rfl,hb⟩;have hi2:=uH (hi1'.bl hb);have B2' :=uH (zab B2.o hb);replace hw0:=bT hw0 hb;clear hb k0 HI B0 B2 hi1';have y4:=zaa B2'.o 4 _ rfl;generalize inE ss R.1=qe at *;generalize inN ss R.1=qn at *;have hfin: ∀(b:Bool) (nq:Nat),b=Q->MntAns w R.1 Q (.returned (.tuple #[.slice a1 n1 c1,.bool b])) (w2.drewN nq):=by
  rintro b nq rfl;exact⟨⟨a1,n1,c1,rfl,hi2.o.bl (kA (kS _ _) nq),hf1⟩,kA hw0 nq⟩
 have HF:=uH hfin
 clear hfin
 by_cases e1:qe=0
 rotate_left
 {
 have d1: (qe==0)=false:=by simpa using e1
 have HX:=uH (show false=Q by rw [hd.o];simp [e1]);clear e1;go_wp2_with fail;go_quiet (fail);go_wp2_with fail;go_ret2;exact HF.o _ _ HX.o }
 have d1: (qe==0)=true:=by simpa using e1
 by_cases e2:qn=0
 {
 have d2: (qn !=0)=false:=by simpa using e2
 have HX:=uH (show false=Q by rw [hd.o];simp [e2]);clear e1 e2;go_wp2_with fail;go_quiet (fail);go_wp2_with fail;go_ret2;exact HF.o _ _ HX.o }
 have d2: (qn !=0)=true:=by simpa using e2
 have HX:=uH (show(qn==m.im)=Q by rw [hd.o];simp [e1,e2];rfl);clear e1 e2;cases g: (qn==m.im)
 {
 rw [g] at HX;go_wp2_with fail;go_quiet (fail);go_wp2_with fail;go_ret2;exact HF.o _ _ HX.o }
 {
 rw [g] at HX;go_wp2_with fail;go_quiet (fail);go_wp2_with fail;go_ret2;exact HF.o _ _ HX.o }
theorem zei (m:Ms) (a:oA) (n c:Nat) (y:Bool) (b:Nat) (w:World) (h:w.heap[b]?=some (.cells (aM m a n c) 99 (0,0))):
 Cq 312 #[.bool y,.pointer (some ⟨b,0,none⟩)] w (OneM w (voteM m y)):=by
 have y1:=zaa h 1 _ rfl;have y2:=zaa h 2 _ rfl;clear h;go_enter Tryz.func312,Tryz.ntmps312;go_wp2_with fail;go_ret;exact⟨⟨_,rfl,zg1 (m:=voteM m y) rfl (kP _ _),kQ _⟩,bA1⟩
theorem whole_any (m:Ms) (am:oA) (nm cm:Nat) (ai:oA) (ni ci:Nat) (img:LI) (name er:Int) (bm bw:Nat) (aw:oA) (nw cw:Nat) (words:LI) (w:World)
 (hm:w.heap[bm]?=some (.cells (aM m am nm cm) 99 (0,0))) (hc:w.cell? ⟨bw,0,none⟩=some (.slice aw nw cw)) (hi:BI w ai ni img) (hw:BI w aw nw words):
 Cq 315 #[.slice ai ni ci,iV name,iV er,.pointer (some ⟨bm,0,none⟩),.pointer (some ⟨bw,0,none⟩)] w fun e w' =>e=.returned (.bool (decide (er=0)&&(decide (name=m.im)&&eqL img words)))/\bZ w w' :=by
 have HQ:=uH (zfj ai aw ni nw ci cw img words (eqL img words) w hi.at_ hw.at_ hi.len hw.len rfl hi.max hw.max);have y4:=zaa hm 4 _ rfl;clear hm hi hw
 by_cases z1:er=0
 rotate_left
 {
 have HE:=uH (show(decide (er=0)&&(decide (name=m.im)&&eqL img words))=false by simp [z1]);have d1: (er==0)=false:=by simpa using z1
 clear z1;go_enter Tryz.func315,Tryz.ntmps315;go_wp2_with fail;go_ret;exact⟨zan HE.o.symm,kS _ _⟩ }
 have d1: (er==0)=true:=by simpa using z1
 by_cases z2:name=m.im
 rotate_left
 {
 have HE:=uH (show(decide (er=0)&&(decide (name=m.im)&&eqL img words))=false by simp [z2]);have d2: (name==m.im)=false:=by simpa using z2
 clear z1 z2;go_enter Tryz.func315,Tryz.ntmps315;go_wp2_with fail;go_ret;exact⟨zan HE.o.symm,kS _ _⟩ }
 have d2: (name==m.im)=true:=by simpa using z2
 have HE:=uH (show(decide (er=0)&&(decide (name=m.im)&&eqL img words))=eqL img words by simp [z1,z2]);clear z1 z2;generalize eqL img words=q at *;go_enter Tryz.func315,Tryz.ntmps315;go_wp2_with fail;refine(zae HQ).mono ?_;rintro e w' ⟨rfl,k,rfl⟩;go_wp2_with fail;go_ret;exact⟨zan HE.o.symm,kA (kS _ _) k⟩
end
section
attribute [local go_sem ↓] kM kO
structure KpI (w0 W:World) (K X:Nat) (s:Gs) (v:Value) (rs:LL):Prop where
 bK:W.heap[K]?=some (.cells #[v] 75 (0,0))
 bX:W.heap[X]?=some (gsO s)
 mak:zbp w0 W v rs
theorem row_ne {v:Value} {cs:LV} {cs' :Array Value} {t' :TypeId} (h:w.ownsRow base t 1 v n vs) (hB:w.heap[B]?=some (.cells cs' t' (0,0))) (hne:t' ≠t) (_:cs= []):some B≠v.ownBlock:=by
 obtain ⟨_,⟨hv,_⟩| ⟨g,cap,cur,hv,hg,hh,_⟩⟩:=h
 { rw [hv];intro e;cases e }
 {
 rw [hv];intro e;have:B=g:=by simpa [Value.ownBlock] using e
 subst this;rw [hB] at hh
 simp at hh
 exact hne hh.2 }
theorem zbp.setK {w0:World} {K:Nat} {v v' u:Value} {rs:LL} (h:zbp w0 W v rs) (hK:W.heap[K]?=some (.cells #[u] 75 (0,0))) (hK0:w0.heap.size<=K):zbp w0 (W.setCell ⟨K,0,none⟩ v') v rs:=by
 have hT:W.grownBy (W.setCell ⟨K,0,none⟩ v') (some K):=zac (kf _ _) 0 v';obtain ⟨vs,hown,hr⟩:=h.own;refine⟨⟨vs,hown.kept hT ?_,fun i r hi=> ?_⟩,zam h.bl hT hK0 h.bl.size⟩
 {
 right
 exact fun e=>row_ne (cs:= []) hown hK (by decide) rfl e.symm }
 {
 obtain ⟨g,c,h1,⟨cur,h2,h3⟩,h4⟩:=hr i r hi;refine⟨g,c,h1,⟨cur,zar h2 hT ?_,h3⟩,h4⟩;intro e;subst e;rw [hK] at h2
 simp at h2 }
theorem zo7 (w0:World) (K X:Nat) (s:Gs) (v:Value) (rs:LL) (so:Bool) (kind:Int) (W:World) (h:KpI w0 W K X s v rs) (hK:w0.heap.size<=K) (hl:rs.length<=10):
 Cq 296 #[.bool so,iV kind,.pointer (some ⟨K,0,none⟩),.pointer (some ⟨X,0,none⟩)] W fun e w' =>e=.returned (.tuple #[])/\∃v',KpI w0 w' K X s v' (rs++if so=true then [[kind,s.n]] else []):=by
 obtain ⟨irr,hir,rz0,rz1,rz2⟩:=info_parts zgb;cases so
 {
 have H0:=uH h;clear h;go_enter Tryz.func296,Tryz.ntmps296;go_wp2_with fail
 first|go_end0|refine kT (results_none rfl _ _ _) rfl ?_
 exact⟨rfl,v,by first|exact H0.o|simpa using H0.o⟩ }
 {
 have bX:=uH h.bX;unfold gsO at bX;have bK:=uH h.bK;obtain ⟨vs,hown,hr⟩:=h.mak.own;have hbe:=h.mak.bl;have hbB:=zaf (zaf (kS W.heap.size W) (.cells #[iV kind,iV s.n] 3)) (.cells #[sV W.heap.size 2 2] 208);have hrow:=zba hown hbB;have hnews:=zg5 (W.alloc (.cells #[iV kind,iV s.n] 3)) (sV W.heap.size 2 2) 208;rw [KB] at hnews;have bR:=uH (zai (kP W (.cells #[iV kind,iV s.n] 3)) (.cells #[sV W.heap.size 2 2] 208));have x0:=zaa bX.o 0 _ rfl;have k0:=zaa bK.o 0 _ rfl;have hW0:=hbe.size;have HO:=uH hown;have HR:=uH hr;clear hown hr h;go_enter Tryz.func296,Tryz.ntmps296
 go_wp2_with (at_builtin;refine wpList_append_lies _ rfl _ _ 75 rfl w0.heap.size 208 irr _ 1 24 Tryz.underlying75 hir rz0 rz1 rz2 rfl (by omega) v rs.length vs rfl hrow ⟨W.heap.size+1,0,none⟩ 1 1 [sV W.heap.size 2 2] rfl rfl hnews (zkz _ _ _) (by omega) (by unfold maxLen;omega) (by omega) (by simp;omega) _ rfl ?_)
 intro g cap w5 hown5 hgr hat hlt;have hkK:w5.heap[K]?=some (.cells #[v] 75 (0,0)):=by
  have h1:=zab bK.o hbB;rw [hgr.block K (zak h1) (row_ne (cs:= []) hrow h1 (by decide) rfl)];exact h1
 have hkX:w5.heap[X]?=some (.cells (aS s) 72 (0,0)):=by
  have h1:=zab bX.o hbB;rw [hgr.block X (zak h1) (row_ne (cs:= []) hrow h1 (by decide) rfl)];exact h1
 have hmk:=uH (zbp.step (r:= [kind,s.n]) hbe HO.o HR.o hbB ⟨_,bR.o,rfl⟩ (kQ 2) (by decide) hown5 hgr);have HkK:=uH hkK;have HkX:=uH hkX;have k5:=zaa hkK 0 _ rfl;have f5:=zad hkK 0;clear hown5 hgr hat k0 x0 hrow hnews;go_wp2_with fail
 first|go_end0|refine kT (results_none rfl _ _ _) rfl ?_
 refine⟨rfl,_,heap_setCell_same _ _ _ _ _ _ HkK.o, ?_,hmk.o.setK HkK.o hK⟩;have hT:w5.grownBy (w5.setCell ⟨K,0,none⟩ (sV g (rs.length+1) cap)) (some K):=zac (kf _ _) 0 _;refine zar HkX.o hT ?_;intro e;subst e;have:=HkX.o;rw [HkK.o] at this
 simp at this }
theorem kepG_0 {s:Gs} (h:s.n=0):kepG s= []:=by unfold kepG;rw [KK h]
theorem kepG_1 {s:Gs} (h:s.n≠0):kepG s= (([[1,s.n,s.v]]++if s.co=true then [[2,s.n]] else [])++if s.ab=true then [[3,s.n]] else [])++if s.en=true then [[4,s.n]] else []:=by
 unfold kepG;rw [KJ h]
 simp
def KeptA (w:World) (rs:LL) (e:Ending) (w' :World):Prop:=(∃a c,e=.returned (.slice a rs.length c)/\rs.length<=c/\c<=maxLen/\zck w' a rs)/\bZ w w'
theorem kept_any (s:Gs) (w:World):Cq 276 #[gsv s] w (KeptA w (kepG s)):=by
 unfold gsv
 by_cases z:s.n=0
 {
 have HE:=uH (kepG_0 z);have d: (s.n==0)=true:=by simpa using z
 clear z;go_enter Tryz.func276,Tryz.ntmps276;go_wp2_with fail;go_ret;rw [HE.o];exact⟨⟨none,0,rfl,kQ _,by decide,.inl rfl⟩,bA1⟩ }
 {
 have HE:=uH (kepG_1 z);have d: (s.n==0)=false:=by simpa using z
 have hw4:bZ w ((((w.alloc (.cells (aS s) 72)).alloc (.cells #[iV 1,iV s.n,iV s.v] 3)).alloc (.cells #[sV (w.heap.size+1) 3 3] 208)).alloc (.cells #[sV (w.heap.size+1+1) 1 1] 75)):=((bA2).alloc (by simp;omega) _).alloc (by simp;omega) _;have b0:Hd (((((w.alloc (.cells (aS s) 72)).alloc (.cells #[iV 1,iV s.n,iV s.v] 3)).alloc (.cells #[sV (w.heap.size+1) 3 3] 208)).alloc (.cells #[sV (w.heap.size+1+1) 1 1] 75)).heap[w.heap.size]?=some (gsO s)):=zai bk3.1 _;have b1:Hd (((((w.alloc (.cells (aS s) 72)).alloc (.cells #[iV 1,iV s.n,iV s.v] 3)).alloc (.cells #[sV (w.heap.size+1) 3 3] 208)).alloc (.cells #[sV (w.heap.size+1+1) 1 1] 75)).heap[w.heap.size+1]?=some (.cells #[iV 1,iV s.n,iV s.v] 3 (0,0))):=zai bk3.2.1 _;have b2:Hd (((((w.alloc (.cells (aS s) 72)).alloc (.cells #[iV 1,iV s.n,iV s.v] 3)).alloc (.cells #[sV (w.heap.size+1) 3 3] 208)).alloc (.cells #[sV (w.heap.size+1+1) 1 1] 75)).heap[w.heap.size+1+1]?=some (.cells #[sV (w.heap.size+1) 3 3] 208 (0,0))):=zai bk3.2.2 _;have b3:Hd (((((w.alloc (.cells (aS s) 72)).alloc (.cells #[iV 1,iV s.n,iV s.v] 3)).alloc (.cells #[sV (w.heap.size+1) 3 3] 208)).alloc (.cells #[sV (w.heap.size+1+1) 1 1] 75)).heap[w.heap.size+1+1+1]?=some (.cells #[sV (w.heap.size+1+1) 1 1] 75 (0,0))):=zj3 _ _ _ _ _;have hk0:Hd (KpI w ((((w.alloc (.cells (aS s) 72)).alloc (.cells #[iV 1,iV s.n,iV s.v] 3)).alloc (.cells #[sV (w.heap.size+1) 3 3] 208)).alloc (.cells #[sV (w.heap.size+1+1) 1 1] 75)) (w.heap.size+1+1+1) w.heap.size s (sV (w.heap.size+1+1) 1 1) [[1,s.n,s.v]]):=by
  refine⟨b3.o,b0.o,⟨⟨[sV (w.heap.size+1) 3 3],⟨rfl,.inr ⟨_,1,_,rfl,by omega,b2.o,kQ _,by decide,rfl,rfl⟩⟩,fun i r hi=> ?_⟩,hw4⟩⟩
  match i with
  |0=>simp at hi;subst hi;exact⟨_,3,rfl,⟨_,b1.o,rfl⟩,kQ _,by decide⟩
  |i+1=>simp at hi
 have HAd:=uH (fun v rs so kind W h hl=>zo7 w (w.heap.size+1+1+1) w.heap.size s v rs so kind W h (by omega) hl);clear z b1 b2;have x2: ((((w.alloc (.cells (aS s) 72)).alloc (.cells #[iV 1,iV s.n,iV s.v] 3)).alloc (.cells #[sV (w.heap.size+1) 3 3] 208)).alloc (.cells #[sV (w.heap.size+1+1) 1 1] 75)).cell? ⟨w.heap.size,2,none⟩=some (.bool s.co):=by have:=b0.o;unfold gsO at this;exact zaa this 2 _ rfl
 go_enter Tryz.func276,Tryz.ntmps276;go_wp2_with fail;generalize ((((w.alloc (.cells (aS s) 72)).alloc (.cells #[iV 1,iV s.n,iV s.v] 3)).alloc (.cells #[sV (w.heap.size+1) 3 3] 208)).alloc (.cells #[sV (w.heap.size+1+1) 1 1] 75))=W at *;refine(zae HAd _ _ _ _ _ hk0.o (by simp)).mono ?_;rintro e w1 ⟨rfl,v1,hk1⟩;have b0' :=uH hk1.bX;unfold gsO at b0';have K1:=uH hk1;clear x2 b0 b3 hk0 hk1 hw4;have x3:=zaa b0'.o 3 _ rfl;go_wp2_with fail;refine(zae HAd _ _ _ _ _ K1.o (by cases s.co<;>simp)).mono ?_;rintro e w2 ⟨rfl,v2,hk2⟩;have b0'' :=uH hk2.bX;unfold gsO at b0'';have K2:=uH hk2;clear x3 b0' K1 hk2;have x4:=zaa b0''.o 4 _ rfl;go_wp2_with fail;refine(zae HAd _ _ _ _ _ K2.o (by cases s.co<;>cases s.ab<;>simp)).mono ?_;rintro e w3 ⟨rfl,v3,hk3⟩;rw [<-HE.o] at hk3;have K3:=uH hk3;have y0:=zaa hk3.bK 0 _ rfl;obtain ⟨a,c,rfl,hc1,hc2,hrc⟩:=hk3.mak.isRecs;have HRc:=uH hrc;clear x4 b0'' K2 hk3 hrc HAd;go_wp2_with fail;go_ret;exact⟨⟨a,c,rfl,hc1,hc2,HRc.o⟩,K3.o.mak.bl⟩ }
end
section
attribute [local go_sem ↓] kM kO
theorem dnG_7 {r:LI×Int×Int} (h:r.2.2=7):dnG g r= (⟨r.1,r.2.1,false,g.t,zbj g.vo,zbj g.di⟩,false):=by unfold dnG;rw [KK h]
theorem dnG_0 {r:LI×Int×Int} (h:r.2.2=0):dnG g r= (⟨r.1,r.2.1,g.up,g.t,g.vo,g.di⟩,true):=by unfold dnG;rw [KJ (by rw [h];decide),KK h]
theorem dnG_e {r:LI×Int×Int} (h7:r.2.2≠7) (h0:r.2.2≠0):dnG g r= (g,false):=by unfold dnG;rw [KJ h7,KJ h0]
theorem zk1 {x y x' y' :Value} (h:W.heap[b]?=some (.cells #[x,y] t (0,0))): ((W.setCell ⟨b,0,none⟩ x').setCell ⟨b,1,none⟩ y').heap[b]?=some (.cells #[x',y'] t (0,0)):=by
 simp only [World.setCell,KP]
 simp [h]
theorem appS_len (ws:LI) (f:Int) (r:LI) (keep:LL): (appS ws f r keep).1.length<=ws.length:=by
 unfold appS
 split
 { simp }
 { exact zi4 _ _ _ }
theorem GOwn.bl {m:GA} {bv bd:Nat} (h:GOwn w F m g bv bd) (hb:bZ w w'):GOwn w' F m g bv bd:=
 ⟨h.ws.bl hb,h.ks.bl hb,h.av,h.ad,h.vo.bl hb,h.di.bl hb,h.nv,h.nd,h.fv,h.fd,h.ne,h.wv,h.wd,h.kv,h.kd,h.fa,h.fk⟩
theorem GBox.bl {m:GA} {bv bd:Nat} (h:GBox w F B m g bv bd) (hb:bZ w w'):GBox w' F B m g bv bd:=
 ⟨zab h.box hb,h.own.bl hb,h.fB,h.nv,h.nd,h.oa,h.ok⟩
theorem gt_set2 {m:GA} (h:W.heap[B]?=some (gtO g m)):
 ((W.setCell ⟨B,0,none⟩ (.slice a n c)).setCell ⟨B,1,none⟩ (iV f)).heap[B]?=some (gtO ⟨ws,f,g.up,g.t,g.vo,g.di⟩ ⟨a,n,c,m.ak,m.nk,m.ck,m.av,m.nv,m.cv,m.ad,m.nd,m.cd⟩):=by
 unfold gtO at *;simp only [World.setCell,KP]
 simp [h]
theorem gt_set3 {m:GA} {up:Bool} (h:W.heap[B]?=some (gtO g m)):
 (((W.setCell ⟨B,0,none⟩ (.slice a n c)).setCell ⟨B,1,none⟩ (iV f)).setCell ⟨B,2,none⟩ (.bool up)).heap[B]?=some (gtO ⟨ws,f,up,g.t,g.vo,g.di⟩ ⟨a,n,c,m.ak,m.nk,m.ck,m.av,m.nv,m.cv,m.ad,m.nd,m.cd⟩):=by
 unfold gtO at *;simp only [World.setCell,KP]
 simp [h]
theorem GBox.flash {wc W' :World} {m:GA} {bv bd:Nat} {up:Bool} (h:GBox w F B m g bv bd) (hb:bZ w wc) (hi:zag wc a ws) (hn:ws.length=n) (hc:n<=c) (hm:n<=maxLen) (hf:zal w.heap.size a)
 (hg:wc.grownBy W' (some B)) (hbox:W'.heap[B]?=some (gtO ⟨ws,f,up,g.t,g.vo,g.di⟩ ⟨a,n,c,m.ak,m.nk,m.ck,m.av,m.nv,m.cv,m.ad,m.nd,m.cd⟩)):GBox W' F B ⟨a,n,c,m.ak,m.nk,m.ck,m.av,m.nv,m.cv,m.ad,m.nd,m.cd⟩ ⟨ws,f,up,g.t,g.vo,g.di⟩ bv bd:=by
 have o:=h.own;have hB:=zak h.box;exact⟨hbox,⟨⟨zax hi hg (za6 hf hB),hn,hc,hm⟩,(o.ks.bl hb).turns hg h.ok,o.av,o.ad,(o.vo.bl hb).turns hg (Ne.symm h.nv),(o.di.bl hb).turns hg (Ne.symm h.nd),o.nv,o.nd,o.fv,o.fd,o.ne,za6 hf o.vo.lt,za6 hf o.di.lt,o.kv,o.kd,fun ad e=>kc h.fB (kc (Nat.le_of_lt hB) (hf ad e)),o.fk⟩,h.fB,h.nv,h.nd,za6 hf hB,h.ok⟩
theorem noteS {W' :World} {m:GA} {s:Gs} (hB:W.heap[B]?=some (gtO g m)) (hX:W.heap[w.heap.size]?=some (.cells (aS s) 72 (0,0))) (h:bZ W W'):
 ce W' B 0=some (.slice m.a m.n m.c)/\ce W' B 1=some (iV g.fu)/\ce W' w.heap.size 0=some (iV s.n)/\ce W' w.heap.size 1=some (iV s.v)/\ce W' w.heap.size 2=some (.bool s.co)/\ce W' w.heap.size 3=some (.bool s.ab)/\ce W' w.heap.size 4=some (.bool s.en)/\bZ W W' :=by
 have b:=zab hB h;have x:=zab hX h;unfold gtO at b;exact⟨zaa b 0 _ rfl,zaa b 1 _ rfl,zaa x 0 _ rfl,zaa x 1 _ rfl,zaa x 2 _ rfl,zaa x 3 _ rfl,zaa x 4 _ rfl,h⟩
def NoteR (W:World) (R:LI×Int×Int) (v7 v8:Value) (wc:World):Prop:=
 ∃G a5 n5 c5,v7=.pointer (some ⟨G,0,none⟩)/\v8=iV R.2.2/\wc.heap[G]?=some (.cells #[.slice a5 n5 c5,iV R.2.1] 28 (0,0))/\zag wc a5 R.1/\R.1.length=n5/\n5<=c5/\zal W.heap.size a5/\bZ W wc/\W.heap.size<=G
theorem zgr (F B:Nat) (m:GA) (g:Gt) (bv bd:Nat) (s:Gs) (ar:oA) (nr cr:Nat) (r:LI) (w:World) (h:GBox w F B m g bv bd) (hr:BI w ar nr r):
 Cq 241 #[.pointer (some ⟨B,0,none⟩),gsv s,.slice ar nr cr] w fun e w' =>e=.returned (.bool (noteG g s r).2)/\(∃m',GBox w' F B m' (noteG g s r).1 bv bd)/\G3 w w' B bv bd:=by
 have hw:bZ w (w.alloc (.cells (aS s) 72)):=bA1;have bX:=uH (kP w (.cells (aS s) 72));have bB:=uH (zab h.box hw);have HK:=uH (fun W=>kept_any s W);unfold gsv at HK;have HA:=uH (fun ak nk ck (W:World) (hW:bZ w W) (hk:zck W ak (kepG s)) (hnk: (kepG s).length=nk) (hmk:nk<=maxLen)=>zjp m.a m.n m.c g.ws g.fu ar nr cr r ak nk ck (kepG s) W (h.own.ws.bl hW).at_ h.own.ws.len h.own.ws.cap h.own.ws.max (hr.bl hW).at_ hr.len hr.max hk hnk hmk);have HP:=uH h;have hBw:=zak h.box;obtain ⟨R,hR⟩: ∃R,R=appS g.ws g.fu r (kepG s):=⟨_,rfl⟩;rw [<-hR] at HA;have HN:Hd (noteG g s r=dnG g R):=by rw [hR];exact uH rfl
 have hsize:w.heap.size=w.heap.size:=rfl;have HLe:Hd (R.1.length<=g.ws.length):=by rw [hR];exact appS_len _ _ _ _
 clear h hr hR hsize;unfold gsv;go_enter Tryz.func241,Tryz.ntmps241;go_upto_region 1 with fail
 have hXs:w.heap.size< (w.alloc (.cells (aS s) 72)).heap.size:=by simp
 generalize (w.alloc (.cells (aS s) 72))=W at *
 go_cut [7,8] (fun v7 v8 wc=>NoteR W R v7 v8 wc)
 case first=>
  refine km (S:=fun W' =>ce W' B 0=some (.slice m.a m.n m.c)/\ce W' B 1=some (iV g.fu)/\ce W' w.heap.size 0=some (iV s.n)/\ce W' w.heap.size 1=some (iV s.v)/\ce W' w.heap.size 2=some (.bool s.co)/\ce W' w.heap.size 3=some (.bool s.ab)/\ce W' w.heap.size 4=some (.bool s.en)/\bZ W W') (by kernel_rfl) (noteS bB.o bX.o (kS _ _).drew) ?_;intro hHeld;refine Htk 0 ?_
  refine Htk 1 ?_
  refine Htk 2 ?_
  refine Htk 3 ?_
  refine Htk 4 ?_
  refine Htk 5 ?_
  try simp only [sq]
  refine kZ (rs:= [6,11]) (by kernel_rfl) (by simp) ?_;refine kU (by rfl) (fun K hK=> ?_) (kU (by rfl) (fun K hK=> ?_) kW)
  {
  go_simp;refine(zae HK _).mono ?_;rintro e wk ⟨⟨ak,ck,rfl,hk1,hk2,hrk⟩,hbk⟩;have hkk:=((kS W.heap.size W).drew).trans (hbk.mono ((kS W.heap.size W).drew).size);go_wp2_with fail;refine hK.out _ _ (noteS bB.o bX.o hkk) (fun hHeld=> ?_);clear hK K
  try simp only [sq]
  refine kZ (rs:= [7,11]) (by kernel_rfl) (by simp) ?_;refine kU (by rfl) (fun K hK=> ?_) (kU (by rfl) (fun K hK=> ?_) kW)
  {
  go_simp;refine(zae HA ak _ ck _ (hw.trans ((hkk).mono hw.size)) hrk rfl (kc hk1 hk2)).mono ?_;rintro e w5 ⟨⟨a5,n5,c5,rfl,hi5,hn5,hc5,hf5⟩,hb5⟩;have hk5:=(hkk).trans (hb5.mono (hkk).size);go_wp2_with fail;refine hK.out _ _ (noteS bB.o bX.o hk5) (fun hHeld=> ?_);clear hK K
  refine Htk 8 ?_
  refine Htk 9 ?_
  refine Htk 10 ?_
  refine wr1 11 (fun K hK=> ?_);go_simp;refine hK.out _ _ (noteS bB.o bX.o (zaf hk5 _)) (fun hHeld=> ?_);clear hK K
  refine wr1 12 (fun K hK=> ?_);go_simp;refine hK.out _ _ (noteS bB.o bX.o (zaf hk5 _)) (fun hHeld=> ?_);clear hK K
  refine Htk 13 ?_
  try simp only [sq]
  refine KE (by kernel_rfl) ?_ _;go_wp2_with fail
  go_meet
  case rel=>exact⟨w5.heap.size,a5,n5,c5,rfl,rfl,kP w5 (.cells #[.slice a5 n5 c5,iV R.2.1] 28),hi5.alloc _,hn5,hc5,fun ad e=>kc hkk.size (hf5 ad e),zaf hk5 _,hk5.size⟩ }
  {
  go_simp;refine hK.out _ _ (noteS bB.o bX.o (zaf hkk _)) (fun hHeld=> ?_);clear hK K
  refine wr1 7 (fun K hK=> ?_);go_simp;have hcur:=zaf hkk (.cells #[nV,iV 0] 28);refine(zae HA ak _ ck _ (hw.trans ((hcur).mono hw.size)) (hrk.bl (zaf (kS _ _) _)) rfl (kc hk1 hk2)).mono ?_;rintro e w5 ⟨⟨a5,n5,c5,rfl,hi5,hn5,hc5,hf5⟩,hb5⟩;have hk5:=(hcur).trans (hb5.mono (hcur).size);go_wp2_with fail;refine hK.out _ _ (noteS bB.o bX.o hk5) (fun hHeld=> ?_);clear hK K
  try simp only [sq]
  have bG:Hd (w5.heap[wk.heap.size]?=some (.cells #[nV,iV 0] 28 (0,0))):=zab (kP wk _) hb5;refine Htk 8 ?_
  refine Htk 9 ?_
  refine Htk 10 ?_
  try simp only [sq]
  have q0:=zaa bG.o 0 _ rfl;have q1:=zaa bG.o 1 _ rfl;have f0:=zad bG.o 0;have f1:=zad bG.o 1;have hT:w5.grownBy ((w5.setCell ⟨wk.heap.size,0,none⟩ (.slice a5 n5 c5)).setCell ⟨wk.heap.size,1,none⟩ (iV R.2.1)) (some wk.heap.size):=zac (zac (kf _ _) _ _) _ _;have hk6:=zam hk5 hT hkk.size hk5.size;refine wr1 12 (fun K hK=> ?_);go_simp;refine hK.out _ _ (noteS bB.o bX.o hk6) (fun hHeld=> ?_);clear hK K
  refine Htk 13 ?_
  try simp only [sq]
  refine KE (by kernel_rfl) ?_ _;go_wp2_with fail
  go_meet
  case rel=>exact⟨wk.heap.size,a5,n5,c5,rfl,rfl,zk1 bG.o,zax hi5 hT (za6 hf5 (by simp)),hn5,hc5,fun ad e=>kc hcur.size (hf5 ad e),hk6,hkk.size⟩ } }
  {
  go_simp;refine hK.out _ _ (noteS bB.o bX.o (zaf (kS W.heap.size W).drew _)) (fun hHeld=> ?_);clear hK K
  refine wr1 6 (fun K hK=> ?_);go_simp;have hc0:bZ W (W.drew.alloc (.cells #[nV,iV 0] 28)):=zaf (kS W.heap.size W).drew _;refine(zae HK _).mono ?_;rintro e wk ⟨⟨ak,ck,rfl,hk1,hk2,hrk⟩,hbk⟩;have hkk:=(hc0).trans (hbk.mono (hc0).size);go_wp2_with fail;refine hK.out _ _ (noteS bB.o bX.o hkk) (fun hHeld=> ?_);clear hK K
  try simp only [sq]
  have bG0:Hd (wk.heap[W.heap.size]?=some (.cells #[nV,iV 0] 28 (0,0))):=zab (kP W.drew _) hbk;have hcur:=hkk;refine wr1 7 (fun K hK=> ?_);go_simp;refine(zae HA ak _ ck _ (hw.trans ((hcur).mono hw.size)) hrk rfl (kc hk1 hk2)).mono ?_;rintro e w5 ⟨⟨a5,n5,c5,rfl,hi5,hn5,hc5,hf5⟩,hb5⟩;have hk5:=(hcur).trans (hb5.mono (hcur).size);go_wp2_with fail;refine hK.out _ _ (noteS bB.o bX.o hk5) (fun hHeld=> ?_);clear hK K
  try simp only [sq]
  have bG:Hd (w5.heap[W.heap.size]?=some (.cells #[nV,iV 0] 28 (0,0))):=zab bG0.o hb5;refine Htk 8 ?_
  refine Htk 9 ?_
  refine Htk 10 ?_
  try simp only [sq]
  have q0:=zaa bG.o 0 _ rfl;have q1:=zaa bG.o 1 _ rfl;have f0:=zad bG.o 0;have f1:=zad bG.o 1;have hT:w5.grownBy ((w5.setCell ⟨W.heap.size,0,none⟩ (.slice a5 n5 c5)).setCell ⟨W.heap.size,1,none⟩ (iV R.2.1)) (some W.heap.size):=zac (zac (kf _ _) _ _) _ _;have hk6:=zam hk5 hT (kQ _) hk5.size;refine wr1 12 (fun K hK=> ?_);go_simp;refine hK.out _ _ (noteS bB.o bX.o hk6) (fun hHeld=> ?_);clear hK K
  refine Htk 13 ?_
  try simp only [sq]
  refine KE (by kernel_rfl) ?_ _;go_wp2_with fail
  go_meet
  case rel=>exact⟨W.heap.size,a5,n5,c5,rfl,rfl,zk1 bG.o,zax hi5 hT (za6 hf5 (kw (zak bG0.o) (kQ _))),hn5,hc5,fun ad e=>kc hcur.size (hf5 ad e),hk6,(kQ _)⟩ }
 case rest=>
 obtain ⟨G,a5,n5,c5,rfl,rfl,hG,hi5,hn5,hc5,hf5,hbW,hGs⟩:=hcut;obtain ⟨w1,rfl⟩: ∃w1:World,w1=wc:=⟨_,rfl⟩;have hb1:=bT hw hbW;have bB1:=uH (zab bB.o hbW);have BG:=uH hG;have hGB:G≠B:=by omega
 have HF5:Hd (zal w.heap.size a5):=fun ad e=>kc hw.size (hf5 ad e)
 have HI5:=uH hi5;have HN5:=uH hn5;have hmx:n5<=maxLen:=by rw [<-hn5];exact kc HLe.o (by rw [HP.o.own.ws.len];exact HP.o.own.ws.max)
 have g0:=zaa hG 0 _ rfl;have g1:=zaa hG 1 _ rfl;unfold gtO at bB1;have x0:=zaa bB1.o 0 _ rfl;have f0:=zad bB1.o 0;have x1:=zaa bB1.o 1 _ rfl;have f1:=zad bB1.o 1;have x2:=zaa bB1.o 2 _ rfl;have f2:=zad bB1.o 2;clear hi5 hn5 hf5 hG hw bX bB hbW hGs HA HK
 by_cases z7:R.2.2=7
 {
 have d0: (R.2.2==0)=false:=by rw [z7];rfl
 have d7: (R.2.2==7)=true:=by simpa using z7
 have HE:Hd (noteG g s r=_):=HN.o.trans (dnG_7 z7);clear z7;have hT:=zac (zac (zac (kf w1 (some B)) 0 (.slice a5 n5 c5)) 1 (iV R.2.1)) 2 (.bool false);have NB:=uH (GBox.flash (f:=R.2.1) (up:=false) HP.o hb1 HI5.o HN5.o hc5 hmx HF5.o hT (gt_set3 (g:=g) (m:=m) (by unfold gtO;exact bB1.o)));have HFg:=uH (zgq _ _ _ _ _ _ _ NB.o);go_wp2_with fail;refine(zae HFg).mono ?_;rintro e w2 ⟨rfl,hb2,hg2⟩;have HB2:=uH hb2;have HG2:=uH hg2;clear hb2 hg2 HFg;go_wp2_with fail;go_ret;rw [HE.o];exact⟨rfl,⟨_,HB2.o⟩,((zcw hb1).trans (g3_of hT (.inl rfl))).trans HG2.o⟩ }
 have d7: (R.2.2==7)=false:=by simpa using z7
 by_cases z0:R.2.2=0
 {
 have d0: (R.2.2==0)=true:=by simpa using z0
 have HE:Hd (noteG g s r=_):=HN.o.trans (dnG_0 z0);clear z0 z7;have hT:=zac (zac (kf w1 (some B)) 0 (.slice a5 n5 c5)) 1 (iV R.2.1);have NB:=uH (GBox.flash (f:=R.2.1) (up:=g.up) HP.o hb1 HI5.o HN5.o hc5 hmx HF5.o hT (gt_set2 (g:=g) (m:=m) (by unfold gtO;exact bB1.o)));go_wp2_with fail;go_ret;rw [HE.o];exact⟨rfl,⟨_,NB.o⟩,(zcw hb1).trans (g3_of hT (.inl rfl))⟩ }
 have d0: (R.2.2==0)=false:=by simpa using z0
 have HE:Hd (noteG g s r=_):=HN.o.trans (dnG_e z7 z0);clear z0 z7;go_wp2_with fail;go_ret;rw [HE.o];exact⟨rfl,⟨_,HP.o.bl hb1⟩,zcw hb1⟩
end
section
attribute [local go_sem ↓] kM kO
theorem zm4 (B:Nat) (u:Un) (s:Us) (m:Ms) (a:oA) (n c:Nat) (w:World) (hU:OwnU F w B u):
 Cq 300 #[.pointer (some ⟨B,0,none⟩),usv s,msv m a n c] w (HAns F w B (aboS u s m)):=by
 have hb:=uH (hW_hb w s m a n c);have hw0:=zi5 w s m a n c;have hB:=hU.lt;have hU0:=uH (hU.bl hw0);clear hU;unfold usv msv;have q:=hb.o.hs;unfold HS at q;obtain ⟨x0,x1,x2,y2,y3,y4,y5⟩:=q;unfold hW at x0 x1 x2 y2 y3 y4 y5
 by_cases z1:m.n<=s.by'
 {
 have HE:=uH (aboS_1 (u:=u) z1);clear y3 y4 y5;unfold hW at hw0 hU0;go_enter Tryz.func300,Tryz.ntmps300;go_wp2_with fail;go_ret;exact zde HE.o hU0.o (zaj hw0 B) }
 have d1:decide (m.n<=s.by')=false:=by simpa using z1
 have Z1:=uH z1
 by_cases z2:s.rdy=m.n
 rotate_left
 {
 have HEa:=uH (fun h=>(aboS_2 (u:=u) z1 z2).trans (aboB_1 h));have HEb:=uH (fun h=>(aboS_2 (u:=u) z1 z2).trans (aboB_2 h));have d2: (s.rdy==m.n)=false:=by simpa using z2
 have HG:=uH (zaj hw0 B);clear z1 z2;go_enter Tryz.func300,Tryz.ntmps300;go_upto_region 5 with fail
 clear x0 x1 x2 y2 y3 y4 y5;rw [show(w.alloc (.cells #[iV s.slot,iV s.by',iV s.rdy] 84)).alloc (.cells (aM m a n c) 99)=hW w s m a n c from rfl];generalize hW w s m a n c=W at *;obtain ⟨ua,un,uc,ub,ui,ul,ucap,umax,uoff,ufr⟩:=hU0.o;have UB:=uH ub;have UI:=uH ui;have UL:=uH ul;unfold unO at ub;have u3:=zaa ub 3 _ rfl;have u4:=zaa ub 4 _ rfl;have fu3:=zad ub 3;have fu4:=zad ub 4;have y2:=zaa hb.o.b1 2 _ rfl;clear ub ui ul
 by_cases z5:u.n=m.n
 {
 have HE:=uH (HEa.o z5);have d5: (u.n==m.n)=true:=by simpa using z5
 clear z5;go_wp2_with fail;go_quiet (fail);obtain ⟨wz,hwz⟩: ∃wz:World,wz=W.drewN nq:=⟨_,rfl⟩;have hbz:bZ W wz:=by rw [hwz];exact kA (kS _ _) nq
 rw [<-hwz];clear hwz u3 u4 fu3 fu4 y2;have UBz:=uH (zab UB.o hbz);have HBz:=uH (hb.o.bl hbz);have ubz:=UBz.o;unfold unO at ubz;have u3:=zaa ubz 3 _ rfl;have u4:=zaa ubz 4 _ rfl;have fu3:=zad ubz 3;have fu4:=zad ubz 4;clear ubz;have hgS:wz.grownBy ((wz.setCell ⟨B,3,none⟩ (iV 0)).setCell ⟨B,4,none⟩ (iV 0)) (some B):=zac (zaw _ _ _ _) _ _;have HBs:=uH (HBz.o.turns hgS hB);have hUs:Hd (OwnU F ((wz.setCell ⟨B,3,none⟩ (iV 0)).setCell ⟨B,4,none⟩ (iV 0)) B (mind u 0 0)):=⟨ua,un,uc,zig UBz.o,zax (UI.o.bl hbz) hgS uoff,UL.o,ucap,umax,uoff,ufr⟩;have v0:=zaa HBs.o.b1 0 _ rfl;have v1:=zaa HBs.o.b1 1 _ rfl;have v2:=zaa HBs.o.b1 2 _ rfl;have v3:=zaa HBs.o.b1 3 _ rfl;have v4:=zaa HBs.o.b1 4 _ rfl;have v5:=zaa HBs.o.b1 5 _ rfl;have v6:=zaa HBs.o.b1 6 _ rfl;go_wp2_with fail;have HDn:=uH (zdy m a n c ((wz.setCell ⟨B,3,none⟩ (iV 0)).setCell ⟨B,4,none⟩ (iV 0)));unfold msv at HDn;refine(zae HDn).mono ?_;rintro e w6 ⟨⟨b,rfl,hm,_⟩,hb6⟩;go_wp2_with fail;go_ret;rw [HE.o];exact⟨⟨_,1,1,rfl,hm,rfl,kQ _,kQ _⟩,hUs.o.bl hb6,((HG.o.trans (zaj hbz B)).trans hgS).trans (zaj hb6 B)⟩ }
 {
 have HE:=uH (HEb.o z5);have d5: (u.n==m.n)=false:=by simpa using z5
 clear z5;go_wp2_with fail;go_quiet (fail);obtain ⟨wz,hwz⟩: ∃wz:World,wz=W.drewN nq:=⟨_,rfl⟩;have hbz:bZ W wz:=by rw [hwz];exact kA (kS _ _) nq
 rw [<-hwz];clear hwz u3 u4 fu3 fu4 y2;have HBz:=uH (hb.o.bl hbz);have v0:=zaa HBz.o.b1 0 _ rfl;have v1:=zaa HBz.o.b1 1 _ rfl;have v2:=zaa HBz.o.b1 2 _ rfl;have v3:=zaa HBz.o.b1 3 _ rfl;have v4:=zaa HBz.o.b1 4 _ rfl;have v5:=zaa HBz.o.b1 5 _ rfl;have v6:=zaa HBz.o.b1 6 _ rfl;go_wp2_with fail;have HDn:=uH (zdy m a n c wz);unfold msv at HDn;refine(zae HDn).mono ?_;rintro e w6 ⟨⟨b,rfl,hm,_⟩,hb6⟩;go_wp2_with fail;go_ret;rw [HE.o];exact⟨⟨_,1,1,rfl,hm,rfl,kQ _,kQ _⟩,(hU0.o.bl hbz).bl hb6,(HG.o.trans (zaj hbz B)).trans (zaj hb6 B)⟩ } }
 have d2: (s.rdy==m.n)=true:=by simpa using z2
 have HE3:=uH (aboS_3 (u:=u) z1 z2);have HE4:=uH (aboS_4 (u:=u) z1 z2);clear z1 z2;have hkB:=zaf (kS (hW w s m a n c).heap.size (hW w s m a n c)) (.cells #[iV 3,iV m.n] 3);have hUB:=uH (hU0.o.bl hkB);have hszB:B< (hW w s m a n c).heap.size:=hU0.o.lt;have HNt:=uH (ze0 s (some ⟨(hW w s m a n c).heap.size,0,none⟩) 2 2 [3,m.n] B ((hW w s m a n c).alloc (.cells #[iV 3,iV m.n] 3)) (by simp;omega) (zne _ 3 m.n 3) (fun ad e=>by cases e;show(hW w s m a n c).heap.size≠B;omega));have hszE: (hW w s m a n c).heap.size=w.heap.size+1+1:=by unfold hW;simp
 rw [hszE] at HNt;unfold usv at HNt;clear hszE;go_enter Tryz.func300,Tryz.ntmps300;go_wp2_with fail;clear x0 x1 x2 y2 y3 y4 y5;unfold hW at HNt;refine(zae HNt).mono ?_;rintro e w3 ⟨⟨fn3,caps3,rfl,hv3⟩,hb3⟩;have hk3:=hkB.trans (Below.mono hb3 (by unfold hW;simp));have HCh:=uH (zb5 B _ u (.func (.func fn3) #[] caps3) 258 w3 (hU0.o.bl hk3) hv3);have hbx:=uH (hb.o.bl hk3);have HG3:=uH ((zaj hw0 B).trans (zaj hk3 B));clear hk3 hkB hUB hb3 HNt hv3 hszB;go_wp2_with fail;refine(zae HCh).mono ?_;rintro e w5 ⟨rfl,hU5,hg5⟩;have HU5:=uH hU5;have HG5:=uH (HG3.o.trans hg5);have HB5:=uH (hbx.o.turns hg5 hB);clear hU5 hg5 HCh HG3 hbx hU0 hb hw0;generalize doV u (.not s [3,m.n])=R at *;cases g:R.2
 {
 have HE:=uH (HE4.o g);go_wp2_with fail;go_ret;exact zde HE.o HU5.o HG5.o }
 {
 have HEa:=uH (fun h=>(HE3.o g).trans (aboB_1 h));have HEb:=uH (fun h=>(HE3.o g).trans (aboB_2 h));clear HE3 HE4;go_upto_region 5 with fail
 obtain ⟨R1,R2⟩:=R;simp only at HU5 HEa HEb;obtain ⟨ua,un,uc,ub,ui,ul,ucap,umax,uoff,ufr⟩:=HU5.o;have UB:=uH ub;have UI:=uH ui;have UL:=uH ul;unfold unO at ub;have u3:=zaa ub 3 _ rfl;have u4:=zaa ub 4 _ rfl;have fu3:=zad ub 3;have fu4:=zad ub 4;have y2:=zaa HB5.o.b1 2 _ rfl;clear ub ui ul
 by_cases z5:R1.n=m.n
 {
 have HE:=uH (HEa.o z5);have d5: (R1.n==m.n)=true:=by simpa using z5
 clear z5;go_wp2_with fail;go_quiet (fail);obtain ⟨wz,hwz⟩: ∃wz:World,wz=w5.drewN nq:=⟨_,rfl⟩;have hbz:bZ w5 wz:=by rw [hwz];exact kA (kS _ _) nq
 rw [<-hwz];clear hwz u3 u4 fu3 fu4 y2;have UBz:=uH (zab UB.o hbz);have HBz:=uH (HB5.o.bl hbz);have ubz:=UBz.o;unfold unO at ubz;have u3:=zaa ubz 3 _ rfl;have u4:=zaa ubz 4 _ rfl;have fu3:=zad ubz 3;have fu4:=zad ubz 4;clear ubz;have hgS:wz.grownBy ((wz.setCell ⟨B,3,none⟩ (iV 0)).setCell ⟨B,4,none⟩ (iV 0)) (some B):=zac (zaw _ _ _ _) _ _;have HBs:=uH (HBz.o.turns hgS hB);have hUs:Hd (OwnU F ((wz.setCell ⟨B,3,none⟩ (iV 0)).setCell ⟨B,4,none⟩ (iV 0)) B (mind R1 0 0)):=⟨ua,un,uc,zig UBz.o,zax (UI.o.bl hbz) hgS uoff,UL.o,ucap,umax,uoff,ufr⟩;have v0:=zaa HBs.o.b1 0 _ rfl;have v1:=zaa HBs.o.b1 1 _ rfl;have v2:=zaa HBs.o.b1 2 _ rfl;have v3:=zaa HBs.o.b1 3 _ rfl;have v4:=zaa HBs.o.b1 4 _ rfl;have v5:=zaa HBs.o.b1 5 _ rfl;have v6:=zaa HBs.o.b1 6 _ rfl;go_wp2_with fail;have HDn:=uH (zdy m a n c ((wz.setCell ⟨B,3,none⟩ (iV 0)).setCell ⟨B,4,none⟩ (iV 0)));unfold msv at HDn;refine(zae HDn).mono ?_;rintro e w6 ⟨⟨b,rfl,hm,_⟩,hb6⟩;go_wp2_with fail;go_ret;rw [HE.o];exact⟨⟨_,1,1,rfl,hm,rfl,kQ _,kQ _⟩,hUs.o.bl hb6,((HG5.o.trans (zaj hbz B)).trans hgS).trans (zaj hb6 B)⟩ }
 {
 have HE:=uH (HEb.o z5);have d5: (R1.n==m.n)=false:=by simpa using z5
 clear z5;go_wp2_with fail;go_quiet (fail);obtain ⟨wz,hwz⟩: ∃wz:World,wz=w5.drewN nq:=⟨_,rfl⟩;have hbz:bZ w5 wz:=by rw [hwz];exact kA (kS _ _) nq
 rw [<-hwz];clear hwz u3 u4 fu3 fu4 y2;have HBz:=uH (HB5.o.bl hbz);have v0:=zaa HBz.o.b1 0 _ rfl;have v1:=zaa HBz.o.b1 1 _ rfl;have v2:=zaa HBz.o.b1 2 _ rfl;have v3:=zaa HBz.o.b1 3 _ rfl;have v4:=zaa HBz.o.b1 4 _ rfl;have v5:=zaa HBz.o.b1 5 _ rfl;have v6:=zaa HBz.o.b1 6 _ rfl;go_wp2_with fail;have HDn:=uH (zdy m a n c wz);unfold msv at HDn;refine(zae HDn).mono ?_;rintro e w6 ⟨⟨b,rfl,hm,_⟩,hb6⟩;go_wp2_with fail;go_ret;rw [HE.o];exact⟨⟨_,1,1,rfl,hm,rfl,kQ _,kQ _⟩,(HU5.o.bl hbz).bl hb6,(HG5.o.trans (zaj hbz B)).trans (zaj hb6 B)⟩ } }
end
end Go.Proofs.YthmekfcgdfckaaaGreatDoor
