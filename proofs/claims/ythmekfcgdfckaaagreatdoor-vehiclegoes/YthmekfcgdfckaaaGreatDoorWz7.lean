/- Facts. -/
import Derived.Test.YthmekfcgdfckaaaGreatDoorWz5
import Derived.Test.YthmekfcgdfckaaaGreatDoorWz4
set_option maxRecDepth 1000000
set_option maxHeartbeats 0
namespace Go.Proofs.YthmekfcgdfckaaaGreatDoor
open Go.RowKit
variable {l:List S2} {r x:Rt} {sigs xs ws words G:LI} {name u ver now units f:Int} {ss:LB} {t:Tr} {w W:World} {a:oA} {n B k s i:Nat} {rs:List Rt} {sgs:LL} {o:Of} {v:Value} {ts:List T3}
theorem cntE_1 (h:sigE l≠0):cntE l r sigs=sigE l:=by unfold cntE;rw [KJ h]
theorem cntE_2 (h:sigE l=0) (h2:r.e≠0):cntE l r sigs=r.e:=by unfold cntE;rw [KK h,KJ h2]
theorem cntE_3 (h:sigE l=0) (h2:r.e=0) (h3:50<sigs.length):cntE l r sigs=2:=by unfold cntE;rw [KK h,KK h2,KK h3]
theorem cntE_0 (h:sigE l=0) (h2:r.e=0) (h3: ¬50<sigs.length):cntE l r sigs=0:=by unfold cntE;rw [KK h,KK h2,KJ h3]
theorem cntV_0 (h:cntE l r sigs=0):cntV l r sigs name= (cntN l r.ks sigs name:Int):=by unfold cntV;rw [KK h]
theorem cntV_1 (h:cntE l r sigs≠0):cntV l r sigs name=0:=by unfold cntV;rw [KJ h]
theorem count_any (a1:oA) (n1 c1:Nat) (l:List S2) (r:Rt) (a2:oA) (n2 c2:Nat) (a3:oA) (n3 c3:Nat) (sigs:LI) (name:Int) (w:World) (h1:BG w a1 n1 l) (h2:BI w a2 n2 r.ks) (h3:BI w a3 n3 sigs):
 Cq 309 #[.slice a1 n1 c1,rv r.v a2 n2 c2 r.t,.slice a3 n3 c3,iV name] w fun e w' =>e=.returned (.tuple #[iV (cntV l r sigs name),iV (cntE l r sigs)])/\bZ w w' :=by
 have hw0:bZ w (w.alloc (.cells #[iV r.v,.slice a2 n2 c2,iV r.t] 30)):=bA1;have b0:=uH (kP w (.cells #[iV r.v,.slice a2 n2 c2,iV r.t] 30));have HS:=uH (fun W (hW:bZ w W)=>zd3 a1 n1 c1 l W (h1.bl hW));have HR:Hd (∀W,bZ w W->Cq 216 #[rv r.v a2 n2 c2 r.t] W fun e w' =>e=.returned (iV r.e)/\bZ W w'):=fun W hW=>zeu r.v a2 n2 c2 r.t r.ks W (h2.bl hW).at_ h2.len h2.max
 have HC:=uH (fun W k (hW:bZ w W)=>zmr a3 n3 c3 sigs k W (h3.bl hW));have HD:=uH (fun W s (hW:bZ w W)=>zm1 a1 n1 c1 l s W (h1.bl hW));have HI:=uH h2.at_;have HL2:=uH h2.len;have HL3:=uH h3.len;have m2:=h2.max;have m3:=h3.max;unfold maxLen at m2 m3;unfold rv at HR|-;unfold sv at HD;clear h1 h2 h3
 by_cases z1:sigE l=0
 {
 rw [z1] at HS
 by_cases z2:r.e=0
 {
 rw [z2] at HR
 by_cases z3:50<n3
 {
 have HE:=uH (cntE_3 z1 z2 (sigs:=sigs) (by rw [HL3.o];exact z3));have HV:=uH (cntV_1 (name:=name) (by rw [HE.o];decide));clear z1 z2;go_enter Tryz.func309,Tryz.ntmps309;go_wp2_with fail;generalize w.alloc (.cells #[iV r.v,.slice a2 n2 c2,iV r.t] 30)=W at *;refine(zae HS _ hw0).mono ?_;rintro e w1 ⟨rfl,hb1⟩;replace b0:=uH (zab b0.o hb1);replace hw0:=bT hw0 hb1;clear hb1;have x0:=zaa b0.o 0 _ rfl;have x1:=zaa b0.o 1 _ rfl;have x2:=zaa b0.o 2 _ rfl;go_wp2_with fail;refine(zae HR _ hw0).mono ?_;rintro e w2 ⟨rfl,hb2⟩;replace hw0:=bT hw0 hb2;go_wp2_with fail;go_ret2;exact⟨zdi HV.o.symm HE.o.symm,hw0⟩ }
 {
 have HE:=uH (cntE_0 z1 z2 (sigs:=sigs) (by rw [HL3.o];exact z3));have HV:=uH (cntV_0 (name:=name) HE.o);clear z1 z2;go_enter Tryz.func309,Tryz.ntmps309;go_wp2_with fail;generalize w.alloc (.cells #[iV r.v,.slice a2 n2 c2,iV r.t] 30)=W at *;refine(zae HS _ hw0).mono ?_;rintro e w1 ⟨rfl,hb1⟩;replace b0:=uH (zab b0.o hb1);replace hw0:=bT hw0 hb1;clear hb1;have x0:=zaa b0.o 0 _ rfl;have x1:=zaa b0.o 1 _ rfl;have x2:=zaa b0.o 2 _ rfl;go_wp2_with fail;refine(zae HR _ hw0).mono ?_;rintro e w2 ⟨rfl,hb2⟩;replace b0:=uH (zab b0.o hb2);replace hw0:=bT hw0 hb2;clear hb2 x0 x1 x2;have x1:=zaa b0.o 1 _ rfl;go_wp2_with fail
 go_loopw [12,31] (fun p i wr=>∃(k q:Nat),k<=n2/\q<=k/\p=iV (q:Int)/\i=iV k/\bZ w wr/\Hd (q=cntN l (r.ks.take k) sigs name)) (fun _ i _=>n2 - (intOf i).toNat)
 case atStart=>exact⟨0,0,KG _,kQ _,rfl,rfl,hw0,by show _=_;simp [cntN]⟩
 case round=>
  clear x1 b0 hw0;obtain ⟨wq,rfl⟩: ∃wq:World,wq=wr:=⟨_,rfl⟩;obtain ⟨k,q,hk,hqk,rfl,rfl,hw,ht⟩:=hrel
  by_cases hlt:k<n2
  {
  have hkx:k<r.ks.length:=by rw [HL2.o];exact hlt
  have i1:=HI.o.bl hw
  rcases i1 with h0| ⟨bb,oo,rfl,hc0⟩
  { rw [h0] at hkx;simp at hkx }
  have e0:=hc0 k hkx;rw [show r.ks.getD k 0=r.ks[k] by simp [hkx]] at e0;have HQ:=uH (cntN_step (l:=l) (sigs:=sigs) (name:=name) hkx);clear hc0;generalize r.ks[k]=x at *;have HCx:=uH (fun W hW=>zae HC W x hW);have HDx:=uH (fun W hW=>zae HD W (x,name) hW);cases g1:has sigs x
  {
  rw [g1] at HCx;have HQ' :=uH (show cntN l (r.ks.take (k+1)) sigs name=q by rw [HQ.o,<-ht.o];simp [hit,g1]);clear g1
  go_wp2_with (go_at_call 31;refine(zae HCx _ hw).mono ?_;rintro e w' ⟨rfl,rfl⟩)
  go_roundw
  case rel=>exact⟨k+1,q,by omega,by omega,rfl,by go_num,hw,HQ'.o.symm⟩
  case measure=>simp [intOf];omega }
  {
  rw [g1] at HCx;cases g2:has l (x,name)
  {
  rw [g2] at HDx;have HQ' :=uH (show cntN l (r.ks.take (k+1)) sigs name=q by rw [HQ.o,<-ht.o];simp [hit,g2]);clear g1 g2
  go_wp2_with (first| (go_at_call 31;refine(zae HCx _ hw).mono ?_;rintro e w' ⟨rfl,rfl⟩)| (go_at_call 321;refine(zae HDx _ hw).mono ?_;rintro e w5 ⟨rfl,hb5⟩))
  replace hw:=bT hw hb5
  go_roundw
  case rel=>exact⟨k+1,q,by omega,by omega,rfl,by go_num,hw,HQ'.o.symm⟩
  case measure=>simp [intOf];omega }
  {
  rw [g2] at HDx;have HQ' :=uH (show cntN l (r.ks.take (k+1)) sigs name=q+1 by rw [HQ.o,<-ht.o];simp only [hit,g1,g2];rfl);clear g1 g2
  go_wp2_with (first| (go_at_call 31;refine(zae HCx _ hw).mono ?_;rintro e w' ⟨rfl,rfl⟩)| (go_at_call 321;refine(zae HDx _ hw).mono ?_;rintro e w5 ⟨rfl,hb5⟩))
  replace hw:=bT hw hb5
  go_roundw
  case rel=>exact⟨k+1,q+1,by omega,by omega,by go_num,by go_num,hw,HQ'.o.symm⟩
  case measure=>simp [intOf];omega } } }
  {
  go_wp2_with fail;go_ret2;have hx:=ht.o;rw [kh (by rw [HL2.o];omega)] at hx;exact⟨zdi (by rw [HV.o,<-hx]) HE.o.symm,hw⟩ } } }
 {
 have HE:=uH (cntE_2 (sigs:=sigs) z1 z2);have HV:=uH (cntV_1 (name:=name) (sigs:=sigs) (by rw [HE.o];exact z2));have hb: (r.e !=0)=true:=by simpa using z2
 clear z1 z2;generalize r.e=q at *;go_enter Tryz.func309,Tryz.ntmps309;go_wp2_with fail;generalize w.alloc (.cells #[iV r.v,.slice a2 n2 c2,iV r.t] 30)=W at *;refine(zae HS _ hw0).mono ?_;rintro e w1 ⟨rfl,hb1⟩;replace b0:=uH (zab b0.o hb1);replace hw0:=bT hw0 hb1;clear hb1;have x0:=zaa b0.o 0 _ rfl;have x1:=zaa b0.o 1 _ rfl;have x2:=zaa b0.o 2 _ rfl;go_wp2_with fail;refine(zae HR _ hw0).mono ?_;rintro e w2 ⟨rfl,hb2⟩;replace hw0:=bT hw0 hb2;go_wp2_with fail;go_ret2;exact⟨zdi HV.o.symm HE.o.symm,hw0⟩ } }
 {
 have HE:=uH (cntE_1 (r:=r) (sigs:=sigs) z1);have HV:=uH (cntV_1 (name:=name) (r:=r) (sigs:=sigs) (by rw [HE.o];exact z1));have hb: (sigE l !=0)=true:=by simpa using z1
 clear z1;generalize sigE l=q at *;go_enter Tryz.func309,Tryz.ntmps309;go_wp2_with fail;generalize w.alloc (.cells #[iV r.v,.slice a2 n2 c2,iV r.t] 30)=W at *;refine(zae HS _ hw0).mono ?_;rintro e w1 ⟨rfl,hb1⟩;replace hw0:=bT hw0 hb1;go_wp2_with fail;go_ret2;exact⟨zdi HV.o.symm HE.o.symm,hw0⟩ }
theorem csE_1 (h:cntE l r sigs≠0):csE l r sigs name=cntE l r sigs:=by unfold csE;rw [KJ h]
theorem csE_2 (h:cntE l r sigs=0) (h2: (cntN l r.ks sigs name:Int)<r.t):csE l r sigs name=9:=by unfold csE;rw [KK h,KK h2]
theorem csE_0 (h:cntE l r sigs=0) (h2: ¬(cntN l r.ks sigs name:Int)<r.t):csE l r sigs name=0:=by unfold csE;rw [KK h,KJ h2]
theorem zg8 (a1:oA) (n1 c1:Nat) (l:List S2) (r:Rt) (a2:oA) (n2 c2:Nat) (a3:oA) (n3 c3:Nat) (sigs:LI) (name:Int) (w:World) (h1:BG w a1 n1 l) (h2:BI w a2 n2 r.ks) (h3:BI w a3 n3 sigs):
 Cq 295 #[.slice a1 n1 c1,rv r.v a2 n2 c2 r.t,.slice a3 n3 c3,iV name] w fun e w' =>e=.returned (iV (csE l r sigs name))/\bZ w w' :=by
 have hw0:bZ w (w.alloc (.cells #[iV r.v,.slice a2 n2 c2,iV r.t] 30)):=bA1;have b0:=uH (kP w (.cells #[iV r.v,.slice a2 n2 c2,iV r.t] 30));have HC:=uH (fun W (hW:bZ w W)=>count_any a1 n1 c1 l r a2 n2 c2 a3 n3 c3 sigs name W (h1.bl hW) (h2.bl hW) (h3.bl hW));unfold rv at HC|-;clear h1 h2 h3
 by_cases z1:cntE l r sigs=0
 {
 rw [z1,cntV_0 z1] at HC;have HE2:=uH (csE_2 (name:=name) z1);have HE0:=uH (csE_0 (name:=name) z1);clear z1;generalize (cntN l r.ks sigs name:Int)=q at *;go_enter Tryz.func295,Tryz.ntmps295;go_wp2_with fail;generalize w.alloc (.cells #[iV r.v,.slice a2 n2 c2,iV r.t] 30)=W at *;refine(zae HC _ hw0).mono ?_;rintro e w1 ⟨rfl,hb1⟩;replace b0:=uH (zab b0.o hb1);replace hw0:=bT hw0 hb1;clear hb1;have x2:=zaa b0.o 2 _ rfl
 by_cases z2:q<r.t
 {
 have HE:=uH (HE2.o z2);go_wp2_with fail;go_ret;exact⟨zap HE.o.symm,hw0⟩ }
 {
 have HE:=uH (HE0.o (by omega));have hd:decide (q<r.t)=false:=by simpa using z2
 clear z2;go_wp2_with fail;go_ret;exact⟨zap HE.o.symm,hw0⟩ } }
 {
 have HE:=uH (csE_1 (name:=name) z1);have hb: (cntE l r sigs !=0)=true:=by simpa using z1
 clear z1;generalize cntE l r sigs=q at *;generalize cntV l r sigs name=q2 at *;go_enter Tryz.func295,Tryz.ntmps295;go_wp2_with fail;generalize w.alloc (.cells #[iV r.v,.slice a2 n2 c2,iV r.t] 30)=W at *;refine(zae HC _ hw0).mono ?_;rintro e w1 ⟨rfl,hb1⟩;replace hw0:=bT hw0 hb1;go_wp2_with fail;go_ret;exact⟨zap HE.o.symm,hw0⟩ }
theorem zh7 (r:Rt) (a:oA) (n c:Nat) (ver:Int) (w:World) (h:BI w a n r.ks) (hs:n<=1000):
 Cq 275 #[rv r.v a n c r.t,iV ver] w fun e w' =>e=.returned (trv r.v (some ⟨w.heap.size+2,0,none⟩) n n r.t ver)/\BI w' (some ⟨w.heap.size+2,0,none⟩) n r.ks/\bZ w w' :=by
 have hw0:bZ w (w.alloc (.cells #[iV r.v,.slice a n c,iV r.t] 30)):=bA1;have hw1:=hw0.alloc hw0.size (.cells #[iV 0,nV,iV 0,iV 0] 32);have i1:=h.at_.bl hw1;have hm:=zes n ((w.alloc (.cells #[iV r.v,.slice a n c,iV r.t] 30)).alloc (.cells #[iV 0,nV,iV 0,iV 0] 32)) (by omega);have hc:=zmd a n c r.ks _ i1 h.len;have HL:=uH h.len;have HM:=uH h.max;unfold rv trv;clear h hw0 i1;simp only [KB] at hm hc;go_enter Tryz.func275,Tryz.ntmps275;go_wp2_with fail;refine kT (v:=.agg #[iV r.v,sV (w.heap.size+2) n n,iV r.t,iV ver]) (by simp [results,Tryz.results275,go_sem]) rfl ⟨rfl, ?_⟩;exact⟨⟨zd2 _ _ _ _ _ (by simp) rfl,HL.o,HM.o⟩,(bA2).alloc (by simp;omega) _⟩
theorem turnE_1 (h1:trE t≠0):turnE ss l t x sigs=trE t:=by unfold turnE;rw [KJ h1]
theorem turnE_2 (h1:trE t=0) (h2:x.e≠0):turnE ss l t x sigs=x.e:=by unfold turnE;rw [KK h1,KJ h2]
theorem turnE_3 (h1:trE t=0) (h2:x.e=0) (h3:bookE ss≠0):turnE ss l t x sigs=bookE ss:=by unfold turnE;rw [KK h1,KK h2,KJ h3]
theorem turnE_4 (h1:trE t=0) (h2:x.e=0) (h3:bookE ss=0) (h4: ¬x.v=t.r.v+1):turnE ss l t x sigs=10:=by unfold turnE;rw [KK h1,KK h2,KK h3,KJ h4]
theorem turnE_5 (h1:trE t=0) (h2:x.e=0) (h3:bookE ss=0) (h4:x.v=t.r.v+1) (h5:csE l t.r sigs (nameN ss (bs x.tx))≠0):turnE ss l t x sigs=csE l t.r sigs (nameN ss (bs x.tx)):=by unfold turnE;rw [KK h1,KK h2,KK h3,KK h4,KJ h5]
theorem turnE_6 (h1:trE t=0) (h2:x.e=0) (h3:bookE ss=0) (h4:x.v=t.r.v+1) (h5:csE l t.r sigs (nameN ss (bs x.tx))=0):turnE ss l t x sigs=csE l x sigs (nameN ss (bs x.tx)):=by unfold turnE;rw [KK h1,KK h2,KK h3,KK h4,KK h5]
theorem trE_ok (h:trE t=0): (0<=t.ver/\t.ver<=1000)/\t.r.e=0:=by
 unfold trE at h
 split at h
 {
 rename_i h1
 rw [zd1] at h1;exact⟨h1,h⟩ }
 {
 cases h }
def tz:Tr:=⟨⟨0, [],0⟩,0⟩
def TAns (w:World) (e:Ending) (t:Tr) (q:Int) (F:oA->Prop):Prop:=∃a n c,e=.returned (.tuple #[trv t.r.v a n c t.r.t t.ver,iV q])/\BI w a n t.r.ks/\F a
def Frsh (B:Nat) (a:oA):Prop:=∀ad,a=some ad->B<=ad.block
theorem za8 (B:Nat):Frsh B none:=fun _ h=>by cases h
theorem tAns_z {q q2:Int} {F:oA->Prop} (h:q=q2) (hF:F none):TAns w (.returned (.tuple #[.agg #[iV 0,nV,iV 0,iV 0],iV q])) tz q2 F:=by
 subst h;exact⟨none,0,0,rfl,⟨.inl rfl,rfl,by decide⟩,hF⟩
def turnT (q:Int) (t:Tr) (x:Rt):Tr:=if q=0 then⟨x,t.ver⟩ else tz
theorem zoe {q:Int} (h:q≠0):turnT q t x=tz:=by unfold turnT;rw [KJ h]
theorem zbx {q R:Int} {F:oA->Prop} (hR:R=q) (hq:q≠0) (hF:F none):TAns w (.returned (.tuple #[.agg #[iV 0,nV,iV 0,iV 0],iV q])) (turnT R t x) R F:=by
 rw [zoe (by rw [hR];exact hq)];exact tAns_z hR.symm hF
theorem BI.set2 (h:BI w a n xs) (b i:Nat) (v:Value) (hb:xs= []\/∀ad,a=some ad->ad.block≠b):BI (w.setCell ⟨b,i,none⟩ v) a n xs:=by
 refine⟨?_,h.len,h.max⟩
 rcases h.at_ with h| ⟨b',off',rfl,hc⟩
 { exact .inl h }
 {
 rcases hb with hb|hb
 { exact .inl hb }
 {
 refine .inr ⟨_,_,rfl,fun k hk=> ?_⟩;rw [World.cell?_of_block (w:=w) (ki _ _ _ _ (hb _ rfl))];exact hc k hk } }
theorem BI.old (h:BI w a n xs):xs= []\/∀ad,a=some ad->ad.block<w.heap.size:=by
 rcases h.at_ with h| ⟨b',off',rfl,hc⟩
 { exact .inl h }
 {
 by_cases h0:xs= []
 { exact .inl h0 }
 {
 refine .inr fun ad e=> ?_
 cases e;exact zah (hc 0 (by cases xs with|nil=>exact absurd rfl h0|cons _ _=>simp)) } }
theorem BI.set {g off:Nat} (h:BI w (some ⟨g,off,none⟩) n xs) (b i:Nat) (v:Value) (hb:g≠b):BI (w.setCell ⟨b,i,none⟩ v) (some ⟨g,off,none⟩) n xs:=by
 refine⟨?_,h.len,h.max⟩
 rcases h.at_ with h| ⟨b',off',e,hc⟩
 { exact .inl h }
 {
 cases e;refine .inr ⟨_,_,rfl,fun k hk=> ?_⟩;rw [World.cell?_of_block (w:=w) (ki _ _ _ _ hb)];exact hc k hk }
theorem last1 (w:World) (o1 o2:Obj): ((w.alloc o1).alloc o2).heap[w.heap.size+1]?=some o2:=by
 have:=kP (w.alloc o1) o2
 rwa [KB] at this
theorem last2 (w:World) (o1 o2 o3:Obj): (((w.alloc o1).alloc o2).alloc o3).heap[w.heap.size+1+1]?=some o3:=by
 have:=kP ((w.alloc o1).alloc o2) o3
 rwa [KB,KB] at this
theorem last3 (w:World) (o1 o2 o3 o4:Obj): ((((w.alloc o1).alloc o2).alloc o3).alloc o4).heap[w.heap.size+1+1+1]?=some o4:=by
 have:=kP (((w.alloc o1).alloc o2).alloc o3) o4
 rwa [KB,KB,KB] at this
def bkO (a:oA) (n c:Nat):Obj:=.cells #[.slice a n c] 24 (0,0)
def trO (t:Tr) (a:oA) (n c:Nat):Obj:=.cells #[iV t.r.v,.slice a n c,iV t.r.t,iV t.ver] 32 (0,0)
def rtO (x:Rt) (a:oA) (n c:Nat):Obj:=.cells #[iV x.v,.slice a n c,iV x.t] 30 (0,0)
def tzO:Obj:=.cells #[iV 0,nV,iV 0,iV 0] 32 (0,0)
structure TB (W:World) (B:Nat) (o0 o1 o2 o3:Obj):Prop where
 b0:W.heap[B]?=some o0
 b1:W.heap[B+1]?=some o1
 b2:W.heap[B+1+1]?=some o2
 b3:W.heap[B+1+1+1]?=some o3
theorem TB.bl {W' :World} {o0 o1 o2 o3:Obj} (h:TB W B o0 o1 o2 o3) (hb:bZ W W'):TB W' B o0 o1 o2 o3:=
 ⟨zab h.b0 hb,zab h.b1 hb,zab h.b2 hb,zab h.b3 hb⟩
theorem rx0 (a b c d e f:Value) (W:World): (Instr.index 347 (.agg #[a,b,c,d,e,f]) (iV 0)).run Tryz.prog W=.ok (.agg #[a,b,c]) W:=by kernel_rfl
theorem rx1 (a b c d e f:Value) (W:World): (Instr.index 347 (.agg #[a,b,c,d,e,f]) (iV 1)).run Tryz.prog W=.ok (.agg #[d,e,f]) W:=by kernel_rfl
theorem turn_any (ab:oA) (nb cb:Nat) (ss:LB) (a1:oA) (n1 c1:Nat) (l:List S2) (t:Tr) (a2:oA) (n2 c2:Nat) (x:Rt) (a3:oA) (n3 c3:Nat) (a4:oA) (n4 c4:Nat) (sigs:LI) (w:World)
 (h0:BB w ab nb cb ss) (h1:BG w a1 n1 l) (h2:BI w a2 n2 t.r.ks) (h3:BI w a3 n3 x.ks) (h4:BI w a4 n4 sigs) (hT:Tab w):
 Cq 294 #[bookv ab nb cb,.slice a1 n1 c1,trv t.r.v a2 n2 c2 t.r.t t.ver,rv x.v a3 n3 c3 x.t,.slice a4 n4 c4] w fun e w' =>TAns w' e (turnT (turnE ss l t x sigs) t x) (turnE ss l t x sigs) (Frsh w.heap.size)/\bZ w w' :=by
 have hw0:bZ w ((((w.alloc (bkO ab nb cb)).alloc (trO t a2 n2 c2)).alloc (rtO x a3 n3 c3)).alloc tzO):=((bA2).alloc (by simp;omega) _).alloc (by simp;omega) _;have tb:Hd (TB ((((w.alloc (bkO ab nb cb)).alloc (trO t a2 n2 c2)).alloc (rtO x a3 n3 c3)).alloc tzO) w.heap.size (bkO ab nb cb) (trO t a2 n2 c2) (rtO x a3 n3 c3) tzO):=
  ⟨zai (zai (zai (kP _ _) _) _) _,zai (zai (last1 _ _ _) _) _,zai (last2 _ _ _ _) _,last3 _ _ _ _ _⟩
 have HA:=uH (fun W (hW:bZ w W)=>zee t a2 n2 c2 W (h2.bl hW));have HB:Hd (∀W,bZ w W->Cq 308 #[rv x.v a3 n3 c3 x.t] W fun e w' =>e=.returned (.tuple #[.string (bs (zd4 x.v x.ks x.t)),iV x.e])/\bZ W w'):=fun W hW=>znz x.v a3 n3 c3 x.t x.ks W (h3.bl hW).at_ h3.len h3.max (hT.bl hW)
 have HC:=uH (fun W s (hW:bZ w W)=>zjc ab nb cb ss s W (h0.bl hW).at_ h0.len h0.cap h0.max h0.short);have HD:=uH (fun W (r:Rt) a n c name (hW:bZ w W) (hr:BI W a n r.ks)=>zg8 a1 n1 c1 l r a n c a4 n4 c4 sigs name W (h1.bl hW) hr (h4.bl hW));have HT:=uH (fun W ver (hW:bZ w W) (hs:n3<=1000)=>zh7 x a3 n3 c3 ver W (h3.bl hW) hs);have H2:=uH (fun W (hW:bZ w W)=>h2.bl hW);have H3:=uH (fun W (hW:bZ w W)=>h3.bl hW);have L3:=uH h3.len;unfold trv at HA;unfold trv rv bookv;unfold rv at HB HD HT;unfold trv at HT;unfold bookv at HC;clear h0 h1 h2 h3 h4 hT;unfold bkO trO rtO tzO at hw0 tb;go_enter Tryz.func294,Tryz.ntmps294;go_wp2_with fail;generalize (((w.alloc (.cells #[.slice ab nb cb] 24)).alloc (.cells #[iV t.r.v,.slice a2 n2 c2,iV t.r.t,iV t.ver] 32)).alloc (.cells #[iV x.v,.slice a3 n3 c3,iV x.t] 30)).alloc (.cells #[iV 0,nV,iV 0,iV 0] 32)=W at *;refine(zae HA _ hw0).mono ?_;rintro e w1 ⟨rfl,hb⟩;replace tb:=uH (tb.o.bl hb);replace hw0:=bT hw0 hb;clear hb HA
 by_cases z1:trE t=0
 rotate_left
 {
 have HE:=uH (turnE_1 (ss:=ss) (l:=l) (x:=x) (sigs:=sigs) z1);have hq: (trE t !=0)=true:=by simpa using z1
 have ZN:=uH z1;clear HB HC HD HT H2 H3 z1;generalize trE t=q at *;have y0:=zaa tb.o.b3 0 _ rfl;have fy0:=zad tb.o.b3 0;have y1:=zaa tb.o.b3 1 _ rfl;have fy1:=zad tb.o.b3 1;have y2:=zaa tb.o.b3 2 _ rfl;have fy2:=zad tb.o.b3 2;have y3:=zaa tb.o.b3 3 _ rfl;have fy3:=zad tb.o.b3 3;go_wp2_with fail;refine kT (v:=.tuple #[.agg #[iV 0,nV,iV 0,iV 0],iV q]) (by simp [results,Tryz.results294,go_sem,y0,y1,y2,y3]) rfl ?_;exact⟨zbx HE.o ZN.o (za8 _),((((hw0).setCell (by simp;omega) _).setCell (by simp;omega) _).setCell (by simp;omega) _).setCell (by simp;omega) _⟩ }
 have Z1:=uH z1;have hv:=(zft (trE_ok z1).2).1;rw [z1];clear z1;have y0:=zaa tb.o.b2 0 _ rfl;have y1:=zaa tb.o.b2 1 _ rfl;have y2:=zaa tb.o.b2 2 _ rfl;go_wp2_with fail;refine(zae HB _ hw0).mono ?_;rintro e w2 ⟨rfl,hb⟩;replace tb:=uH (tb.o.bl hb);replace hw0:=bT hw0 hb;clear hb HB y0 y1 y2
 by_cases z2:x.e=0
 rotate_left
 {
 have HE:=uH (turnE_2 (ss:=ss) (l:=l) (sigs:=sigs) Z1.o z2);have hq: (x.e !=0)=true:=by simpa using z2
 have ZN:=uH z2;clear HC HD HT H2 H3 z2 hv;generalize x.e=q at *;generalize bs (zd4 x.v x.ks x.t)=sx at *;have y0:=zaa tb.o.b3 0 _ rfl;have fy0:=zad tb.o.b3 0;have y1:=zaa tb.o.b3 1 _ rfl;have fy1:=zad tb.o.b3 1;have y2:=zaa tb.o.b3 2 _ rfl;have fy2:=zad tb.o.b3 2;have y3:=zaa tb.o.b3 3 _ rfl;have fy3:=zad tb.o.b3 3;go_wp2_with fail;refine kT (v:=.tuple #[.agg #[iV 0,nV,iV 0,iV 0],iV q]) (by simp [results,Tryz.results294,go_sem,y0,y1,y2,y3]) rfl ?_;exact⟨zbx HE.o ZN.o (za8 _),((((hw0).setCell (by simp;omega) _).setCell (by simp;omega) _).setCell (by simp;omega) _).setCell (by simp;omega) _⟩ }
 have Z2:=uH z2;have hn3:n3<=1000:=by have:=(zft z2).2.1;have:=L3.o;omega
 rw [show zd4 x.v x.ks x.t=x.tx by unfold zd4;rw [KK (show rootE x.v x.ks x.t=0 from z2)];rfl,z2];clear z2;have y0:=zaa tb.o.b0 0 _ rfl;generalize hsx:bs x.tx=sx;replace hsx:=uH hsx;replace HC:=uH (fun W hW=>HC.o W sx hW);go_wp2_with fail;refine(zae HC _ hw0).mono ?_;rintro e w3 ⟨rfl,hb⟩;replace tb:=uH (tb.o.bl hb);replace hw0:=bT hw0 hb;clear hb HC y0
 by_cases z3:bookE ss=0
 rotate_left
 {
 have HE:=uH (turnE_3 (l:=l) (sigs:=sigs) Z1.o Z2.o z3);have hq: (bookE ss !=0)=true:=by simpa using z3
 have ZN:=uH z3;clear HD HT H2 H3 z3 hv;generalize bookE ss=q at *;generalize nameE ss sx=q2 at *;have y0:=zaa tb.o.b3 0 _ rfl;have fy0:=zad tb.o.b3 0;have y1:=zaa tb.o.b3 1 _ rfl;have fy1:=zad tb.o.b3 1;have y2:=zaa tb.o.b3 2 _ rfl;have fy2:=zad tb.o.b3 2;have y3:=zaa tb.o.b3 3 _ rfl;have fy3:=zad tb.o.b3 3;go_wp2_with fail;refine kT (v:=.tuple #[.agg #[iV 0,nV,iV 0,iV 0],iV q]) (by simp [results,Tryz.results294,go_sem,y0,y1,y2,y3]) rfl ?_;exact⟨zbx HE.o ZN.o (za8 _),((((hw0).setCell (by simp;omega) _).setCell (by simp;omega) _).setCell (by simp;omega) _).setCell (by simp;omega) _⟩ }
 have Z3:=uH z3;rw [show nameE ss sx= (nameN ss sx:Int) by unfold nameE;rw [KK z3],z3];clear z3;have hwr:IntKind.i64.wrap (t.r.v+1)=t.r.v+1:=by rw [kD];omega
 by_cases z4:x.v=t.r.v+1
 rotate_left
 {
 have HE:=uH (turnE_4 (l:=l) (sigs:=sigs) Z1.o Z2.o Z3.o z4);have hq: (x.v !=t.r.v+1)=true:=by simpa using z4
 have ZN:=uH (show(10:Int)≠0 by decide);clear HD HT H2 H3 z4 hv;generalize (nameN ss sx:Int)=q2 at *;have p0:=zaa tb.o.b1 0 _ rfl;have p1:=zaa tb.o.b2 0 _ rfl;have y0:=zaa tb.o.b3 0 _ rfl;have fy0:=zad tb.o.b3 0;have y1:=zaa tb.o.b3 1 _ rfl;have fy1:=zad tb.o.b3 1;have y2:=zaa tb.o.b3 2 _ rfl;have fy2:=zad tb.o.b3 2;have y3:=zaa tb.o.b3 3 _ rfl;have fy3:=zad tb.o.b3 3;go_wp2_with fail;refine kT (v:=.tuple #[.agg #[iV 0,nV,iV 0,iV 0],iV 10]) (by simp [results,Tryz.results294,go_sem,y0,y1,y2,y3]) rfl ?_;exact⟨zbx HE.o ZN.o (za8 _),((((hw0).setCell (by simp;omega) _).setCell (by simp;omega) _).setCell (by simp;omega) _).setCell (by simp;omega) _⟩ }
 have HE5:=uH (turnE_5 (l:=l) (sigs:=sigs) Z1.o Z2.o Z3.o z4);have HE6:=uH (turnE_6 (l:=l) (sigs:=sigs) Z1.o Z2.o Z3.o z4);have hq: (x.v !=t.r.v+1)=false:=by simpa using z4
 rw [hsx.o] at HE5 HE6;generalize (nameN ss sx:Int)=nm at *;clear z4 hv hsx;have p0:=zaa tb.o.b1 0 _ rfl;have p1:=zaa tb.o.b1 1 _ rfl;have p2:=zaa tb.o.b1 2 _ rfl;have y0:=zaa tb.o.b2 0 _ rfl;have y1:=zaa tb.o.b2 1 _ rfl;have y2:=zaa tb.o.b2 2 _ rfl;go_wp2_with fail;clear p0 p1 p2 y0 y1 y2
 go_loopw [56] (fun i wr=>∃k:Nat,k<=2/\i=iV k/\bZ w wr/\Hd (TB wr w.heap.size (bkO ab nb cb) (trO t a2 n2 c2) (rtO x a3 n3 c3) tzO)/\Hd ((1<=k->csE l t.r sigs nm=0)/\(2<=k->csE l x sigs nm=0))) (fun i _=>2 - (intOf i).toNat)
 case atStart=>exact⟨0,by decide,rfl,hw0,tb,⟨fun h=>by omega,fun h=>by omega⟩⟩
 case round=>
  clear tb hw0;obtain ⟨wq,rfl⟩: ∃wq:World,wq=wr:=⟨_,rfl⟩;obtain ⟨k,hk,rfl,hw0,tb,hcs⟩:=hrel;unfold bkO trO rtO tzO at tb;have hk' :k=0\/k=1\/k=2:=by omega
  rcases hk' with rfl|rfl|rfl
  {
  have hix:=fun W=>rx0 (iV t.r.v) (.slice a2 n2 c2) (iV t.r.t) (iV x.v) (.slice a3 n3 c3) (iV x.t) W
  have hw1:=hw0.alloc hw0.size (.cells #[iV t.r.v,.slice a2 n2 c2,iV t.r.t] 30);have tb1:=uH (tb.o.bl ((kS _ _).alloc (kQ _) (.cells #[iV t.r.v,.slice a2 n2 c2,iV t.r.t] 30)));have HDk:=uH (HD.o _ t.r a2 n2 c2 nm hw1 (H2.o _ hw1));go_wp2_with fail;refine(zae HDk).mono ?_;rintro e w5 ⟨rfl,hb⟩;replace tb1:=uH (tb1.o.bl hb);replace hw1:=bT hw1 hb;clear hb HDk
  by_cases z5:csE l t.r sigs nm=0
  {
  have Z5:=uH z5;rw [z5];clear z5;go_wp2_with fail
  go_roundw
  case rel=>exact⟨1,by decide,rfl,hw1,tb1.o,⟨fun _=>Z5.o,fun h=>by omega⟩⟩
  case measure=>simp [intOf] }
  {
  have HE:=uH (HE5.o z5);have hq: (csE l t.r sigs nm !=0)=true:=by simpa using z5
  have ZN:=uH z5;clear z5;generalize csE l t.r sigs nm=q at *;have y0:=zaa tb1.o.b3 0 _ rfl;have fy0:=zad tb1.o.b3 0;have y1:=zaa tb1.o.b3 1 _ rfl;have fy1:=zad tb1.o.b3 1;have y2:=zaa tb1.o.b3 2 _ rfl;have fy2:=zad tb1.o.b3 2;have y3:=zaa tb1.o.b3 3 _ rfl;have fy3:=zad tb1.o.b3 3;go_wp2_with fail;refine kT (v:=.tuple #[.agg #[iV 0,nV,iV 0,iV 0],iV q]) (by simp [results,Tryz.results294,go_sem,y0,y1,y2,y3]) rfl ?_;exact⟨zbx HE.o ZN.o (za8 _),((((hw1).setCell (by simp;omega) _).setCell (by simp;omega) _).setCell (by simp;omega) _).setCell (by simp;omega) _⟩ } }
  {
  have hix:=fun W=>rx1 (iV t.r.v) (.slice a2 n2 c2) (iV t.r.t) (iV x.v) (.slice a3 n3 c3) (iV x.t) W
  have hw1:=hw0.alloc hw0.size (.cells #[iV x.v,.slice a3 n3 c3,iV x.t] 30);have tb1:=uH (tb.o.bl ((kS _ _).alloc (kQ _) (.cells #[iV x.v,.slice a3 n3 c3,iV x.t] 30)));have HDk:=uH (HD.o _ x a3 n3 c3 nm hw1 (H3.o _ hw1));have HE:=uH (HE6.o (hcs.o.1 (by decide)));go_wp2_with fail;refine(zae HDk).mono ?_;rintro e w5 ⟨rfl,hb⟩;replace tb1:=uH (tb1.o.bl hb);replace hw1:=bT hw1 hb;clear hb HDk
  by_cases z5:csE l x sigs nm=0
  {
  have Z5:=uH z5;rw [z5];clear z5;go_wp2_with fail
  go_roundw
  case rel=>exact⟨2,by decide,rfl,hw1,tb1.o,⟨fun _=>hcs.o.1 (by decide),fun _=>Z5.o⟩⟩
  case measure=>simp [intOf] }
  {
  have hq: (csE l x sigs nm !=0)=true:=by simpa using z5
  have ZN:=uH z5;clear z5;generalize csE l x sigs nm=q at *;have y0:=zaa tb1.o.b3 0 _ rfl;have fy0:=zad tb1.o.b3 0;have y1:=zaa tb1.o.b3 1 _ rfl;have fy1:=zad tb1.o.b3 1;have y2:=zaa tb1.o.b3 2 _ rfl;have fy2:=zad tb1.o.b3 2;have y3:=zaa tb1.o.b3 3 _ rfl;have fy3:=zad tb1.o.b3 3;go_wp2_with fail;refine kT (v:=.tuple #[.agg #[iV 0,nV,iV 0,iV 0],iV q]) (by simp [results,Tryz.results294,go_sem,y0,y1,y2,y3]) rfl ?_;exact⟨zbx HE.o ZN.o (za8 _),((((hw1).setCell (by simp;omega) _).setCell (by simp;omega) _).setCell (by simp;omega) _).setCell (by simp;omega) _⟩ } }
  {
  have HE:=uH (show turnE ss l t x sigs=0 by rw [HE6.o (hcs.o.1 (by decide))];exact hcs.o.2 (by decide));have p0:=zaa tb.o.b2 0 _ rfl;have p1:=zaa tb.o.b2 1 _ rfl;have p2:=zaa tb.o.b2 2 _ rfl;have p3:=zaa tb.o.b1 3 _ rfl;go_wp2_with fail;refine(zae HT _ _ hw0 hn3).mono ?_;rintro e w5 ⟨rfl,hbi,hb⟩;have tb0:=tb;replace tb:=uH (tb.o.bl hb);clear p0 p1 p2 p3;have y0:=zaa tb.o.b3 0 _ rfl;have fy0:=zad tb.o.b3 0;have y1:=zaa tb.o.b3 1 _ rfl;have fy1:=zad tb.o.b3 1;have y2:=zaa tb.o.b3 2 _ rfl;have fy2:=zad tb.o.b3 2;have y3:=zaa tb.o.b3 3 _ rfl;have fy3:=zad tb.o.b3 3;go_wp2_with fail;refine kT (v:=.tuple #[.agg #[iV x.v,sV (wq.heap.size+2) n3 n3,iV x.t,iV t.ver],iV 0]) (by simp [results,Tryz.results294,go_sem,y0,y1,y2,y3]) rfl ?_;rw [HE.o];refine⟨⟨_,_,_,rfl, ?_,fun ad e=>by cases e;exact kc hw0.size (by simp)⟩,(((((bT hw0 hb)).setCell (by simp;omega) _).setCell (by simp;omega) _).setCell (by simp;omega) _).setCell (by simp;omega) _⟩;have hlt:=zak tb0.o.b3;exact(((hbi.set _ 0 _ (by omega)).set _ 1 _ (by omega)).set _ 2 _ (by omega)).set _ 3 _ (by omega) }
theorem zqp (hk:k<rs.length) (hk2:k<sgs.length) (h:turnE ss l t rs[k] sgs[k]≠0):zdf ss l t (rs.drop k) (sgs.drop k)=turnE ss l t rs[k] sgs[k]:=by
 rw [kq hk,kq hk2,zdf,KJ h]
theorem zpl (hk:k<rs.length) (hk2:k<sgs.length) (h:turnE ss l t rs[k] sgs[k]=0):zdf ss l t (rs.drop k) (sgs.drop k)=zdf ss l ⟨rs[k],t.ver⟩ (rs.drop (k+1)) (sgs.drop (k+1)):=by
 rw [kq hk,kq hk2,zdf,KK h]
theorem zri (hk:k<rs.length):lastR r (rs.drop k)=lastR rs[k] (rs.drop (k+1)):=by
 rw [kq hk,lastR]
structure TB3 (W:World) (B:Nat) (o0 o1 o2:Obj):Prop where
 b0:W.heap[B]?=some o0
 b1:W.heap[B+1]?=some o1
 b2:W.heap[B+1+1]?=some o2
theorem TB3.bl {W' :World} {o0 o1 o2:Obj} (h:TB3 W B o0 o1 o2) (hb:bZ W W'):TB3 W' B o0 o1 o2:=
 ⟨zab h.b0 hb,zab h.b1 hb,zab h.b2 hb⟩
def AInv (w:World) (ab:oA) (nb cb:Nat) (ss:LB) (l:List S2) (t:Tr) (a2:oA) (rs:List Rt) (sgs:LL) (k:Nat) (wr:World):Prop:=
 ∃(tr:Tr) (a:oA) (n c:Nat),bZ w wr/\Hd (TB3 wr w.heap.size (bkO ab nb cb) (trO tr a n c) tzO)/\BI wr a n tr.r.ks/\((a=a2/\k=0)\/Frsh (w.heap.size+3) a)/\Hd (tr.r.ks= []\/∀ad,a=some ad->ad.block≠w.heap.size+1/\ad.block≠w.heap.size+1+1)/\
  Hd (zdf ss l tr (rs.drop k) (sgs.drop k)=zdf ss l t rs sgs/\lastR tr.r (rs.drop k)=lastR t.r rs/\tr.ver=t.ver)
theorem zjh {b:Nat} {v0 v1 v2 v3 u0 u1 u2 u3:Value} {ty:TypeId} (h:W.heap[b]?=some (.cells #[v0,v1,v2,v3] ty (0,0))):
 ((((W.setCell ⟨b,0,none⟩ u0).setCell ⟨b,1,none⟩ u1).setCell ⟨b,2,none⟩ u2).setCell ⟨b,3,none⟩ u3).heap[b]?=some (.cells #[u0,u1,u2,u3] ty (0,0)):=by
 simp only [World.setCell,KP]
 simp [h]
theorem zfo {b g:Nat} {u0 u1 u2 u3:Value} {o:Obj} (h:W.heap[g]?=some o) (hg:g≠b):
 ((((W.setCell ⟨b,0,none⟩ u0).setCell ⟨b,1,none⟩ u1).setCell ⟨b,2,none⟩ u2).setCell ⟨b,3,none⟩ u3).heap[g]?=some o:=by
 rw [ki _ _ _ _ hg,ki _ _ _ _ hg,ki _ _ _ _ hg,ki _ _ _ _ hg];exact h
theorem allE_1 (h:6<rs.length):allE ss l t rs sgs=2:=by unfold allE;rw [KK h]
theorem allE_2 (h: ¬6<rs.length) (h2: ¬sgs.length=rs.length):allE ss l t rs sgs=2:=by unfold allE;rw [KJ h,KJ h2]
theorem allE_3 (h: ¬6<rs.length) (h2:sgs.length=rs.length):allE ss l t rs sgs=zdf ss l t rs sgs:=by unfold allE;rw [KJ h,KK h2]
theorem keepA {w1:World} {V bs_ os_:Nat} {ab:oA} {nb cb:Nat} {tr:Tr} {c:Nat} {ax:oA} {nx cx:Nat} {sv_:Value} (hb:bZ w1 W) (h:TB3 w1 B (bkO ab nb cb) (trO tr a n c) tzO) (hV:w1.heap[V]?=some (rtO x ax nx cx)) (hs:w1.cell? ⟨bs_,os_,none⟩=some sv_):
 W.cell? ⟨B,0,none⟩=some (.slice ab nb cb)/\W.cell? ⟨B+1,0,none⟩=some (iV tr.r.v)/\W.cell? ⟨B+1,1,none⟩=some (.slice a n c)/\W.cell? ⟨B+1,2,none⟩=some (iV tr.r.t)/\W.cell? ⟨B+1,3,none⟩=some (iV tr.ver)/\
 W.cell? ⟨V,0,none⟩=some (iV x.v)/\W.cell? ⟨V,1,none⟩=some (.slice ax nx cx)/\W.cell? ⟨V,2,none⟩=some (iV x.t)/\W.cell? ⟨bs_,os_,none⟩=some sv_/\bZ w1 W:=by
 have h' :=h.bl hb;have hV' :=zab hV hb;exact⟨zaa h'.b0 0 _ rfl,zaa h'.b1 0 _ rfl,zaa h'.b1 1 _ rfl,zaa h'.b1 2 _ rfl,zaa h'.b1 3 _ rfl,zaa hV' 0 _ rfl,zaa hV' 1 _ rfl,zaa hV' 2 _ rfl,by rw [hb.cell (zah hs)];exact hs,hb⟩
theorem zow (ab:oA) (nb cb:Nat) (ss:LB) (a1:oA) (n1 c1:Nat) (l:List S2) (t:Tr) (a2:oA) (n2 c2:Nat) (a3:oA) (n3 c3:Nat) (rs:List Rt) (a4:oA) (n4 c4:Nat) (sgs:LL) (w:World)
 (h0:BB w ab nb cb ss) (h1:BG w a1 n1 l) (h2:BI w a2 n2 t.r.ks) (h3:BR w a3 n3 rs) (h4:BL w a4 n4 sgs) (hT:Tab w):
 Cq 272 #[bookv ab nb cb,.slice a1 n1 c1,trv t.r.v a2 n2 c2 t.r.t t.ver,.slice a3 n3 c3,.slice a4 n4 c4] w fun e w' =>TAns w' e (turnT (allE ss l t rs sgs) t (lastR t.r rs)) (allE ss l t rs sgs) (fun a=>(a=a2/\rs= [])\/Frsh w.heap.size a)/\bZ w w' :=by
 have hw0:bZ w (((w.alloc (bkO ab nb cb)).alloc (trO t a2 n2 c2)).alloc tzO):=(bA2).alloc (by simp;omega) _;have tb:Hd (TB3 (((w.alloc (bkO ab nb cb)).alloc (trO t a2 n2 c2)).alloc tzO) w.heap.size (bkO ab nb cb) (trO t a2 n2 c2) tzO):=
  ⟨zai (zai (kP _ _) _) _,zai (last1 _ _ _) _,last2 _ _ _ _⟩
 have HTn:=uH (fun W (tr:Tr) a n c x ax nx cx ag ng cg sg (hW:bZ w W) (hi:BI W a n tr.r.ks) (hx:BI W ax nx x.ks) (hg:BI W ag ng sg)=>turn_any ab nb cb ss a1 n1 c1 l tr a n c x ax nx cx ag ng cg sg W (h0.bl hW) (h1.bl hW) hi hx hg (hT.bl hW));have L3:=uH h3.len;have L4:=uH h4.len;have m3:=h3.max;have m4:=h4.max;have H2:=uH (h2.bl hw0);have H2o:=uH h2.old;have H3:=uH h3.at_;have H4:=uH h4.at_;unfold trv rv bookv at HTn;unfold trv bookv;unfold maxLen at m3 m4;clear h0 h1 h2 h3 h4 hT
 by_cases z1:6<n3
 {
 have HE:=uH (allE_1 (ss:=ss) (l:=l) (t:=t) (sgs:=sgs) (rs:=rs) (by rw [L3.o];exact z1));unfold bkO trO tzO at hw0 tb;have ZN:=uH (show(2:Int)≠0 by decide);clear HTn H2;go_enter Tryz.func272,Tryz.ntmps272;go_wp2_with fail;refine kT (v:=.tuple #[.agg #[iV 0,nV,iV 0,iV 0],iV 2]) (by simp [results,Tryz.results272,go_sem]) rfl ?_;exact⟨zbx HE.o ZN.o (.inr (za8 _)),hw0⟩ }
 have d1:decide (6< (n3:Int))=false:=by simp;omega
 by_cases z2:n4=n3
 rotate_left
 {
 have HE:=uH (allE_2 (ss:=ss) (l:=l) (t:=t) (sgs:=sgs) (rs:=rs) (by rw [L3.o];exact z1) (by rw [L3.o,L4.o];exact z2));have d2: ((n4:Int) != (n3:Int))=true:=by simp;omega
 unfold bkO trO tzO at hw0 tb;have ZN:=uH (show(2:Int)≠0 by decide);clear HTn H2 z1 z2;go_enter Tryz.func272,Tryz.ntmps272;go_wp2_with fail;refine kT (v:=.tuple #[.agg #[iV 0,nV,iV 0,iV 0],iV 2]) (by simp [results,Tryz.results272,go_sem]) rfl ?_;exact⟨zbx HE.o ZN.o (.inr (za8 _)),hw0⟩ }
 have HE:=uH (allE_3 (ss:=ss) (l:=l) (t:=t) (sgs:=sgs) (rs:=rs) (by rw [L3.o];exact z1) (by rw [L3.o,L4.o];exact z2));have d2: ((n4:Int) != (n3:Int))=false:=by simp;omega
 have Z2:=uH z2;clear z2;have hsize:w.heap.size+1+1< (((w.alloc (bkO ab nb cb)).alloc (trO t a2 n2 c2)).alloc tzO).heap.size:=by simp
 unfold bkO trO tzO at hw0 tb H2 hsize;go_enter Tryz.func272,Tryz.ntmps272;go_wp2_with fail;generalize ((w.alloc (.cells #[.slice ab nb cb] 24)).alloc (.cells #[iV t.r.v,.slice a2 n2 c2,iV t.r.t,iV t.ver] 32)).alloc (.cells #[iV 0,nV,iV 0,iV 0] 32)=W at *
 go_loopw [29] (fun i wr=>∃k:Nat,k<=n3/\i=iV k/\AInv w ab nb cb ss l t a2 rs sgs k wr) (fun i _=>n3 - (intOf i).toNat)
 case atStart=>exact⟨0,KG _,rfl,t,a2,n2,c2,hw0,tb,H2.o,.inl ⟨rfl,rfl⟩,H2o.o.imp id (fun h ad e=>by have:=h ad e;omega),⟨rfl,rfl,rfl⟩⟩
 case round=>
  clear tb hw0 H2 hsize;obtain ⟨wq,rfl⟩: ∃wq:World,wq=wr:=⟨_,rfl⟩;obtain ⟨k,hk,rfl,tr,a,n,c,hw0,tb,hi,hfa,hne,hts⟩:=hrel
  by_cases hlt:k<n3
  {
  have hk3:k<rs.length:=by rw [L3.o];exact hlt
  have hk4:k<sgs.length:=by rw [L4.o,Z2.o];exact hlt
  have hlt4:k<n4:=by rw [Z2.o];exact hlt
  have i3:=H3.o.bl hw0;have i4:=H4.o.bl hw0
  rcases i3 with e| ⟨b3,o3,rfl,hc3⟩
  { rw [e] at hk3;simp at hk3 }
  rcases i4 with e| ⟨b4,o4,rfl,hc4⟩
  { rw [e] at hk4;simp at hk4 }
  obtain ⟨ax,cx,e0,e1,e2,hix,hlx,hcx⟩:=hc3 k rs[k] (kX hk3);obtain ⟨ag,cg,g0,hig,hlg,hcg⟩:=hc4 k sgs[k] (kX hk4);have bix:BI wq ax rs[k].ks.length rs[k].ks:=⟨hix,rfl,by omega⟩;have big:BI wq ag sgs[k].length sgs[k]:=⟨hig,rfl,by omega⟩;have HEb:=uH (zqp (ss:=ss) (l:=l) (t:=tr) hk3 hk4);have HEn:=uH (zpl (ss:=ss) (l:=l) (t:=tr) hk3 hk4);have HLn:=uH (zri (r:=tr.r) hk3);clear hc3 hc4 hix hig hlx hcx hlg hcg;generalize rs[k]=x at *;generalize sgs[k]=sg at *;obtain ⟨nx,hnx⟩: ∃nx,nx=x.ks.length:=⟨_,rfl⟩;obtain ⟨ng,hng⟩: ∃ng,ng=sg.length:=⟨_,rfl⟩;rw [<-hnx] at e1 bix;rw [<-hng] at g0 big;have lt0:=zak tb.o.b2;have hbP:bZ wq (wq.alloc (.cells #[iV x.v,.slice ax nx cx,iV x.t] 30)):=bA1;have bV:Hd ((wq.alloc (.cells #[iV x.v,.slice ax nx cx,iV x.t] 30)).heap[wq.heap.size]?=some (rtO x ax nx cx)):=kP wq (rtO x ax nx cx);have tbP:=uH (tb.o.bl hbP);have hwP:=bT hw0 hbP;have hiP:=hi.bl hbP;have bxP:=bix.bl hbP;have bgP:=big.bl hbP;have gP: (wq.alloc (.cells #[iV x.v,.slice ax nx cx,iV x.t] 30)).cell? ⟨b4,o4+k,none⟩=some (.slice ag ng cg):=by rw [hbP.cell (zah g0)];exact g0
  clear hnx hng;go_upto_region 6 with fail
  generalize wq.alloc (.cells #[iV x.v,.slice ax nx cx,iV x.t] 30)=wP at *;obtain ⟨V,hV⟩: ∃V,V=wq.heap.size:=⟨_,rfl⟩;rw [<-hV] at bV|-;clear e0 e1 e2 g0 hbP hi bix big tb hw0 hV;have HTk:=uH (fun W' (hW:bZ wP W')=>HTn.o W' tr a n c x ax nx cx ag ng cg sg (bT hwP hW) (hiP.bl hW) (bxP.bl hW) (bgP.bl hW));generalize turnE ss l tr x sg=R at *;obtain ⟨T5,hT5⟩: ∃T,T=turnT R tr x:=⟨_,rfl⟩;rw [<-hT5] at HTk;replace hT5:=uH hT5;unfold TAns trv at HTk
  go_cut [14,15] (fun v14 v15 wc=>∃G a5 n5 c5,v14=.pointer (some ⟨G,0,none⟩)/\v15=iV R/\Hd (wc.heap[G]?=some (trO T5 a5 n5 c5))/\BI wc a5 n5 T5.r.ks/\Frsh wP.heap.size a5/\bZ wP wc)
  case first=>
   refine km (S:=fun w' =>w'.cell? ⟨w.heap.size,0,none⟩=some (.slice ab nb cb)/\w'.cell? ⟨w.heap.size+1,0,none⟩=some (iV tr.r.v)/\w'.cell? ⟨w.heap.size+1,1,none⟩=some (.slice a n c)/\w'.cell? ⟨w.heap.size+1,2,none⟩=some (iV tr.r.t)/\w'.cell? ⟨w.heap.size+1,3,none⟩=some (iV tr.ver)/\w'.cell? ⟨V,0,none⟩=some (iV x.v)/\w'.cell? ⟨V,1,none⟩=some (.slice ax nx cx)/\w'.cell? ⟨V,2,none⟩=some (iV x.t)/\w'.cell? ⟨b4,o4+k,none⟩=some (.slice ag ng cg)/\bZ wP w') (by kernel_rfl) (keepA (kS _ _).drew tbP.o bV.o gP) ?_;intro hHeld;refine Htk 0 ?_
   refine Htk 1 ?_
   refine Htk 2 ?_
   refine Htk 3 ?_
   refine Htk 4 ?_
   refine Htk 5 ?_
   refine Htk 6 ?_
   refine Htk 7 ?_
   try simp only [sq]
   refine kZ (rs:= [8,12]) (by kernel_rfl) (by simp) ?_;refine kU (by rfl) (fun K hK=> ?_) (kU (by rfl) (fun K hK=> ?_) kW)
   {
   go_simp;have hB:=hHeld.2.2.2.2.2.2.2.2.2;refine(zae HTk _ hB).mono ?_;rintro e w5 ⟨⟨a5,n5,c5,rfl,hi5,hf5⟩,hb⟩;have hk5:=bT hB hb;go_wp2_with fail;refine hK.out _ _ (keepA hk5 tbP.o bV.o gP) (fun hHeld=> ?_);clear hK K
   refine Htk 9 ?_
   refine Htk 10 ?_
   refine Htk 11 ?_
   refine wr1 12 (fun K hK=> ?_);go_simp;refine hK.out _ _ (keepA (hk5.alloc hk5.size _) tbP.o bV.o gP) (fun hHeld=> ?_);clear hK K
   refine wr1 13 (fun K hK=> ?_);go_simp;refine hK.out _ _ (keepA (hk5.alloc hk5.size _) tbP.o bV.o gP) (fun hHeld=> ?_);clear hK K
   refine Htk 14 ?_
   try simp only [sq]
   refine KE (by kernel_rfl) ?_ _;go_wp2_with fail
   go_meet
   case rel=>exact⟨w5.heap.size,a5,n5,c5,rfl,rfl,kP _ (trO T5 a5 n5 c5),hi5.bl (bA1),hf5,hk5.alloc hk5.size _⟩ }
   {
   go_simp;refine hK.out _ _ (keepA ((kS _ _).drew.alloc (by simp) _) tbP.o bV.o gP) (fun hHeld=> ?_);clear hK K
   refine wr1 8 (fun K hK=> ?_);go_simp;have hB:=hHeld.2.2.2.2.2.2.2.2.2;refine(zae HTk _ hB).mono ?_;rintro e w5 ⟨⟨a5,n5,c5,rfl,hi5,hf5⟩,hb⟩;have bG:Hd (w5.heap[wP.heap.size]?=some tzO):=zab (kP wP.drew tzO) hb;have hk5:=bT hB hb;unfold tzO at bG;have y0:=zaa bG.o 0 _ rfl;have y1:=zaa bG.o 1 _ rfl;have y2:=zaa bG.o 2 _ rfl;have y3:=zaa bG.o 3 _ rfl;have f0:=zad bG.o 0;have f1:=zad bG.o 1;have f2:=zad bG.o 2;have f3:=zad bG.o 3;go_wp2_with fail;refine hK.out _ _ (keepA hk5 tbP.o bV.o gP) (fun hHeld=> ?_);clear hK K
   refine Htk 9 ?_
   refine Htk 10 ?_
   refine Htk 11 ?_
   refine wr1 13 (fun K hK=> ?_);go_simp;refine hK.out _ _ (keepA ((((hk5.setCell (p:=⟨wP.heap.size,0,none⟩) (kQ _) _).setCell (p:=⟨wP.heap.size,1,none⟩) (kQ _) _).setCell (p:=⟨wP.heap.size,2,none⟩) (kQ _) _).setCell (p:=⟨wP.heap.size,3,none⟩) (kQ _) _) tbP.o bV.o gP) (fun hHeld=> ?_);clear hK K
   refine Htk 14 ?_
   try simp only [sq]
   refine KE (by kernel_rfl) ?_ _;go_wp2_with fail
   go_meet
   case rel=>
    have hfar: ∀ad,a5=some ad->ad.block≠wP.heap.size:=fun ad e=>by have h: (wP.alloc tzO).heap.size<=ad.block:=hf5 ad e;rw [KB] at h;omega
    exact⟨wP.heap.size,a5,n5,c5,rfl,rfl,zjh bG.o,(((hi5.set2 _ 0 _ (.inr hfar)).set2 _ 1 _ (.inr hfar)).set2 _ 2 _ (.inr hfar)).set2 _ 3 _ (.inr hfar),fun ad e=>by have h: (wP.alloc tzO).heap.size<=ad.block:=hf5 ad e;rw [KB] at h;exact kc (Nat.le_succ _) h,(((hk5.setCell (p:=⟨wP.heap.size,0,none⟩) (kQ _) _).setCell (p:=⟨wP.heap.size,1,none⟩) (kQ _) _).setCell (p:=⟨wP.heap.size,2,none⟩) (kQ _) _).setCell (p:=⟨wP.heap.size,3,none⟩) (kQ _) _⟩ }
  case rest=>
   obtain ⟨G,a5,n5,c5,rfl,rfl,bG,hi5,hf5,hbc⟩:=hcut;have hP3:=zak tbP.o.b2;replace tbP:=uH (tbP.o.bl hbc);have hwC:=bT hwP hbc;unfold bkO trO tzO at tbP
   by_cases z5:R=0
   {
   have hT:=hT5.o;rw [z5] at hT;have hT' :T5= ⟨x,tr.ver⟩:=by rw [hT];rfl
   have HEN:=uH (HEn.o z5);subst hT';subst z5;unfold trO at bG;have q0:=zaa bG.o 0 _ rfl;have q1:=zaa bG.o 1 _ rfl;have q2:=zaa bG.o 2 _ rfl;have q3:=zaa bG.o 3 _ rfl;have y0:=zaa tbP.o.b1 0 _ rfl;have fy0:=zad tbP.o.b1 0;have y1:=zaa tbP.o.b1 1 _ rfl;have fy1:=zad tbP.o.b1 1;have y2:=zaa tbP.o.b1 2 _ rfl;have fy2:=zad tbP.o.b1 2;have y3:=zaa tbP.o.b1 3 _ rfl;have fy3:=zad tbP.o.b1 3;go_wp2_with fail
   go_roundw
   case rel=>
    have hfar: ∀ad,a5=some ad->ad.block≠w.heap.size+1:=fun ad e=>by have h:=hf5 ad e;omega
    refine⟨k+1,by omega,by go_num,⟨x,tr.ver⟩,a5,n5,c5, ?_,⟨zfo tbP.o.b0 (by omega),zjh tbP.o.b1,zfo tbP.o.b2 (by omega)⟩,(((hi5.set2 _ 0 _ (.inr hfar)).set2 _ 1 _ (.inr hfar)).set2 _ 2 _ (.inr hfar)).set2 _ 3 _ (.inr hfar),.inr (fun ad e=>by have h:=hf5 ad e;omega),.inr (fun ad e=>by have h:=hf5 ad e;omega), ?_⟩
    { exact((((hwC).setCell (by show w.heap.size<=w.heap.size+1;omega) _).setCell (by show w.heap.size<=w.heap.size+1;omega) _).setCell (by show w.heap.size<=w.heap.size+1;omega) _).setCell (by show w.heap.size<=w.heap.size+1;omega) _ }
    { exact⟨HEN.o.symm.trans hts.o.1,HLn.o.symm.trans hts.o.2.1,hts.o.2.2⟩ }
   case measure=>simp [intOf];omega }
   {
   have HEB:=uH (HE.o.trans (hts.o.1.symm.trans (HEb.o z5)));have ZN:=uH z5;have hq: (R !=0)=true:=by simpa using z5
   clear z5 HTk HTn HEn HEb;have y0:=zaa tbP.o.b2 0 _ rfl;have fy0:=zad tbP.o.b2 0;have y1:=zaa tbP.o.b2 1 _ rfl;have fy1:=zad tbP.o.b2 1;have y2:=zaa tbP.o.b2 2 _ rfl;have fy2:=zad tbP.o.b2 2;have y3:=zaa tbP.o.b2 3 _ rfl;have fy3:=zad tbP.o.b2 3;go_wp2_with fail;refine kT (v:=.tuple #[.agg #[iV 0,nV,iV 0,iV 0],iV R]) (by simp [results,Tryz.results272,go_sem,y0,y1,y2,y3]) rfl ?_;exact⟨zbx HEB.o ZN.o (.inr (za8 _)),((((hwC).setCell (by simp;omega) _).setCell (by simp;omega) _).setCell (by simp;omega) _).setCell (by simp;omega) _⟩ } }
  {
  have hkn:rs.length<=k:=by rw [L3.o];omega
  have HEB:Hd (allE ss l t rs sgs=0):=by
   show _=_
   rw [HE.o,<-hts.o.1,Kj hkn]
   simp [zdf]
  have hTT:Hd (turnT 0 t (lastR t.r rs)=tr):=by
   show _=_
   rw [<-hts.o.2.1,Kj hkn]
   show(⟨tr.r,t.ver⟩:Tr)=tr
   rw [<-hts.o.2.2]
  unfold bkO trO tzO at tb;have q0:=zaa tb.o.b1 0 _ rfl;have q1:=zaa tb.o.b1 1 _ rfl;have q2:=zaa tb.o.b1 2 _ rfl;have q3:=zaa tb.o.b1 3 _ rfl;have y0:=zaa tb.o.b2 0 _ rfl;have fy0:=zad tb.o.b2 0;have y1:=zaa tb.o.b2 1 _ rfl;have fy1:=zad tb.o.b2 1;have y2:=zaa tb.o.b2 2 _ rfl;have fy2:=zad tb.o.b2 2;have y3:=zaa tb.o.b2 3 _ rfl;have fy3:=zad tb.o.b2 3;go_wp2_with fail;refine kT (v:=.tuple #[.agg #[iV tr.r.v,.slice a n c,iV tr.r.t,iV tr.ver],iV 0]) (by simp [results,Tryz.results272,go_sem,y0,y1,y2,y3]) rfl ?_;rw [HEB.o,hTT.o];have hfar:tr.r.ks= []\/∀ad,a=some ad->ad.block≠w.heap.size+1+1:=hne.o.imp id (fun h ad e=>(h ad e).2);exact⟨⟨a,n,c,rfl,(((hi.set2 _ 0 _ hfar).set2 _ 1 _ hfar).set2 _ 2 _ hfar).set2 _ 3 _ hfar,hfa.imp (fun h=>⟨h.1,kn (by rw [h.2] at hkn;omega)⟩) (fun h ad e=>kc (by omega) (h ad e))⟩,((((hw0).setCell (by simp;omega) _).setCell (by simp;omega) _).setCell (by simp;omega) _).setCell (by simp;omega) _⟩ }
theorem zj1 (w:World) (b:Nat) (x:Int) (t:TypeId) (hb:b=w.heap.size):zag (w.alloc (.cells #[iV x] t)) (some ⟨b,0,none⟩) [x]:=
 zd2 w b [x] _ t hb rfl
theorem rel_I64 {v:Int} (h:relE v u ts=0): (∀x∈ [v],I64 x)/\(∀x∈ [u],I64 x)/\∀t∈ts,∀x∈ [t.1,t.2.1,t.2.2],I64 x:=by
 obtain ⟨h1,h2,h3⟩:=relE_IR h;refine⟨fun x hx=> ?_,fun x hx=> ?_,fun t ht x hx=> ?_⟩
 { simp at hx;subst hx;exact h1 }
 { simp at hx;subst hx;exact h2 }
 {
 obtain ⟨a,b,c⟩:=h3 t ht
 simp at hx
 rcases hx with rfl|rfl|rfl
 { exact a }
 { exact b }
 {
 exact c } }
def prt (v u:Int) (ts:List T3) (k:Nat):LB:=bs (headT v u)::(ts.take k).map (fun t=>bs (tgtT t))
theorem row_one {b:Nat} {s:ByteArray} (h:za4 w B [s]) (hb:b<=B):w.ownsRow b 9 1 (sV B 1 1) 1 (svals [s]):=
 ⟨rfl,.inr ⟨B,1,(svals [s]).toArray,rfl,hb,h,kQ _,by decide,by simp [svals],by simp [svals]⟩⟩
theorem prt_len {v:Int} (hn:ts.length=n) (hk:k<=n): (prt v u ts k).length=k+1:=by simp [prt];omega
theorem prt_all {v:Int} (hn:ts.length=n): (prt v u ts n).map (·.data.toList)=headT v u::ts.map tgtT:=by
 unfold prt;rw [kh (by omega)]
 simp [bs]
theorem prt_next {v:Int} (hk:k<ts.length):svals (prt v u ts (k+1))=svals (prt v u ts k)++ [.string (bs (wr [ts[k].1,ts[k].2.1,ts[k].2.2]))]:=by
 unfold prt svals;rw [kl hk,List.map_append,List.map_cons,List.map_append,List.map_cons,List.map_cons,List.map_nil,List.map_nil];rfl
theorem one_str (s:ByteArray): ∀u∈ [Value.string s],u.oneCell' =true:=by
 intro u hu;simp at hu;subst hu;rfl
theorem row_strs {b:Nat} (h:w.ownsRow b 9 1 v n (svals ss)) (hn:ss.length=n): ∃A C,v=.slice A n C/\n<=C/\za1 w A ss:=by
 obtain ⟨_,⟨rfl,rfl⟩| ⟨g,cap,cur,rfl,_,hg,hc,_,hs,ht⟩⟩:=h
 { exact⟨none,0,rfl,kQ _,.inl (by simpa using hn)⟩ }
 {
 refine⟨_,cap,rfl,hc,.inr ⟨g,0,rfl,fun i hi=> ?_⟩⟩;have hi2: (cur.toList.take (n * 1))[i]?=some (.string (ss.getD i ByteArray.empty)):=by rw [ht];simp [svals,hi]
 rw [List.getElem?_take,KK (by omega)] at hi2;rw [Kl];exact zaa hg i _ (by simpa using hi2) }
theorem headT_app {s t:ByteArray} (v u:Int) (h:s=bs relW) (h2:t=bs untW):s++bs (wr [v])++t++bs (wr [u])=bs (headT v u):=zn9 relW (wr [v]) untW (wr [u]) h h2
theorem zfx (v u:Int) (a:oA) (n c:Nat) (ts:List T3) (w:World) (h:zbm w a ts) (hn:ts.length=n) (hm:n<=maxLen) (hT:Tab w):
 Cq 104 #[relv v u a n c] w fun e w' =>e=.returned (.tuple #[.string (bs (relTx v u ts)),iV (relE v u ts)])/\bZ w w' :=by
 have hw0:bZ w (w.alloc (.cells #[iV v,iV u,.slice a n c] 45)):=bA1;have b0:=uH (kP w (.cells #[iV v,iV u,.slice a n c] 45));have i0:=h.bl hw0;have t0:=hT.bl hw0;have HC:=uH (fun W (hW:zbm W a ts)=>zff v u a n c ts W hW hn hm);unfold relv at HC|-
 by_cases h0:relE v u ts=0
 {
 have HX:=uH (show relTx v u ts=relT v u ts by unfold relTx;rw [KK h0]);obtain ⟨k1,k2,k3⟩:=rel_I64 h0;have hl:n<=4:=by have:=(zk4 h0).2.2.1;omega
 have HW:=uH (fun W B x (kx: ∀y∈ [x],I64 y) (hW:zag W (some ⟨B,0,none⟩) [x]) (hTW:Tab W)=>zdp (some ⟨B,0,none⟩) 1 1 [x] W hW rfl kx (by omega) hTW);have l1:=uH (zeh k1 (by simp));have l2:=uH (zeh k2 (by simp));have K1:=uH k1;have K2:=uH k2;have K3:=uH k3;have H0:=uH h0;rw [h0] at HC;rw [h0];have hadd1: ¬9223372036854775807<8+(bs (wr [v])).size:=by rw [zdk];have:=l1.o;omega
 have hadd2: ¬9223372036854775807<8+(bs (wr [v])).size+7:=by rw [zdk];have:=l1.o;omega
 have hadd3: ¬9223372036854775807<8+(bs (wr [v])).size+7+(bs (wr [u])).size:=by rw [zdk,zdk];have:=l1.o;have:=l2.o;omega
 have HN:=uH hn;clear hn k1 k2 k3 h0;go_enter Tryz.func104,Tryz.ntmps104;go_wp2_with fail;generalize w.alloc (.cells #[iV v,iV u,.slice a n c] 45)=W at *;refine(zae HC _ i0).mono ?_;rintro e w1 ⟨rfl,hb1⟩;replace b0:=uH (zab b0.o hb1);replace i0:=i0.bl hb1;replace t0:=t0.bl hb1;replace hw0:=bT hw0 hb1;clear hb1;replace HW:=uH (fun W B x (hW:bZ w1 W) kx (hi:zag W (some ⟨B,0,none⟩) [x])=>(HW.o W B x kx hi (t0.bl hW)).mono fun _ _ h=>(⟨h.1,h.2,(bT hW h.2)⟩:_/\bZ W _/\bZ w1 _));go_upto_region 4 with fail
 go_cut [5] (fun v5 wx=>∃B,v5=sV B 1 1/\w1.heap.size<=B/\Hd (za4 wx B [bs (headT v u)])/\bZ w1 wx)
 case first=>
  have hb5:True:=trivial
  go_region_held3 (fun w' =>ce w' w.heap.size 0=some (iV v)/\ce w' w.heap.size 1=some (iV u)/\ce w' w.heap.size 2=some (.slice a n c)/\bZ w1 w')
   (first| (refine keep3 ?_ b0.o;(repeat(first|with_reducible assumption|with_reducible exact kS _ _|with_reducible refine kE ?_|with_reducible refine zaf ?_ _));done))
   ((first
    | (go_at_call 168;refine(zae HW _ _ v ?_ K1.o ?_).mono ?_;(focus((repeat(first|with_reducible assumption|with_reducible exact kS _ _|with_reducible refine kE ?_|with_reducible refine zaf ?_ _));done));(focus((repeat(first|with_reducible refine zf6 ?_| (with_reducible refine zj1 _ _ v _ ?_;(first|with_reducible rfl| (simp;done)))|with_reducible refine zag.alloc ?_ _|with_reducible refine zag.bl ?_ hb5));done));rintro e w5 ⟨rfl,hb5,hk5⟩)
    | (go_at_call 168;refine(zae HW _ _ u ?_ K2.o ?_).mono ?_;(focus((repeat(first|with_reducible assumption|with_reducible exact kS _ _|with_reducible refine kE ?_|with_reducible refine zaf ?_ _));done));(focus((repeat(first|with_reducible refine zf6 ?_| (with_reducible refine zj1 _ _ u _ ?_;(first|with_reducible rfl| (simp;done)))|with_reducible refine zag.alloc ?_ _|with_reducible refine zag.bl ?_ hb5));done));rintro e w5 ⟨rfl,hb5,hk5⟩)))
  all_goals
   go_wp2_with fail
   go_meet
   case rel=>
    refine⟨_,rfl,hk5.size, ?_,zaf hk5 _⟩
    show za4 _ _ _
    rw [<-headT_app v u rfl rfl];exact kP _ _
 case rest=>
 obtain ⟨B,rfl,hB,ho,hwc⟩:=hcut;have hB0:w.heap.size<=B:=kc hw0.size hB;replace b0:=uH (zab b0.o hwc);replace i0:=i0.bl hwc;replace t0:=t0.bl hwc;replace hw0:=bT hw0 hwc;have x2:=zaa b0.o 2 _ rfl;clear hwc hB HW hadd1 hadd2 hadd3 l1 l2 K1 K2;have hr0:=row_one ho.o hB0;clear ho;have HJ:=uH (fun W A C (hW:za1 W A (prt v u ts n)) (hC:n+1<=C)=>zot A (n+1) C (prt v u ts n) [59,32] W hW (prt_len HN.o (kQ _)) hC (by omega) (by rw [prt_all HN.o];have:=relT_len H0.o;unfold relT at this;exact kc this (by decide)));rw [prt_all HN.o] at HJ;obtain ⟨ii,hii,iz0,iz1,iz2⟩:=info_parts zna;have hr1:Hd (wc.ownsRow w.heap.size 9 1 (sV B 1 1) (0+1) (svals (prt v u ts 0))):=hr0;clear hr0;go_wp2_with fail
 go_loopw [5,29] (fun p i wq=>∃k:Nat,k<=n/\i=iV k/\bZ w wq/\Hd (wq.ownsRow w.heap.size 9 1 p (k+1) (svals (prt v u ts k)))) (fun _ i _=>n - (intOf i).toNat)
 case atStart=>exact⟨0,KG _,rfl,hw0,hr1⟩
 case round=>
  rename_i p5
  clear hr1 x2 b0 i0 t0 hw0;obtain ⟨wq,rfl⟩: ∃wq:World,wq=wr:=⟨_,rfl⟩;obtain ⟨k,hk,rfl,hw,hr⟩:=hrel
  by_cases hlt:k<n
  {
  have i1:=h.bl hw
  rcases i1 with rfl| ⟨bb,oo,rfl,hc0⟩
  {
  have:=HN.o
  simp at this
  omega }
  have hkx:k<ts.length:=by rw [HN.o];exact hlt
  obtain ⟨e0,e1,e2⟩:=hc0 k ts[k] (kX hkx);have hk3:=K3.o ts[k] (KH hkx);have HP:=uH (prt_next (v:=v) (u:=u) hkx);clear hc0;generalize ts[k]=tk at *;have HR:=uH (fun W=>zl6 tk W);unfold tv at HR;have HW:=uH (fun W B (hW:zag W (some ⟨B,0,none⟩) [tk.1,tk.2.1,tk.2.2]) (hTW:Tab W)=>zdp (some ⟨B,0,none⟩) 3 3 [tk.1,tk.2.1,tk.2.2] W hW rfl hk3 (by omega) hTW);have hwA:=hw.alloc hw.size (.cells #[iV tk.1,iV tk.2.1,iV tk.2.2] 163);have hrA:=hr.o.alloc (.cells #[iV tk.1,iV tk.2.1,iV tk.2.2] 163);go_wp2_with fail;generalize wq.alloc (.cells #[iV tk.1,iV tk.2.1,iV tk.2.2] 163)=wA at *;refine(zae HR _).mono ?_;rintro e w2 ⟨rfl,hb2⟩;replace hwA:=bT hwA hb2;replace hrA:=uH (zba hrA hb2);clear hb2;have hwB:=hwA.alloc hwA.size (.cells #[iV tk.1,iV tk.2.1,iV tk.2.2] 226);have hrB:=hrA.o.alloc (.cells #[iV tk.1,iV tk.2.1,iV tk.2.2] 226);have iB:zag (w2.alloc (.cells #[iV tk.1,iV tk.2.1,iV tk.2.2] 226)) (some ⟨w2.heap.size,0,none⟩) [tk.1,tk.2.1,tk.2.2]:=zd2 _ _ _ _ _ rfl rfl;go_wp2_with fail;generalize w2.alloc (.cells #[iV tk.1,iV tk.2.1,iV tk.2.2] 226)=wB at *;refine(zae HW _ _ iB (hT.bl hwB)).mono ?_;rintro e w3 ⟨rfl,hb3⟩;replace hwB:=bT hwB hb3;replace hrB:=zba hrB hb3;have hrC:=hrB.alloc (.cells #[.string (bs (wr [tk.1,tk.2.1,tk.2.2]))] 9);clear hb3
  go_wp2_with (at_builtin;refine wpList_append_lies _ rfl _ _ 22 rfl w.heap.size 9 ii _ 1 16 Tryz.underlying22 hii iz0 iz1 iz2 rfl (by omega) _ (k+1) _ rfl hrC ⟨w3.heap.size,0,none⟩ 1 1 [.string (bs (wr [tk.1,tk.2.1,tk.2.2]))] rfl rfl (zg5 _ _ _) (one_str _) (by omega) (by unfold maxLen;omega) (by omega) (by have:=hwB.size;simp;omega) (w3.heap.size+1) (by simp) ?_;intro g cap w4 hown4 hgr4 _ _)
  have hw4:bZ w w4:=(hwB.alloc hwB.size _).grown hgr4 (by have:=hwB.size;simp;omega) (zc5 hrC);go_wp2_with fail
  go_roundw
  case rel=>
   refine⟨k+1,by omega,by go_num,hw4, ?_⟩
   show World.ownsRow _ _ _ _ _ _ _
   rw [HP.o];exact hown4
  case measure=>simp [intOf];omega }
  {
  have hkn:k=n:=by omega
  subst hkn;obtain ⟨A,C,rfl,hC,hiS⟩:=row_strs hr.o (prt_len HN.o (kQ _));go_wp2_with fail;refine(zae HJ _ _ _ hiS hC).mono ?_;rintro e w5 ⟨rfl,hb5⟩;go_wp2_with fail;go_ret2;rw [HX.o];exact⟨rfl,(bT hw hb5)⟩ } }
 {
 have hb: (relE v u ts !=0)=true:=by simpa using h0
 have HX:=uH (show relTx v u ts= [] by unfold relTx;rw [KJ h0]);clear hn h0;generalize relE v u ts=q at *;go_enter Tryz.func104,Tryz.ntmps104;go_wp2_with fail;generalize w.alloc (.cells #[iV v,iV u,.slice a n c] 45)=W at *;refine(zae HC _ i0).mono ?_;rintro e w1 ⟨rfl,hb1⟩;replace hw0:=bT hw0 hb1;go_wp2_with fail;go_ret2;rw [HX.o];exact⟨rfl,hw0⟩ }
theorem crE_1 {v:Int} (h:relE v u ts≠0):crE ss l r v u ts sigs=relE v u ts:=by unfold crE;rw [KJ h]
theorem crE_2 {v:Int} (h:relE v u ts=0) (h2:bookE ss≠0):crE ss l r v u ts sigs=bookE ss:=by unfold crE;rw [KK h,KJ h2]
theorem crE_3 {v:Int} (h:relE v u ts=0) (h2:bookE ss=0):crE ss l r v u ts sigs=csE l r sigs (nameN ss (bs (relT v u ts))):=by unfold crE;rw [KK h,KK h2]
theorem zij (ab:oA) (nb cb:Nat) (ss:LB) (a1:oA) (n1 c1:Nat) (l:List S2) (r:Rt) (a2:oA) (n2 c2:Nat) (v u:Int) (a3:oA) (n3 c3:Nat) (ts:List T3) (a4:oA) (n4 c4:Nat) (sigs:LI) (w:World)
 (h0:BB w ab nb cb ss) (h1:BG w a1 n1 l) (h2:BI w a2 n2 r.ks) (h3:BT w a3 n3 ts) (h4:BI w a4 n4 sigs) (hT:Tab w):
 Cq 273 #[bookv ab nb cb,.slice a1 n1 c1,rv r.v a2 n2 c2 r.t,relv v u a3 n3 c3,.slice a4 n4 c4] w fun e w' =>e=.returned (iV (crE ss l r v u ts sigs))/\bZ w w' :=by
 have hw0:bZ w (((w.alloc (.cells #[.slice ab nb cb] 24)).alloc (.cells #[iV r.v,.slice a2 n2 c2,iV r.t] 30)).alloc (.cells #[iV v,iV u,.slice a3 n3 c3] 45)):=(bA2).alloc (by simp;omega) _;have b0:=uH (zai (zai (kP w (.cells #[.slice ab nb cb] 24)) (.cells #[iV r.v,.slice a2 n2 c2,iV r.t] 30)) (.cells #[iV v,iV u,.slice a3 n3 c3] 45));have b1:=kP (w.alloc (.cells #[.slice ab nb cb] 24)) (.cells #[iV r.v,.slice a2 n2 c2,iV r.t] 30);rw [KB] at b1;replace b1:=uH (zai b1 (.cells #[iV v,iV u,.slice a3 n3 c3] 45));have HB:=uH (fun W (hW:bZ w W)=>zfx v u a3 n3 c3 ts W (h3.bl hW).at_ h3.len h3.max (hT.bl hW));have HC:=uH (fun W s (hW:bZ w W)=>zjc ab nb cb ss s W (h0.bl hW).at_ h0.len h0.cap h0.max h0.short);have HD:=uH (fun W name (hW:bZ w W)=>zg8 a1 n1 c1 l r a2 n2 c2 a4 n4 c4 sigs name W (h1.bl hW) (h2.bl hW) (h4.bl hW));unfold rv at HD|-;unfold relv at HB|-;unfold bookv at HC|-;clear h0 h1 h2 h3 h4 hT;go_enter Tryz.func273,Tryz.ntmps273;go_wp2_with fail;generalize ((w.alloc (.cells #[.slice ab nb cb] 24)).alloc (.cells #[iV r.v,.slice a2 n2 c2,iV r.t] 30)).alloc (.cells #[iV v,iV u,.slice a3 n3 c3] 45)=W at *;refine(zae HB _ hw0).mono ?_;rintro e w1 ⟨rfl,hb⟩;replace b0:=uH (zab b0.o hb);replace b1:=uH (zab b1.o hb);replace hw0:=bT hw0 hb;clear hb HB
 by_cases z1:relE v u ts=0
 rotate_left
 {
 have HE:=uH (crE_1 (ss:=ss) (l:=l) (r:=r) (sigs:=sigs) z1);have hq: (relE v u ts !=0)=true:=by simpa using z1
 clear z1 HC HD;generalize relE v u ts=q at *;generalize bs (relTx v u ts)=sx at *;go_wp2_with fail;go_ret;exact⟨zap HE.o.symm,hw0⟩ }
 rw [show relTx v u ts=relT v u ts by unfold relTx;rw [KK z1],z1];have Z1:=uH z1;clear z1;have x0:=zaa b0.o 0 _ rfl;generalize hsx:bs (relT v u ts)=sx;replace hsx:=uH hsx;replace HC:=uH (fun W hW=>HC.o W sx hW);go_wp2_with fail;refine(zae HC _ hw0).mono ?_;rintro e w2 ⟨rfl,hb⟩;replace b1:=uH (zab b1.o hb);replace hw0:=bT hw0 hb;clear hb HC x0
 by_cases z2:bookE ss=0
 rotate_left
 {
 have HE:=uH (crE_2 (l:=l) (r:=r) (sigs:=sigs) Z1.o z2);have hq: (bookE ss !=0)=true:=by simpa using z2
 clear z2 HD;generalize bookE ss=q at *;generalize nameE ss sx=q2 at *;go_wp2_with fail;go_ret;exact⟨zap HE.o.symm,hw0⟩ }
 have HE:=uH (crE_3 (l:=l) (r:=r) (sigs:=sigs) Z1.o z2);rw [show nameE ss sx= (nameN ss sx:Int) by unfold nameE;rw [KK z2],z2];rw [hsx.o] at HE;clear z2;generalize (nameN ss sx:Int)=nm at *;have x0:=zaa b1.o 0 _ rfl;have x1:=zaa b1.o 1 _ rfl;have x2:=zaa b1.o 2 _ rfl;go_wp2_with fail;refine(zae HD _ _ hw0).mono ?_;rintro e w3 ⟨rfl,hb⟩;go_wp2_with fail;go_ret;exact⟨zap HE.o.symm,(bT hw0 hb)⟩
theorem meant_bad {ws:LL} (hk:k<ts.length) (hk2:k<ws.length) (h:zcx ss ts[k] ws[k]=false):zb2 ss (ts.drop k) (ws.drop k)=false:=by
 rw [kq hk,kq hk2,zb2,h];rfl
theorem zrj {ws:LL} (hk:k<ts.length) (hk2:k<ws.length) (h:zcx ss ts[k] ws[k]=true):zb2 ss (ts.drop k) (ws.drop k)=zb2 ss (ts.drop (k+1)) (ws.drop (k+1)):=by
 rw [kq hk,kq hk2,zb2,h];rfl
theorem meant1_1 {t:T3} {w:LI} (h:inE ss w≠0):zcx ss t w=false:=by unfold zcx;simp [h]
theorem meant1_2 {t:T3} {w:LI} (h: ¬inN ss w=t.2.1):zcx ss t w=false:=by unfold zcx;simp [h]
theorem meant1_3 {t:T3} {w:LI} (h: ¬(w.length:Int)=t.2.2):zcx ss t w=false:=by unfold zcx;simp [h]
theorem meant1_0 {t:T3} {w:LI} (h:inE ss w=0) (h2:inN ss w=t.2.1) (h3: (w.length:Int)=t.2.2):zcx ss t w=true:=by unfold zcx;simp [h,h2,h3]
theorem keepM {w1:World} {bs_ os_:Nat} {v0 v1:Value} {ty:TypeId} (hb:bZ w1 W) (h:w1.heap[B]?=some (.cells #[v0] ty (0,0))) (hs:w1.cell? ⟨bs_,os_,none⟩=some v1):W.cell? ⟨B,0,none⟩=some v0/\W.cell? ⟨bs_,os_,none⟩=some v1/\bZ w1 W:=
 ⟨zaa (zab h hb) 0 _ rfl,by rw [hb.cell (zah hs)];exact hs,hb⟩
theorem znx (ab:oA) (nb cb:Nat) (ss:LB) (a1:oA) (n1 c1:Nat) (ts:List T3) (a2:oA) (n2 c2:Nat) (ws:LL) (w:World)
 (h0:BB w ab nb cb ss) (h1:BT w a1 n1 ts) (h2:BL w a2 n2 ws) (hn:n1=n2) (hT:Tab w):
 Cq 274 #[bookv ab nb cb,.slice a1 n1 c1,.slice a2 n2 c2] w fun e w' =>e=.returned (.bool (zb2 ss ts ws))/\bZ w w' :=by
 have hw0:bZ w (w.alloc (.cells #[.slice ab nb cb] 24)):=bA1;have b0:=uH (kP w (.cells #[.slice ab nb cb] 24));have HI:=uH (fun W a n c xs (hW:bZ w W) (hi:BI W a n xs)=>zew ab nb cb ss a n c xs W (h0.bl hW).at_ h0.len h0.cap h0.max h0.short hi.at_ hi.len hi.max (hT.bl hW));have L1:=uH h1.len;have L2:=uH h2.len;have m1:=h1.max;have m2:=h2.max;have H1:=uH h1.at_;have H2:=uH h2.at_;have HNn:=uH hn;unfold maxLen at m1 m2;unfold bookv at HI|-;clear h0 h1 h2 hT hn;go_enter Tryz.func274,Tryz.ntmps274;go_wp2_with fail;generalize w.alloc (.cells #[.slice ab nb cb] 24)=W at *
 go_loopw [13] (fun i wr=>∃k:Nat,k<=n1/\i=iV k/\bZ w wr/\Hd (wr.heap[w.heap.size]?=some (.cells #[.slice ab nb cb] 24 (0,0)))/\Hd (zb2 ss (ts.drop k) (ws.drop k)=zb2 ss ts ws)) (fun i _=>n1 - (intOf i).toNat)
 case atStart=>exact⟨0,KG _,rfl,hw0,b0,rfl⟩
 case round=>
  clear b0 hw0;obtain ⟨wq,rfl⟩: ∃wq:World,wq=wr:=⟨_,rfl⟩;obtain ⟨k,hk,rfl,hw0,b0,hts⟩:=hrel
  by_cases hlt:k<n1
  {
  have hk1:k<ts.length:=by rw [L1.o];exact hlt
  have hk2:k<ws.length:=by rw [L2.o,<-HNn.o];exact hlt
  have hlt2:k<n2:=by rw [<-HNn.o];exact hlt
  have i1:=H1.o.bl hw0;have i2:=H2.o.bl hw0
  rcases i1 with e| ⟨b3,o3,rfl,hc3⟩
  { rw [e] at hk1;simp at hk1 }
  rcases i2 with e| ⟨b4,o4,rfl,hc4⟩
  { rw [e] at hk2;simp at hk2 }
  obtain ⟨e0,e1,e2⟩:=hc3 k ts[k] (kX hk1);obtain ⟨ag,cg,g0,hig,hlg,hcg⟩:=hc4 k ws[k] (kX hk2);have big:BI wq ag ws[k].length ws[k]:=⟨hig,rfl,by omega⟩;have HMb:=uH (meant_bad (ss:=ss) hk1 hk2);have HMn:=uH (zrj (ss:=ss) hk1 hk2);clear hc3 hc4 hig hlg hcg;generalize ts[k]=tk at *;generalize ws[k]=wk at *;obtain ⟨ng,hng⟩: ∃ng,ng=wk.length:=⟨_,rfl⟩;rw [<-hng] at g0 big;have hbP:bZ wq (wq.alloc (.cells #[iV tk.1,iV tk.2.1,iV tk.2.2] 163)):=bA1;have bV:=uH (kP wq (.cells #[iV tk.1,iV tk.2.1,iV tk.2.2] 163));have b0P:=uH (zab b0.o hbP);have hwP:=bT hw0 hbP;have bgP:=big.bl hbP;have gP: (wq.alloc (.cells #[iV tk.1,iV tk.2.1,iV tk.2.2] 163)).cell? ⟨b4,o4+k,none⟩=some (.slice ag ng cg):=by rw [hbP.cell (zah g0)];exact g0
  replace hng:=uH hng;go_upto_region 4 with fail
  generalize wq.alloc (.cells #[iV tk.1,iV tk.2.1,iV tk.2.2] 163)=wP at *;obtain ⟨V,hV⟩: ∃V,V=wq.heap.size:=⟨_,rfl⟩;rw [<-hV] at bV|-;clear e0 e1 e2 g0 hbP big b0 hw0 hV;have HIk:=uH (fun W' (hW:bZ wP W')=>HI.o W' ag ng cg wk (bT hwP hW) (bgP.bl hW));have Q1:=uH (meant1_1 (ss:=ss) (t:=tk) (w:=wk));have Q2:=uH (meant1_2 (ss:=ss) (t:=tk) (w:=wk));have Q3:=uH (meant1_3 (ss:=ss) (t:=tk) (w:=wk));have Q0:=uH (meant1_0 (ss:=ss) (t:=tk) (w:=wk));rw [<-hng.o] at Q3 Q0;generalize inE ss wk=qe at *;generalize inN ss wk=qn at *;refine km (S:=fun w' =>w'.cell? ⟨w.heap.size,0,none⟩=some (.slice ab nb cb)/\w'.cell? ⟨b4,o4+k,none⟩=some (.slice ag ng cg)/\bZ wP w') (by kernel_rfl) (keepM (kS _ _).drew b0P.o gP) ?_;intro hHeld;refine Htk 0 ?_
  refine Htk 1 ?_
  refine Htk 2 ?_
  refine Htk 3 ?_
  refine Htk 4 ?_
  refine wr1 5 (fun K hK=> ?_);go_simp;have hB:=hHeld.2.2;refine(zae HIk _ hB).mono ?_;rintro e w5 ⟨rfl,hb⟩;have hk5:=bT hB hb;go_wp2_with fail;refine hK.out _ _ (keepM hk5 b0P.o gP) (fun hHeld=> ?_);clear hK K hB
  refine Htk 6 ?_
  refine Htk 7 ?_
  refine Htk 8 ?_
  refine Htk 9 ?_
  refine Htk 10 ?_
  try simp only [sq]
  refine KE (by kernel_rfl) ?_ _;have hw5:=bT hwP hk5;have b05:=uH (zab b0P.o hk5);have bV5:=uH (zab bV.o hk5);have g5:w5.cell? ⟨b4,o4+k,none⟩=some (.slice ag ng cg):=by rw [hk5.cell (zah gP)];exact gP
  have x1:=zaa bV5.o 1 _ rfl;have x2:=zaa bV5.o 2 _ rfl;clear hk5 hb gP bgP HIk hwP b0P bV
  by_cases z1:qe=0
  rotate_left
  {
  have HE:=uH (hts.o.symm.trans (HMb.o (Q1.o z1)));have d1: (qe !=0)=true:=by simpa using z1
  clear z1;go_wp2_with fail;go_quiet (fail);go_wp2_with fail;go_ret;exact⟨zan HE.o.symm,kA hw5 _⟩ }
  have d1: (qe !=0)=false:=by simpa using z1
  by_cases z2:qn=tk.2.1
  rotate_left
  {
  have HE:=uH (hts.o.symm.trans (HMb.o (Q2.o z2)));have d2: (qn !=tk.2.1)=true:=by simpa using z2
  clear z1 z2;go_wp2_with fail;go_quiet (fail);go_wp2_with fail;go_ret;exact⟨zan HE.o.symm,kA hw5 _⟩ }
  have d2: (qn !=tk.2.1)=false:=by simpa using z2
  by_cases z3: (ng:Int)=tk.2.2
  rotate_left
  {
  have HE:=uH (hts.o.symm.trans (HMb.o (Q3.o z3)));have d3: ((ng:Int) !=tk.2.2)=true:=by simpa using z3
  clear z1 z2 z3;go_wp2_with fail;go_quiet (fail);go_wp2_with fail;go_ret;exact⟨zan HE.o.symm,kA hw5 _⟩ }
  have d3: ((ng:Int) !=tk.2.2)=false:=by simpa using z3
  have HE:=uH (HMn.o (Q0.o z1 z2 z3));clear z1 z2 z3;go_wp2_with fail;go_quiet (fail);go_wp2_with fail
  go_roundw
  case rel=>exact⟨k+1,by omega,by go_num,kA hw5 _,b05.o,HE.o.symm.trans hts.o⟩
  case measure=>simp [intOf];omega }
  {
  go_wp2_with fail;go_ret;have hx:=hts.o;rw [Kj (by rw [L1.o];omega)] at hx;exact⟨zan (by rw [<-hx];simp [zb2]),hw0⟩ }
structure OA where
 a1:oA
 n1:Nat
 c1:Nat
 a2:oA
 n2:Nat
 c2:Nat
 a3:oA
 n3:Nat
 c3:Nat
 a4:oA
 n4:Nat
 c4:Nat
 a5:oA
 n5:Nat
 c5:Nat
def offv (v u:Int) (m:OA):Value:=.agg #[.slice m.a1 m.n1 m.c1,.slice m.a2 m.n2 m.c2,iV v,iV u,.slice m.a3 m.n3 m.c3,.slice m.a4 m.n4 m.c4,.slice m.a5 m.n5 m.c5]
def ofO (v u:Int) (m:OA):Obj:=.cells #[.slice m.a1 m.n1 m.c1,.slice m.a2 m.n2 m.c2,iV v,iV u,.slice m.a3 m.n3 m.c3,.slice m.a4 m.n4 m.c4,.slice m.a5 m.n5 m.c5] 47 (0,0)
structure BO (w:World) (m:OA) (o:Of):Prop where
 roots:BR w m.a1 m.n1 o.roots
 rsigs:BL w m.a2 m.n2 o.rsigs
 tgts:BT w m.a3 m.n3 o.ts
 sigs:BI w m.a4 m.n4 o.sigs
 imgs:BL w m.a5 m.n5 o.imgs
theorem BO.bl {w' :World} {m:OA} (h:BO w m o) (hb:bZ w w'):BO w' m o:=⟨h.roots.bl hb,h.rsigs.bl hb,h.tgts.bl hb,h.sigs.bl hb,h.imgs.bl hb⟩
theorem restE_1 (h:o.v<=ver):restE ss ver o now units=10:=by unfold restE;rw [KK h]
theorem restE_2 (h: ¬o.v<=ver) (h2:o.u<now):restE ss ver o now units=11:=by unfold restE;rw [KJ h,KK h2]
theorem restE_3 (h: ¬o.v<=ver) (h2: ¬o.u<now) (h3: ¬(o.ts.length:Int)=units):restE ss ver o now units=4:=by unfold restE;rw [KJ h,KJ h2,KK h3]
theorem restE_4 (h: ¬o.v<=ver) (h2: ¬o.u<now) (h3: (o.ts.length:Int)=units) (h4: ¬(o.imgs.length:Int)=units):restE ss ver o now units=4:=by unfold restE;rw [KJ h,KJ h2,KJ (by simpa using h3),KK h4]
theorem restE_5 (h: ¬o.v<=ver) (h2: ¬o.u<now) (h3: (o.ts.length:Int)=units) (h4: (o.imgs.length:Int)=units) (h5:zb2 ss o.ts o.imgs=false):restE ss ver o now units=5:=by unfold restE;rw [KJ h,KJ h2,KJ (by simpa using h3),KJ (by simpa using h4),h5];rfl
theorem restE_0 (h: ¬o.v<=ver) (h2: ¬o.u<now) (h3: (o.ts.length:Int)=units) (h4: (o.imgs.length:Int)=units) (h5:zb2 ss o.ts o.imgs=true):restE ss ver o now units=0:=by unfold restE;rw [KJ h,KJ h2,KJ (by simpa using h3),KJ (by simpa using h4),h5];rfl
theorem takeE_1 (h1:trE t≠0):takeE ss l t o now units=trE t:=by unfold takeE;rw [KJ h1]
theorem takeE_2 (h1:trE t=0) (h2:allE ss l t o.roots o.rsigs≠0):takeE ss l t o now units=allE ss l t o.roots o.rsigs:=by unfold takeE;rw [KK h1,KJ h2]
theorem takeE_3 (h1:trE t=0) (h2:allE ss l t o.roots o.rsigs=0) (h3:crE ss l (lastR t.r o.roots) o.v o.u o.ts o.sigs≠0):takeE ss l t o now units=crE ss l (lastR t.r o.roots) o.v o.u o.ts o.sigs:=by unfold takeE;rw [KK h1,KK h2,KJ h3]
theorem takeE_4 (h1:trE t=0) (h2:allE ss l t o.roots o.rsigs=0) (h3:crE ss l (lastR t.r o.roots) o.v o.u o.ts o.sigs=0):takeE ss l t o now units=restE ss t.ver o now units:=by unfold takeE;rw [KK h1,KK h2,KK h3]
theorem csE_ok (h:csE l r sigs name=0):cntE l r sigs=0/\r.t<=(cntN l r.ks sigs name:Int):=by
 unfold csE at h
 split at h
 {
 rename_i h1
 split at h
 { cases h }
 { exact⟨h1,by omega⟩ } }
 {
 rename_i h1
 exact absurd h h1 }
theorem cntE_ok (h:cntE l r sigs=0):sigE l=0/\r.e=0/\sigs.length<=50:=by
 unfold cntE at h
 split at h
 {
 rename_i h1
 split at h
 {
 rename_i h2
 split at h
 { cases h }
 { exact⟨h1,h2,by omega⟩ } }
 {
 rename_i h2
 exact absurd h h2 } }
 {
 rename_i h1
 exact absurd h h1 }
theorem crE_ok {v:Int} (h:crE ss l r v u ts sigs=0):relE v u ts=0/\bookE ss=0/\csE l r sigs (nameN ss (bs (relT v u ts)))=0:=by
 unfold crE at h
 split at h
 {
 rename_i h1
 split at h
 {
 rename_i h2
 exact⟨h1,h2,h⟩ }
 {
 rename_i h2
 exact absurd h h2 } }
 {
 rename_i h1
 exact absurd h h1 }
def takeT (q:Int) (t:Tr) (o:Of):Tr:=turnT q ⟨t.r,o.v⟩ (lastR t.r o.roots)
theorem take_any (ab:oA) (nb cb:Nat) (ss:LB) (a1:oA) (n1 c1:Nat) (l:List S2) (t:Tr) (a2:oA) (n2 c2:Nat) (o:Of) (m:OA) (now units:Int) (w:World)
 (h0:BB w ab nb cb ss) (h1:BG w a1 n1 l) (h2:BI w a2 n2 t.r.ks) (h3:BO w m o) (hT:Tab w):
 Cq 240 #[bookv ab nb cb,.slice a1 n1 c1,trv t.r.v a2 n2 c2 t.r.t t.ver,offv o.v o.u m,iV now,iV units] w fun e w' =>TAns w' e (takeT (takeE ss l t o now units) t o) (takeE ss l t o now units) (Frsh w.heap.size)/\bZ w w' :=by
 have hw0:bZ w ((((w.alloc (bkO ab nb cb)).alloc (trO t a2 n2 c2)).alloc (ofO o.v o.u m)).alloc tzO):=((bA2).alloc (by simp;omega) _).alloc (by simp;omega) _;have tb:Hd (TB ((((w.alloc (bkO ab nb cb)).alloc (trO t a2 n2 c2)).alloc (ofO o.v o.u m)).alloc tzO) w.heap.size (bkO ab nb cb) (trO t a2 n2 c2) (ofO o.v o.u m) tzO):=
  ⟨zai (zai (zai (kP _ _) _) _) _,zai (zai (last1 _ _ _) _) _,zai (last2 _ _ _ _) _,last3 _ _ _ _ _⟩
 have HA:=uH (fun W (hW:bZ w W)=>zee t a2 n2 c2 W (h2.bl hW));have HB:=uH (fun W (hW:bZ w W)=>zow ab nb cb ss a1 n1 c1 l t a2 n2 c2 m.a1 m.n1 m.c1 o.roots m.a2 m.n2 m.c2 o.rsigs W (h0.bl hW) (h1.bl hW) (h2.bl hW) (h3.bl hW).roots (h3.bl hW).rsigs (hT.bl hW));have HC:=uH (fun W (r:Rt) a n c (hW:bZ w W) (hr:BI W a n r.ks)=>zij ab nb cb ss a1 n1 c1 l r a n c o.v o.u m.a3 m.n3 m.c3 o.ts m.a4 m.n4 m.c4 o.sigs W (h0.bl hW) (h1.bl hW) hr (h3.bl hW).tgts (h3.bl hW).sigs (hT.bl hW));have HD:=uH (fun W (hW:bZ w W) (hn:m.n3=m.n5)=>znx ab nb cb ss m.a3 m.n3 m.c3 o.ts m.a5 m.n5 m.c5 o.imgs W (h0.bl hW) (h3.bl hW).tgts (h3.bl hW).imgs hn (hT.bl hW));have H2o:=uH h2.old;have L3:=uH h3.tgts.len;have L5:=uH h3.imgs.len;unfold trv rv relv bookv at *;unfold offv;clear h0 h1 h2 h3 hT;unfold bkO trO ofO tzO at hw0 tb;unfold TAns trv at HB;go_enter Tryz.func240,Tryz.ntmps240;go_wp2_with fail;generalize (((w.alloc (.cells #[.slice ab nb cb] 24)).alloc (.cells #[iV t.r.v,.slice a2 n2 c2,iV t.r.t,iV t.ver] 32)).alloc (.cells #[.slice m.a1 m.n1 m.c1,.slice m.a2 m.n2 m.c2,iV o.v,iV o.u,.slice m.a3 m.n3 m.c3,.slice m.a4 m.n4 m.c4,.slice m.a5 m.n5 m.c5] 47)).alloc (.cells #[iV 0,nV,iV 0,iV 0] 32)=W at *;refine(zae HA _ hw0).mono ?_;rintro e w1 ⟨rfl,hb⟩;replace tb:=uH (tb.o.bl hb);replace hw0:=bT hw0 hb;clear hb HA
 by_cases z1:trE t=0
 rotate_left
 {
 have HE:=uH (takeE_1 (ss:=ss) (l:=l) (o:=o) (now:=now) (units:=units) z1);have ZN:=uH z1;have hq: (trE t !=0)=true:=by simpa using z1
 clear HB HC HD z1;generalize trE t=q at *;have y0:=zaa tb.o.b3 0 _ rfl;have fy0:=zad tb.o.b3 0;have y1:=zaa tb.o.b3 1 _ rfl;have fy1:=zad tb.o.b3 1;have y2:=zaa tb.o.b3 2 _ rfl;have fy2:=zad tb.o.b3 2;have y3:=zaa tb.o.b3 3 _ rfl;have fy3:=zad tb.o.b3 3;go_wp2_with fail;refine kT (v:=.tuple #[.agg #[iV 0,nV,iV 0,iV 0],iV q]) (by simp [results,Tryz.results240,go_sem,y0,y1,y2,y3]) rfl ?_;exact⟨zbx HE.o ZN.o (za8 _),((((hw0).setCell (by show w.heap.size<=w.heap.size+1+1+1;omega) _).setCell (by show w.heap.size<=w.heap.size+1+1+1;omega) _).setCell (by show w.heap.size<=w.heap.size+1+1+1;omega) _).setCell (by show w.heap.size<=w.heap.size+1+1+1;omega) _⟩ }
 have Z1:=uH z1;rw [z1];clear z1;have k0:=zaa tb.o.b0 0 _ rfl;have p0:=zaa tb.o.b1 0 _ rfl;have p1:=zaa tb.o.b1 1 _ rfl;have p2:=zaa tb.o.b1 2 _ rfl;have p3:=zaa tb.o.b1 3 _ rfl;have o0:=zaa tb.o.b2 0 _ rfl;have o1:=zaa tb.o.b2 1 _ rfl;have hsz:=zak tb.o.b3;have HE2:=uH (takeE_2 (ss:=ss) (l:=l) (o:=o) (now:=now) (units:=units) Z1.o);have HE3:=uH (takeE_3 (ss:=ss) (l:=l) (o:=o) (now:=now) (units:=units) Z1.o);have HE4:=uH (takeE_4 (ss:=ss) (l:=l) (o:=o) (now:=now) (units:=units) Z1.o);generalize allE ss l t o.roots o.rsigs=A at *;obtain ⟨T,hTT⟩: ∃T,T=turnT A t (lastR t.r o.roots):=⟨_,rfl⟩;rw [<-hTT] at HB;replace hTT:=uH hTT;go_wp2_with fail;refine(zae HB _ hw0).mono ?_;rintro e w2 ⟨⟨a5,n5,c5,rfl,hi5,hf5⟩,hb⟩;replace tb:=uH (tb.o.bl hb);replace hw0:=bT hw0 hb;have hfar:T.r.ks= []\/∀ad,a5=some ad->ad.block≠w.heap.size+1:=by
  rcases hf5 with ⟨rfl,hr⟩|hf5
  {
  by_cases hA:A=0
  {
  have:T.r.ks=t.r.ks:=by rw [hTT.o,hA,hr];rfl
  rw [this];exact H2o.o.imp id (fun h ad e=>by have:=h ad e;omega) }
  {
  left
  rw [hTT.o,zoe hA];rfl } }
  { exact .inr (fun ad e=>by have:=hf5 ad e;omega) }
 clear hb HB hf5 hsz H2o k0 o0 o1 p0 p1 p2 p3;have y0:=zaa tb.o.b1 0 _ rfl;have fy0:=zad tb.o.b1 0;have y1:=zaa tb.o.b1 1 _ rfl;have fy1:=zad tb.o.b1 1;have y2:=zaa tb.o.b1 2 _ rfl;have fy2:=zad tb.o.b1 2;have y3:=zaa tb.o.b1 3 _ rfl;have fy3:=zad tb.o.b1 3;have hiS:=(((hi5.set2 _ 0 (iV T.r.v) hfar).set2 _ 1 (.slice a5 n5 c5) hfar).set2 _ 2 (iV T.r.t) hfar).set2 _ 3 (iV T.ver) hfar;have hwS:bZ w ((((w2.setCell ⟨w.heap.size+1,0,none⟩ (iV T.r.v)).setCell ⟨w.heap.size+1,1,none⟩ (.slice a5 n5 c5)).setCell ⟨w.heap.size+1,2,none⟩ (iV T.r.t)).setCell ⟨w.heap.size+1,3,none⟩ (iV T.ver)):=((((hw0).setCell (by show w.heap.size<=w.heap.size+1;omega) _).setCell (by show w.heap.size<=w.heap.size+1;omega) _).setCell (by show w.heap.size<=w.heap.size+1;omega) _).setCell (by show w.heap.size<=w.heap.size+1;omega) _;have tbS:Hd (TB ((((w2.setCell ⟨w.heap.size+1,0,none⟩ (iV T.r.v)).setCell ⟨w.heap.size+1,1,none⟩ (.slice a5 n5 c5)).setCell ⟨w.heap.size+1,2,none⟩ (iV T.r.t)).setCell ⟨w.heap.size+1,3,none⟩ (iV T.ver)) w.heap.size (bkO ab nb cb) (trO T a5 n5 c5) (ofO o.v o.u m) tzO):=⟨zfo tb.o.b0 (by omega),zjh tb.o.b1,zfo tb.o.b2 (by omega),zfo tb.o.b3 (by omega)⟩;unfold bkO trO ofO tzO at tbS;have hk1:=kQ 0;go_upto_region 5 with fail
 generalize (((w2.setCell ⟨w.heap.size+1,0,none⟩ (iV T.r.v)).setCell ⟨w.heap.size+1,1,none⟩ (.slice a5 n5 c5)).setCell ⟨w.heap.size+1,2,none⟩ (iV T.r.t)).setCell ⟨w.heap.size+1,3,none⟩ (iV T.ver)=wS at *;clear tb hw0 hi5 hfar y0 y1 y2 y3 fy0 fy1 fy2 fy3 hk1;have tb:=tbS;have hw0:=hwS;clear tbS hwS
 by_cases z2:A=0
 rotate_left
 {
 have HE:=uH (HE2.o z2);have ZN:=uH z2;have hq: (A !=0)=true:=by simpa using z2
 clear HC HD z2;have y0:=zaa tb.o.b3 0 _ rfl;have fy0:=zad tb.o.b3 0;have y1:=zaa tb.o.b3 1 _ rfl;have fy1:=zad tb.o.b3 1;have y2:=zaa tb.o.b3 2 _ rfl;have fy2:=zad tb.o.b3 2;have y3:=zaa tb.o.b3 3 _ rfl;have fy3:=zad tb.o.b3 3;go_wp2_with fail;refine kT (v:=.tuple #[.agg #[iV 0,nV,iV 0,iV 0],iV A]) (by simp [results,Tryz.results240,go_sem,y0,y1,y2,y3]) rfl ?_;exact⟨zbx HE.o ZN.o (za8 _),((((hw0).setCell (by show w.heap.size<=w.heap.size+1+1+1;omega) _).setCell (by show w.heap.size<=w.heap.size+1+1+1;omega) _).setCell (by show w.heap.size<=w.heap.size+1+1+1;omega) _).setCell (by show w.heap.size<=w.heap.size+1+1+1;omega) _⟩ }
 have hT' :T= ⟨lastR t.r o.roots,t.ver⟩:=by rw [hTT.o,z2];rfl
 replace HE3:=uH (HE3.o z2);replace HE4:=uH (HE4.o z2);subst hT';rw [z2];clear z2 hTT HE2;generalize hL:lastR t.r o.roots=L at *;replace hL:=uH hL;have k0:=zaa tb.o.b0 0 _ rfl;have p0:=zaa tb.o.b1 0 _ rfl;have p1:=zaa tb.o.b1 1 _ rfl;have p2:=zaa tb.o.b1 2 _ rfl;have o2:=zaa tb.o.b2 2 _ rfl;have o3:=zaa tb.o.b2 3 _ rfl;have o4:=zaa tb.o.b2 4 _ rfl;have o5:=zaa tb.o.b2 5 _ rfl;go_wp2_with fail;refine(zae HC _ L a5 n5 c5 hw0 hiS).mono ?_;rintro e w3 ⟨rfl,hb⟩;replace tb:=uH (tb.o.bl hb);replace hw0:=bT hw0 hb;replace hiS:=hiS.bl hb;clear hb HC k0 p0 p1 p2 o2 o3 o4 o5;have HK:=uH (crE_ok (ss:=ss) (l:=l) (r:=L) (v:=o.v) (u:=o.u) (ts:=o.ts) (sigs:=o.sigs));generalize crE ss l L o.v o.u o.ts o.sigs=C at *
 by_cases z3:C=0
 rotate_left
 {
 have HE:=uH (HE3.o z3);have ZN:=uH z3;have hq: (C !=0)=true:=by simpa using z3
 clear HD z3 HK;have y0:=zaa tb.o.b3 0 _ rfl;have fy0:=zad tb.o.b3 0;have y1:=zaa tb.o.b3 1 _ rfl;have fy1:=zad tb.o.b3 1;have y2:=zaa tb.o.b3 2 _ rfl;have fy2:=zad tb.o.b3 2;have y3:=zaa tb.o.b3 3 _ rfl;have fy3:=zad tb.o.b3 3;go_wp2_with fail;refine kT (v:=.tuple #[.agg #[iV 0,nV,iV 0,iV 0],iV C]) (by simp [results,Tryz.results240,go_sem,y0,y1,y2,y3]) rfl ?_;exact⟨zbx HE.o ZN.o (za8 _),((((hw0).setCell (by show w.heap.size<=w.heap.size+1+1+1;omega) _).setCell (by show w.heap.size<=w.heap.size+1+1+1;omega) _).setCell (by show w.heap.size<=w.heap.size+1+1+1;omega) _).setCell (by show w.heap.size<=w.heap.size+1+1+1;omega) _⟩ }
 have hn5:n5<=1000:=by
  have h:=(zft (cntE_ok (csE_ok (HK.o z3).2.2).1).2.1).2.1;have:=hiS.len;omega
 replace HE4:=uH (HE4.o z3);rw [z3];clear z3 HK HE3;have p3:=zaa tb.o.b1 3 _ rfl;have o2:=zaa tb.o.b2 2 _ rfl
 by_cases z4:o.v<=t.ver
 {
 have HE:=uH (HE4.o.trans (restE_1 z4));have d4:decide (o.v<=t.ver)=true:=by simpa using z4
 clear z4;have y0:=zaa tb.o.b3 0 _ rfl;have fy0:=zad tb.o.b3 0;have y1:=zaa tb.o.b3 1 _ rfl;have fy1:=zad tb.o.b3 1;have y2:=zaa tb.o.b3 2 _ rfl;have fy2:=zad tb.o.b3 2;have y3:=zaa tb.o.b3 3 _ rfl;have fy3:=zad tb.o.b3 3;go_wp2_with fail;refine kT (v:=.tuple #[.agg #[iV 0,nV,iV 0,iV 0],iV 10]) (by simp [results,Tryz.results240,go_sem,y0,y1,y2,y3]) rfl ?_;exact⟨zbx HE.o (by decide) (za8 _),((((hw0).setCell (by show w.heap.size<=w.heap.size+1+1+1;omega) _).setCell (by show w.heap.size<=w.heap.size+1+1+1;omega) _).setCell (by show w.heap.size<=w.heap.size+1+1+1;omega) _).setCell (by show w.heap.size<=w.heap.size+1+1+1;omega) _⟩ }
 have d4:decide (o.v<=t.ver)=false:=by simpa using z4
 have Z4:=uH z4;clear z4;have o3:=zaa tb.o.b2 3 _ rfl
 by_cases z5:o.u<now
 {
 have HE:=uH (HE4.o.trans (restE_2 Z4.o z5));have d5:decide (o.u<now)=true:=by simpa using z5
 clear z5;have y0:=zaa tb.o.b3 0 _ rfl;have fy0:=zad tb.o.b3 0;have y1:=zaa tb.o.b3 1 _ rfl;have fy1:=zad tb.o.b3 1;have y2:=zaa tb.o.b3 2 _ rfl;have fy2:=zad tb.o.b3 2;have y3:=zaa tb.o.b3 3 _ rfl;have fy3:=zad tb.o.b3 3;go_wp2_with fail;refine kT (v:=.tuple #[.agg #[iV 0,nV,iV 0,iV 0],iV 11]) (by simp [results,Tryz.results240,go_sem,y0,y1,y2,y3]) rfl ?_;exact⟨zbx HE.o (by decide) (za8 _),((((hw0).setCell (by show w.heap.size<=w.heap.size+1+1+1;omega) _).setCell (by show w.heap.size<=w.heap.size+1+1+1;omega) _).setCell (by show w.heap.size<=w.heap.size+1+1+1;omega) _).setCell (by show w.heap.size<=w.heap.size+1+1+1;omega) _⟩ }
 have d5:decide (o.u<now)=false:=by simpa using z5
 have Z5:=uH z5;clear z5;have o4:=zaa tb.o.b2 4 _ rfl;have o6:=zaa tb.o.b2 6 _ rfl
 by_cases z6: (m.n3:Int)=units
 rotate_left
 {
 have HE:=uH (HE4.o.trans (restE_3 (by have:=Z4.o;omega) (by have:=Z5.o;omega) (by rw [L3.o];exact z6)));have d6: ((m.n3:Int) !=units)=true:=by simpa using z6
 clear z6;have y0:=zaa tb.o.b3 0 _ rfl;have fy0:=zad tb.o.b3 0;have y1:=zaa tb.o.b3 1 _ rfl;have fy1:=zad tb.o.b3 1;have y2:=zaa tb.o.b3 2 _ rfl;have fy2:=zad tb.o.b3 2;have y3:=zaa tb.o.b3 3 _ rfl;have fy3:=zad tb.o.b3 3;go_wp2_with fail;refine kT (v:=.tuple #[.agg #[iV 0,nV,iV 0,iV 0],iV 4]) (by simp [results,Tryz.results240,go_sem,y0,y1,y2,y3]) rfl ?_;exact⟨zbx HE.o (by decide) (za8 _),((((hw0).setCell (by show w.heap.size<=w.heap.size+1+1+1;omega) _).setCell (by show w.heap.size<=w.heap.size+1+1+1;omega) _).setCell (by show w.heap.size<=w.heap.size+1+1+1;omega) _).setCell (by show w.heap.size<=w.heap.size+1+1+1;omega) _⟩ }
 have d6: ((m.n3:Int) !=units)=false:=by simpa using z6
 have Z6:=uH z6;clear z6
 by_cases z7: (m.n5:Int)=units
 rotate_left
 {
 have HE:=uH (HE4.o.trans (restE_4 (by have:=Z4.o;omega) (by have:=Z5.o;omega) (by rw [L3.o];exact Z6.o) (by rw [L5.o];exact z7)));have d7: ((m.n5:Int) !=units)=true:=by simpa using z7
 clear z7;have y0:=zaa tb.o.b3 0 _ rfl;have fy0:=zad tb.o.b3 0;have y1:=zaa tb.o.b3 1 _ rfl;have fy1:=zad tb.o.b3 1;have y2:=zaa tb.o.b3 2 _ rfl;have fy2:=zad tb.o.b3 2;have y3:=zaa tb.o.b3 3 _ rfl;have fy3:=zad tb.o.b3 3;go_wp2_with fail;refine kT (v:=.tuple #[.agg #[iV 0,nV,iV 0,iV 0],iV 4]) (by simp [results,Tryz.results240,go_sem,y0,y1,y2,y3]) rfl ?_;exact⟨zbx HE.o (by decide) (za8 _),((((hw0).setCell (by show w.heap.size<=w.heap.size+1+1+1;omega) _).setCell (by show w.heap.size<=w.heap.size+1+1+1;omega) _).setCell (by show w.heap.size<=w.heap.size+1+1+1;omega) _).setCell (by show w.heap.size<=w.heap.size+1+1+1;omega) _⟩ }
 have d7: ((m.n5:Int) !=units)=false:=by simpa using z7
 have Z7:=uH z7;clear z7;have k0:=zaa tb.o.b0 0 _ rfl;go_wp2_with fail;refine(zae HD _ hw0 (by have:=Z6.o;have:=Z7.o;omega)).mono ?_;rintro e w4 ⟨rfl,hb⟩;replace tb:=uH (tb.o.bl hb);replace hw0:=bT hw0 hb;replace hiS:=hiS.bl hb;clear hb HD k0 p3 o2 o3 o4 o6;cases z8:zb2 ss o.ts o.imgs
 {
 have HE:=uH (HE4.o.trans (restE_5 (by have:=Z4.o;omega) (by have:=Z5.o;omega) (by rw [L3.o];exact Z6.o) (by rw [L5.o];exact Z7.o) z8));clear z8;have y0:=zaa tb.o.b3 0 _ rfl;have fy0:=zad tb.o.b3 0;have y1:=zaa tb.o.b3 1 _ rfl;have fy1:=zad tb.o.b3 1;have y2:=zaa tb.o.b3 2 _ rfl;have fy2:=zad tb.o.b3 2;have y3:=zaa tb.o.b3 3 _ rfl;have fy3:=zad tb.o.b3 3;go_wp2_with fail;refine kT (v:=.tuple #[.agg #[iV 0,nV,iV 0,iV 0],iV 5]) (by simp [results,Tryz.results240,go_sem,y0,y1,y2,y3]) rfl ?_;exact⟨zbx HE.o (by decide) (za8 _),((((hw0).setCell (by show w.heap.size<=w.heap.size+1+1+1;omega) _).setCell (by show w.heap.size<=w.heap.size+1+1+1;omega) _).setCell (by show w.heap.size<=w.heap.size+1+1+1;omega) _).setCell (by show w.heap.size<=w.heap.size+1+1+1;omega) _⟩ }
 have HE:=uH (HE4.o.trans (restE_0 (by have:=Z4.o;omega) (by have:=Z5.o;omega) (by rw [L3.o];exact Z6.o) (by rw [L5.o];exact Z7.o) z8));clear z8 HE4;have p0:=zaa tb.o.b1 0 _ rfl;have p1:=zaa tb.o.b1 1 _ rfl;have p2:=zaa tb.o.b1 2 _ rfl;have o2:=zaa tb.o.b2 2 _ rfl;have hsz:=zak tb.o.b3;have HT:=uH (zh7 L a5 n5 c5 o.v w4 hiS hn5);unfold rv trv at HT;go_wp2_with fail;refine(zae HT).mono ?_;rintro e w5 ⟨rfl,hbi,hb⟩;replace tb:=uH (tb.o.bl hb);have hwE:=bT hw0 hb;clear hb HT p0 p1 p2 o2;have y0:=zaa tb.o.b3 0 _ rfl;have fy0:=zad tb.o.b3 0;have y1:=zaa tb.o.b3 1 _ rfl;have fy1:=zad tb.o.b3 1;have y2:=zaa tb.o.b3 2 _ rfl;have fy2:=zad tb.o.b3 2;have y3:=zaa tb.o.b3 3 _ rfl;have fy3:=zad tb.o.b3 3;go_wp2_with fail;refine kT (v:=.tuple #[.agg #[iV L.v,sV (w4.heap.size+2) n5 n5,iV L.t,iV o.v],iV 0]) (by simp [results,Tryz.results240,go_sem,y0,y1,y2,y3]) rfl ?_;rw [HE.o,show takeT 0 t o= ⟨L,o.v⟩ by rw [<-hL.o];rfl];refine⟨⟨some ⟨w4.heap.size+2,0,none⟩,n5,n5,rfl, ?_,fun ad e=>by cases e;exact kc hw0.size (by simp)⟩,((((hwE).setCell (by show w.heap.size<=w.heap.size+1+1+1;omega) _).setCell (by show w.heap.size<=w.heap.size+1+1+1;omega) _).setCell (by show w.heap.size<=w.heap.size+1+1+1;omega) _).setCell (by show w.heap.size<=w.heap.size+1+1+1;omega) _⟩;exact(((hbi.set _ 0 _ (by omega)).set _ 1 _ (by omega)).set _ 2 _ (by omega)).set _ 3 _ (by omega)
abbrev aO (m:OA) (o:Of):Array Value:=#[.slice m.a1 m.n1 m.c1,.slice m.a2 m.n2 m.c2,iV o.v,iV o.u,.slice m.a3 m.n3 m.c3,.slice m.a4 m.n4 m.c4,.slice m.a5 m.n5 m.c5]
theorem zsh (h:takeE ss l t o now units=0):
 trE t=0/\allE ss l t o.roots o.rsigs=0/\crE ss l (lastR t.r o.roots) o.v o.u o.ts o.sigs=0/\restE ss t.ver o now units=0:=by
 unfold takeE at h
 split at h
 {
 rename_i h1
 split at h
 {
 rename_i h2
 split at h
 {
 rename_i h3
 exact⟨h1,h2,h3,h⟩ }
 {
 rename_i h3
 exact absurd h h3 } }
 {
 rename_i h2
 exact absurd h h2 } }
 {
 rename_i h1
 exact absurd h h1 }
theorem zty (h:restE ss ver o now units=0):
 ver<o.v/\now<=o.u/\(o.ts.length:Int)=units/\(o.imgs.length:Int)=units/\zb2 ss o.ts o.imgs=true:=by
 unfold restE at h
 split at h
 { cases h }
 rename_i h1
 split at h
 { cases h }
 rename_i h2
 split at h
 { cases h }
 rename_i h3
 split at h
 { cases h }
 rename_i h4
 split at h
 {
 rename_i h5
 exact⟨by omega,by omega,by simpa using h3,by simpa using h4,h5⟩ }
 {
 cases h }
theorem last_ok (h:takeE ss l t o now units=0) (hv:0<=ver/\ver<=1000):trE ⟨lastR t.r o.roots,ver⟩=0:=by
 have h3:=(crE_ok (zsh h).2.2.1).2.2;have h4:=(cntE_ok (csE_ok h3).1).2.1;rw [zkd (inR_t hv.1 hv.2)];exact h4
theorem zvk {nx:Nat->Int->Int} {p lo:Nat} (h:lo<=p): (chg nx p k ws).take lo=ws.take lo:=by
 apply zr4 (by simp [zbw])
 intro i hi;have hi2:i<lo/\i<ws.length:=by simp [zbw] at hi;omega
 have:=zrq nx p k i ws hi2.2;rw [KJ (by omega)] at this
 simpa [hi2.1] using this
theorem zvp {nx:Nat->Int->Int} {p hi' :Nat} (h:p+k<=hi'): (chg nx p k ws).drop hi' =ws.drop hi' :=by
 apply zr4 (by simp [zbw])
 intro i hi
 simp [zbw] at hi
 have:=zrq nx p k (hi' +i) ws (by omega);rw [KJ (by omega)] at this
 simpa using this
theorem ztg (ws:LI) (fuel:Int):chk ws fuel≠7:=by
 unfold chk
 split
 { decide }
 {
 split
 { decide }
 {
 decide } }
theorem zvj {fuel p:Int} (h: (progS ws fuel p words).2.2=0\/(progS ws fuel p words).2.2=7):
 chk ws fuel=0/\0<=p/\p+words.length<=ws.length/\okL words=true/\progS ws fuel p words= (chg (andW words) p.toNat (cnt fuel words.length) ws,burn fuel (cnt fuel words.length),perr fuel words.length):=by
 unfold progS at *
 split at h
 {
 rename_i c
 rcases h with h|h
 { exact absurd h c }
 { exact absurd h (ztg _ _) } }
 {
 split at h
 { simp at h }
 {
 split at h
 { simp at h }
 {
 rename_i h1 h2 h3
 rw [KJ h1,KJ h2,KJ h3]
 simp [fitB] at h2
 simp at h1 h3
 exact⟨h1,by omega,by omega,h3,rfl⟩ } } }
theorem era_did {fuel s:Int} (h: (eraS ws fuel s).2.2=0\/(eraS ws fuel s).2.2=7):
 chk ws fuel=0/\0<=s/\s< (ws.length:Int)/ 32/\eraS ws fuel s= (chg (fun _ _=>65535) (s.toNat * 32) (cnt fuel 32) ws,burn fuel (cnt fuel 32),perr fuel 32):=by
 unfold eraS at *
 split at h
 {
 rename_i c
 rcases h with h|h
 { exact absurd h c }
 { exact absurd h (ztg _ _) } }
 {
 split at h
 { simp at h }
 {
 rename_i h1 h2
 rw [KJ h1,KJ h2]
 simp at h1 h2
 exact⟨h1,h2.1,h2.2,rfl⟩ } }
def Apt (ws:LI) (s:Int) (r:LI×Int×Int):Prop:=
 (r.2.2=0\/r.2.2=7)->ws.length=192/\r.1.length=192/\r.1.take (64+64 * s).toNat=ws.take (64+64 * s).toNat/\r.1.drop (128+64 * s).toNat=ws.drop (128+64 * s).toNat
theorem zrz (ws:LI) (fuel s:Int):slotE ws fuel s≠7:=by
 unfold slotE
 split
 { exact ztg _ _ }
 {
 split
 { decide }
 {
 split
 { decide }
 {
 decide } } }
theorem zsz {s e:Int} (h0:e≠0) (h7:e≠7):Apt ws s ([],0,e):=by
 intro h
 rcases h with h|h
 { exact absurd h h0 }
 {
 exact absurd h h7 }
theorem zvn {fuel s p:Int} (hl:ws.length=192) (h0:64+64 * s<=p) (h1:p+words.length<=128+64 * s) (hs:0<=s):Apt ws s (progS ws fuel p words):=by
 intro h;obtain ⟨-,q0,q1,-,e⟩:=zvj h;rw [e];have:=zr7 fuel words.length;refine⟨hl,by rw [zbw];exact hl,zvk (by omega),zvp (by omega)⟩
theorem apt_fill (ws:LI) (fuel s at' :Int) (words:LI):Apt ws s (fillS ws fuel s at' words):=by
 unfold fillS
 split
 { rename_i c;exact zsz c (zrz _ _ _) }
 {
 split
 { exact zsz (by decide) (by decide) }
 {
 rename_i h1 h2
 obtain ⟨-,hl,p0,p1⟩:=zdt (show slotE ws fuel s=0 by simpa using h1)
 simp [fillB,inB] at h2
 exact zvn hl (by omega) (by omega) p0 } }
theorem apt_seal (ws:LI) (fuel s long name:Int):Apt ws s (sealS ws fuel s long name):=by
 unfold sealS
 split
 { rename_i c;exact zsz c (zrz _ _ _) }
 {
 split
 { exact zsz (by decide) (by decide) }
 {
 rename_i h1 h2
 obtain ⟨-,hl,p0,p1⟩:=zdt (show slotE ws fuel s=0 by simpa using h1);refine zvn hl (by omega) ?_ p0
 show 64+64 * s+4<=_
 omega } }
theorem apt_clear (ws:LI) (fuel s:Int):Apt ws s (clrS ws fuel s):=by
 unfold clrS
 split
 { rename_i c;exact zsz c (zrz _ _ _) }
 {
 rename_i h1
 obtain ⟨-,hl,p0,p1⟩:=zdt (show slotE ws fuel s=0 by simpa using h1);have key: ∀k,k<=2->Apt ws s (clrAt ws fuel s k):=by
  intro k
  induction k with
  |zero=>exact fun _ _=>⟨hl,hl,rfl,rfl⟩
  |succ k ih=>
   intro hk
   by_cases e: (clrAt ws fuel s k).2.2=0
   {
   rw [ztz e];intro h;obtain ⟨q0,q1,q2,q3⟩:=ih (by omega) (.inl e);obtain ⟨-,r0,r1,r2⟩:=era_did h;rw [r2];have:=zr7 (clrAt ws fuel s k).2.1 32;refine⟨hl,by rw [zbw];exact q1, ?_, ?_⟩
   {
   show(chg _ _ _ _).take _=_
   rw [zvk (by omega)];exact q2 }
   {
   show(chg _ _ _ _).drop _=_
   rw [zvp (by omega)];exact q3 } }
   { rw [zrm e];exact ih (by omega) }
 exact key 2 (kQ _) }
theorem xorW_all: ∀x:Fin 61,xorW ((x.val:Nat):Int)=65535 - ((x.val:Nat):Int):=by decide+kernel
theorem zwm {x:Int} (h0:0<=x) (h1:x<=60):xorW x=65535 - x:=by
 obtain ⟨k,rfl⟩:=Km h0;exact xorW_all ⟨k,by omega⟩
structure Fld (ws words:LI) (s k:Nat) (G:LI):Prop where
 len:G.length=192
 ok:okL G=true
 at' : ∀i,i<192->G.getD i 0=if 64+64 * s<=i/\i<128+64 * s then(if 68+64 * s<=i/\i<68+64 * s+k then words.getD (i - (68+64 * s)) 0 else 65535) else ws.getD i 0
theorem Fld.chk (h:Fld ws words s k G) (h0: -1<=f) (h1:f<=100000):chk G f=0:=by
 apply zwq
 { rw [h.len];rfl }
 {
 unfold zc0;rw [h.ok];simp;omega }
theorem zva (hc:chk G f=0) (hl:G.length=192) (hs:s<=1):slotE G f s=0:=by
 unfold slotE;rw [KJ (by simpa using hc),KJ (by simpa using hl),KJ (by simp [inB];omega)]
theorem Fld.slot {t:Nat} (h:Fld ws words s k G) (h0: -1<=f) (h1:f<=100000) (ht:t<=1):slotE G f t=0:=
 zva (h.chk h0 h1) h.len ht
theorem okW_full:okW 65535=true:=by decide
theorem zvx {p:Nat} (h:okL ws=true):okL (chg (fun _ _=>65535) p k ws)=true:=by
 apply zwv
 intro i hi;rw [zbw] at hi;rw [zrq _ _ _ _ _ hi]
 split
 { exact okW_full }
 {
 exact zk3 h i hi }
theorem zws (hc:chk ws (-1)=0) (hk:k<6) (hl:ws.length=192):eraS ws (-1) k= (chg (fun _ _=>65535) (k * 32) 32 ws,-1,0):=by
 unfold eraS;rw [KJ (by simpa using hc),KJ (by rw [hl];omega),zsy _ (by decide),zeo _ (by decide),zsx (zsy _ (by decide)),kp]
theorem clr_done (hs:s<=1) (h: (clrS ws (-1) s).2.2=0): ∃G,clrS ws (-1) s= (G,-1,0)/\slotE ws (-1) s=0/\Fld ws words s 0 G:=by
 by_cases e:slotE ws (-1) s=0
 {
 obtain ⟨hc,hl,-,-⟩:=zdt e;have q:=zhq hc;have e1:clrAt ws (-1) s 1= (chg (fun _ _=>65535) ((2+s * 2)* 32) 32 ws,-1,0):=by
  rw [ztz rfl]
  show eraS ws (-1) (2+(s:Int)* 2+((0:Nat):Int))=_
  rw [show 2+(s:Int)* 2+((0:Nat):Int)= ((2+s * 2:Nat):Int) by omega];exact zws hc (by omega) hl
 have hc1:chk (chg (fun _ _=>65535) ((2+s * 2)* 32) 32 ws) (-1)=0:=chk_chg hc _ _ _ (zvx q.2.2.2) (by decide) (by decide);have e2:clrAt ws (-1) s 2= (chg (fun _ _=>65535) ((3+s * 2)* 32) 32 (chg (fun _ _=>65535) ((2+s * 2)* 32) 32 ws),-1,0):=by
  have hl1: (chg (fun _ _=>65535) ((2+s * 2)* 32) 32 ws).length=192:=by rw [zbw];exact hl
  rw [ztz (by rw [e1]),e1,show 2+(s:Int)* 2+((1:Nat):Int)= ((3+s * 2:Nat):Int) by omega];generalize chg (fun _ _=>65535) ((2+s * 2)* 32) 32 ws=X at *;dsimp only;exact zws (k:=3+s * 2) hc1 (by omega) hl1
 refine⟨chg (fun _ _=>65535) ((3+s * 2)* 32) 32 (chg (fun _ _=>65535) ((2+s * 2)* 32) 32 ws), ?_,e,⟨?_, ?_, ?_⟩⟩
 { unfold clrS;rw [KJ (by simpa using e),e2] }
 { rw [zbw,zbw];exact hl }
 { exact zvx (zvx q.2.2.2) }
 {
 intro i hi;rw [zrq _ _ _ _ _ (by rw [zbw,hl];exact hi),zrq _ _ _ _ _ (by rw [hl];exact hi)]
 by_cases c1: (3+s * 2)* 32<=i/\i< (3+s * 2)* 32+32
 { rw [KK c1,KK (by omega),KJ (by omega)] }
 {
 rw [KJ c1]
 by_cases c2: (2+s * 2)* 32<=i/\i< (2+s * 2)* 32+32
 { rw [KK c2,KK (by omega),KJ (by omega)] }
 { rw [KJ c2,KJ (by omega)] } } } }
 {
 unfold clrS at h;rw [KK e] at h;exact absurd h e }
theorem fill_step {l:Nat} (h:Fld ws words s k G) (hs:s<=1) (hk:k+l<=words.length) (hm:words.length<=40):
 (okL ((words.drop k).take l)=false/\fillS G (-1) s k ((words.drop k).take l)= ([],0,3))\/
 (okL ((words.drop k).take l)=true/\∃G',fillS G (-1) s k ((words.drop k).take l)= (G',-1,0)/\Fld ws words s (k+l) G'):=by
 have hlen: ((words.drop k).take l).length=l:=by simp;omega
 have hE:=h.slot (f:= -1) (t:=s) (by decide) (by decide) hs;have hB:fillB (k:Int) ((words.drop k).take l).length=true:=by rw [hlen];simp [fillB,inB];omega
 have hp: (68+64 *(s:Int)+(k:Int))= ((68+64 * s+k:Nat):Int):=by omega
 have hc:=h.chk (f:= -1) (by decide) (by decide);have hfs:fillS G (-1) s k ((words.drop k).take l)=progS G (-1) ((68+64 * s+k:Nat):Int) ((words.drop k).take l):=by
  unfold fillS;rw [KJ (by simpa using hE),KJ (by rw [hB];decide),hp]
 rw [hfs];cases hok:okL ((words.drop k).take l)
 {
 left
 refine⟨rfl, ?_⟩;unfold progS;rw [KJ (by simpa using hc),KJ (by rw [hlen,h.len];simp [fitB];omega),KK hok] }
 {
 right
 refine⟨rfl,_,zxs hc (by rw [hlen,h.len];omega) hok,⟨by rw [zbw];exact h.len,chg_ok h.ok hok (kQ _) (by rw [hlen,h.len];omega), ?_⟩⟩;intro i hi;rw [zrq _ _ _ _ _ (by rw [h.len];exact hi),hlen,h.at' i hi]
 by_cases c1:68+64 * s+k<=i/\i<68+64 * s+k+l
 {
 rw [KK c1,KK (by omega),KJ (by omega),KK (by omega),KK (by omega)];unfold andW;have hw:=zk3 hok (i - (68+64 * s+k)) (by rw [hlen];omega);rw [zs0 hw];have:i - (68+64 * s)=k+(i - (68+64 * s+k)):=by omega
 rw [this]
 simp [show i - (68+64 * s+k)<l by omega] }
 {
 rw [KJ c1]
 by_cases c2:64+64 * s<=i/\i<128+64 * s
 {
 rw [KK c2,KK c2]
 by_cases c3:68+64 * s<=i/\i<68+64 * s+k
 { rw [KK c3,KK (by omega)] }
 { rw [KJ c3,KJ (by omega)] } }
 {
 rw [KJ c2,KJ c2] } } }
theorem zwo (a b:Int): (headL a b).length=4:=rfl
theorem headL_ok {m:Int} (h:sealB m name=true):okL (headL m name)=true:=by
 simp [sealB,inB] at h
 have e1:=zwm (x:=m) (by omega) (by omega);have e2:=zwm (x:=name) (by omega) (by omega);unfold headL;rw [e1,e2]
 simp [okL,okW]
 omega
structure Sld (G:LI) (s k:Nat) (m name:Int) (H:LI):Prop where
 len:H.length=192
 ok:okL H=true
 at' : ∀i,i<192->H.getD i 0=if 64+64 * s<=i/\i<64+64 * s+k then(headL m name).getD (i - (64+64 * s)) 0 else G.getD i 0
theorem zx4 {H:LI} {fu:Int} (h:Fld ws words s words.length G) (hH:Sld G s k words.length name H) (hs:s<=1) (hk:k<=4) (hB:sealB words.length name=true) (h0: -1<=fu) (h1:fu<=100000):
 imgS H fu s=if k=4 then(words,name,0) else([],0,4):=by
 have hB' : (1<=(words.length:Int)/\(words.length:Int)<=40)/\1<=name/\name<=60:=by simpa [sealB,inB] using hB
 have x1:=zwm (x:=(words.length:Int)) (by omega) (by omega);have x2:=zwm (x:=name) (by omega) (by omega);have hc:chk H fu=0:=by
  apply zwq
  { rw [hH.len];rfl }
  { unfold zc0;rw [hH.ok];simp;omega }
 have hE:=zva (s:=s) hc hH.len hs;have hp: (64+64 *(s:Int)).toNat=64+64 * s:=by omega
 have hp2: (68+64 *(s:Int)).toNat=68+64 * s:=by omega
 have g: ∀j,j<4->H.getD (64+64 * s+j) 0=if j<k then(headL words.length name).getD j 0 else 65535:=by
  intro j hj;rw [hH.at' _ (by omega)]
  by_cases c:j<k
  {
  rw [KK (by omega),KK c]
  congr 1
  omega }
  { rw [KJ (by omega),KJ c,h.at' _ (by omega),KK (by omega),KJ (by omega)] }
 have g0:=g 0 (by omega);have g1:=g 1 (by omega);have g2:=g 2 (by omega);have g3:=g 3 (by omega);simp only [Nat.add_zero] at g0;unfold imgS;rw [KJ (by simpa using hE),hp,hp2]
 by_cases c4:k=4
 {
 subst c4;rw [KK (by omega)] at g0 g1 g2 g3;have hh:headB H (64+64 * s)=true:=by
  unfold headB;rw [g0,g1,g2,g3]
  simp [headL,hB]
 rw [KJ (by simp [hh]),KK rfl,g0,g1];have: (H.drop (68+64 * s)).take words.length=words:=by
  apply zr4
  { simp [hH.len];omega }
  {
  intro i hi;have hi2:i<words.length:=by simp [hH.len] at hi;omega
  have:=hH.at' (68+64 * s+i) (by omega);rw [KJ (by omega),h.at' _ (by omega),KK (by omega),KK (by omega)] at this;have e:68+64 * s+i - (68+64 * s)=i:=by omega
  rw [e] at this;rw [<-this]
  simp [hi2] }
 simp [headL,this] }
 {
 rw [KJ c4,KK ?_];unfold headB;rw [g0,g1,g2,g3]
 rcases k with _|_|_|_|k
 { simp [sealB,inB] }
 { simp [sealB,inB] }
 {
 simp [headL,x1,x2]
 intro _;omega }
 {
 simp [headL,x1,x2]
 intro _;omega }
 {
 omega } }
theorem img_same {H:LI} {f' :Int} {t:Nat} (hE:slotE ws f t=0) (hE' :slotE H f' t=0) (ht:t<=1) (hl:ws.length=192) (hl' :H.length=192) (hg: ∀i,64+64 * t<=i->i<128+64 * t->H.getD i 0=ws.getD i 0):imgS H f' t=imgS ws f t:=by
 have hp: (64+64 *(t:Int)).toNat=64+64 * t:=by omega
 have hp2: (68+64 *(t:Int)).toNat=68+64 * t:=by omega
 have hh:headB H (64+64 * t)=headB ws (64+64 * t):=by
  unfold headB;rw [hg _ (by omega) (by omega),hg _ (by omega) (by omega),hg _ (by omega) (by omega),hg _ (by omega) (by omega)]
 unfold imgS;rw [KJ (show¬slotE H f' t≠0 by simpa using hE'),KJ (show¬slotE ws f t≠0 by simpa using hE),hp,hp2,hh,hg (64+64 * t) (by omega) (by omega),hg (64+64 * t+1) (by omega) (by omega)];cases hb:headB ws (64+64 * t)
 { rfl }
 {
 have hs:sealB (ws.getD (64+64 * t) 0) (ws.getD (64+64 * t+1) 0)=true:=by unfold headB at hb;simp only [kr] at hb;exact hb.1
 have hb2:1<=ws.getD (64+64 * t) 0/\ws.getD (64+64 * t) 0<=40:=by unfold sealB inB at hs;simp only [kr,KF] at hs;exact hs.1
 generalize ws.getD (64+64 * t) 0=L at *;have: (H.drop (68+64 * t)).take L.toNat= (ws.drop (68+64 * t)).take L.toNat:=by
  apply zr4
  { simp [hl,hl'] }
  {
  intro i hi;have hi2:i<L.toNat:=by simp at hi;omega
  have:=hg (68+64 * t+i) (by omega) (by omega)
  simpa [hi2] using this }
 rw [this] }
section
variable {P:Program} {ops:Array Oper} {Q:Exit->Act->World->Prop} {md:Region.Mode} {S:World->Prop} {st:Nat}
def zcm (P:Program) (md:Region.Mode) (ops:Array Oper) (Q:Exit->Act->World->Prop) (S:World->Prop) (st:Nat):Nat->Array Bool->Act->World->Prop
 |0,l,a,w=>Region.ready md ops l= []/\Q .normal a w
 |n+1,l,a,w=>(Region.ready md ops l= []->Q .normal a w)/\∀i∈Region.ready md ops l,wpOp P ops Q i (fun a' w' =>((l.setIfInBounds i true).getD st true=false->S w')/\zcm P md ops Q S st n (l.setIfInBounds i true) a' w') a w
theorem zkp: ∀(n:Nat) (l:Array Bool) (a:Act) (w:World),zcm P md ops Q S st n l a w->wpAny P md ops Q n l a w
 |0,_,_,_,h=>h
 |n+1,_,_,_,h=>⟨h.1,fun i hi=>wpOp_mono (fun a' w' h' =>zkp n _ a' w' h'.2) (h.2 i hi)⟩
theorem zhh {S' :World->Prop} {oi:Oper} (hi:ops[i]?=some oi) (hsel: ∀(j:Nat) (o:Oper) cs b,ops[j]?=some o->o.op≠.select cs b)
 (hQ: ∀c a w,Q (.panic c) (a.put oi.dst v) w->Q (.panic c) a w) (hne:st≠i)
 (hS' : (∀w,S' w)\/((∀w,S w->S' w)/\∀l:Array Bool,i∈Region.ready md ops l->l.getD st true=false->st∉Region.ready md ops l)):
 ∀(n:Nat) (l:Array Bool) (a:Act) (w:World),
  (∀j oj,ops[j]?=some oj->j≠i->l.getD j true=false->(∀e∈oj.after,Region.binds md e=true->e.on≠i)->oi.apart ops oj=true)->
  i∈Region.ready md ops l->YieldsIf P ops S' oi v a->((∀w,S' w)\/l.getD st true=false)->(l.getD st true=false->S w)->
  zcm P md ops Q S st n (l.setIfInBounds i true) (a.put oi.dst v) w->zcm P md ops Q S st (n+1) l a w:=by
 have key: ∀(l:Array Bool) (w:World),((∀w,S' w)\/l.getD st true=false)->(l.getD st true=false->S w)->S' w:=fun l w h1 h2=>by
  rcases h1 with h1|h1
  { exact h1 w }
  {
  rcases hS' with h| ⟨h,_⟩
  { exact h w }
  { exact h w (h2 h1) } }
 intro n
 induction n with
 |zero=>
  intro l a w _ hr hy h1 hS H;refine⟨fun h=>(by rw [h] at hr;cases hr),fun j hj=> ?_⟩
  by_cases hji:j=i
  {
  subst hji;exact hy.wpOp hi (key l w h1 hS) ⟨fun h=>hS (by rwa [getD_set_ne true (Ne.symm hne)] at h),H⟩ }
  {
  have:=ready_mono hj hji;rw [H.1] at this;cases this }
 |succ n ih=>
  intro l a w hfree hr hy h1 hS H;refine⟨fun h=>(by rw [h] at hr;cases hr),fun j hj=> ?_⟩
  by_cases hji:j=i
  {
  subst hji;exact hy.wpOp hi (key l w h1 hS) ⟨fun h=>hS (by rwa [getD_set_ne true (Ne.symm hne)] at h),H⟩ }
  {
  have g1:=H.2 j (ready_mono hj hji);obtain ⟨hjun,oj,hoj,hall⟩:=mem_ready.1 hj;have hnot: ∀e∈oj.after,Region.binds md e=true->e.on≠i:=fun e he hb heq=>by
   have q1:=hall e he hb;have q0:=(mem_ready.1 hr).1;rw [heq] at q1
   rcases Nat.lt_or_ge i l.size with h' |h'
   { simp [h'] at q0 q1;rw [q0] at q1;cases q1 }
   { simp [Array.getElem?_eq_none h'] at q1 }
  have g2:=wpOp_putIf hoj (hfree j oj hoj hji hjun hnot) (fun cs b=>hsel i oi cs b hi) (fun cs b=>hsel j oj cs b hoj) hQ hy g1;have hfree' : ∀k ok,ops[k]?=some ok->k≠i->(l.setIfInBounds j true).getD k true=false->
   (∀e∈ok.after,Region.binds md e=true->e.on≠i)->oi.apart ops ok=true:=fun k ok hk hki hun hno=>by
   refine hfree k ok hk hki ?_ hno
   by_cases hjk:j=k
   { subst hjk;exact hjun }
   { rw [getD_set_ne true hjk] at hun;exact hun }
  have same: ((l.setIfInBounds i true).setIfInBounds j true).getD st true= (l.setIfInBounds j true).getD st true:=by
   rw [Array.setIfInBounds_comm _ _ (Ne.symm hji),getD_set_ne true (Ne.symm hne)]
  have h1' : (∀w,S' w)\/(l.setIfInBounds j true).getD st true=false:=by
   rcases h1 with h1|h1
   { exact .inl h1 }
   {
   rcases hS' with h| ⟨_,h⟩
   { exact .inl h }
   {
   right
   have hjs:j≠st:=fun e=>h l hr h1 (e▸hj)
   rw [getD_set_ne true hjs];exact h1 } }
  refine wpOp_mono (fun a' w' h3=>⟨fun hl=>h3.2.1 (same▸hl),ih (l.setIfInBounds j true) a' w' hfree' (ready_mono hr (Ne.symm hji)) h3.1 h1' (fun hl=>h3.2.1 (same▸hl)) ?_⟩) g2;rw [Array.setIfInBounds_comm _ _ hji];exact h3.2.2 }
theorem zay {oi:Oper} {l:Array Bool} {a:Act} (hi:ops[i]?=some oi)
 (hs: (Region.noSelect ops&&(Region.free md ops l i&&((Region.ready md ops l).contains i&&decide (st≠i))))=true)
 (hQ: ∀c a w,Q (.panic c) (a.put oi.dst v) w->Q (.panic c) a w) (hy:YieldsIf P ops (fun _=>True) oi v a) (hS:l.getD st true=false->S w)
 (h:zcm P md ops Q S st n (l.setIfInBounds i true) (a.put oi.dst v) w):zcm P md ops Q S st (n+1) l a w:=by
 simp only [kr,KF] at hs;exact zhh (S' :=fun _=>True) hi (Region.noSelect_spec hs.1) hQ hs.2.2.2 (.inl fun _=>trivial) n l a w (Region.free_spec hi hs.2.1) (by simpa using hs.2.2.1) hy (.inl fun _=>trivial) hS h
theorem Utk (i:Nat) {oi:Oper} {l:Array Bool} {a:Act} (h:zcm P md ops Q S st n (l.setIfInBounds i true) (a.put oi.dst v) w) (hi:ops[i]?=some oi:=by(simp only [KN,KM,KL];rfl))
 (hs: (Region.noSelect ops&&(Region.free md ops l i&&((Region.ready md ops l).contains i&&decide (st≠i))))=true:=by kernel_rfl)
 (hQ: ∀c a w,Q (.panic c) (a.put oi.dst v) w->Q (.panic c) a w:=by exact fun _ _ _ h=>h) (hw:Region.wanted oi (yielded ops a.tmps)=true:=by rfl) (hy: ∀w,True->(execOp a.eval oi).run P w=.ok (.value v) w:=by(intro w hSw;(try dsimp only at hSw);go_simp;(try with_reducible rfl)))
 (hS:l.getD st true=false->S w:=by first|exact fun h=>absurd h (by decide)|exact fun _=>by assumption):zcm P md ops Q S st (n+1) l a w:=zay hi hs hQ (.inl ⟨hw,hy⟩) hS h
theorem zge {oi os:Oper} {l:Array Bool} {a:Act} (hi:ops[i]?=some oi) (ho:ops[st]?=some os)
 (hs: (Region.noSelect ops&&(Region.free md ops l i&&((Region.ready md ops l).contains i&&(decide (st≠i)&&(!l.getD st true&&os.after.any fun e=>Region.binds md e&&e.on==i)))))=true)
 (hQ: ∀c a w,Q (.panic c) (a.put oi.dst v) w->Q (.panic c) a w) (hy:YieldsIf P ops S oi v a) (hS:l.getD st true=false->S w)
 (h:zcm P md ops Q S st n (l.setIfInBounds i true) (a.put oi.dst v) w):zcm P md ops Q S st (n+1) l a w:=by
 simp only [kr,KF,Bool.not_eq_true'] at hs;obtain ⟨s1,s2,s3,s4,s5,s6⟩:=hs;obtain ⟨e,he,hb⟩:=List.any_eq_true.1 (by simpa using s6: (os.after.toList.any fun e=>Region.binds md e&&e.on==i)=true);simp only [kr,beq_iff_eq] at hb;refine zhh (S' :=S) hi (Region.noSelect_spec s1) hQ s4 (.inr ⟨fun _ h=>h,fun l' hr' _ hst=> ?_⟩) n l a w (Region.free_spec hi s2) (by simpa using s3) hy (.inr s5) hS h;obtain ⟨_,o',ho',hall⟩:=mem_ready.1 hst;rw [ho] at ho';cases ho';have q1:=hall e (by simpa using he) hb.1;have q0:=(mem_ready.1 hr').1;rw [hb.2] at q1
 rcases Nat.lt_or_ge i l'.size with h' |h'
 { simp [h'] at q0 q1;rw [q0] at q1;cases q1 }
 { simp [Array.getElem?_eq_none h'] at q1 }
def AllU (P:Program) (md:Region.Mode) (ops:Array Oper) (Q:Exit->Act->World->Prop) (S:World->Prop) (st:Nat) (n:Nat) (l:Array Bool) (a:Act) (w:World) (rs:List Nat):Prop:=
 ∀i∈rs,wpOp P ops Q i (fun a' w' =>((l.setIfInBounds i true).getD st true=false->S w')/\zcm P md ops Q S st n (l.setIfInBounds i true) a' w') a w
theorem U_nil {l:Array Bool} {a:Act} :AllU P md ops Q S st n l a w []:=fun _ h=>by cases h
theorem zgm {l:Array Bool} {a:Act} {o:Oper} {rs:List Nat} (ho:ops[i]?=some o)
 (h: ∀K' :Act->World->Prop,Shut (∀a w,((l.setIfInBounds i true).getD st true=false->S w)->(((l.setIfInBounds i true).getD st true=false->S w)->zcm P md ops Q S st n (l.setIfInBounds i true) a w)->K' a w)->if Region.wanted o (yielded ops a.tmps)=true then Oper.wp P o a w K' Q else K' (a.put o.dst undef) w)
 (hs:AllU P md ops Q S st n l a w rs):AllU P md ops Q S st n l a w (i::rs):=fun j hj=>by
 rcases kt.1 hj with rfl|hj
 { exact wpOp_step ho (fun K' hK=>h K' (fun a w hS hW=>hK a w ⟨hS,hW hS⟩)) }
 { exact hs j hj }
theorem ze5 {rs:List Nat} {l:Array Bool} {a:Act} (hr:Region.ready md ops l=rs) (hne:rs≠ []) (h:AllU P md ops Q S st n l a w rs):zcm P md ops Q S st (n+1) l a w:=
 ⟨fun h0=>absurd (hr▸h0) hne,hr▸h⟩
theorem U_done {l:Array Bool} {a:Act} {w:World} (hr:Region.ready md ops l= []) (h:Q .normal a w): ∀n,zcm P md ops Q S st n l a w
 |0=>⟨hr,h⟩
 |_+1=>⟨fun _=>h,by rw [hr];simp⟩
theorem zlm {id:Nat} {a:Act} (st:Nat) (S:World->Prop) (hm:P.follows .mixedOrders=true) (hS:S w.drew)
 (h: ((Array.replicate ops.size false).getD st true=false->S w.drew)->zcm P .any ops Q S st ops.size (Array.replicate ops.size false) a w.drew): (Code.region id ops true).wp P Q a w:=
 wp_region_any hm (zkp _ _ _ _ (h fun _=>hS))
end
end Go.Proofs.YthmekfcgdfckaaaGreatDoor
