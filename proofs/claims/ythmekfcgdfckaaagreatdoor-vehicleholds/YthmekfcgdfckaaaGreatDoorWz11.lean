/- Facts. -/
import Derived.Test.YthmekfcgdfckaaaGreatDoorWz8
set_option maxRecDepth 1000000
set_option maxHeartbeats 0
namespace Go.Proofs.YthmekfcgdfckaaaGreatDoor
open Go.RowKit
variable {vs:LV} {a:oA} {w:World} {l:List Ms} {t:TypeId}
section
attribute [local go_sem ↓] kM kO
structure CA where
 at_:oA
 nt:Nat
 ct:Nat
 ai:oA
 ni:Nat
 ci:Nat
def cpv (n v u:Int) (m:CA):Value:=.agg #[iV n,iV v,iV u,.slice m.at_ m.nt m.ct,.slice m.ai m.ni m.ci]
def MVs (w:World) (o:Option Nat):List Ms->LV->Prop
 | [],vs=>vs= []
 |m::l,vs=>∃am cm rest,vs= [iV m.k,iV m.u,iV m.n,iV m.at',iV m.im,.slice am m.ws.length cm,.bool m.y]++rest/\zag w am m.ws/\m.ws.length<=maxLen/\(m.ws= []\/∀g,o=some g->Off g am)/\MVs w o l rest
theorem MVs.snoc {w:World} {o:Option Nat} {m:Ms} {am:oA} {cm:Nat} (hi:zag w am m.ws) (hm:m.ws.length<=maxLen) (ho:m.ws= []\/∀g,o=some g->Off g am): ∀(l:List Ms) (vs:LV),MVs w o l vs->MVs w o (l++ [m]) (vs++ [iV m.k,iV m.u,iV m.n,iV m.at',iV m.im,.slice am m.ws.length cm,.bool m.y])
 | [],vs,h=>by
  have h:vs= []:=h;subst h;exact⟨am,cm, [],rfl,hi,hm,ho,rfl⟩
 |x::l,vs,h=>by
  obtain ⟨ax,cx,rest,rfl,h1,h2,h3,h4⟩:=h;exact⟨ax,cx,rest++ [iV m.k,iV m.u,iV m.n,iV m.at',iV m.im,.slice am m.ws.length cm,.bool m.y],by simp,h1,h2,h3,MVs.snoc hi hm ho l rest h4⟩
theorem MVs.grow {w w' :World} {o o' :Option Nat} (hg:w.grownBy w' o) (ho:o' =o\/∃H,o' =some H/\w.heap.size<=H): ∀(l:List Ms) (vs:LV),MVs w o l vs->MVs w' o' l vs
 | [],vs,h=>h
 |m::l,vs,h=>by
  obtain ⟨am,cm,rest,h0,h1,h2,h3,h4⟩:=h;refine⟨am,cm,rest,h0, ?_,h2, ?_,MVs.grow hg ho l rest h4⟩
  {
  rcases h3 with h3|h3
  { exact .inl h3 }
  rcases h1 with h1| ⟨b,off,rfl,hc⟩
  { exact .inl h1 }
  { exact .inr ⟨b,off,rfl,fun i hi=>hg.cell (hc i hi) (fun e=>h3 b e.symm _ rfl rfl)⟩ } }
  {
  rcases ho with rfl| ⟨H,rfl,hH⟩
  { exact h3 }
  {
  rcases zcu h1 H hH with h|h
  { exact .inl h }
  { exact .inr (fun g e=>by cases e;exact h) } } }
theorem MVs.len {w:World} {o:Option Nat}: ∀(l:List Ms) (vs:LV),MVs w o l vs->vs.length=l.length * 7
 | [],vs,h=>by
  have h:vs= []:=h;subst h;rfl
 |m::l,vs,h=>by
  obtain ⟨am,cm,rest,h0,h1,h2,h3,h4⟩:=h;have:=MVs.len l rest h4;rw [h0]
  simp
  omega
theorem MVs.at_ {w:World} {o:Option Nat}: ∀(l:List Ms) (vs:LV),MVs w o l vs->∀i m,l[i]?=some m->∃am nm cm,BI w am nm m.ws/\vs[i * 7]?=some (iV m.k)/\vs[i * 7+1]?=some (iV m.u)/\vs[i * 7+2]?=some (iV m.n)/\vs[i * 7+3]?=some (iV m.at')/\vs[i * 7+4]?=some (iV m.im)/\vs[i * 7+5]?=some (.slice am nm cm)/\vs[i * 7+6]?=some (.bool m.y)
 | [],vs,_,i,m,hi=>by simp at hi
 |x::l,vs,h,0,m,hi=>by
  obtain ⟨am,cm,rest,h0,h1,h2,h3,h4⟩:=h
  simp at hi
  subst hi;subst h0;exact⟨am,x.ws.length,cm,⟨h1,rfl,h2⟩,rfl,rfl,rfl,rfl,rfl,rfl,rfl⟩
 |x::l,vs,h,i+1,m,hi=>by
  obtain ⟨am,cm,rest,h0,h1,h2,h3,h4⟩:=h;have hi:l[i]?=some m:=by simpa using hi
  obtain ⟨a1,n1,c1,q0,q1,q2,q3,q4,q5,q6,q7⟩:=MVs.at_ l rest h4 i m hi;subst h0;have e: ∀j,([iV x.k,iV x.u,iV x.n,iV x.at',iV x.im,.slice am x.ws.length cm,.bool x.y]++rest)[(i+1)* 7+j]?=rest[i * 7+j]?:=fun j=>by
   rw [KC (by simp;omega)]
   congr 1
   simp
   omega
  refine⟨a1,n1,c1,q0, ?_, ?_, ?_, ?_, ?_, ?_, ?_⟩
  { exact(e 0).trans q1 }
  { exact(e 1).trans q2 }
  { exact(e 2).trans q3 }
  { exact(e 3).trans q4 }
  { exact(e 4).trans q5 }
  { exact(e 5).trans q6 }
  { exact(e 6).trans q7 }
def FrV (F:Nat) (vs:LV):Prop:=∀u∈vs,∀a n c,u=Value.slice a n c->zal F a
theorem FrV.nil (F:Nat):FrV F []:=fun u h=>by cases h
theorem FrV.snoc {F:Nat} {x0 x1 x2 x3 x4:Int} {n c:Nat} {y:Bool} (h:FrV F vs) (ha:zal F a):FrV F (vs++ [iV x0,iV x1,iV x2,iV x3,iV x4,.slice a n c,.bool y]):=by
 intro u hu a' n' c' e
 rcases KS.1 hu with hu|hu
 { exact h u hu _ _ _ e }
 {
 subst e
 simp at hu
 obtain ⟨rfl,-,-⟩:=hu;exact ha }
def zep (w:World) (F:Nat) (a:oA) (l:List Ms):Prop:=
 l= []\/∃b off,a=some ⟨b,off,none⟩/\∀i m,l[i]?=some m->∃am nm cm,(BI w am nm m.ws/\zal F am)/\
  w.cell? ⟨b,off+i * 7,none⟩=some (iV m.k)/\w.cell? ⟨b,off+i * 7+1,none⟩=some (iV m.u)/\w.cell? ⟨b,off+i * 7+2,none⟩=some (iV m.n)/\w.cell? ⟨b,off+i * 7+3,none⟩=some (iV m.at')/\
  w.cell? ⟨b,off+i * 7+4,none⟩=some (iV m.im)/\w.cell? ⟨b,off+i * 7+5,none⟩=some (.slice am nm cm)/\w.cell? ⟨b,off+i * 7+6,none⟩=some (.bool m.y)
theorem zep.lower {F F' :Nat} (h:zep w F a l) (hF:F' <=F):zep w F' a l:=by
 rcases h with h| ⟨b,off,e,hc⟩
 { exact .inl h }
 {
 refine .inr ⟨b,off,e,fun i m hi=> ?_⟩;obtain ⟨am,nm,cm,⟨q,f⟩,r⟩:=hc i m hi;exact⟨am,nm,cm,⟨q,fun ad e=>kc hF (f ad e)⟩,r⟩ }
theorem za9.mswF {F:Nat} (h:za9 w a l):zep w F a l:=by
 rcases h with h| ⟨b,rfl,hc⟩
 { exact .inl h }
 {
 refine .inr ⟨b,0,rfl,fun i m hi=> ?_⟩;obtain ⟨h0,h1,h2,h3,h4,h5,h6,h7⟩:=hc i m hi;simp only [Kl];exact⟨none,0,0,⟨⟨.inl h0,by rw [h0];rfl,by decide⟩,zal.nil _⟩,h1,h2,h3,h4,h5,h6,h7⟩ }
theorem row_msgsF {base g n c F:Nat} (h:w.ownsRow base t 7 (sV g n c) n vs) (hm:MVs w (some g) l vs) (hf:FrV F vs):zep w F (some ⟨g,0,none⟩) l:=by
 have hc: ∀j u,vs[j]?=some u->ce w g (0+j)=some u:=fun j u hu=>by
  have:=h.cells (g:=g) rfl j u hu
  rwa [zc2] at this
 refine .inr ⟨g,0,rfl,fun i m hi=> ?_⟩;obtain ⟨a1,n1,c1,q0,q1,q2,q3,q4,q5,q6,q7⟩:=MVs.at_ l vs hm i m hi;simp only [Kl] at hc|-;exact⟨a1,n1,c1,⟨q0,hf _ (Kp q6) _ _ _ rfl⟩,hc _ _ q1,hc _ _ q2,hc _ _ q3,hc _ _ q4,hc _ _ q5,hc _ _ q6,hc _ _ q7⟩
def pcs (u n:Int) (image:LI) (k:Nat):List Ms:=(List.range k).map fun j=>⟨1,u,n,(8 * j:Nat),0,(image.drop (8 * j)).take 8,false⟩
theorem znm (u n:Int) (image:LI) (k:Nat):pcs u n image (k+1)=pcs u n image k++ [⟨1,u,n,(8 * k:Nat),0,(image.drop (8 * k)).take 8,false⟩]:=by
 unfold pcs;rw [List.range_succ,List.map_append];rfl
theorem pcs_len (u n:Int) (image:LI) (k:Nat): (pcs u n image k).length=k:=by unfold pcs;simp
theorem zio (u n:Int) (image:LI): ∀(f j k:Nat),(j<=k->True)->image.length<=8 *(j+f)->(8 * k<image.length+8/\image.length<=8 * k)->j<=k->pcs u n image j++zgh u n image f (8 * j)=pcs u n image k
 |0,j,k,_,h1,h2,h3=>by
  have:j=k:=by omega
  subst this
  simp [zgh]
 |f+1,j,k,_,h1,h2,h3=>by
  unfold zgh
  by_cases h:8 * j<image.length
  {
  rw [KK h];have:=zio u n image f (j+1) k (fun _=>trivial) (by omega) h2 (by omega);rw [znm,KW] at this;exact this }
  {
  rw [KJ h];have:j=k:=by omega
  subst this
  simp }
theorem zqa (u n:Int) (image:LI) (k:Nat) (h:image.length<=40) (h2:8 * k<image.length+8/\image.length<=8 * k):zgh u n image 6 0=pcs u n image k:=by
 have:=zio u n image 6 0 k (fun _=>trivial) (by omega) h2 (KG _)
 simpa [pcs] using this
theorem sub_ints {b off n:Nat} {xs:LI} (h:zag w (some ⟨b,off,none⟩) xs) (p q:Nat) (hl:xs.length=n) (hm:n<=maxLen) (hq:p+q<=n):BI w (some ⟨b,off+p,none⟩) q ((xs.drop p).take q):=by
 refine⟨?_,by simp;omega,by omega⟩
 {
 rcases h with h| ⟨b',off',e,hc⟩
 { subst h;exact .inl (by simp) }
 {
 cases e;refine .inr ⟨b,off+p,rfl,fun i hi=> ?_⟩
 simp at hi
 have:=hc (p+i) (by omega);rw [Nat.add_assoc,this]
 congr 2
 simp [List.getD_eq_getElem?_getD,show i<q by omega] } }
structure DInv (W:World) (u n:Int) (image:LI) (k:Nat) (v:Value) (wr:World):Prop where
 bel:bZ W wr
 row: ∃vs,wr.ownsRow W.heap.size 99 7 v k vs/\MVs wr v.ownBlock (pcs u n image k) vs/\FrV W.heap.size vs
theorem zfd {ls:LL} (h:ze6 w a ls) (u:Nat) (hu:u<ls.length): ∃b off ai ci,a=some ⟨b,off,none⟩/\w.cell? ⟨b,off+u,none⟩=some (Value.slice ai ls[u].length ci)/\zag w ai ls[u]/\ls[u].length<=ci/\ci<=maxLen:=by
 rcases h with h| ⟨b,off,ha,hc⟩
 { subst h;simp at hu }
 {
 obtain ⟨ai,ci,h1,h2,h3,h4⟩:=hc u _ (kX hu);exact⟨b,off,ai,ci,ha,h1,h2,h3,h4⟩ }
theorem tgts_at {ts:List T3} (h:zbm w a ts) (u:Nat) (hu:u<ts.length): ∃b off,a=some ⟨b,off,none⟩/\w.cell? ⟨b,off+u * 3+1,none⟩=some (iV ts[u].2.1):=by
 rcases h with h| ⟨b,off,ha,hc⟩
 { subst h;simp at hu }
 {
 obtain ⟨h1,h2,h3⟩:=hc u _ (kX hu);exact⟨b,off,ha,h2⟩ }
theorem infoM: (Tryz.prog.info? 99).map (fun i=>(i.zero,i.size,i.bytes))=some (some (.agg #[iV 0,iV 0,iV 0,iV 0,iV 0,nV,.bool false]),7,72):=by kernel_rfl
theorem zhz {w' :World} (h:bZ w w') (o:Option Nat):w.grownBy w' o:=⟨h.os,h.tape,h.output,h.size,fun k hk _=>h.block k hk⟩
theorem row_lt {base n size:Nat} {v:Value} {g:Nat} (h:w.ownsRow base t size v n vs) (hg:v.ownBlock=some g):g<w.heap.size:=by
 obtain ⟨_,⟨hv,_⟩| ⟨g',cap,cur,hv,_,hh,_⟩⟩:=h
 { subst hv;cases hg }
 { subst hv;cases hg;exact zak hh }
theorem zls {base n size:Nat} {v:Value} {g:Nat} (h:w.ownsRow base t size v n vs) (hg:v.ownBlock=some g):base<=g:=by
 obtain ⟨_,⟨hv,_⟩| ⟨g',cap,cur,hv,hb,hh,_⟩⟩:=h
 { subst hv;cases hg }
 { subst hv;cases hg;exact hb }
theorem dlvS {W W' :World} {B bt ot:Nat} {n v u:Int} {m1 m2:Value} {x:Int} (h0:W.heap[B]?=some (.cells #[iV n,iV v,iV u,m1,m2] 94 (0,0))) (h1:ce W bt ot=some (iV x)) (h:bZ W W'):
 ce W' B 0=some (iV n)/\ce W' B 3=some m1/\ce W' bt ot=some (iV x)/\bZ W W' :=
 ⟨zaa (zab h0 h) 0 _ rfl,zaa (zab h0 h) 3 _ rfl,(h.cell (zah h1)).trans h1,h⟩
def DAns (w:World) (l:List Ms) (e:Ending) (w' :World):Prop:=(∃a n c,e=.returned (.slice a n c)/\zep w' w.heap.size a l/\l.length=n/\n<=c/\zal w.heap.size a)/\bZ w w'
theorem znd (cn cv cu:Int) (m:CA) (ts:List T3) (ims:LL) (u:Nat) (w:World) (ht:BT w m.at_ m.nt ts) (hi:BL w m.ai m.ni ims) (hu:u<ims.length) (hut:u<ts.length) (h40: (ims.getD u []).length<=40):
 Cq 246 #[cpv cn cv cu m,iV u] w (DAns w (delG cn u (ts.getD u (0,0,0)).2.1 (ims.getD u []))):=by
 obtain ⟨ta,nt,ct,ia,ni,ci⟩:=m;dsimp only at ht hi;unfold cpv;dsimp only;have hni:=hi.len;have hnt:=ht.len;obtain ⟨bi,oi,a5,c5,rfl,hcell,hints,hc5,hm5⟩:=zfd hi.at_ u hu;obtain ⟨bt,ot,rfl,t1⟩:=tgts_at ht.at_ u hut;rw [show ims.getD u []=ims[u] by simp [hu]] at h40|-;rw [show ts.getD u (0,0,0)=ts[u] by simp [hut]];have hw:bZ w (w.alloc (.cells #[iV cn,iV cv,iV cu,.slice (some ⟨bt,ot,none⟩) nt ct,.slice (some ⟨bi,oi,none⟩) ni ci] 94)):=bA1;have b0:=uH (kP w (.cells #[iV cn,iV cv,iV cu,.slice (some ⟨bt,ot,none⟩) nt ct,.slice (some ⟨bi,oi,none⟩) ni ci] 94));have huI: (u:Int)< (ni:Int):=by omega
 have huT: (u:Int)< (nt:Int):=by omega
 clear ht hi;generalize ims[u]=image at *;generalize ts[u]=tt at *;replace hcell:=uH hcell;have T1:=uH t1;have HI:=uH (hints.bl hw);have hcell2: (w.alloc (.cells #[iV cn,iV cv,iV cu,.slice (some ⟨bt,ot,none⟩) nt ct,.slice (some ⟨bi,oi,none⟩) ni ci] 94)).cell? ⟨bi,oi+u,none⟩=some (Value.slice a5 image.length c5):=by rw [hw.cell (zah hcell.o)];exact hcell.o
 have T2:Hd ((w.alloc (.cells #[iV cn,iV cv,iV cu,.slice (some ⟨bt,ot,none⟩) nt ct,.slice (some ⟨bi,oi,none⟩) ni ci] 94)).cell? ⟨bt,ot+u * 3+1,none⟩=some (iV tt.2.1)):=by show _=_;rw [hw.cell (zah T1.o)];exact T1.o
 clear t1 T1 hcell hints hni hnt hu hut;have x4:=zaa b0.o 4 _ rfl;go_enter Tryz.func246,Tryz.ntmps246;go_wp2_with fail;generalize w.alloc (.cells #[iV cn,iV cv,iV cu,.slice (some ⟨bt,ot,none⟩) nt ct,.slice (some ⟨bi,oi,none⟩) ni ci] 94)=W at *;have I0:Hd (DInv W u cn image 0 (nV) W):=⟨kS _ _, [],KZ _ _ _ _,rfl,FrV.nil _⟩;clear x4 hcell2;obtain ⟨irr,hir,rz0,rz1,rz2⟩:=info_parts infoM
 go_loopw [6,7] (fun p i wq=>∃k:Nat,8 * k<image.length+8/\i=iV (8 * k:Nat)/\Hd (DInv W u cn image k p wq)) (fun _ i _=>48 - (intOf i).toNat)
 case atStart=>exact⟨0,by omega,rfl,I0⟩
 case round=>
  clear I0;obtain ⟨wq,rfl⟩: ∃wq:World,wq=wr:=⟨_,rfl⟩;obtain ⟨k,hk,rfl,hI⟩:=hrel;obtain ⟨vs,hrow,hmv,hfv⟩:=hI.o.row;have hbel:=hI.o.bel;have bq:=uH (zab b0.o hbel);have IQ:=uH (HI.o.bl hbel)
  by_cases hlt:8 * k<image.length
  {
  obtain ⟨b5,o5,rfl⟩: ∃b o,a5=some ⟨b,o,none⟩:=by
   rcases IQ.o with h| ⟨b,o,h,_⟩
   { rw [h] at hlt;simp at hlt }
   { exact⟨b,o,h⟩ }
  have HC:=uH (fun q (hq:8 * k+q<=image.length) c=>ze1 (some ⟨b5,o5+8 * k,none⟩) q c ((image.drop (8 * k)).take q) wq (sub_ints IQ.o (8 * k) q rfl (by unfold maxLen;omega) hq) (by omega));have hT8:Hd (∀q,(q=8\/8 * k+q=image.length/\q<=8)->(image.drop (8 * k)).take q= (image.drop (8 * k)).take 8):=fun q hq=>by
   rcases hq with rfl| ⟨h1,h2⟩
   { rfl }
   { rw [kh (by simp;omega),kh (by simp;omega)] }
  have HKK:Hd (8 * k<48):=by show _<_;omega
  generalize hP:8 * k=P at *;have HP:=uH hP;have hPI: (P:Int)< (image.length:Int):=by omega
  clear hP hk;go_upto_region 6 with fail
  go_cut [8] (fun v8 wx=>∃a8 c8,v8=.slice a8 ((image.drop P).take 8).length c8/\Hd (wx.ownsRow wq.heap.size 3 1 (.slice a8 ((image.drop P).take 8).length c8) ((image.drop P).take 8).length (vals ((image.drop P).take 8)))/\bZ wq wx)
  case first=>
   have hqq:P+((min ((P:Int)+8) (image.length:Int)).toNat - P)<=image.length:=by omega
   have hq2: (image.drop P).take ((min ((P:Int)+8) (image.length:Int)).toNat - P)= (image.drop P).take 8:=hT8.o _ (by omega);have hq3: (min ((P:Int)+8) (image.length:Int)).toNat - P= ((image.drop P).take 8).length:=by rw [KQ,List.length_drop];omega
   have hcc: (min ((P:Int)+8) (image.length:Int))<=(c5:Int):=by omega
   have hPm: (P:Int)<=min ((P:Int)+8) (image.length:Int):=by omega
   have HC1:=uH (fun c=>zae HC _ hqq c);rw [hq2] at HC1;have HQ3:=uH hq3;clear hqq hq2 hq3 HC;go_wp2_with fail;refine(zae HC1 _).mono ?_;rintro e w8 ⟨⟨a8,c8,rfl,ho8⟩,hb8⟩;have HO8:=uH ho8;clear ho8 HC1 hcc hPm;go_wp2_with fail
   go_meet
   case rel=>exact⟨a8,c8,by simp,HO8,hb8⟩
  case rest=>
   obtain ⟨a8,c8,rfl,ho8,hb8⟩:=hcut;have HPC:=uH (znm u cn image k);have hk8:=uH (show((image.drop P).take 8).length<=maxLen by unfold maxLen;simp;omega);rw [HP.o] at HPC;obtain ⟨y8,y9,-⟩:=zgz ho8.o rfl;generalize (image.drop P).take 8=ws8 at *;have HF8:Hd (zal W.heap.size a8):=fun ad e=>kc hbel.size (y9 ad e)
   have hP5:Hd (∀g,u6.ownBlock=some g->Off g a8):=fun g hg=>za6 y9 (row_lt hrow hg)
   have hrowc:=uH (zba hrow hb8);have hmvc:=uH (MVs.grow (zhz hb8 _) (.inl rfl) _ _ hmv);have bc:=uH (zab bq.o hb8);have hwc:=bT hbel hb8;have Y8:=uH y8;clear ho8 hb8 y8 y9 hrow hmv bq IQ HI hbel HC hT8 b0;generalize wq.heap.size=Q0 at *;have z0:=zaa bc.o 0 _ rfl;have hrowd:=hrowc.o.alloc (.cells #[iV 1,iV u,iV cn,iV P,iV 0,.slice a8 ws8.length c8,.bool false] 99);have bm:=kP wc (.cells #[iV 1,iV u,iV cn,iV P,iV 0,.slice a8 ws8.length c8,.bool false] 99);have hbd:bZ wc (wc.alloc (.cells #[iV 1,iV u,iV cn,iV P,iV 0,.slice a8 ws8.length c8,.bool false] 99)):=zaf (kS _ _) _;have hwd:=zaf hwc (.cells #[iV 1,iV u,iV cn,iV P,iV 0,.slice a8 ws8.length c8,.bool false] 99);have hmd:=uH (MVs.snoc (m:=⟨1,u,cn,P,0,ws8,false⟩) (cm:=c8) (Y8.o.bl hbd) hk8.o (.inr hP5.o) _ _ (MVs.grow (zhz hbd _) (.inl rfl) _ _ hmvc.o));have hsd:W.heap.size<=(wc.alloc (.cells #[iV 1,iV u,iV cn,iV P,iV 0,.slice a8 ws8.length c8,.bool false] 99)).heap.size:=hwd.size;have hkm:k+1<=maxLen:=by have:=HKK.o;have:=HP.o;unfold maxLen;omega
   have hkb: (k+1)* 72<=140737488355328:=by have:=HKK.o;have:=HP.o;omega
   have hHs: (wc.alloc (.cells #[iV 1,iV u,iV cn,iV P,iV 0,.slice a8 ws8.length c8,.bool false] 99)).heap.size=wc.heap.size+1:=by simp
   go_wp2_with (at_builtin;refine wpList_append_lies _ rfl _ _ 38 rfl W.heap.size 99 irr _ 7 72 Tryz.underlying38 hir rz0 rz1 rz2 rfl (by omega) _ k _ rfl hrowd ⟨wc.heap.size,0,none⟩ 1 1 [iV 1,iV u,iV cn,iV P,iV 0,.slice a8 ws8.length c8,.bool false] rfl rfl (World.news_of_block bm) (by simp [Value.oneCell']) (by omega) hkm hkb hsd (wc.heap.size+1) hHs ?_;intro g cap w4 hown4 hgr4 hat4 _)
   have hw4:bZ W w4:=hwd.grown hgr4 hwd.size (fun j e=>zls hrowd e);have hmv4:=MVs.grow (o' :=some g) hgr4 (by rcases hat4 with h|h;exact .inl h.symm;exact .inr ⟨_,by rw [h],by rw [hHs];omega⟩) _ _ hmd.o;have HI4:Hd (DInv W u cn image (k+1) (sV g (k+1) cap) w4):=⟨hw4,_,hown4,by rw [HPC.o];exact hmv4,hfv.snoc HF8.o⟩;clear hown4 hgr4 hat4 hmv4 hw4 hmd hrowd hsd hbd bm hkm hkb hHs z0;go_wp2_with fail
   go_roundw
   case rel=>exact⟨k+1,by have:=HP.o;omega,by have:=HP.o;go_num,HI4⟩
   case measure=>have:=HKK.o;simp [intOf];omega }
  {
  have HPA:=uH (zqa u cn image k h40 (by omega));have hI8: ¬((8 * k:Nat):Int)< (image.length:Int):=by omega
  have hkm:k+1<=maxLen:=by unfold maxLen;omega
  have hkb: (k+1)* 72<=140737488355328:=by omega
  have HLK:=uH (pcs_len u cn image k);clear hk;go_upto_region 8 with fail
  refine km (S:=fun W' =>W'.cell? ⟨w.heap.size,0,none⟩=some (iV cn)/\W'.cell? ⟨w.heap.size,3,none⟩=some (.slice (some ⟨bt,ot,none⟩) nt ct)/\W'.cell? ⟨bt,ot+u * 3+1,none⟩=some (iV tt.2.1)/\bZ W W') (by kernel_rfl) (dlvS b0.o T2.o hbel.drew) ?_;intro hHeld;refine Htk 0 ?_
  refine Htk 1 ?_
  refine Htk 2 ?_
  refine Htk 3 ?_
  refine Htk 4 ?_
  refine Htk 5 ?_
  refine Htk 6 ?_
  refine Htk 7 ?_
  refine Htk 8 ?_
  refine Htk 9 ?_
  refine Htk 10 ?_
  refine Htk 11 ?_
  refine Htk 12 ?_
  refine Htk 13 ?_
  refine wr1 14 (fun K hK=> ?_);go_simp;refine hK.out _ _ (dlvS b0.o T2.o (zaf hbel.drew _)) (fun hHeld=> ?_);clear hK K
  try simp only [sq]
  have hbd:bZ wq (wq.drew.alloc (.cells #[iV 2,iV u,iV cn,iV image.length,iV tt.2.1,nV,.bool false] 99)):=zaf (kS _ _).drew _;have hrowd:=zba hrow hbd;have bm:=kP wq.drew (.cells #[iV 2,iV u,iV cn,iV image.length,iV tt.2.1,nV,.bool false] 99);have hwd:=zaf hbel.drew (.cells #[iV 2,iV u,iV cn,iV image.length,iV tt.2.1,nV,.bool false] 99);have hmd:=uH (MVs.snoc (m:=⟨2,u,cn,image.length,tt.2.1, [],false⟩) (am:=none) (cm:=0) (.inl rfl) (KG _) (.inl rfl) _ _ (MVs.grow (zhz hbd _) (.inl rfl) _ _ hmv));have hHs: (wq.drew.alloc (.cells #[iV 2,iV u,iV cn,iV image.length,iV tt.2.1,nV,.bool false] 99)).heap.size=wq.heap.size+1:=by simp
  refine wr1 15 (fun K hK=> ?_);refine step_append_lies _ rfl _ _ 38 rfl W.heap.size 99 irr _ 7 72 Tryz.underlying38 hir rz0 rz1 rz2 rfl (by omega) _ k _ rfl hrowd ⟨wq.heap.size,0,none⟩ 1 1 [iV 2,iV u,iV cn,iV image.length,iV tt.2.1,nV,.bool false] rfl rfl (World.news_of_block bm) (by simp [Value.oneCell']) (by omega) hkm hkb hwd.size (wq.heap.size+1) hHs ?_;intro g cap w4 hown4 hgr4 hat4 _;have hw4:bZ W w4:=hwd.grown hgr4 hwd.size (fun j e=>zls hrowd e);have hmv4:=MVs.grow (o' :=some g) hgr4 (by rcases hat4 with h|h;exact .inl h.symm;exact .inr ⟨_,by rw [h],by simp⟩) _ _ hmd.o;have hge:W.heap.size<=g:=by
   rcases hat4 with h|h
   { exact zls hrowd h }
   { have:=hbel.size;omega }
  have HM:=uH (row_msgsF hown4 hmv4 (hfv.snoc (zal.nil _)));have hcap:k+1<=cap:=by
   obtain ⟨_,⟨hv,_⟩| ⟨g',cap',cur,hv,_,_,hc,_⟩⟩:=hown4
   { cases hv }
   { cases hv;exact hc }
  clear hown4 hgr4 hat4 hmv4 hmd hrowd hHs hbd bm hrow hmv hI;refine hK.out _ _ (dlvS b0.o T2.o hw4) (fun hHeld=> ?_);clear hK K
  refine Htk 16 ?_
  try simp only [sq]
  refine KE (by kernel_rfl) ?_ _;go_wp2_with fail;go_ret;refine⟨⟨_,_,_,rfl, ?_, ?_,hcap,fun ad e=>by cases e;exact kc hw.size hge⟩,(bT hw hw4)⟩
  { unfold delG;rw [HPA.o];exact HM.o.lower hw.size }
  {
  unfold delG;rw [HPA.o,kj,HLK.o];rfl } }
end
end Go.Proofs.YthmekfcgdfckaaaGreatDoor
