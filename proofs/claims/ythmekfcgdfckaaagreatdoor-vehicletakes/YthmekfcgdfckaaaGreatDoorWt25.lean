/- What package vehicle says, as plain functions: 'vhE', 'doS', 'runS', 'newV'. No program in this text. The contract of gate.delivery: an image in pieces, then a Prepare. The contract of gate.Due. -/
import Derived.Test.YthmekfcgdfckaaaGreatDoorWt23
import Derived.Test.YthmekfcgdfckaaaGreatDoorWt24
import Derived.Test.YthmekfcgdfckaaaGreatDoorWt22
import Derived.Test.YthmekfcgdfckaaaGreatDoorWt10
import Derived.Test.YthmekfcgdfckaaaGreatDoorWt13
import Derived.Test.YthmekfcgdfckaaaGreatDoorWt8
import Derived.Test.YthmekfcgdfckaaaGreatDoorWt9
import Derived.Test.YthmekfcgdfckaaaGreatDoorWt0
import Derived.Deep.DeepCutAuto
import Derived.Test.YthmekfcgdfckaaaGreatDoorWt17
set_option maxRecDepth 1000000
set_option maxHeartbeats 0
namespace Go.Proofs.YthmekfcgdfckaaaGreatDoor
variable {vs:List Value} {a:Option Addr} {w:World} {l:List Ms} {g:Gt} {t:TypeId} {ts:List T3} {u cn:Int} {ims:List (List Int)}
section
open Go.RowKit
structure Cp where
  n:Int
  v:Int
  u:Int
  ts:List T3
  ims:List (List Int)
structure Vh where
  ss:List ByteArray
  sg:List S2
  g:Gt
  us:List Un
  cs:List Cp
  net:List Ms
  now:Int
structure Hp where
  k:Int
  u:Int
  j:Int
  o:Of
def vh0:Vh:=⟨[], [],gt0, [], [], [],0⟩
def za0:List Int→Int
  | []=>0
  |e::r=>if e≠0 then e else za0 r
def unsE (us:List Un) (n:Nat):Int:=if us.length≠n then 4 else za0 (us.map unE)
def cpE (units:Nat) (i:Nat) (c:Cp):Int:=
  if c.n≠(i:Int)+1∨c.ims.length≠units∨c.ts.length≠units then 4 else if za0 (c.ims.map imgE)≠0 then za0 (c.ims.map imgE) else relE c.v c.u c.ts
def cpsE (units:Nat) (cs:List Cp):Int:=za0 (cs.mapIdx (cpE units))
def ntE (units:Nat) (m:Ms):Int:=if msE m≠0 then msE m else if(units:Int)≤m.u then 5 else 0
def netE (units:Nat) (l:List Ms):Int:=za0 (l.map (ntE units))
def vhE (v:Vh):Int:=za0 [bookE v.ss,sigE v.sg,gtE v.g,unsE v.us v.g.vo.length,if v.cs.length≤8∧v.net.length≤24 then 0 else 2,cpsE v.us.length v.cs,netE v.us.length v.net,if inB v.now 0 100000=true then 0 else 3]
def sendS (net l:List Ms):List Ms:=net++l.take (24 - net.length)
def isU (v:Vh) (k:Int):Bool:=inB k 0 ((v.us.length:Int)- 1)
def isM (v:Vh) (k:Int):Bool:=inB k 0 ((v.net.length:Int)- 1)
def un9:Un:=⟨[],0,false,0,0⟩
def ms9:Ms:=⟨0,0,0,0,0, [],false⟩
def cp9:Cp:=⟨0,0,0, [], []⟩
def propS (v:Vh) (o:Of):Vh×Int:=
  if(gBeg v.ss v.sg v.g o v.now).2.2≠0 then(vh0,(gBeg v.ss v.sg v.g o v.now).2.2)
  else if(gBeg v.ss v.sg v.g o v.now).2.1=0 then(⟨v.ss,v.sg,(gBeg v.ss v.sg v.g o v.now).1,v.us,v.cs,v.net,v.now⟩,0)
  else(⟨v.ss,v.sg,(gBeg v.ss v.sg v.g o v.now).1,v.us,v.cs.take ((gBeg v.ss v.sg v.g o v.now).2.1 - 1).toNat++ [⟨(gBeg v.ss v.sg v.g o v.now).2.1,o.v,o.u,o.ts,o.imgs⟩],v.net,v.now⟩,0)
def lastC (v:Vh):Cp×Int:=
  if(gOf v.g.ws).n=0 then(cp9,0) else if(v.cs.length:Int)< (gOf v.g.ws).n then(cp9,5) else(v.cs.getD ((gOf v.g.ws).n - 1).toNat cp9,0)
def pokeS (v:Vh) (k:Int):Vh×Int:=
  if isU v k=false then(vh0,5) else if(lastC v).2≠0 then(vh0,(lastC v).2)
  else if(gDue v.g (lastC v).1.n (lastC v).1.ts (lastC v).1.ims k).2≠0 then(vh0,(gDue v.g (lastC v).1.n (lastC v).1.ts (lastC v).1.ims k).2)
  else(⟨v.ss,v.sg,v.g,v.us,v.cs,sendS v.net (gDue v.g (lastC v).1.n (lastC v).1.ts (lastC v).1.ims k).1,v.now⟩,0)
def qryS (v:Vh) (k:Int):Vh×Int:=
  if isU v k=false then(vh0,5) else if(v.us.getD k.toNat un9).up=false then(vh0,7)
  else if inB (stOf (v.us.getD k.toNat un9).ws).rdy 1 8=false then(vh0,12)
  else(⟨v.ss,v.sg,v.g,v.us,v.cs,sendS v.net [⟨7,k,(stOf (v.us.getD k.toNat un9).ws).rdy,0,0, [],false⟩],v.now⟩,0)
def takeM (v:Vh) (k:Int):Vh:=⟨v.ss,v.sg,v.g,v.us,v.cs,v.net.eraseIdx k.toNat,v.now⟩
def comeS (v:Vh) (m:Ms):Vh×Int:=
  if m.k=3∨m.k=6∨m.k=7 then
    (if(gHear v.g m).2.2≠0 then(vh0,(gHear v.g m).2.2) else(⟨v.ss,v.sg,(gHear v.g m).1,v.us,v.cs,sendS v.net (gHear v.g m).2.1,v.now⟩,0))
  else if(hearA v.ss (v.us.getD m.u.toNat un9) m).2.2≠0 then(vh0,(hearA v.ss (v.us.getD m.u.toNat un9) m).2.2)
  else(⟨v.ss,v.sg,v.g,v.us.set m.u.toNat (hearA v.ss (v.us.getD m.u.toNat un9) m).1,v.cs,sendS v.net (hearA v.ss (v.us.getD m.u.toNat un9) m).2.1,v.now⟩,0)
def arrS (v:Vh) (k:Int):Vh×Int:=if isM v k=false then(vh0,5) else comeS (takeM v k) (v.net.getD k.toNat ms9)
def losS (v:Vh) (k:Int):Vh×Int:=if isM v k=false then(vh0,5) else(takeM v k,0)
def dblS (v:Vh) (k:Int):Vh×Int:=
  if isM v k=false then(vh0,5) else if v.net.length=24 then(vh0,8) else(⟨v.ss,v.sg,v.g,v.us,v.cs,v.net++ [v.net.getD k.toNat ms9],v.now⟩,0)
def cutU (u:Un) (f:Int):Un:=⟨u.ws,f,u.up,u.n,u.hv⟩
def cutS (v:Vh) (k f:Int):Vh×Int:=
  if(decide (k= -1)||isU v k)=false then(vh0,5) else if inB f 0 100000=false then(vh0,3)
  else if k= -1 then(⟨v.ss,v.sg,⟨v.g.ws,f,v.g.up,v.g.t,v.g.vo,v.g.di⟩,v.us,v.cs,v.net,v.now⟩,0)
  else(⟨v.ss,v.sg,v.g,v.us.set k.toNat (cutU (v.us.getD k.toNat un9) f),v.cs,v.net,v.now⟩,0)
def bootV (v:Vh) (k:Int):Vh×Int:=
  if(decide (k= -1)||isU v k)=false then(vh0,5)
  else if k= -1 then(⟨v.ss,v.sg,(zdb v.g).1,v.us,v.cs,v.net,v.now⟩,(zdb v.g).2)
  else(⟨v.ss,v.sg,v.g,v.us.set k.toNat (bootS (v.us.getD k.toNat un9)).1,v.cs,v.net,v.now⟩,(bootS (v.us.getD k.toNat un9)).2)
def gupS (v:Vh):Vh×Int:=if(gvUp v.g).2≠0 then(vh0,(gvUp v.g).2) else(⟨v.ss,v.sg,(gvUp v.g).1,v.us,v.cs,v.net,v.now⟩,0)
def tckS (v:Vh):Vh×Int:=if v.now=100000 then(vh0,8) else(⟨v.ss,v.sg,v.g,v.us,v.cs,v.net,v.now+1⟩,0)
def hapS (v:Vh) (x:Hp):Vh×Int:=
  if x.k=1 then propS v x.o else if x.k=2 then pokeS v x.u else if x.k=9 then qryS v x.u else if x.k=3 then arrS v x.j else if x.k=4 then losS v x.j
  else if x.k=5 then dblS v x.j else if x.k=6 then cutS v x.u x.j else if x.k=7 then bootV v x.u else if x.k=8 then gupS v else if x.k=10 then tckS v else(vh0,4)
def doS' (v:Vh) (x:Hp):Vh×Int:=if vhE v≠0 then(vh0,vhE v) else if(hapS v x).2≠0 then(vh0,(hapS v x).2) else hapS v x
def runL:Vh→List Hp→Vh×List Int
  |v, []=>(v, [])
  |v,x::r=>if(doS' v x).2=0 then((runL (doS' v x).1 r).1,0::(runL (doS' v x).1 r).2) else((runL v r).1,(doS' v x).2::(runL v r).2)
end
section
open Go.RowKit
attribute [local go_sem ↓] Go.wp_at_zero Go.wp_at_succ
structure CA where
  at_:Option Addr
  nt:Nat
  ct:Nat
  ai:Option Addr
  ni:Nat
  ci:Nat
def cpv (n v u:Int) (m:CA):Value:=.agg #[.int .i64 n,.int .i64 v,.int .i64 u,.slice m.at_ m.nt m.ct,.slice m.ai m.ni m.ci]
def MVs (w:World) (o:Option Nat):List Ms→List Value→Prop
  | [],vs=>vs= []
  |m::l,vs=>∃am cm rest,vs= [.int .i64 m.k,.int .i64 m.u,.int .i64 m.n,.int .i64 m.at',.int .i64 m.im,.slice am m.ws.length cm,.bool m.y]++rest∧zag w am m.ws∧m.ws.length≤maxLen∧(m.ws= []∨∀g,o=some g→Off g am)∧MVs w o l rest
theorem MVs.snoc {w:World} {o:Option Nat} {m:Ms} {am:Option Addr} {cm:Nat} (hi:zag w am m.ws) (hm:m.ws.length≤maxLen) (ho:m.ws= []∨∀g,o=some g→Off g am): ∀(l:List Ms) (vs:List Value),MVs w o l vs→MVs w o (l++ [m]) (vs++ [.int .i64 m.k,.int .i64 m.u,.int .i64 m.n,.int .i64 m.at',.int .i64 m.im,.slice am m.ws.length cm,.bool m.y])
  | [],vs,h=>by
    have h:vs= []:=h;subst h;exact⟨am,cm, [],rfl,hi,hm,ho,rfl⟩
  |x::l,vs,h=>by
    obtain ⟨ax,cx,rest,rfl,h1,h2,h3,h4⟩:=h;exact⟨ax,cx,rest++ [.int .i64 m.k,.int .i64 m.u,.int .i64 m.n,.int .i64 m.at',.int .i64 m.im,.slice am m.ws.length cm,.bool m.y],by simp,h1,h2,h3,MVs.snoc hi hm ho l rest h4⟩
theorem MVs.grow {w w' :World} {o o' :Option Nat} (hg:w.grownBy w' o) (ho:o' =o∨∃H,o' =some H∧w.heap.size≤H): ∀(l:List Ms) (vs:List Value),MVs w o l vs→MVs w' o' l vs
  | [],vs,h=>h
  |m::l,vs,h=>by
    obtain ⟨am,cm,rest,h0,h1,h2,h3,h4⟩:=h;refine⟨am,cm,rest,h0, ?_,h2, ?_,MVs.grow hg ho l rest h4⟩
    {
    rcases h3 with h3|h3
    { exact .inl h3 }
    rcases h1 with h1| ⟨b,off,rfl,hc⟩
    { exact .inl h1 }
    { exact .inr ⟨b,off,rfl,fun i hi=>hg.cell (hc i hi) (fun e=>h3 b e.symm _ rfl rfl)⟩ }
    }
    {
    rcases ho with rfl| ⟨H,rfl,hH⟩
    { exact h3 }
    {
    rcases zcu h1 H hH with h|h
    { exact .inl h }
    { exact .inr (fun g e=>by cases e;exact h) }
    }
    }
theorem MVs.len {w:World} {o:Option Nat}: ∀(l:List Ms) (vs:List Value),MVs w o l vs→vs.length=l.length * 7
  | [],vs,h=>by
    have h:vs= []:=h;subst h;rfl
  |m::l,vs,h=>by
    obtain ⟨am,cm,rest,h0,h1,h2,h3,h4⟩:=h;have:=MVs.len l rest h4;rw [h0]
    simp
    omega
theorem MVs.at_ {w:World} {o:Option Nat}: ∀(l:List Ms) (vs:List Value),MVs w o l vs→∀i m,l[i]?=some m→∃am nm cm,BI w am nm m.ws∧vs[i * 7]?=some (.int .i64 m.k)∧vs[i * 7+1]?=some (.int .i64 m.u)∧vs[i * 7+2]?=some (.int .i64 m.n)∧vs[i * 7+3]?=some (.int .i64 m.at')∧vs[i * 7+4]?=some (.int .i64 m.im)∧vs[i * 7+5]?=some (.slice am nm cm)∧vs[i * 7+6]?=some (.bool m.y)
  | [],vs,_,i,m,hi=>by simp at hi
  |x::l,vs,h,0,m,hi=>by
    obtain ⟨am,cm,rest,h0,h1,h2,h3,h4⟩:=h
    simp at hi
    subst hi;subst h0;exact⟨am,x.ws.length,cm,⟨h1,rfl,h2⟩,rfl,rfl,rfl,rfl,rfl,rfl,rfl⟩
  |x::l,vs,h,i+1,m,hi=>by
    obtain ⟨am,cm,rest,h0,h1,h2,h3,h4⟩:=h;have hi:l[i]?=some m:=by simpa using hi
    obtain ⟨a1,n1,c1,q0,q1,q2,q3,q4,q5,q6,q7⟩:=MVs.at_ l rest h4 i m hi;subst h0;have e: ∀j,([.int .i64 x.k,.int .i64 x.u,.int .i64 x.n,.int .i64 x.at',.int .i64 x.im,.slice am x.ws.length cm,.bool x.y]++rest)[(i+1)* 7+j]?=rest[i * 7+j]?:=fun j=>by
      rw [List.getElem?_append_right (by simp;omega)]
      congr 1
      simp
      omega
    refine⟨a1,n1,c1,q0, ?_, ?_, ?_, ?_, ?_, ?_, ?_⟩
    { exact(e 0).trans q1 }
    { exact(e 1).trans q2 }
    { exact(e 2).trans q3 }
    { exact(e 3).trans q4 }
    { exact(e 4).trans q5 }
    { exact(e 5).trans q6 }
    { exact(e 6).trans q7 }
def FrV (F:Nat) (vs:List Value):Prop:=∀u∈vs,∀a n c,u=Value.slice a n c→zal F a
theorem FrV.nil (F:Nat):FrV F []:=fun u h=>by cases h
theorem FrV.snoc {F:Nat} {x0 x1 x2 x3 x4:Int} {n c:Nat} {y:Bool} (h:FrV F vs) (ha:zal F a):FrV F (vs++ [.int .i64 x0,.int .i64 x1,.int .i64 x2,.int .i64 x3,.int .i64 x4,.slice a n c,.bool y]):=by
  intro u hu a' n' c' e
  rcases List.mem_append.1 hu with hu|hu
  { exact h u hu _ _ _ e }
  {
  subst e
  simp at hu
  obtain ⟨rfl,-,-⟩:=hu;exact ha
  }
def zep (w:World) (F:Nat) (a:Option Addr) (l:List Ms):Prop:=
  l= []∨∃b off,a=some ⟨b,off,none⟩∧∀i m,l[i]?=some m→∃am nm cm,(BI w am nm m.ws∧zal F am)∧
    w.cell? ⟨b,off+i * 7,none⟩=some (.int .i64 m.k)∧w.cell? ⟨b,off+i * 7+1,none⟩=some (.int .i64 m.u)∧w.cell? ⟨b,off+i * 7+2,none⟩=some (.int .i64 m.n)∧w.cell? ⟨b,off+i * 7+3,none⟩=some (.int .i64 m.at')∧
    w.cell? ⟨b,off+i * 7+4,none⟩=some (.int .i64 m.im)∧w.cell? ⟨b,off+i * 7+5,none⟩=some (.slice am nm cm)∧w.cell? ⟨b,off+i * 7+6,none⟩=some (.bool m.y)
theorem zep.lower {F F' :Nat} (h:zep w F a l) (hF:F' ≤F):zep w F' a l:=by
  rcases h with h| ⟨b,off,e,hc⟩
  { exact .inl h }
  {
  refine .inr ⟨b,off,e,fun i m hi=> ?_⟩;obtain ⟨am,nm,cm,⟨q,f⟩,r⟩:=hc i m hi;exact⟨am,nm,cm,⟨q,fun ad e=>Nat.le_trans hF (f ad e)⟩,r⟩
  }
theorem za9.mswF {F:Nat} (h:za9 w a l):zep w F a l:=by
  rcases h with h| ⟨b,rfl,hc⟩
  { exact .inl h }
  {
  refine .inr ⟨b,0,rfl,fun i m hi=> ?_⟩;obtain ⟨h0,h1,h2,h3,h4,h5,h6,h7⟩:=hc i m hi;simp only [Nat.zero_add];exact⟨none,0,0,⟨⟨.inl h0,by rw [h0];rfl,by decide⟩,zal.nil _⟩,h1,h2,h3,h4,h5,h6,h7⟩
  }
theorem row_msgsF {base g n c F:Nat} (h:w.ownsRow base t 7 (.slice (some ⟨g,0,none⟩) n c) n vs) (hm:MVs w (some g) l vs) (hf:FrV F vs):zep w F (some ⟨g,0,none⟩) l:=by
  have hc: ∀j u,vs[j]?=some u→w.cell? ⟨g,0+j,none⟩=some u:=fun j u hu=>by
    have:=h.cells (g:=g) rfl j u hu
    rwa [zc2] at this
  refine .inr ⟨g,0,rfl,fun i m hi=> ?_⟩;obtain ⟨a1,n1,c1,q0,q1,q2,q3,q4,q5,q6,q7⟩:=MVs.at_ l vs hm i m hi;simp only [Nat.zero_add] at hc⊢;exact⟨a1,n1,c1,⟨q0,hf _ (List.mem_of_getElem? q6) _ _ _ rfl⟩,hc _ _ q1,hc _ _ q2,hc _ _ q3,hc _ _ q4,hc _ _ q5,hc _ _ q6,hc _ _ q7⟩
def pcs (u n:Int) (image:List Int) (k:Nat):List Ms:=(List.range k).map fun j=>⟨1,u,n,(8 * j:Nat),0,(image.drop (8 * j)).take 8,false⟩
theorem znm (u n:Int) (image:List Int) (k:Nat):pcs u n image (k+1)=pcs u n image k++ [⟨1,u,n,(8 * k:Nat),0,(image.drop (8 * k)).take 8,false⟩]:=by
  unfold pcs;rw [List.range_succ,List.map_append];rfl
theorem pcs_len (u n:Int) (image:List Int) (k:Nat): (pcs u n image k).length=k:=by unfold pcs;simp
theorem zio (u n:Int) (image:List Int): ∀(f j k:Nat),(j≤k→True)→image.length≤8 *(j+f)→(8 * k<image.length+8∧image.length≤8 * k)→j≤k→pcs u n image j++zgh u n image f (8 * j)=pcs u n image k
  |0,j,k,_,h1,h2,h3=>by
    have:j=k:=by omega
    subst this
    simp [zgh]
  |f+1,j,k,_,h1,h2,h3=>by
    unfold zgh
    by_cases h:8 * j<image.length
    {
    rw [if_pos h];have:=zio u n image f (j+1) k (fun _=>trivial) (by omega) h2 (by omega);rw [znm,List.append_assoc] at this;exact this
    }
    {
    rw [if_neg h];have:j=k:=by omega
    subst this
    simp
    }
theorem zqa (u n:Int) (image:List Int) (k:Nat) (h:image.length≤40) (h2:8 * k<image.length+8∧image.length≤8 * k):zgh u n image 6 0=pcs u n image k:=by
  have:=zio u n image 6 0 k (fun _=>trivial) (by omega) h2 (Nat.zero_le _)
  simpa [pcs] using this
theorem sub_ints {b off n:Nat} {xs:List Int} (h:zag w (some ⟨b,off,none⟩) xs) (p q:Nat) (hl:xs.length=n) (hm:n≤maxLen) (hq:p+q≤n):BI w (some ⟨b,off+p,none⟩) q ((xs.drop p).take q):=by
  refine⟨?_,by simp;omega,by omega⟩
  {
  rcases h with h| ⟨b',off',e,hc⟩
  { subst h;exact .inl (by simp) }
  {
  cases e;refine .inr ⟨b,off+p,rfl,fun i hi=> ?_⟩
  simp at hi
  have:=hc (p+i) (by omega);rw [Nat.add_assoc,this]
  congr 2
  simp [List.getD_eq_getElem?_getD,show i<q by omega]
  }
  }
structure DInv (W:World) (u n:Int) (image:List Int) (k:Nat) (v:Value) (wr:World):Prop where
  bel:Below W.heap.size W wr
  row: ∃vs,wr.ownsRow W.heap.size 99 7 v k vs∧MVs wr v.ownBlock (pcs u n image k) vs∧FrV W.heap.size vs
theorem zfd {ls:List (List Int)} (h:ze6 w a ls) (u:Nat) (hu:u<ls.length): ∃b off ai ci,a=some ⟨b,off,none⟩∧w.cell? ⟨b,off+u,none⟩=some (Value.slice ai ls[u].length ci)∧zag w ai ls[u]∧ls[u].length≤ci∧ci≤maxLen:=by
  rcases h with h| ⟨b,off,ha,hc⟩
  { subst h;simp at hu }
  {
  obtain ⟨ai,ci,h1,h2,h3,h4⟩:=hc u _ (List.getElem?_eq_getElem hu);exact⟨b,off,ai,ci,ha,h1,h2,h3,h4⟩
  }
theorem tgts_at (h:zbm w a ts) (u:Nat) (hu:u<ts.length): ∃b off,a=some ⟨b,off,none⟩∧w.cell? ⟨b,off+u * 3+1,none⟩=some (.int .i64 ts[u].2.1):=by
  rcases h with h| ⟨b,off,ha,hc⟩
  { subst h;simp at hu }
  {
  obtain ⟨h1,h2,h3⟩:=hc u _ (List.getElem?_eq_getElem hu);exact⟨b,off,ha,h2⟩
  }
theorem infoM: (Tryz.prog.info? 99).map (fun i=>(i.zero,i.size,i.bytes))=some (some (.agg #[.int .i64 0,.int .i64 0,.int .i64 0,.int .i64 0,.int .i64 0,.slice none 0 0,.bool false]),7,72):=by kernel_rfl
theorem zhz {w' :World} (h:Below w.heap.size w w') (o:Option Nat):w.grownBy w' o:=⟨h.os,h.tape,h.output,h.size,fun k hk _=>h.block k hk⟩
theorem row_lt {base n size:Nat} {v:Value} {g:Nat} (h:w.ownsRow base t size v n vs) (hg:v.ownBlock=some g):g<w.heap.size:=by
  obtain ⟨_,⟨hv,_⟩| ⟨g',cap,cur,hv,_,hh,_⟩⟩:=h
  { subst hv;cases hg }
  { subst hv;cases hg;exact zak hh }
theorem zls {base n size:Nat} {v:Value} {g:Nat} (h:w.ownsRow base t size v n vs) (hg:v.ownBlock=some g):base≤g:=by
  obtain ⟨_,⟨hv,_⟩| ⟨g',cap,cur,hv,hb,hh,_⟩⟩:=h
  { subst hv;cases hg }
  { subst hv;cases hg;exact hb }
theorem dlvS {W W' :World} {B bt ot:Nat} {n v:Int} {m1 m2:Value} {x:Int} (h0:W.heap[B]?=some (.cells #[.int .i64 n,.int .i64 v,.int .i64 u,m1,m2] 94 (0,0))) (h1:W.cell? ⟨bt,ot,none⟩=some (.int .i64 x)) (h:Below W.heap.size W W'):
    W'.cell? ⟨B,0,none⟩=some (.int .i64 n)∧W'.cell? ⟨B,3,none⟩=some m1∧W'.cell? ⟨bt,ot,none⟩=some (.int .i64 x)∧Below W.heap.size W W' :=
  ⟨zaa (zab h0 h) 0 _ rfl,zaa (zab h0 h) 3 _ rfl,(h.cell (zah h1)).trans h1,h⟩
def DAns (w:World) (l:List Ms) (e:Ending) (w' :World):Prop:=(∃a n c,e=.returned (.slice a n c)∧zep w' w.heap.size a l∧l.length=n∧n≤c∧zal w.heap.size a)∧Below w.heap.size w w'
theorem znd (cn cv cu:Int) (m:CA) (ts:List T3) (ims:List (List Int)) (u:Nat) (w:World) (ht:BT w m.at_ m.nt ts) (hi:BL w m.ai m.ni ims) (hu:u<ims.length) (hut:u<ts.length) (h40: (ims.getD u []).length≤40):
    Calls Tryz.prog 246 #[cpv cn cv cu m,.int .i64 u] w (DAns w (delG cn u (ts.getD u (0,0,0)).2.1 (ims.getD u []))):=by
  obtain ⟨ta,nt,ct,ia,ni,ci⟩:=m;dsimp only at ht hi;unfold cpv;dsimp only;have hni:=hi.len;have hnt:=ht.len;obtain ⟨bi,oi,a5,c5,rfl,hcell,hints,hc5,hm5⟩:=zfd hi.at_ u hu;obtain ⟨bt,ot,rfl,t1⟩:=tgts_at ht.at_ u hut;rw [show ims.getD u []=ims[u] by simp [hu]] at h40⊢;rw [show ts.getD u (0,0,0)=ts[u] by simp [hut]];have hw:Below w.heap.size w (w.alloc (.cells #[.int .i64 cn,.int .i64 cv,.int .i64 cu,.slice (some ⟨bt,ot,none⟩) nt ct,.slice (some ⟨bi,oi,none⟩) ni ci] 94)):=bA1;have b0:=hide (heap_alloc_last w (.cells #[.int .i64 cn,.int .i64 cv,.int .i64 cu,.slice (some ⟨bt,ot,none⟩) nt ct,.slice (some ⟨bi,oi,none⟩) ni ci] 94));have huI: (u:Int)< (ni:Int):=by omega
  have huT: (u:Int)< (nt:Int):=by omega
  clear ht hi;generalize ims[u]=image at *;generalize ts[u]=tt at *;replace hcell:=hide hcell;have T1:=hide t1;have HI:=hide (hints.below hw);have hcell2: (w.alloc (.cells #[.int .i64 cn,.int .i64 cv,.int .i64 cu,.slice (some ⟨bt,ot,none⟩) nt ct,.slice (some ⟨bi,oi,none⟩) ni ci] 94)).cell? ⟨bi,oi+u,none⟩=some (Value.slice a5 image.length c5):=by rw [hw.cell (zah hcell.out)];exact hcell.out
  have T2:Hid ((w.alloc (.cells #[.int .i64 cn,.int .i64 cv,.int .i64 cu,.slice (some ⟨bt,ot,none⟩) nt ct,.slice (some ⟨bi,oi,none⟩) ni ci] 94)).cell? ⟨bt,ot+u * 3+1,none⟩=some (.int .i64 tt.2.1)):=by show _=_;rw [hw.cell (zah T1.out)];exact T1.out
  clear t1 T1 hcell hints hni hnt hu hut;have x4:=zaa b0.out 4 _ rfl;go_enter Tryz.func246,Tryz.ntmps246;go_wp2_with fail;generalize w.alloc (.cells #[.int .i64 cn,.int .i64 cv,.int .i64 cu,.slice (some ⟨bt,ot,none⟩) nt ct,.slice (some ⟨bi,oi,none⟩) ni ci] 94)=W at *;have I0:Hid (DInv W u cn image 0 (.slice none 0 0) W):=⟨Below.refl _ _, [],World.ownsRow_nil _ _ _ _,rfl,FrV.nil _⟩;clear x4 hcell2;obtain ⟨irr,hir,rz0,rz1,rz2⟩:=info_parts infoM
  go_loopw [6,7] (fun p i wq=>∃k:Nat,8 * k<image.length+8∧i=.int .i64 (8 * k:Nat)∧Hid (DInv W u cn image k p wq)) (fun _ i _=>48 - (intOf i).toNat)
  case atStart=>exact⟨0,by omega,rfl,I0⟩
  case round=>
    clear I0;obtain ⟨wq,rfl⟩: ∃wq:World,wq=wr:=⟨_,rfl⟩;obtain ⟨k,hk,rfl,hI⟩:=hrel;obtain ⟨vs,hrow,hmv,hfv⟩:=hI.out.row;have hbel:=hI.out.bel;have bq:=hide (zab b0.out hbel);have IQ:=hide (HI.out.below hbel)
    by_cases hlt:8 * k<image.length
    {
    obtain ⟨b5,o5,rfl⟩: ∃b o,a5=some ⟨b,o,none⟩:=by
      rcases IQ.out with h| ⟨b,o,h,_⟩
      { rw [h] at hlt;simp at hlt }
      { exact⟨b,o,h⟩ }
    have HC:=hide (fun q (hq:8 * k+q≤image.length) c=>ze1 (some ⟨b5,o5+8 * k,none⟩) q c ((image.drop (8 * k)).take q) wq (sub_ints IQ.out (8 * k) q rfl (by unfold maxLen;omega) hq) (by omega));have hT8:Hid (∀q,(q=8∨8 * k+q=image.length∧q≤8)→(image.drop (8 * k)).take q= (image.drop (8 * k)).take 8):=fun q hq=>by
      rcases hq with rfl| ⟨h1,h2⟩
      { rfl }
      { rw [List.take_of_length_le (by simp;omega),List.take_of_length_le (by simp;omega)] }
    have HKK:Hid (8 * k<48):=by show _<_;omega
    generalize hP:8 * k=P at *;have HP:=hide hP;have hPI: (P:Int)< (image.length:Int):=by omega
    clear hP hk;go_upto_region 6 with fail
    go_cut [8] (fun v8 wx=>∃a8 c8,v8=.slice a8 ((image.drop P).take 8).length c8∧Hid (wx.ownsRow wq.heap.size 3 1 (.slice a8 ((image.drop P).take 8).length c8) ((image.drop P).take 8).length (vals ((image.drop P).take 8)))∧Below wq.heap.size wq wx)
    case first=>
      have hqq:P+((min ((P:Int)+8) (image.length:Int)).toNat - P)≤image.length:=by omega
      have hq2: (image.drop P).take ((min ((P:Int)+8) (image.length:Int)).toNat - P)= (image.drop P).take 8:=hT8.out _ (by omega);have hq3: (min ((P:Int)+8) (image.length:Int)).toNat - P= ((image.drop P).take 8).length:=by rw [List.length_take,List.length_drop];omega
      have hcc: (min ((P:Int)+8) (image.length:Int))≤(c5:Int):=by omega
      have hPm: (P:Int)≤min ((P:Int)+8) (image.length:Int):=by omega
      have HC1:=hide (fun c=>zae HC _ hqq c);rw [hq2] at HC1;have HQ3:=hide hq3;clear hqq hq2 hq3 HC;go_wp2_with fail;refine(zae HC1 _).mono ?_;rintro e w8 ⟨⟨a8,c8,rfl,ho8⟩,hb8⟩;have HO8:=hide ho8;clear ho8 HC1 hcc hPm;go_wp2_with fail
      go_meet
      case rel=>exact⟨a8,c8,by simp,HO8,hb8⟩
    case rest=>
      obtain ⟨a8,c8,rfl,ho8,hb8⟩:=hcut;have HPC:=hide (znm u cn image k);have hk8:=hide (show((image.drop P).take 8).length≤maxLen by unfold maxLen;simp;omega);rw [HP.out] at HPC;obtain ⟨y8,y9,-⟩:=zgz ho8.out rfl;generalize (image.drop P).take 8=ws8 at *;have HF8:Hid (zal W.heap.size a8):=fun ad e=>Nat.le_trans hbel.size (y9 ad e)
      have hP5:Hid (∀g,u6.ownBlock=some g→Off g a8):=fun g hg=>za6 y9 (row_lt hrow hg)
      have hrowc:=hide (zba hrow hb8);have hmvc:=hide (MVs.grow (zhz hb8 _) (.inl rfl) _ _ hmv);have bc:=hide (zab bq.out hb8);have hwc:=bT hbel hb8;have Y8:=hide y8;clear ho8 hb8 y8 y9 hrow hmv bq IQ HI hbel HC hT8 b0;generalize wq.heap.size=Q0 at *;have z0:=zaa bc.out 0 _ rfl;have hrowd:=hrowc.out.alloc (.cells #[.int .i64 1,.int .i64 u,.int .i64 cn,.int .i64 P,.int .i64 0,.slice a8 ws8.length c8,.bool false] 99);have bm:=heap_alloc_last wc (.cells #[.int .i64 1,.int .i64 u,.int .i64 cn,.int .i64 P,.int .i64 0,.slice a8 ws8.length c8,.bool false] 99);have hbd:Below wc.heap.size wc (wc.alloc (.cells #[.int .i64 1,.int .i64 u,.int .i64 cn,.int .i64 P,.int .i64 0,.slice a8 ws8.length c8,.bool false] 99)):=zaf (Below.refl _ _) _;have hwd:=zaf hwc (.cells #[.int .i64 1,.int .i64 u,.int .i64 cn,.int .i64 P,.int .i64 0,.slice a8 ws8.length c8,.bool false] 99);have hmd:=hide (MVs.snoc (m:=⟨1,u,cn,P,0,ws8,false⟩) (cm:=c8) (Y8.out.below hbd) hk8.out (.inr hP5.out) _ _ (MVs.grow (zhz hbd _) (.inl rfl) _ _ hmvc.out));have hsd:W.heap.size≤(wc.alloc (.cells #[.int .i64 1,.int .i64 u,.int .i64 cn,.int .i64 P,.int .i64 0,.slice a8 ws8.length c8,.bool false] 99)).heap.size:=hwd.size;have hkm:k+1≤maxLen:=by have:=HKK.out;have:=HP.out;unfold maxLen;omega
      have hkb: (k+1)* 72≤140737488355328:=by have:=HKK.out;have:=HP.out;omega
      have hHs: (wc.alloc (.cells #[.int .i64 1,.int .i64 u,.int .i64 cn,.int .i64 P,.int .i64 0,.slice a8 ws8.length c8,.bool false] 99)).heap.size=wc.heap.size+1:=by simp
      go_wp2_with (at_builtin;refine wpList_append_lies _ rfl _ _ 38 rfl W.heap.size 99 irr _ 7 72 Tryz.underlying38 hir rz0 rz1 rz2 rfl (by omega) _ k _ rfl hrowd ⟨wc.heap.size,0,none⟩ 1 1 [.int .i64 1,.int .i64 u,.int .i64 cn,.int .i64 P,.int .i64 0,.slice a8 ws8.length c8,.bool false] rfl rfl (World.news_of_block bm) (by simp [Value.oneCell']) (by omega) hkm hkb hsd (wc.heap.size+1) hHs ?_;intro g cap w4 hown4 hgr4 hat4 _)
      have hw4:Below W.heap.size W w4:=hwd.grown hgr4 hwd.size (fun j e=>zls hrowd e);have hmv4:=MVs.grow (o' :=some g) hgr4 (by rcases hat4 with h|h;exact .inl h.symm;exact .inr ⟨_,by rw [h],by rw [hHs];omega⟩) _ _ hmd.out;have HI4:Hid (DInv W u cn image (k+1) (.slice (some ⟨g,0,none⟩) (k+1) cap) w4):=⟨hw4,_,hown4,by rw [HPC.out];exact hmv4,hfv.snoc HF8.out⟩;clear hown4 hgr4 hat4 hmv4 hw4 hmd hrowd hsd hbd bm hkm hkb hHs z0;go_wp2_with fail
      go_roundw
      case rel=>exact⟨k+1,by have:=HP.out;omega,by have:=HP.out;go_num,HI4⟩
      case measure=>have:=HKK.out;simp [intOf];omega
    }
    {
    have HPA:=hide (zqa u cn image k h40 (by omega));have hI8: ¬((8 * k:Nat):Int)< (image.length:Int):=by omega
    have hkm:k+1≤maxLen:=by unfold maxLen;omega
    have hkb: (k+1)* 72≤140737488355328:=by omega
    have HLK:=hide (pcs_len u cn image k);clear hk;go_upto_region 8 with fail
    refine wp_region_held_drew (S:=fun W' =>W'.cell? ⟨w.heap.size,0,none⟩=some (.int .i64 cn)∧W'.cell? ⟨w.heap.size,3,none⟩=some (.slice (some ⟨bt,ot,none⟩) nt ct)∧W'.cell? ⟨bt,ot+u * 3+1,none⟩=some (.int .i64 tt.2.1)∧Below W.heap.size W W') (by kernel_rfl) (dlvS b0.out T2.out hbel.drew) ?_;intro hHeld;refine Htk (i:=0) ?_
    try simp only [sq]
    refine Htk (i:=1) ?_
    try simp only [sq]
    refine Htk (i:=2) ?_
    try simp only [sq]
    refine Htk (i:=3) ?_
    try simp only [sq]
    refine Htk (i:=4) ?_
    try simp only [sq]
    refine Htk (i:=5) ?_
    try simp only [sq]
    refine Htk (i:=6) ?_
    try simp only [sq]
    refine Htk (i:=7) ?_
    try simp only [sq]
    refine Htk (i:=8) ?_
    try simp only [sq]
    refine Htk (i:=9) ?_
    try simp only [sq]
    refine Htk (i:=10) ?_
    try simp only [sq]
    refine Htk (i:=11) ?_
    try simp only [sq]
    refine Htk (i:=12) ?_
    try simp only [sq]
    refine Htk (i:=13) ?_
    try simp only [sq]
    refine wpAnyH_ready (rs:= [14]) (by kernel_rfl) (by simp) ?_;refine AllReadyH.cons (by rfl) (fun K hK=> ?_) AllReadyH.nil;go_simp;refine hK.out _ _ (dlvS b0.out T2.out (zaf hbel.drew _)) (fun hHeld=> ?_);clear hK K
    try simp only [sq]
    have hbd:Below wq.heap.size wq (wq.drew.alloc (.cells #[.int .i64 2,.int .i64 u,.int .i64 cn,.int .i64 image.length,.int .i64 tt.2.1,.slice none 0 0,.bool false] 99)):=zaf (Below.refl _ _).drew _;have hrowd:=zba hrow hbd;have bm:=heap_alloc_last wq.drew (.cells #[.int .i64 2,.int .i64 u,.int .i64 cn,.int .i64 image.length,.int .i64 tt.2.1,.slice none 0 0,.bool false] 99);have hwd:=zaf hbel.drew (.cells #[.int .i64 2,.int .i64 u,.int .i64 cn,.int .i64 image.length,.int .i64 tt.2.1,.slice none 0 0,.bool false] 99);have hmd:=hide (MVs.snoc (m:=⟨2,u,cn,image.length,tt.2.1, [],false⟩) (am:=none) (cm:=0) (.inl rfl) (Nat.zero_le _) (.inl rfl) _ _ (MVs.grow (zhz hbd _) (.inl rfl) _ _ hmv));have hHs: (wq.drew.alloc (.cells #[.int .i64 2,.int .i64 u,.int .i64 cn,.int .i64 image.length,.int .i64 tt.2.1,.slice none 0 0,.bool false] 99)).heap.size=wq.heap.size+1:=by simp
    refine wpAnyH_ready (rs:= [15]) (by kernel_rfl) (by simp) ?_;refine AllReadyH.cons (by rfl) (fun K hK=> ?_) AllReadyH.nil;refine step_append_lies _ rfl _ _ 38 rfl W.heap.size 99 irr _ 7 72 Tryz.underlying38 hir rz0 rz1 rz2 rfl (by omega) _ k _ rfl hrowd ⟨wq.heap.size,0,none⟩ 1 1 [.int .i64 2,.int .i64 u,.int .i64 cn,.int .i64 image.length,.int .i64 tt.2.1,.slice none 0 0,.bool false] rfl rfl (World.news_of_block bm) (by simp [Value.oneCell']) (by omega) hkm hkb hwd.size (wq.heap.size+1) hHs ?_;intro g cap w4 hown4 hgr4 hat4 _;have hw4:Below W.heap.size W w4:=hwd.grown hgr4 hwd.size (fun j e=>zls hrowd e);have hmv4:=MVs.grow (o' :=some g) hgr4 (by rcases hat4 with h|h;exact .inl h.symm;exact .inr ⟨_,by rw [h],by simp⟩) _ _ hmd.out;have hge:W.heap.size≤g:=by
      rcases hat4 with h|h
      { exact zls hrowd h }
      { have:=hbel.size;omega }
    have HM:=hide (row_msgsF hown4 hmv4 (hfv.snoc (zal.nil _)));have hcap:k+1≤cap:=by
      obtain ⟨_,⟨hv,_⟩| ⟨g',cap',cur,hv,_,_,hc,_⟩⟩:=hown4
      { cases hv }
      { cases hv;exact hc }
    clear hown4 hgr4 hat4 hmv4 hmd hrowd hHs hbd bm hrow hmv hI;refine hK.out _ _ (dlvS b0.out T2.out hw4) (fun hHeld=> ?_);clear hK K
    try simp only [sq]
    refine Htk (i:=16) ?_
    try simp only [sq]
    refine wpAnyH_done (by kernel_rfl) ?_ _;go_wp2_with fail;go_ret;refine⟨⟨_,_,_,rfl, ?_, ?_,hcap,fun ad e=>by cases e;exact Nat.le_trans hw.size hge⟩,(bT hw hw4)⟩
    { unfold delG;rw [HPA.out];exact HM.out.lower hw.size }
    {
    unfold delG;rw [HPA.out,List.length_append,HLK.out];rfl
    }
    }
end
section
open Go.RowKit
attribute [local go_sem ↓] Go.wp_at_zero Go.wp_at_succ
def DuAnF (w:World) (r:List Ms×Int) (e:Ending) (w' :World):Prop:=(∃a n c,e=.returned (.tuple #[.slice a n c,.int .i64 r.2])∧zep w' w.heap.size a r.1∧r.1.length=n∧n≤c∧zal w.heap.size a)∧Below w.heap.size w w'
theorem zcg {w' :World} {q:Int} {r:List Ms×Int} (hr:r= ([],q)) (h:Below w.heap.size w w'):DuAnF w r (.returned (.tuple #[.slice none 0 0,.int .i64 q])) w' :=by
  subst hr;exact⟨⟨none,0,0,rfl,.inl rfl,rfl,Nat.le_refl _,zal.nil _⟩,h⟩
theorem zfs {q:Int} (h:dueE g cn ts ims u=q) (hq:q≠0):gDue g cn ts ims u= ([],q):=by unfold gDue;rw [h,if_pos hq]
theorem dueE_1 (h:upE g≠0):dueE g cn ts ims u=upE g:=by unfold dueE;rw [if_pos h]
theorem dueE_2 (h:upE g=0) (h2: (gOf g.ws).n=0∨(gOf g.ws).en=true):dueE g cn ts ims u=12:=by
  unfold dueE;rw [if_neg (by simpa using h),if_pos (by rcases h2 with h2|h2<;>simp [h2])]
theorem zjn (h:upE g=0) (h2: (gOf g.ws).n≠0) (h3: (gOf g.ws).en=false) (h4:inB u 0 ((g.vo.length:Int)- 1)=false∨cn≠(gOf g.ws).n∨(ims.length:Int)≤u∨(ts.length:Int)≤u):dueE g cn ts ims u=5:=by
  unfold dueE;rw [if_neg (by simpa using h),if_neg (by simp [h2,h3]),if_neg]
  rcases h4 with h4|h4|h4|h4
  { simp [h4] }
  { simp [h4] }
  { simp [show¬u< (ims.length:Int) by omega] }
  { simp [show¬u< (ts.length:Int) by omega] }
theorem dueE_0 (h:upE g=0) (h2: (gOf g.ws).n≠0) (h3: (gOf g.ws).en=false) (h4:inB u 0 ((g.vo.length:Int)- 1)=true) (h5:cn= (gOf g.ws).n) (h6:u< (ims.length:Int)) (h7:u< (ts.length:Int)):dueE g cn ts ims u=0:=by
  unfold dueE;rw [if_neg (by simpa using h),if_neg (by simp [h2,h3]),if_pos (by simp [h4,h5,h6,h7])]
theorem gDue_d (h:dueE g cn ts ims u=0) (h2:decG (gOf g.ws)=true):gDue g cn ts ims u= (if g.di.getD u.toNat false=true then [] else [verd (gOf g.ws) u (gOf g.ws).n],0):=by unfold gDue;rw [if_neg (by simpa using h),if_pos h2]
theorem gDue_v (h:dueE g cn ts ims u=0) (h2:decG (gOf g.ws)=false) (h3:g.vo.getD u.toNat false=true):gDue g cn ts ims u= ([],0):=by unfold gDue;rw [if_neg (by simpa using h),if_neg (by rw [h2];decide),if_pos h3]
theorem gDue_m (h:dueE g cn ts ims u=0) (h2:decG (gOf g.ws)=false) (h3:g.vo.getD u.toNat false=false) (h4:40< (ims.getD u.toNat []).length):gDue g cn ts ims u= ([],2):=by unfold gDue;rw [if_neg (by simpa using h),if_neg (by rw [h2];decide),if_neg (by rw [h3];decide),if_pos h4]
theorem gDue_p (h:dueE g cn ts ims u=0) (h2:decG (gOf g.ws)=false) (h3:g.vo.getD u.toNat false=false) (h4: ¬40< (ims.getD u.toNat []).length):gDue g cn ts ims u= (delG cn u (ts.getD u.toNat (0,0,0)).2.1 (ims.getD u.toNat []),0):=by unfold gDue;rw [if_neg (by simpa using h),if_neg (by rw [h2];decide),if_neg (by rw [h3];decide),if_neg h4]
theorem zor {n c:Nat} {bs:List Bool} (h:BV w a n c bs) (u:Nat) (hu:u<bs.length): ∃b off,a=some ⟨b,off,none⟩∧w.cell? ⟨b,off+u,none⟩=some (.bool (bs.getD u false)):=by
  rcases h.at_ with h| ⟨b,off,ha,hc⟩
  { subst h;simp at hu }
  { exact⟨b,off,ha,hc u hu⟩ }
theorem dueR {W W' :World} {B S bd od:Nat} {cs:Array Value} {vd:Value} {s:Gs} {x:Bool} (hB:W.heap[B]?=some (.cells cs t (0,0))) (h8:cs[8]?=some vd) (hS:W.heap[S]?=some (gsO s)) (hd:W.cell? ⟨bd,od,none⟩=some (.bool x)) (h:Below W.heap.size W W'):
    W'.cell? ⟨B,8,none⟩=some vd∧W'.cell? ⟨bd,od,none⟩=some (.bool x)∧(W'.cell? ⟨S,0,none⟩=some (.int .i64 s.n)∧W'.cell? ⟨S,1,none⟩=some (.int .i64 s.v)∧W'.cell? ⟨S,2,none⟩=some (.bool s.co)∧W'.cell? ⟨S,3,none⟩=some (.bool s.ab)∧W'.cell? ⟨S,4,none⟩=some (.bool s.en))∧Below W.heap.size W W' :=by
  have x:=zab hS h;unfold gsO at x;exact⟨zaa (zab hB h) 8 _ h8,(h.cell (zah hd)).trans hd,⟨zaa x 0 _ rfl,zaa x 1 _ rfl,zaa x 2 _ rfl,zaa x 3 _ rfl,zaa x 4 _ rfl⟩,h⟩
theorem znj (g:Gt) (k0:GA) (cn cv cu:Int) (m:CA) (ts:List T3) (ims:List (List Int)) (u:Int) (w:World) (h:GIn w k0 g) (ht:BT w m.at_ m.nt ts) (hi:BL w m.ai m.ni ims):
    Calls Tryz.prog 192 #[gtv g k0,cpv cn cv cu m,.int .i64 u] w (DuAnF w (gDue g cn ts ims u)):=by
  have hw:Below w.heap.size w ((w.alloc (.cells (aG k0 g) 35)).alloc (.cells #[.int .i64 cn,.int .i64 cv,.int .i64 cu,.slice m.at_ m.nt m.ct,.slice m.ai m.ni m.ci] 94)):=bA2;have b0:Hid (((w.alloc (.cells (aG k0 g) 35)).alloc (.cells #[.int .i64 cn,.int .i64 cv,.int .i64 cu,.slice m.at_ m.nt m.ct,.slice m.ai m.ni m.ci] 94)).heap[w.heap.size]?=some (.cells (aG k0 g) 35 (0,0))):=zai (heap_alloc_last _ _) _;have b1:Hid (((w.alloc (.cells (aG k0 g) 35)).alloc (.cells #[.int .i64 cn,.int .i64 cv,.int .i64 cu,.slice m.at_ m.nt m.ct,.slice m.ai m.ni m.ci] 94)).heap[w.heap.size+1]?=some (.cells #[.int .i64 cn,.int .i64 cv,.int .i64 cu,.slice m.at_ m.nt m.ct,.slice m.ai m.ni m.ci] 94 (0,0))):=zau _ _ _;have HU:=hide (fun W (hW:Below w.heap.size w W)=>zf8 g k0 W (h.below hW));have HN:=hide (fun W (hW:Below w.heap.size w W)=>zjj g k0 u W (h.below hW));have HP:=hide h;have HTs:=hide ht;have HIs:=hide hi;clear h ht hi;unfold gtv at HU HN;unfold gtv cpv;go_enter Tryz.func192,Tryz.ntmps192;go_wp2_with fail;generalize ((w.alloc (.cells (aG k0 g) 35)).alloc (.cells #[.int .i64 cn,.int .i64 cv,.int .i64 cu,.slice m.at_ m.nt m.ct,.slice m.ai m.ni m.ci] 94))=W at *;refine(zae HU _ hw).mono ?_;rintro e w1 ⟨rfl,hb⟩;replace b0:=hide (zab b0.out hb);replace b1:=hide (zab b1.out hb);replace hw:=bT hw hb;clear hb HU
  by_cases z1:upE g=0
  rotate_left
  {
  have HE:=hide (zfs (dueE_1 (cn:=cn) (ts:=ts) (ims:=ims) (u:=u) z1) z1);have d1: (upE g !=0)=true:=by simpa using z1
  rw [zlf z1];unfold gsv gs0;replace hw:Below w.heap.size w (w1.alloc (.cells aX 72)):=hw.alloc hw.size _;clear z1 HN HP HTs HIs;generalize upE g=q at *;go_wp2_with fail;refine bodyPost_ret (v:=.tuple #[.slice none 0 0,.int .i64 q]) (by simp [results,Tryz.results192,go_sem]) rfl ?_;exact zcg HE.out hw
  }
  rw [zld z1];have Z1:=hide z1;obtain ⟨hlw,hlk,hlv,hld⟩:=HP.out.sizes (zko z1);have hnd:=(zen (zko z1)).2.2.1;clear z1 hlw hlk;obtain ⟨s,hs⟩: ∃s,s=gOf g.ws:=⟨_,rfl⟩;rw [←hs];have HS:=hide hs;clear hs;unfold gsv;have bS:=hide (heap_alloc_last w1 (.cells (aS s) 72));have hb7:Below w1.heap.size w1 (w1.alloc (.cells (aS s) 72)):=zaf (Below.refl _ _) _;replace b0:=hide (zab b0.out hb7);replace b1:=hide (zab b1.out hb7);replace hw:=bT hw hb7;clear hb7;go_upto_region 4 with fail
  generalize (w1.alloc (.cells (aS s) 72))=W1 at *;generalize w1.heap.size=S at *;obtain ⟨s0,s1,s2,s3,s4⟩:=cl5 bS.out
  by_cases z2:s.n=0
  {
  have HE:=hide (zfs (dueE_2 (cn:=cn) (ts:=ts) (ims:=ims) (u:=u) Z1.out (.inl (by rw [←HS.out];exact z2))) (by decide));have d2: (s.n==0)=true:=by simpa using z2
  clear z2 HN HP HTs HIs;go_wp2_with fail;refine bodyPost_ret (v:=.tuple #[.slice none 0 0,.int .i64 12]) (by simp [results,Tryz.results192,go_sem]) rfl ?_;exact zcg HE.out hw
  }
  have d2: (s.n==0)=false:=by simpa using z2
  have Z2:=hide z2;clear z2;cases z3:s.en;rotate_left
  {
  have HE:=hide (zfs (dueE_2 (cn:=cn) (ts:=ts) (ims:=ims) (u:=u) Z1.out (.inr (by rw [←HS.out];exact z3))) (by decide))
  (try dsimp only [aS] at s4);rw [z3] at s4
  clear z3 HN HP HTs HIs;go_wp2_with fail;refine bodyPost_ret (v:=.tuple #[.slice none 0 0,.int .i64 12]) (by simp [results,Tryz.results192,go_sem]) rfl ?_;exact zcg HE.out hw
  }
  (try dsimp only [aS] at s4);rw [z3] at s4
  have Z3:=hide z3;clear z3;obtain ⟨x0,x1,x2,x3,x4,x5,x6,x7,x8⟩:=cl9 b0.out;go_wp2_with fail;refine(zae HN _ hw).mono ?_;rintro e w2 ⟨rfl,hb⟩;replace b0:=hide (zab b0.out hb);replace b1:=hide (zab b1.out hb);replace bS:=hide (zab bS.out hb);replace hw:=bT hw hb;clear hb HN d2 x0 x1 x2 x3 x4 x5 x6 x7 x8 s0 s1 s2 s3 s4;cases z4:inB u 0 ((g.vo.length:Int)- 1)
  {
  have HE:=hide (zfs (zjn (cn:=cn) (ts:=ts) (ims:=ims) (u:=u) Z1.out (by rw [←HS.out];exact Z2.out) (by rw [←HS.out];exact Z3.out) (.inl z4)) (by decide));clear z4 HP HTs HIs;go_wp2_with fail;refine bodyPost_ret (v:=.tuple #[.slice none 0 0,.int .i64 5]) (by simp [results,Tryz.results192,go_sem]) rfl ?_;exact zcg HE.out hw
  }
  have c0:=zaa b1.out 0 _ rfl;have s0:=zaa bS.out 0 _ rfl;have Z4:=hide z4;obtain ⟨un,hun⟩: ∃v:Nat,u= (v:Int):=⟨u.toNat,by unfold inB at z4;simp at z4;omega⟩;subst hun;have hul:un<g.vo.length:=by unfold inB at z4;simp at z4;omega
  clear z4;have c4:=zaa b1.out 4 _ rfl;have c3:=zaa b1.out 3 _ rfl
  by_cases z5:cn=s.n
  rotate_left
  {
  have HE:=hide (zfs (zjn (cn:=cn) (ts:=ts) (ims:=ims) (u:=un) Z1.out (by rw [←HS.out];exact Z2.out) (by rw [←HS.out];exact Z3.out) (.inr (.inl (by rw [←HS.out];exact z5)))) (by decide));have d5: (cn !=s.n)=true:=by simpa using z5
  clear z5 HP HTs HIs;go_wp2_with fail;refine bodyPost_ret (v:=.tuple #[.slice none 0 0,.int .i64 5]) (by simp [results,Tryz.results192,go_sem]) rfl ?_;exact zcg HE.out hw
  }
  have d5: (cn !=s.n)=false:=by simpa using z5
  have Z5:=hide z5;clear z5
  by_cases z6: (m.ni:Int)≤un
  {
  have HE:=hide (zfs (zjn (cn:=cn) (ts:=ts) (ims:=ims) (u:=un) Z1.out (by rw [←HS.out];exact Z2.out) (by rw [←HS.out];exact Z3.out) (.inr (.inr (.inl (by rw [HIs.out.len];exact z6))))) (by decide));clear HP HTs HIs;go_wp2_with fail;refine bodyPost_ret (v:=.tuple #[.slice none 0 0,.int .i64 5]) (by simp [results,Tryz.results192,go_sem]) rfl ?_;exact zcg HE.out hw
  }
  have z6' : (un:Int)< (m.ni:Int):=by omega
  by_cases z7: (m.nt:Int)≤un
  {
  have HE:=hide (zfs (zjn (cn:=cn) (ts:=ts) (ims:=ims) (u:=un) Z1.out (by rw [←HS.out];exact Z2.out) (by rw [←HS.out];exact Z3.out) (.inr (.inr (.inr (by rw [HTs.out.len];exact z7))))) (by decide));clear HP HTs HIs;go_wp2_with fail;refine bodyPost_ret (v:=.tuple #[.slice none 0 0,.int .i64 5]) (by simp [results,Tryz.results192,go_sem]) rfl ?_;exact zcg HE.out hw
  }
  have z7' : (un:Int)< (m.nt:Int):=by omega
  have HE0:=hide (dueE_0 (cn:=cn) (ts:=ts) (ims:=ims) (u:=un) Z1.out (by rw [←HS.out];exact Z2.out) (by rw [←HS.out];exact Z3.out) Z4.out (by rw [←HS.out];exact Z5.out) (by rw [HIs.out.len];exact z6') (by rw [HTs.out.len];exact z7'));have hui:un<ims.length:=by have:=HIs.out.len;omega
  have hut:un<ts.length:=by have:=HTs.out.len;omega
  clear Z1 Z2 Z3 Z4 Z5;have s1:=zaa bS.out 1 _ rfl;have s2:=zaa bS.out 2 _ rfl;have s3:=zaa bS.out 3 _ rfl;have s4:=zaa bS.out 4 _ rfl;have HD:=hide (fun W=>zej s W);unfold gsv at HD;go_wp2_with fail;refine(zae HD _).mono ?_;rintro e w3 ⟨rfl,hb⟩;replace b0:=hide (zab b0.out hb);replace b1:=hide (zab b1.out hb);replace bS:=hide (zab bS.out hb);replace hw:=bT hw hb;clear hb HD d5 c0 c3 c4 z6 z7 s0 s1 s2 s3 s4;cases z8:decG s;rotate_left
  {
  have HE:Hid (gDue g cn ts ims un= (if g.di.getD un false=true then [] else [verd s un s.n],0)):=by have e:=gDue_d HE0.out (by rw [←HS.out];exact z8);rw [←HS.out] at e;exact hide e
  obtain ⟨bd,od,had,hdc⟩:=zor (HP.out.di.below hw) un (by omega);have hud: (un:Int)< (k0.nd:Int):=by have:=HP.out.di.len;omega
  have HV:=hide (fun W=>ziq s un s.n W);unfold gsv at HV;clear z8 HP HTs HIs HE0 HS;generalize g.di.getD un false=x at *;go_upto_region 9 with fail
  (try dsimp only [aG] at b0);rw [had] at b0
  refine wp_region_held_drew (S:=fun W' =>W'.cell? ⟨w.heap.size,8,none⟩=some (.slice (some ⟨bd,od,none⟩) k0.nd k0.cd)∧W'.cell? ⟨bd,od+un,none⟩=some (.bool x)∧(W'.cell? ⟨S,0,none⟩=some (.int .i64 s.n)∧W'.cell? ⟨S,1,none⟩=some (.int .i64 s.v)∧W'.cell? ⟨S,2,none⟩=some (.bool s.co)∧W'.cell? ⟨S,3,none⟩=some (.bool s.ab)∧W'.cell? ⟨S,4,none⟩=some (.bool s.en))∧Below w3.heap.size w3 W') (by kernel_rfl) (dueR b0.out rfl bS.out hdc (Below.refl _ _).drew) ?_;intro hHeld;refine Htk (i:=0) ?_
  try simp only [sq]
  refine Htk (i:=1) ?_
  try simp only [sq]
  refine Htk (i:=2) ?_
  try simp only [sq]
  refine Htk (i:=3) ?_
  try simp only [sq]
  refine Htk (i:=4) ?_
  try simp only [sq]
  refine Htk (i:=5) ?_
  try simp only [sq]
  refine Htk (i:=6) ?_
  try simp only [sq]
  refine Htk (i:=7) ?_
  try simp only [sq]
  refine Htk (i:=8) ?_
  try simp only [sq]
  refine wpAnyH_ready (rs:= [9]) (by kernel_rfl) (by simp) ?_;refine AllReadyH.cons (by rfl) (fun K hK=> ?_) AllReadyH.nil;go_simp;refine(zae HV _).mono ?_;rintro e w4 ⟨rfl,hb4⟩;have hk4:=((Below.refl w3.heap.size w3).drew).trans (hb4.mono ((Below.refl w3.heap.size w3).drew).size);go_wp2_with fail;refine hK.out _ _ (dueR b0.out rfl bS.out hdc hk4) (fun hHeld=> ?_);clear hK K
  try simp only [sq]
  refine wpAnyH_ready (rs:= [10]) (by kernel_rfl) (by simp) ?_;refine AllReadyH.cons (by rfl) (fun K hK=> ?_) AllReadyH.nil;go_simp;refine(ze3 x (verd s un s.n) rfl _).mono ?_;rintro e w5 ⟨⟨al,nl,cl,rfl,hml,hnl,hcl,hfl⟩,hb5⟩;have hk5:=bT hk4 hb5;go_wp2_with fail;refine hK.out _ _ (dueR b0.out rfl bS.out hdc hk5) (fun hHeld=> ?_);clear hK K
  try simp only [sq]
  refine Htk (i:=11) ?_
  try simp only [sq]
  refine Htk (i:=12) ?_
  try simp only [sq]
  refine wpAnyH_done (by kernel_rfl) ?_ _;go_wp2_with fail;refine bodyPost_ret (v:=.tuple #[.slice al nl cl,.int .i64 0]) (by simp [results,Tryz.results192,go_sem]) rfl ?_;rw [HE.out];exact⟨⟨al,nl,cl,rfl,hml.mswF,hnl,hcl,hfl.lower (Nat.le_trans hw.size hk4.size)⟩,(bT hw hk5)⟩
  }
  have Z8:Hid (decG (gOf g.ws)=false):=by show _=_;rw [←HS.out];exact z8
  clear z8 HS bS;obtain ⟨bv,ov,hav,hvc⟩:=zor (HP.out.vo.below hw) un hul;have huv: (un:Int)< (k0.nv:Int):=by have:=HP.out.vo.len;omega
  have x7:=zaa b0.out 7 _ rfl
  (try dsimp only [aG] at x7);rw [hav] at x7
  clear hav;cases z9:g.vo.getD un false;rotate_left
  {
  have HE:=hide (gDue_v HE0.out Z8.out z9);rw [z9] at hvc;clear z9 HP HTs HIs HE0 Z8;go_wp2_with fail;refine bodyPost_ret (v:=.tuple #[.slice none 0 0,.int .i64 0]) (by simp [results,Tryz.results192,go_sem]) rfl ?_;exact zcg HE.out hw
  }
  rw [z9] at hvc;have Z9:=hide z9;clear z9;obtain ⟨bi,oi,a5,c5,hai,hcell,-,-,-⟩:=zfd (HIs.out.at_.below hw) un hui;have c4:=zaa b1.out 4 _ rfl;rw [hai] at c4;clear hai;have hgd:ims.getD un []=ims[un]:=by simp [hui]
  by_cases za:40<ims[un].length
  {
  have HE:=hide (gDue_m HE0.out Z8.out Z9.out (by rw [Int.toNat_natCast,hgd];exact za));have zaI: (40:Int)< (ims[un].length:Int):=by omega
  clear HP HTs HIs HE0 Z8 Z9 za hgd;generalize ims[un].length=L5 at *;go_wp2_with fail;refine bodyPost_ret (v:=.tuple #[.slice none 0 0,.int .i64 2]) (by simp [results,Tryz.results192,go_sem]) rfl ?_;exact zcg HE.out hw
  }
  have HE:=hide (gDue_p HE0.out Z8.out Z9.out (by rw [Int.toNat_natCast,hgd];exact za));have zaI: ¬(40:Int)< (ims[un].length:Int):=by omega
  have HL:=hide (znd cn cv cu m ts ims un w3 (HTs.out.below hw) (HIs.out.below hw) hui hut (by rw [hgd];omega));unfold cpv at HL;rw [Int.toNat_natCast] at HE;clear HP HTs HIs HE0 Z8 Z9 za hgd;generalize ims[un].length=L5 at *;have c0:=zaa b1.out 0 _ rfl;have c1:=zaa b1.out 1 _ rfl;have c2:=zaa b1.out 2 _ rfl;have c3:=zaa b1.out 3 _ rfl;go_upto_region 14 with fail
  clear c4;have c4:=zaa b1.out 4 _ rfl;go_wp2_with fail;refine(zae HL).mono ?_;rintro e w4 ⟨⟨al,nl,cl,rfl,hml,hnl,hcl,hfl⟩,hb4⟩;go_wp2_with fail;refine bodyPost_ret (v:=.tuple #[.slice al nl cl,.int .i64 0]) (by simp [results,Tryz.results192,go_sem]) rfl ?_;rw [HE.out];exact⟨⟨al,nl,cl,rfl,hml.lower hw.size,hnl,hcl,hfl.lower hw.size⟩,(bT hw hb4)⟩
end
end Go.Proofs.YthmekfcgdfckaaaGreatDoor
