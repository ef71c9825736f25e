/- How a law's arguments that are units, or messages, are opened. How a law's arguments that are gateways, or campaigns, are opened. How a law's argument that is a vehicle is opened. What the rows' listed variables give: the table that strconv.Itoa reads ('Tab'). -/
import Derived.Test.YthmekfcgdfckaaaGreatDoorWn42
import Derived.Test.YthmekfcgdfckaaaGreatDoorWn9
import Derived.Test.YthmekfcgdfckaaaGreatDoorWn25
import Derived.Test.YthmekfcgdfckaaaGreatDoorWn27
import Derived.Test.YthmekfcgdfckaaaGreatDoorWn7
import Derived.Stop.LaidErr
import Derived.LaidMore
set_option maxRecDepth 1000000
set_option maxHeartbeats 0
namespace Go.Proofs.YthmekfcgdfckaaaGreatDoor
variable {W:World} {fuel n:Nat} {v:Value} {cs:List Value}
section
open Go.ChangeShapes Go.WideShapes Go.ChangeAt Go.RowKit Go.Joins
theorem zfe:Tryz.prog.cellsOf 28=2:=by kernel_rfl
theorem zem:Tryz.prog.cellsOf 4=1:=by kernel_rfl
theorem zjt:Tryz.prog.cellsOf 82=5:=by kernel_rfl
theorem zmg:Tryz.prog.cellsOf 99=7:=by kernel_rfl
theorem zin:Tryz.prog.cellsOf 26=1:=by kernel_rfl
theorem zd6 {H:Type} {enc:TypeId×Value→H} {x:DataW H×List MemPlace}
    (h:DataW.trod enc Tryz.prog W 0 (fun _=>true) true fuel 26 [v]=some x):
    ∃a n c xs,v=.slice a n c∧BI W a n xs∧n≤c∧c≤maxLen:=by
  obtain ⟨a,n,c,xs,rfl,hi⟩:=zfy h;refine⟨a,n,c,xs,rfl,⟨hi.ints,hi.len,hi.max⟩,hi.cap, ?_⟩
  rcases open_ints Tryz.underlying26 Tryz.underlying3 zbo h with ⟨hcs,hx⟩| ⟨ad,len,cap,zs,hcs,_,hl,hm,hz,hx,hcell,_⟩
  {
  simp at hcs
  rw [hcs.2.2];decide
  }
  {
  simp at hcs
  rw [hcs.2.2];exact hm
  }
theorem zb3 {f:Int} (h: (Lit.int .i64 f).wf=true): -9223372036854775808≤f∧f≤9223372036854775807:=by
  simp [Lit.wf,IntKind.min,IntKind.max,IntKind.bits,IntKind.signed] at h
  omega
structure UnB (u:Un):Prop where
  fu: -9223372036854775808≤u.fu∧u.fu≤9223372036854775807
  n: -9223372036854775808≤u.n∧u.n≤9223372036854775807
  hv: -9223372036854775808≤u.hv∧u.hv≤9223372036854775807
structure MsB (m:Ms):Prop where
  k: -9223372036854775808≤m.k∧m.k≤9223372036854775807
  u: -9223372036854775808≤m.u∧m.u≤9223372036854775807
  n: -9223372036854775808≤m.n∧m.n≤9223372036854775807
  at' : -9223372036854775808≤m.at' ∧m.at' ≤9223372036854775807
  im: -9223372036854775808≤m.im∧m.im≤9223372036854775807
theorem zfi {H:Type} {enc:TypeId×Value→H} {x:DataW H×List MemPlace} (h:DataW.trod enc Tryz.prog W 0 (fun _=>true) true n 28 cs=some x):
    ∃(a:Option Addr) (m c:Nat) (ws:List Int) (f:Int),cs= [.slice a m c,.int .i64 f]∧BI W a m ws∧m≤c∧c≤maxLen∧(-9223372036854775808≤f∧f≤9223372036854775807):=by
  obtain ⟨xs,k,hk,hxy,hl,hxl,hf⟩:=DataW.trod_struct Tryz.underlying28 h;rw [zfe] at hl
  match cs,hl with
  | [v0,v1],_=>
    match xs,hxl with
    | [y0,y1],_=>
      have g0:=hf 0 _ rfl;have g1:=hf 1 _ rfl
      simp [zbo,zin] at g0 g1
      obtain ⟨a,m,c,ws,rfl,hi,h1,h2⟩:=zd6 g0;obtain ⟨z1,e1,_,wf⟩:=DataW.trod_int Tryz.underlying3 g1
      simp at e1
      exact⟨a,m,c,ws,z1,by rw [e1],hi,h1,h2,zb3 wf⟩
theorem zkt {H:Type} {enc:TypeId×Value→H} {x:DataW H×List MemPlace} (h:DataW.trod enc Tryz.prog W 0 (fun _=>true) true n 82 cs=some x):
    ∃(u:Un) (a:Option Addr) (m c:Nat),cs= [.slice a m c,.int .i64 u.fu,.bool u.up,.int .i64 u.n,.int .i64 u.hv]∧BW W a m c u.ws∧c≤maxLen∧UnB u:=by
  obtain ⟨xs,k,hk,hxy,hl,hxl,hf⟩:=DataW.trod_struct Tryz.underlying82 h;rw [zjt] at hl
  match cs,hl with
  | [v0,v1,v2,v3,v4],_=>
    match xs,hxl with
    | [y0,y1,y2,y3],_=>
      have g0:=hf 0 _ rfl;have g1:=hf 1 _ rfl;have g2:=hf 2 _ rfl;have g3:=hf 3 _ rfl
      simp [zbo,zfe,zem] at g0 g1 g2 g3
      obtain ⟨a,m,c,ws,f,e0,hi,h1,h2,h3⟩:=zfi g0;obtain ⟨b,e1,_⟩:=DataW.trod_bool Tryz.underlying4 g1;obtain ⟨z2,e2,_,w2⟩:=DataW.trod_int Tryz.underlying3 g2;obtain ⟨z3,e3,_,w3⟩:=DataW.trod_int Tryz.underlying3 g3
      simp at e0 e1 e2 e3
      exact⟨⟨ws,f,b,z2,z3⟩,a,m,c,by rw [e0.1,e0.2,e1,e2,e3],⟨hi.at_,hi.len,h1,hi.max⟩,h2,⟨h3,zb3 w2,zb3 w3⟩⟩
theorem zll {H:Type} {enc:TypeId×Value→H} {x:DataW H×List MemPlace} (h:DataW.trod enc Tryz.prog W 0 (fun _=>true) true n 99 cs=some x):
    ∃(m:Ms) (a:Option Addr) (l c:Nat),cs= [.int .i64 m.k,.int .i64 m.u,.int .i64 m.n,.int .i64 m.at',.int .i64 m.im,.slice a l c,.bool m.y]∧BI W a l m.ws∧l≤c∧c≤maxLen∧MsB m:=by
  obtain ⟨xs,k,hk,hxy,hl,hxl,hf⟩:=DataW.trod_struct Tryz.underlying99 h;rw [zmg] at hl
  match cs,hl with
  | [v0,v1,v2,v3,v4,v5,v6],_=>
    match xs,hxl with
    | [y0,y1,y2,y3,y4,y5,y6],_=>
      have g0:=hf 0 _ rfl;have g1:=hf 1 _ rfl;have g2:=hf 2 _ rfl;have g3:=hf 3 _ rfl;have g4:=hf 4 _ rfl;have g5:=hf 5 _ rfl;have g6:=hf 6 _ rfl
      simp [zbo,zin,zem] at g0 g1 g2 g3 g4 g5 g6
      obtain ⟨z0,e0,_,w0⟩:=DataW.trod_int Tryz.underlying3 g0;obtain ⟨z1,e1,_,w1⟩:=DataW.trod_int Tryz.underlying3 g1;obtain ⟨z2,e2,_,w2⟩:=DataW.trod_int Tryz.underlying3 g2;obtain ⟨z3,e3,_,w3⟩:=DataW.trod_int Tryz.underlying3 g3;obtain ⟨z4,e4,_,w4⟩:=DataW.trod_int Tryz.underlying3 g4;obtain ⟨a,m,c,ws,rfl,hi,h1,h2⟩:=zd6 g5;obtain ⟨b,e6,_⟩:=DataW.trod_bool Tryz.underlying4 g6
      simp at e0 e1 e2 e3 e4 e6
      exact⟨⟨z0,z1,z2,z3,z4,ws,b⟩,a,m,c,by rw [e0,e1,e2,e3,e4,e6],hi,h1,h2,⟨zb3 w0,zb3 w1,zb3 w2,zb3 w3,zb3 w4⟩⟩
end
section
open Go.ChangeShapes Go.WideShapes Go.ChangeAt Go.RowKit Go.Joins
theorem zpp:Tryz.prog.cellsOf 33=1:=by kernel_rfl
theorem zjv:Tryz.prog.cellsOf 35=9:=by kernel_rfl
theorem zfh {H:Type} {enc:TypeId×Value→H} {x:DataW H×List MemPlace}
    (h:DataW.trod enc Tryz.prog W 0 (fun _=>true) true fuel 33 [v]=some x):
    ∃a n c bs,v=.slice a n c∧BV W a n c bs:=by
  rcases Go.Deep.open_slice Tryz.underlying33 h with ⟨hcs,hx⟩| ⟨ad,len,cap,m,n,D,Pl,hcs,_,hl,hm,hmm,hx,hV⟩
  {
  simp at hcs
  subst hcs;exact⟨none,0,0, [],rfl,⟨.inl rfl,rfl,Nat.le_refl _,by decide⟩⟩
  }
  {
  simp at hcs hmm
  subst hcs hmm;have hone: ∀i,∃t:Bool,i<len→W.cell? (ad.add i)=some (.bool t):=by
    intro i
    by_cases hi:i<len
    {
    obtain ⟨cs',h1,h2⟩:=hV i (by omega);rw [zem] at h1;obtain ⟨_,hlen,hcell⟩:=World.cells?_some h1
    match cs',hlen with
    | [u0],_=>
      obtain ⟨b,e,_⟩:=DataW.trod_bool Tryz.underlying4 h2
      simp at e
      subst e;refine⟨b,fun _=> ?_⟩;have:=hcell 0 (by simp);rw [Nat.mul_one] at this
      simpa [Addr.add] using this
    }
    { exact⟨false,fun h=>absurd h hi⟩ }
  obtain ⟨R,hR⟩:=Classical.axiomOfChoice hone;refine⟨some ad,len,m,(List.range len).map R,rfl, ?_,by simp,hl,Nat.le_trans hl hm⟩
  by_cases h0:len=0
  { exact .inl (by simp [h0]) }
  obtain ⟨b,off,spot⟩:=ad;have hs:spot=none:=by
    have:=World.cell?_spot (hR 0 (by omega))
    simpa [Addr.add] using this
  subst hs;refine .inr ⟨b,off,rfl,fun i hi=> ?_⟩;have hi2:i<len:=by simpa using hi
  rw [zeb (hR i hi2)]
  simp [hi2]
  }
theorem zi9 {H:Type} {enc:TypeId×Value→H} {x:DataW H×List MemPlace} (h:DataW.trod enc Tryz.prog W 0 (fun _=>true) true n 32 cs=some x):
    ∃(t:Tr) (a:Option Addr) (m c:Nat),cs= [.int .i64 t.r.v,.slice a m c,.int .i64 t.r.t,.int .i64 t.ver]∧BI W a m t.r.ks:=by
  obtain ⟨xs,k,hk,hxy,hl,hxl,hf⟩:=DataW.trod_struct Tryz.underlying32 h;rw [zir] at hl
  match cs,hl with
  | [v0,v1,v2,v3],_=>
    match xs,hxl with
    | [y0,y1],_=>
      have g0:=hf 0 _ rfl;have g1:=hf 1 _ rfl
      simp [zbo,zkn] at g0 g1
      obtain ⟨rt,a,n,c,e,hi,_,_⟩:=zkm g0;obtain ⟨z,e1,_⟩:=DataW.trod_int Tryz.underlying3 g1
      simp at e e1
      exact⟨⟨rt,z⟩,a,n,c,by rw [e.1,e.2.1,e.2.2,e1],hi⟩
theorem zkk {H:Type} {enc:TypeId×Value→H} {x:DataW H×List MemPlace} (h:DataW.trod enc Tryz.prog W 0 (fun _=>true) true n 35 cs=some x):
    ∃(g:Gt) (m:GA),cs= [.slice m.a m.n m.c,.int .i64 g.fu,.bool g.up,.int .i64 g.t.r.v,.slice m.ak m.nk m.ck,.int .i64 g.t.r.t,.int .i64 g.t.ver,.slice m.av m.nv m.cv,.slice m.ad m.nd m.cd]∧GIn W m g∧(-9223372036854775808≤g.fu∧g.fu≤9223372036854775807):=by
  obtain ⟨xs,k,hk,hxy,hl,hxl,hf⟩:=DataW.trod_struct Tryz.underlying35 h;rw [zjv] at hl
  match cs,hl with
  | [v0,v1,v2,v3,v4,v5,v6,v7,v8],_=>
    match xs,hxl with
    | [y0,y1,y2,y3,y4],_=>
      have g0:=hf 0 _ rfl;have g1:=hf 1 _ rfl;have g2:=hf 2 _ rfl;have g3:=hf 3 _ rfl;have g4:=hf 4 _ rfl
      simp [zfe,zem,zir,zpp] at g0 g1 g2 g3 g4
      obtain ⟨a,m,c,ws,f,e0,hi,h1,h2,h3⟩:=zfi g0;obtain ⟨b,e1,_⟩:=DataW.trod_bool Tryz.underlying4 g1;obtain ⟨t,ak,nk,ck,e2,hk2⟩:=zi9 g2;obtain ⟨av,nv,cv,bv,rfl,hv⟩:=zfh g3;obtain ⟨ad,nd,cd,bd,rfl,hd⟩:=zfh g4
      simp at e0 e1 e2
      exact⟨⟨ws,f,b,t,bv,bd⟩,⟨a,m,c,ak,nk,ck,av,nv,cv,ad,nd,cd⟩,by rw [e0.1,e0.2,e1,e2.1,e2.2.1,e2.2.2.1,e2.2.2.2],⟨⟨hi.at_,hi.len,h1,hi.max⟩,hk2,hv,hd⟩,h3⟩
theorem zki:Tryz.prog.cellsOf 94=5:=by kernel_rfl
end
section
open Go.ChangeShapes Go.WideShapes Go.ChangeAt Go.RowKit Go.Joins
theorem zgp {H:Type} {enc:TypeId×Value→H} {α:Type} {S E:TypeId} {k:Nat} {R:α→List Value→Prop} (hU:Tryz.prog.underlying S=some (.slice E)) (hk:Tryz.prog.cellsOf E=k)
    (hR: ∀{n:Nat} {cs:List Value} {x:DataW H×List MemPlace},cs.length=k→DataW.trod enc Tryz.prog W 0 (fun _=>true) true n E cs=some x→∃u,R u cs)
    {fuel:Nat} {v:Value} {x:DataW H×List MemPlace} (h:DataW.trod enc Tryz.prog W 0 (fun _=>true) true fuel S [v]=some x):
    ∃a n c l vs,v=.slice a n c∧IsRow W a vs∧Vs R l vs∧l.length=n∧n≤c∧c≤maxLen:=by
  rcases Go.Deep.open_slice hU h with ⟨hcs,hx⟩| ⟨ad,len,cap,m,n,D,Pl,hcs,_,hl,hm,hmm,hx,hV⟩
  {
  simp at hcs
  subst hcs;exact⟨none,0,0, [], [],rfl,.inl rfl,rfl,rfl,Nat.le_refl _,by decide⟩
  }
  {
  simp at hcs hmm
  subst hcs hmm;rw [hk] at hV;have key: ∀j,j≤len→∃l vs,Vs R l vs∧l.length=j∧vs.length=j * k∧∀i u,vs[i]?=some u→W.cell? (ad.add i)=some u:=by
    intro j
    induction j with
    |zero=>exact fun _=>⟨[], [],rfl,rfl,by simp,fun i u hi=>by simp at hi⟩
    |succ j ih=>
      intro hj;obtain ⟨l,vs,h1,h2,h3,h4⟩:=ih (by omega);obtain ⟨cs',g1,g2⟩:=hV j (by omega);obtain ⟨_,hlen,hcell⟩:=World.cells?_some g1;obtain ⟨u,hu⟩:=hR hlen g2;refine⟨l++ [u],vs++cs',h1.app ⟨cs', [],by simp,hu,rfl⟩,by simp [h2],by simp [h3,hlen,Nat.add_mul],fun i x hi=> ?_⟩
      by_cases hik:i<vs.length
      {
      rw [List.getElem?_append_left hik] at hi;exact h4 i x hi
      }
      {
      rw [List.getElem?_append_right (by omega)] at hi;have hb:i - vs.length<k:=by have:=(List.getElem?_eq_some_iff.1 hi).1;omega
      have hc:=hcell _ hb;rw [hi] at hc;have e: (ad.add (j * k)).add (i - vs.length)=ad.add i:=by
        rw [Addr.add_add,←h3];exact congrArg ad.add (by omega)
      rwa [e] at hc
      }
  obtain ⟨l,vs,h1,h2,h3,h4⟩:=key len (Nat.le_refl _);refine⟨some ad,len,m,l,vs,rfl, ?_,h1,h2,hl,hm⟩;cases vs with
  |nil=>exact .inl rfl
  |cons y r=>
    obtain ⟨b,off,spot⟩:=ad;obtain rfl:spot=none:=by simpa [Addr.add] using World.cell?_spot (h4 0 y rfl)
    exact .inr ⟨b,off,rfl,fun i u hi=>zeb (h4 i u hi)⟩
  }
theorem zby {α:Type} (xs:List α) (a:Option Addr):Ao xs (fun _=>False) a:=.inr fun _ _ h=>h
theorem zlj {H:Type} {enc:TypeId×Value→H} {x:DataW H×List MemPlace}
    (h:DataW.trod enc Tryz.prog W 0 (fun _=>true) true fuel 42 [v]=some x):
    ∃a n c l vs,v=.slice a n c∧IsRow W a vs∧Vs (LR W fun _=>False) l vs∧l.length=n∧n≤c∧c≤maxLen:=
  zgp Tryz.underlying42 zjr (fun {_ cs _} hl g=>by
    match cs,hl with
    | [u0],_=>
      obtain ⟨a,n',c,xs,rfl,hi',g1,g2⟩:=zd6 g;exact⟨xs,a,c,by rw [hi'.len],hi'.at_,by rw [hi'.len];exact g1,g2,zby _ _⟩) h
theorem zky {H:Type} {enc:TypeId×Value→H} {x:DataW H×List MemPlace}
    (h:DataW.trod enc Tryz.prog W 0 (fun _=>true) true fuel 37 [v]=some x):
    ∃a n c l vs,v=.slice a n c∧IsRow W a vs∧Vs (CR W fun _=>False) l vs∧l.length=n∧n≤c∧c≤maxLen:=by
  refine zgp Tryz.underlying37 zki (fun {_ cs _} _ g=> ?_) h;obtain ⟨xs,k,hk,hxy,hl,hxl,hf⟩:=DataW.trod_struct Tryz.underlying94 g;rw [zki] at hl
  match cs,hl with
  | [v0,v1,v2,v3,v4],_=>
    match xs,hxl with
    | [y0,y1,y2],_=>
      have g0:=hf 0 _ rfl;have g1:=hf 1 _ rfl;have g2:=hf 2 _ rfl
      simp [zbo,zlz,zpx] at g0 g1 g2
      obtain ⟨z0,e0,_⟩:=DataW.trod_int Tryz.underlying3 g0;obtain ⟨v,u,a,m,c,ts,e1,h1⟩:=zkx g1;obtain ⟨ai,ni,ci,ims,vs,rfl,i1,i2,i3,i4,i5⟩:=zlj g2
      simp at e0 e1
      exact⟨⟨z0,v,u,ts,ims⟩,⟨a,m,c,ai,ni,ci⟩,by rw [e0,e1.1,e1.2.1,e1.2.2],h1,zby _ _,⟨vs,i1,i2,zby _ _⟩,i3,by show ni≤maxLen;omega⟩
theorem zm8 {H:Type} {enc:TypeId×Value→H} {r:Reach} {b0:Nat} {d:DataW H} {p:List MemPlace}
    (hv:Value.okWide Tryz.prog W r b0 40 v) (h:DataW.Trod enc Tryz.prog W 0 (fun _=>true) true 40 v d p):
    ∃(x:Vh) (m:VA),v=vhv x m∧VIn W (fun _=>False) m x:=by
  obtain ⟨cs,rfl,hsz⟩:=okWide_struct Tryz.underlying40 hv;obtain ⟨fuel,hf⟩:=h;obtain ⟨xs,k,hk,hxy,hl,hxl,hf⟩:=DataW.trod_struct Tryz.underlying40 (show DataW.trod enc Tryz.prog W 0 (fun _=>true) true fuel 40 cs.toList=some (d,p) by simpa [Value.cells] using hf);rw [show Tryz.prog.cellsOf 40=15 by kernel_rfl] at hl;obtain ⟨cs⟩:=cs;simp only at hl hf
  match cs,hl with
  | [v0,v1,v2,v3,v4,v5,v6,v7,v8,v9,v10,v11,v12,v13,v14],_=>
    match xs,hxl with
    | [y0,y1,y2,y3,y4,y5,y6],_=>
      have g0:=hf 0 _ rfl;have g1:=hf 1 _ rfl;have g2:=hf 2 _ rfl;have g3:=hf 3 _ rfl;have g4:=hf 4 _ rfl;have g5:=hf 5 _ rfl;have g6:=hf 6 _ rfl;have cb:Tryz.prog.cellsOf 24=1:=by kernel_rfl
      have cg:Tryz.prog.cellsOf 25=1:=by kernel_rfl
      have cu:Tryz.prog.cellsOf 36=1:=by kernel_rfl
      have cc:Tryz.prog.cellsOf 37=1:=by kernel_rfl
      have cm:Tryz.prog.cellsOf 38=1:=by kernel_rfl
      simp [zbo,zjv,cb,cg,cu,cc,cm] at g0 g1 g2 g3 g4 g5 g6
      obtain ⟨ab,nb,kb,ss,e0,h0⟩: ∃a n c ss,v0=.slice a n c∧BB W a n c ss:=by
        obtain ⟨xs,k,hk,hxy,hl,hxl,hf⟩:=DataW.trod_struct Tryz.underlying24 g0
        match xs,hxl with
        | [y0],_=>
          have g0:=hf 0 _ rfl;have cl:Tryz.prog.cellsOf 22=1:=by kernel_rfl
          simp [cl] at g0
          obtain ⟨a,n,c,ss,rfl,hi⟩:=zke g0;exact⟨a,n,c,ss,rfl,⟨hi.strs,hi.len,hi.cap,hi.max,hi.short⟩⟩
      obtain ⟨sa,ns,ks,sg,e1,h1⟩:=zka g1;obtain ⟨g,gm,e2,h2,_⟩:=zkk g2;obtain ⟨au,nu,ku,us,vs3,e3,a3,b3,c3,d3,f3⟩:=zgp (α:=Un) (R:=UR W fun _=>False) Tryz.underlying36 zjt (fun {_ cs _} _ g=>by
        obtain ⟨u,a,m,c,e,h1,_⟩:=zkt g;exact⟨u,a,m,c,e,h1,zby _ _⟩) g3
      obtain ⟨ac,nc,kc,cps,vs4,e4,a4,b4,c4,d4,f4⟩:=zky g4;obtain ⟨an,nn,kn,net,vs5,e5,a5,b5,c5,d5,f5⟩:=zgp (α:=Ms) (R:=MR W fun _=>False) Tryz.underlying38 zmg (fun {_ cs _} _ g=>by
        obtain ⟨u,a,m,c,e,h1,_⟩:=zll g;exact⟨u,a,m,c,e,h1,zby _ _⟩) g5
      obtain ⟨now,e6,_⟩:=DataW.trod_int Tryz.underlying3 g6
      simp at e2 e6
      obtain ⟨p0,p1,p2,p3,p4,p5,p6,p7,p8⟩:=e2;subst e0 e1 p0 p1 p2 p3 p4 p5 p6 p7 p8 e3 e4 e5 e6;exact⟨⟨ss,sg,g,us,cps,net,now⟩,⟨ab,nb,kb,sa,ns,ks,gm,au,nu,ku,ac,nc,kc,an,nn,kn⟩,rfl,h0,h1,h2,⟨⟨vs3,a3,b3,zby _ _⟩,c3,d3,Nat.le_trans d3 f3⟩,⟨⟨vs4,a4,b4,zby _ _⟩,c4,d4,Nat.le_trans d4 f4⟩,⟨⟨vs5,a5,b5,zby _ _⟩,c5,d5,Nat.le_trans d5 f5⟩,zby _ _,zby _ _,⟨zby _ _,zby _ _,zby _ _,zby _ _⟩⟩
end
section
open Go.RowKit
theorem gTab:Tryz.prog.globalNamed "internal/strconv.uint64pow10"=some 1:=by kernel_rfl
theorem gTabType: (Tryz.prog.globals[1]?).map (·.type)=some 356:=by kernel_rfl
theorem cells_tab:Tryz.prog.cellsOf 356=20:=by kernel_rfl
theorem cells_u64:Tryz.prog.cellsOf 279=1:=by kernel_rfl
theorem zu9 {r:List (String×DataW Unit)} (h:laidMet Tryz.prog (("internal/strconv.uint64pow10",Rows.laid_internal_strconv_uint64pow10)::r) W):Tab W:=
  Lib.tabIs_of_head (zs:=Lib.pow10Tab) gTab gTabType Tryz.underlying356 Tryz.underlying279 cells_u64 cells_tab h
end
end Go.Proofs.YthmekfcgdfckaaaGreatDoor
