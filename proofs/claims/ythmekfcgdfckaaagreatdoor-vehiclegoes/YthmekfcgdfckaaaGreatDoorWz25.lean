/- Facts. -/
import Derived.Test.YthmekfcgdfckaaaGreatDoorWz23
import Derived.Test.YthmekfcgdfckaaaGreatDoorWz22
set_option maxRecDepth 1000000
set_option maxHeartbeats 0
namespace Go.Proofs.YthmekfcgdfckaaaGreatDoor
open Go.RowKit
section
open Go.ChangeShapes Go.WideShapes Go.ChangeAt Go.RowKit Go.Joins
theorem zt7 {H:Type} {enc:TypeId×Value->H} {W:World} {n:Nat} {cs:LV} {x:DataW H×List MemPlace} (h:DataW.trod enc Tryz.prog W 0 (fun _=>true) true n 47 cs=some x):
 ∃(o:Of) (m:OA),cs= [.slice m.a1 m.n1 m.c1,.slice m.a2 m.n2 m.c2,iV o.v,iV o.u,.slice m.a3 m.n3 m.c3,.slice m.a4 m.n4 m.c4,.slice m.a5 m.n5 m.c5]/\BO W m o:=by
 obtain ⟨xs,k,hk,hxy,hl,hxl,hf⟩:=DataW.trod_struct Tryz.underlying47 h;rw [ztu] at hl
 match cs,hl with
 | [c0,c1,c2,c3,c4,c5,c6],_=>
  match xs,hxl with
  | [y0,y1,y2,y3,y4],_=>
   have g0:=hf 0 _ rfl;have g1:=hf 1 _ rfl;have g2:=hf 2 _ rfl;have g3:=hf 3 _ rfl;have g4:=hf 4 _ rfl
   simp [zjr,zv2,zpx,zlz] at g0 g1 g2 g3 g4
   obtain ⟨a1,n1,k1,rs,rfl,h1⟩:=zt3 g0;obtain ⟨a2,n2,k2,sgs,rfl,h2⟩:=zsp g1;obtain ⟨v,u,a3,n3,k3,ts,e,h3⟩:=zkx g2;obtain ⟨a4,n4,k4,xs4,rfl,h4⟩:=zfy g3;obtain ⟨a5,n5,k5,ims,rfl,h5⟩:=zsp g4
   simp at e
   exact⟨⟨rs,sgs,v,u,ts,xs4,ims⟩,⟨a1,n1,k1,a2,n2,k2,a3,n3,k3,a4,n4,k4,a5,n5,k5⟩,by rw [e.1,e.2.1,e.2.2],⟨h1,h2,h3,h4.bi,h5⟩⟩
theorem Vs.both {α:Type} {R:α->LV->Prop} {Q:α->Prop}: ∀{l:List α} {vs:LV},Vs (fun x c=>R x c/\Q x) l vs->Vs R l vs/\∀x∈l,Q x
 | [],_,h=>⟨h,fun _ h=>by cases h⟩
 |y::l,vs,⟨c,r,e,⟨h1,h2⟩,h3⟩=>by
  obtain ⟨g1,g2⟩:=Vs.both h3;exact⟨⟨c,r,e,h1,g1⟩,fun x hx=>by rcases kt.1 hx with rfl|hx;exact h2;exact g2 x hx⟩
theorem zvw {H:Type} {enc:TypeId×Value->H} {W:World} {r:Reach} {b0:Nat} {v:Value} {d:DataW H} {p:List MemPlace}
 (hv:Value.okWide Tryz.prog W r b0 61 v) (h:DataW.Trod enc Tryz.prog W 0 (fun _=>true) true 61 v d p):
 ∃a n c l,v=.slice a n c/\RIn HR W (fun _=>False) a n c l/\∀x∈l,-9223372036854775808<=x.j/\x.j<=9223372036854775807:=by
 obtain ⟨a,n,c,rfl⟩:=okWide_slice Tryz.underlying61 hv;obtain ⟨fuel,hf⟩:=h;have ch:Tryz.prog.cellsOf 49=10:=by kernel_rfl
 obtain ⟨a',n',c',l,vs,e,h1,h2,h3,h4,h5⟩:=zgp (enc:=enc) (W:=W) (fuel:=fuel) (v:=.slice a n c) (x:=(d,p)) (α:=Hp) (R:=fun x c=>HR W (fun _=>False) x c/\(-9223372036854775808<=x.j/\x.j<=9223372036854775807)) Tryz.underlying61 ch (fun {_ cs _} hl g=>by
  obtain ⟨xs,k,hk,hxy,hl',hxl,hf⟩:=DataW.trod_struct Tryz.underlying49 g
  match cs,hl with
  | [v0,v1,v2,v3,v4,v5,v6,v7,v8,v9],_=>
   match xs,hxl with
   | [y0,y1,y2,y3],_=>
    have g0:=hf 0 _ rfl;have g1:=hf 1 _ rfl;have g2:=hf 2 _ rfl;have g3:=hf 3 _ rfl
    simp [zbo,ztu] at g0 g1 g2 g3
    obtain ⟨z0,e0,_⟩:=DataW.trod_int Tryz.underlying3 g0;obtain ⟨z1,e1,_⟩:=DataW.trod_int Tryz.underlying3 g1;obtain ⟨z2,e2,_,w2⟩:=DataW.trod_int Tryz.underlying3 g2;obtain ⟨o,mo,e3,ho⟩:=zt7 g3
    simp at e0 e1 e2 e3
    obtain ⟨p0,p1,p2,p3,p4,p5,p6⟩:=e3;subst e0 e1 e2 p0 p1 p2 p3 p4 p5 p6;exact⟨⟨z0,z1,z2,o⟩,⟨mo,rfl,ho⟩,zb3 w2⟩) (by simpa [Value.cells] using hf)
 cases e;obtain ⟨g1,g2⟩:=h2.both;exact⟨a,n,c,l,rfl,⟨⟨vs,h1,g1,zby _ _⟩,h3,h4,kc h4 h5⟩,g2⟩
end
end Go.Proofs.YthmekfcgdfckaaaGreatDoor
