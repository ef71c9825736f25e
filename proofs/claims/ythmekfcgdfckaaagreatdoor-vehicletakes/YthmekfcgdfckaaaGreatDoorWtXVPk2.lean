/- Plain facts for VehicleTakes. No program in this text. -/
import Derived.Test.YthmekfcgdfckaaaGreatDoorWtXVPk1
import Derived.Test.YthmekfcgdfckaaaGreatDoorWt38
set_option maxRecDepth 1000000
set_option maxHeartbeats 0
namespace Go.Proofs.YthmekfcgdfckaaaGreatDoor
variable {U:Nat}
section
open Go.RowKit
def facN (U:Nat) (u:Int):Vh:=nwV (outF U u 4).ss (outF U u 4).sg rtF (outF U u 4).fst
def facC (U:Nat) (u:Int):Bool:=decide ((facO U u).length=3)&&(facO U u).all fun o=>decide (o.roots.length=0)&&(decide (o.u=u)&&(decide (o.v≠3)||decide (crE (outF U u 4).ss (outF U u 4).sg rtF o.v o.u o.ts o.sigs=9)))
theorem facC_ok: ∀U,U<4→facC (U+1) 50=true∧facC (U+1) 100=true:=by decide+kernel
theorem facR_ok: ∀U,U<4→∀v:Nat,v<4→v≠0→relE v 50 (inF (outF (U+1) 50 v).ss v (U+1)).ts=0∧relE v 100 (inF (outF (U+1) 100 v).ss v (U+1)).ts=0:=by decide+kernel
theorem zry: ∀U,U<4→(bookE (outF (U+1) 50 4).ss=0∧bookE (outF (U+1) 100 4).ss=0)∧(sigE (outF (U+1) 50 4).sg=0∧sigE (outF (U+1) 100 4).sg=0)∧((outF (U+1) 50 4).fst.length=U+1∧(outF (U+1) 100 4).fst.length=U+1)∧(gNew rtF (U+1:Nat)).2=0:=by decide+kernel
theorem facU_ok: ∀U,U<4→(∀im∈(outF (U+1) 50 4).fst,UnOk (outF (U+1) 50 4).ss im)∧(∀im∈(outF (U+1) 100 4).fst,UnOk (outF (U+1) 100 4).ss im):=by unfold UnOk;decide+kernel
theorem facOk_50 (h:U<4):FacOk (U+1) 50:=⟨by omega,by omega,fun v h1 h2=>(facR_ok U h v h1 h2).1,(zry U h).1.1,(zry U h).2.1.1,by rw [(zry U h).2.2.1.1];exact(zry U h).2.2.2,(facU_ok U h).1,(zry U h).2.2.1.1⟩
theorem fac_off {u:Int} (h:facC U u=true) {o:Of} (ho:o∈facO U u):o.roots= []∧o.u=u∧(o.v=3→crE (outF U u 4).ss (outF U u 4).sg rtF o.v o.u o.ts o.sigs=9):=by
  unfold facC at h;simp only [Bool.and_eq_true,List.all_eq_true] at h;have:=h.2 o ho;simp only [decide_eq_true_eq,Bool.or_eq_true] at this;exact⟨List.eq_nil_of_length_eq_zero this.1,this.2.1,fun e=>this.2.2.resolve_left (fun h=>h e)⟩
theorem fac_len {u:Int} (h:facC U u=true): (facO U u).length=3:=by
  unfold facC at h;simp only [Bool.and_eq_true,decide_eq_true_eq] at h;exact h.1
theorem gw0_rk:logR gw0= []:=by decide+kernel
theorem facN_g (h:U<4) (u:Int) (hu:u=50∨u=100): (facN (U+1) u).g=gNw rtF (U+1:Nat):=by
  have hl: (outF (U+1) u 4).fst.length=U+1:=by rcases hu with rfl|rfl;exact(zry U h).2.2.1.1;exact(zry U h).2.2.1.2
  show(gNew rtF _).1=_
  rw [hl];have:=(zry U h).2.2.2;unfold gNew at this⊢
  split
  { rename_i e;rw [if_pos e] at this;cases this }
  {
  rename_i e
  rw [if_neg e] at this
  split
  { rename_i e2;rw [if_pos e2] at this;exact absurd this e2 }
  {
  rfl
  }
  }
structure TkI (U:Nat) (u:Int) (v:Vh):Prop where
  ss:v.ss= (outF U u 4).ss
  sg:v.sg= (outF U u 4).sg
  rt:v.g.t.r=rtF
  rk:RK v.g.ws
structure TkS (u:Int) (v:Vh) (x:Hp) (y:Vh):Prop where
  ok0:gtE v.g=0
  ok:gtE y.g=0
  up: (gOf v.g.ws).n≤(gOf y.g.ws).n∧(gOf y.g.ws).n≤(gOf v.g.ws).n+1
  ver:v.g.t.ver≤y.g.t.ver
  new: (gOf v.g.ws).n< (gOf y.g.ws).n→x.k=1∧x.o.v≠3∧v.now≤u∧(gOf y.g.ws).v=x.o.v∧((gOf v.g.ws).n=0∨(gOf v.g.ws).en=true)
  few: (logR y.g.ws).length≤16
theorem tk_first (h:U<4) (u:Int) (hu:u=50∨u=100):TkI (U+1) u (facN (U+1) u):=by
  have e:=facN_g h u hu;refine⟨rfl,rfl,by rw [e];rfl, ?_⟩;rw [e]
  show RK gw0
  intro r hr;rw [gw0_rk] at hr;cases hr
theorem tk_step {u:Int} {v:Vh} {x:Hp} (hC:facC U u=true) (hI:TkI U u v) (ho:x.k=1→x.o∈facO U u) (h: (doS' v x).2=0):TkI U u (doS' v x).1∧TkS u v x (doS' v x).1:=by
  have g:=zun h;generalize (doS' v x).1=y at *;have hrk:=g.lg.rk hI.rk;have hl:=(zdm (zrp g.ok).1).2.1;have hfew:=hrk.few hl
  rcases g.or' with ⟨n1,n2⟩| ⟨k1,b,n2,n3⟩
  { exact⟨⟨by rw [g.ss];exact hI.ss,by rw [g.sg];exact hI.sg,by rw [n2];exact hI.rt,hrk⟩,⟨g.ok0,g.ok,by omega,by rw [n2];omega,fun e=>by omega,by omega⟩⟩ }
  {
  obtain ⟨o1,o2,o3⟩:=fac_off hC (ho k1);obtain ⟨t1,t2,t3,t4⟩:=zsh b.tk;obtain ⟨r1,r2,-⟩:=zty t4;rw [o1] at n2 t3;have hr:lastR v.g.t.r []=rtF:=hI.rt;rw [hr] at n2 t3;refine⟨⟨by rw [g.ss];exact hI.ss,by rw [g.sg];exact hI.sg,by rw [n2],hrk⟩,⟨g.ok0,g.ok,by rw [n3];exact⟨by show(gOf v.g.ws).n≤(gOf v.g.ws).n+1;omega,Int.le_refl _⟩,by rw [n2];show v.g.t.ver≤x.o.v;omega,fun _=>⟨k1,fun e=> ?_,by omega,by rw [n3],b.fr⟩,by omega⟩⟩;rw [hI.ss,hI.sg,o3 e] at t3;cases t3
  }
end
end Go.Proofs.YthmekfcgdfckaaaGreatDoor
