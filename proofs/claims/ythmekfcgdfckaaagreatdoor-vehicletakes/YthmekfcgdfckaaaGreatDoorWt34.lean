/- The contract of vehicle.happen. The contract of vehicle.twin: a vehicle in memory of its own. -/
import Derived.Test.YthmekfcgdfckaaaGreatDoorWt33
set_option maxRecDepth 1000000
set_option maxHeartbeats 0
namespace Go.Proofs.YthmekfcgdfckaaaGreatDoor
variable {w' W' :World} {F:Nat} {Z:Nat→Prop}
section
open Go.RowKit
attribute [local go_sem ↓] Go.wp_at_zero Go.wp_at_succ
def hpv (x:Hp) (mo:OA):Value:=.agg #[.int .i64 x.k,.int .i64 x.u,.int .i64 x.j,.slice mo.a1 mo.n1 mo.c1,.slice mo.a2 mo.n2 mo.c2,.int .i64 x.o.v,.int .i64 x.o.u,.slice mo.a3 mo.n3 mo.c3,.slice mo.a4 mo.n4 mo.c4,.slice mo.a5 mo.n5 mo.c5]
theorem zdl {w w1:World} {B:Nat} {r:Vh×Int} {e:Ending} (h:HV w1 F Z B r e w') (hb:Below F w w1):HV w F Z B r e w' :=⟨h.1,hb.trans h.2.1,h.2.2⟩
theorem VOk.below {w w1:World} {m:VA} {v:Vh} (h:VOk w F Z m v) (hb:Below w.heap.size w w1) (hF:F≤w.heap.size):VOk w1 F Z m v:=
  ⟨h.big,h.nn,h.uns,h.net,fun b e=>by obtain ⟨cs,t,s1,s2⟩:=h.zs b e;exact⟨cs,t,zab s1 hb,s2⟩,h.zf,fun W hW=>h.tab W ((hb.mono hF).trans hW)⟩
theorem zcn {w:World} {B:Nat} {r:Vh×Int} {e:Ending} (h:HV w F Z B r e w'): ∃z,z=r.2∧e=.returned (.int .i64 z)∧HV w F Z B r (.returned (.int .i64 z)) w' :=⟨r.2,rfl,h.1,by have:=h.1;subst this;exact h⟩
theorem zjl (F:Nat) (Z:Nat→Prop) (q:VB) (m:VA) (v:Vh) (x:Hp) (mo:OA) (w:World) (h:VOwn w F Z q m v) (ok:VOk w F Z m v) (hgt:gtE v.g=0) (hws: ∀y∈v.net,y.ws.length≤1000000) (hnw:inB v.now 0 100000=true) (ho: ∀W,Below F w W→BO W mo x.o):
    Calls Tryz.prog 37 #[.pointer (some ⟨q.B,0,none⟩),hpv x mo] w (HV w F Z q.B (hapS v x)):=by
  have hb1:Below w.heap.size w (w.alloc (.cells (aH x mo) 49)):=bA1;have b1:=hide (heap_alloc_last w (.cells (aH x mo) 49));have hlt:=h.lt;have hFB:=h.fB;have H1:=hide (h.below hb1);have OK1:=hide (ok.below hb1 hlt);have hbF:=hb1.mono hlt;have HGT:=hide hgt;have HWs:=hide hws;have HNw:=hide hnw;have HBO:=hide ho;clear h ok hgt hws hnw ho hb1;unfold hpv
  by_cases hk:x.k=1
  {
  have dc: (x.k==1)=true:=by simpa using hk
  have HE:Hid (hapS v x=propS v x.o):=by unfold hapS;rw [if_pos hk];exact rfl
  have HC:=hide (zpn F Z q m v x.o mo _ H1.out OK1.out (fun W hW=>HBO.out W (hbF.trans hW)));unfold offv at HC;have z0:=zaa b1.out 0 _ rfl;have z3:=zaa b1.out 3 _ rfl;have z4:=zaa b1.out 4 _ rfl;have z5:=zaa b1.out 5 _ rfl;have z6:=zaa b1.out 6 _ rfl;have z7:=zaa b1.out 7 _ rfl;have z8:=zaa b1.out 8 _ rfl;have z9:=zaa b1.out 9 _ rfl;rw [HE.out];clear hk H1 OK1 HBO HGT HWs HNw HE;go_enter Tryz.func37,Tryz.ntmps37;go_wp2_with fail;refine(zae HC).mono ?_;intro e w3 hv;obtain ⟨z,-,rfl,hv2⟩:=zcn hv;have HV2:=hide (zdl hv2 hbF);clear hv hv2 HC;go_wp2_with fail;go_ret;exact HV2.out
  }
  by_cases hk:x.k=2
  {
  have dc: (x.k==2)=true:=by simpa using hk
  have d1: (x.k==1)=false:=by simp only [beq_eq_false_iff_ne,ne_eq];omega
  have HE:Hid (hapS v x=pokeS v x.u):=by unfold hapS;rw [if_neg (show¬x.k=1 by omega),if_pos hk];exact rfl
  have HC:=hide (poke_any F Z q m v x.u _ H1.out OK1.out HGT.out);have z0:=zaa b1.out 0 _ rfl;have z1:=zaa b1.out 1 _ rfl;rw [HE.out];clear hk H1 OK1 HBO HGT HWs HNw HE;go_enter Tryz.func37,Tryz.ntmps37;go_wp2_with fail;refine(zae HC).mono ?_;intro e w3 hv;obtain ⟨z,-,rfl,hv2⟩:=zcn hv;have HV2:=hide (zdl hv2 hbF);clear hv hv2 HC;go_wp2_with fail;go_ret;exact HV2.out
  }
  by_cases hk:x.k=9
  {
  have dc: (x.k==9)=true:=by simpa using hk
  have d1: (x.k==1)=false:=by simp only [beq_eq_false_iff_ne,ne_eq];omega
  have d2: (x.k==2)=false:=by simp only [beq_eq_false_iff_ne,ne_eq];omega
  have HE:Hid (hapS v x=qryS v x.u):=by unfold hapS;rw [if_neg (show¬x.k=1 by omega),if_neg (show¬x.k=2 by omega),if_pos hk];exact rfl
  have HC:=hide (query_any F Z q m v x.u _ H1.out OK1.out.nn OK1.out.uns);have z0:=zaa b1.out 0 _ rfl;have z1:=zaa b1.out 1 _ rfl;rw [HE.out];clear hk H1 OK1 HBO HGT HWs HNw HE;go_enter Tryz.func37,Tryz.ntmps37;go_wp2_with fail;refine(zae HC).mono ?_;intro e w3 hv;obtain ⟨z,-,rfl,hv2⟩:=zcn hv;have HV2:=hide (zdl hv2 hbF);clear hv hv2 HC;go_wp2_with fail;go_ret;exact HV2.out
  }
  by_cases hk:x.k=3
  {
  have dc: (x.k==3)=true:=by simpa using hk
  have d1: (x.k==1)=false:=by simp only [beq_eq_false_iff_ne,ne_eq];omega
  have d2: (x.k==2)=false:=by simp only [beq_eq_false_iff_ne,ne_eq];omega
  have d9: (x.k==9)=false:=by simp only [beq_eq_false_iff_ne,ne_eq];omega
  have HE:Hid (hapS v x=arrS v x.j):=by unfold hapS;rw [if_neg (show¬x.k=1 by omega),if_neg (show¬x.k=2 by omega),if_neg (show¬x.k=9 by omega),if_pos hk];exact rfl
  have HC:=hide (zqd F Z q m v x.j _ H1.out OK1.out);have z0:=zaa b1.out 0 _ rfl;have z2:=zaa b1.out 2 _ rfl;rw [HE.out];clear hk H1 OK1 HBO HGT HWs HNw HE;go_enter Tryz.func37,Tryz.ntmps37;go_wp2_with fail;refine(zae HC).mono ?_;intro e w3 hv;obtain ⟨z,-,rfl,hv2⟩:=zcn hv;have HV2:=hide (zdl hv2 hbF);clear hv hv2 HC;go_wp2_with fail;go_ret;exact HV2.out
  }
  by_cases hk:x.k=4
  {
  have dc: (x.k==4)=true:=by simpa using hk
  have d1: (x.k==1)=false:=by simp only [beq_eq_false_iff_ne,ne_eq];omega
  have d2: (x.k==2)=false:=by simp only [beq_eq_false_iff_ne,ne_eq];omega
  have d9: (x.k==9)=false:=by simp only [beq_eq_false_iff_ne,ne_eq];omega
  have d3: (x.k==3)=false:=by simp only [beq_eq_false_iff_ne,ne_eq];omega
  have HE:Hid (hapS v x=losS v x.j):=by unfold hapS;rw [if_neg (show¬x.k=1 by omega),if_neg (show¬x.k=2 by omega),if_neg (show¬x.k=9 by omega),if_neg (show¬x.k=3 by omega),if_pos hk];exact rfl
  rw [HE.out];have z0:=zaa b1.out 0 _ rfl;have z2:=zaa b1.out 2 _ rfl;cases hm:isM v x.j
  {
  have HL:Hid ((losS v x.j).2=5):=by unfold losS;rw [if_pos hm];exact rfl
  have HC:=hide (take_no F Z q m v x.j _ H1.out hm);unfold msv ms9 at HC;have hlt1:=H1.out.lt;clear hk H1 OK1 HBO HGT HWs HNw HE hm;go_enter Tryz.func37,Tryz.ntmps37;go_wp2_with fail;refine(zae HC).mono ?_;rintro e w3 ⟨rfl,hb3⟩;have hbE:Below F w (w3.alloc (.cells #[.int .i64 0,.int .i64 0,.int .i64 0,.int .i64 0,.int .i64 0,.slice none 0 0,.bool false] 99)):=hbF.trans ((hb3.alloc hb3.size _).mono hlt1);go_wp2_with fail;go_ret;exact zbs HL.out (by decide) hbE
  }
  {
  obtain ⟨jj,hjj⟩: ∃jj:Nat,x.j= (jj:Int):=⟨x.j.toNat,by unfold isM inB at hm;simp at hm;omega⟩;have hjl:jj<v.net.length:=by unfold isM inB at hm;simp at hm;omega
  have HL:Hid (losS v x.j= (takeM v jj,0)):=by unfold losS;rw [if_neg (by rw [hm];decide),hjj];exact rfl
  have HC:=hide (znt F Z q m v jj v.net[jj] _ H1.out (List.getElem?_eq_getElem hjl) (by have:=OK1.out.big.2.2;omega));have HQ:=hide hFB;rw [←hjj] at HC;clear hk H1 OK1 HBO HGT HWs HNw HE hm;generalize v.net[jj]=y at *;clear hjl hjj;go_enter Tryz.func37,Tryz.ntmps37;go_wp2_with fail;refine(zae HC).mono ?_;rintro e w3 ⟨⟨a,n,c,rfl,-,-⟩,H3,hb3⟩;unfold msv;have hba:Below w3.heap.size w3 (w3.alloc (.cells (aM y a n c) 99)):=bA1;have HFn:=hide (H3.below hba);have hbE:Below F w (w3.alloc (.cells (aM y a n c) 99)):=(hbF.trans hb3).trans (hba.mono H3.lt);clear H3 hba hb3 HC;go_wp2_with fail;go_ret;exact hv_ok HL.out hbE HFn.out
  }
  }
  by_cases hk:x.k=5
  {
  have dc: (x.k==5)=true:=by simpa using hk
  have d1: (x.k==1)=false:=by simp only [beq_eq_false_iff_ne,ne_eq];omega
  have d2: (x.k==2)=false:=by simp only [beq_eq_false_iff_ne,ne_eq];omega
  have d9: (x.k==9)=false:=by simp only [beq_eq_false_iff_ne,ne_eq];omega
  have d3: (x.k==3)=false:=by simp only [beq_eq_false_iff_ne,ne_eq];omega
  have d4: (x.k==4)=false:=by simp only [beq_eq_false_iff_ne,ne_eq];omega
  have HE:Hid (hapS v x=dblS v x.j):=by unfold hapS;rw [if_neg (show¬x.k=1 by omega),if_neg (show¬x.k=2 by omega),if_neg (show¬x.k=9 by omega),if_neg (show¬x.k=3 by omega),if_neg (show¬x.k=4 by omega),if_pos hk];exact rfl
  have HC:=hide (zq4 F Z q m v x.j _ H1.out OK1.out.nn HWs.out);have z0:=zaa b1.out 0 _ rfl;have z2:=zaa b1.out 2 _ rfl;rw [HE.out];clear hk H1 OK1 HBO HGT HWs HNw HE;go_enter Tryz.func37,Tryz.ntmps37;go_wp2_with fail;refine(zae HC).mono ?_;intro e w3 hv;obtain ⟨z,-,rfl,hv2⟩:=zcn hv;have HV2:=hide (zdl hv2 hbF);clear hv hv2 HC;go_wp2_with fail;go_ret;exact HV2.out
  }
  by_cases hk:x.k=6
  {
  have dc: (x.k==6)=true:=by simpa using hk
  have d1: (x.k==1)=false:=by simp only [beq_eq_false_iff_ne,ne_eq];omega
  have d2: (x.k==2)=false:=by simp only [beq_eq_false_iff_ne,ne_eq];omega
  have d9: (x.k==9)=false:=by simp only [beq_eq_false_iff_ne,ne_eq];omega
  have d3: (x.k==3)=false:=by simp only [beq_eq_false_iff_ne,ne_eq];omega
  have d4: (x.k==4)=false:=by simp only [beq_eq_false_iff_ne,ne_eq];omega
  have d5: (x.k==5)=false:=by simp only [beq_eq_false_iff_ne,ne_eq];omega
  have HE:Hid (hapS v x=cutS v x.u x.j):=by unfold hapS;rw [if_neg (show¬x.k=1 by omega),if_neg (show¬x.k=2 by omega),if_neg (show¬x.k=9 by omega),if_neg (show¬x.k=3 by omega),if_neg (show¬x.k=4 by omega),if_neg (show¬x.k=5 by omega),if_pos hk];exact rfl
  have HC:=hide (vCut_any F Z q m v x.u x.j _ H1.out);have z0:=zaa b1.out 0 _ rfl;have z1:=zaa b1.out 1 _ rfl;have z2:=zaa b1.out 2 _ rfl;rw [HE.out];clear hk H1 OK1 HBO HGT HWs HNw HE;go_enter Tryz.func37,Tryz.ntmps37;go_wp2_with fail;refine(zae HC).mono ?_;intro e w3 hv;obtain ⟨z,-,rfl,hv2⟩:=zcn hv;have HV2:=hide (zdl hv2 hbF);clear hv hv2 HC;go_wp2_with fail;go_ret;exact HV2.out
  }
  by_cases hk:x.k=7
  {
  have dc: (x.k==7)=true:=by simpa using hk
  have d1: (x.k==1)=false:=by simp only [beq_eq_false_iff_ne,ne_eq];omega
  have d2: (x.k==2)=false:=by simp only [beq_eq_false_iff_ne,ne_eq];omega
  have d9: (x.k==9)=false:=by simp only [beq_eq_false_iff_ne,ne_eq];omega
  have d3: (x.k==3)=false:=by simp only [beq_eq_false_iff_ne,ne_eq];omega
  have d4: (x.k==4)=false:=by simp only [beq_eq_false_iff_ne,ne_eq];omega
  have d5: (x.k==5)=false:=by simp only [beq_eq_false_iff_ne,ne_eq];omega
  have d6: (x.k==6)=false:=by simp only [beq_eq_false_iff_ne,ne_eq];omega
  have HE:Hid (hapS v x=bootV v x.u):=by unfold hapS;rw [if_neg (show¬x.k=1 by omega),if_neg (show¬x.k=2 by omega),if_neg (show¬x.k=9 by omega),if_neg (show¬x.k=3 by omega),if_neg (show¬x.k=4 by omega),if_neg (show¬x.k=5 by omega),if_neg (show¬x.k=6 by omega),if_pos hk];exact rfl
  have HC:=hide (vBoot_any F Z q m v x.u _ H1.out OK1.out.big OK1.out.zs OK1.out.uns);have z0:=zaa b1.out 0 _ rfl;have z1:=zaa b1.out 1 _ rfl;rw [HE.out];clear hk H1 OK1 HBO HGT HWs HNw HE;go_enter Tryz.func37,Tryz.ntmps37;go_wp2_with fail;refine(zae HC).mono ?_;intro e w3 hv;obtain ⟨z,-,rfl,hv2⟩:=zcn hv;have HV2:=hide (zdl hv2 hbF);clear hv hv2 HC;go_wp2_with fail;go_ret;exact HV2.out
  }
  by_cases hk:x.k=8
  {
  have dc: (x.k==8)=true:=by simpa using hk
  have d1: (x.k==1)=false:=by simp only [beq_eq_false_iff_ne,ne_eq];omega
  have d2: (x.k==2)=false:=by simp only [beq_eq_false_iff_ne,ne_eq];omega
  have d9: (x.k==9)=false:=by simp only [beq_eq_false_iff_ne,ne_eq];omega
  have d3: (x.k==3)=false:=by simp only [beq_eq_false_iff_ne,ne_eq];omega
  have d4: (x.k==4)=false:=by simp only [beq_eq_false_iff_ne,ne_eq];omega
  have d5: (x.k==5)=false:=by simp only [beq_eq_false_iff_ne,ne_eq];omega
  have d6: (x.k==6)=false:=by simp only [beq_eq_false_iff_ne,ne_eq];omega
  have d7: (x.k==7)=false:=by simp only [beq_eq_false_iff_ne,ne_eq];omega
  have HE:Hid (hapS v x=gupS v):=by unfold hapS;rw [if_neg (show¬x.k=1 by omega),if_neg (show¬x.k=2 by omega),if_neg (show¬x.k=9 by omega),if_neg (show¬x.k=3 by omega),if_neg (show¬x.k=4 by omega),if_neg (show¬x.k=5 by omega),if_neg (show¬x.k=6 by omega),if_neg (show¬x.k=7 by omega),if_pos hk];exact rfl
  have HC:=hide (zpm F Z q m v _ H1.out);have z0:=zaa b1.out 0 _ rfl;rw [HE.out];clear hk H1 OK1 HBO HGT HWs HNw HE;go_enter Tryz.func37,Tryz.ntmps37;go_wp2_with fail;refine(zae HC).mono ?_;intro e w3 hv;obtain ⟨z,-,rfl,hv2⟩:=zcn hv;have HV2:=hide (zdl hv2 hbF);clear hv hv2 HC;go_wp2_with fail;go_ret;exact HV2.out
  }
  by_cases hk:x.k=10
  {
  have dc: (x.k==10)=true:=by simpa using hk
  have d1: (x.k==1)=false:=by simp only [beq_eq_false_iff_ne,ne_eq];omega
  have d2: (x.k==2)=false:=by simp only [beq_eq_false_iff_ne,ne_eq];omega
  have d9: (x.k==9)=false:=by simp only [beq_eq_false_iff_ne,ne_eq];omega
  have d3: (x.k==3)=false:=by simp only [beq_eq_false_iff_ne,ne_eq];omega
  have d4: (x.k==4)=false:=by simp only [beq_eq_false_iff_ne,ne_eq];omega
  have d5: (x.k==5)=false:=by simp only [beq_eq_false_iff_ne,ne_eq];omega
  have d6: (x.k==6)=false:=by simp only [beq_eq_false_iff_ne,ne_eq];omega
  have d7: (x.k==7)=false:=by simp only [beq_eq_false_iff_ne,ne_eq];omega
  have d8: (x.k==8)=false:=by simp only [beq_eq_false_iff_ne,ne_eq];omega
  have HE:Hid (hapS v x=tckS v):=by unfold hapS;rw [if_neg (show¬x.k=1 by omega),if_neg (show¬x.k=2 by omega),if_neg (show¬x.k=9 by omega),if_neg (show¬x.k=3 by omega),if_neg (show¬x.k=4 by omega),if_neg (show¬x.k=5 by omega),if_neg (show¬x.k=6 by omega),if_neg (show¬x.k=7 by omega),if_neg (show¬x.k=8 by omega),if_pos hk];exact rfl
  have HC:=hide (tick_any F Z q m v _ H1.out HNw.out);have z0:=zaa b1.out 0 _ rfl;rw [HE.out];clear hk H1 OK1 HBO HGT HWs HNw HE;go_enter Tryz.func37,Tryz.ntmps37;go_wp2_with fail;refine(zae HC).mono ?_;intro e w3 hv;obtain ⟨z,-,rfl,hv2⟩:=zcn hv;have HV2:=hide (zdl hv2 hbF);clear hv hv2 HC;go_wp2_with fail;go_ret;exact HV2.out
  }
  have d1: (x.k==1)=false:=by simp only [beq_eq_false_iff_ne,ne_eq];omega
  have d2: (x.k==2)=false:=by simp only [beq_eq_false_iff_ne,ne_eq];omega
  have d9: (x.k==9)=false:=by simp only [beq_eq_false_iff_ne,ne_eq];omega
  have d3: (x.k==3)=false:=by simp only [beq_eq_false_iff_ne,ne_eq];omega
  have d4: (x.k==4)=false:=by simp only [beq_eq_false_iff_ne,ne_eq];omega
  have d5: (x.k==5)=false:=by simp only [beq_eq_false_iff_ne,ne_eq];omega
  have d6: (x.k==6)=false:=by simp only [beq_eq_false_iff_ne,ne_eq];omega
  have d7: (x.k==7)=false:=by simp only [beq_eq_false_iff_ne,ne_eq];omega
  have d8: (x.k==8)=false:=by simp only [beq_eq_false_iff_ne,ne_eq];omega
  have d10: (x.k==10)=false:=by simp only [beq_eq_false_iff_ne,ne_eq];omega
  have HE:Hid ((hapS v x).2=4):=by unfold hapS;rw [if_neg (show¬x.k=1 by omega),if_neg (show¬x.k=2 by omega),if_neg (show¬x.k=9 by omega),if_neg (show¬x.k=3 by omega),if_neg (show¬x.k=4 by omega),if_neg (show¬x.k=5 by omega),if_neg (show¬x.k=6 by omega),if_neg (show¬x.k=7 by omega),if_neg (show¬x.k=8 by omega),if_neg (show¬x.k=10 by omega)];exact rfl
  have z0:=zaa b1.out 0 _ rfl;go_enter Tryz.func37,Tryz.ntmps37;go_wp2_with fail;go_ret;exact zbs HE.out (by decide) hbF
end
section
open Go.RowKit
attribute [local go_sem ↓] Go.wp_at_zero Go.wp_at_succ
structure VSm (v:Vh):Prop where
  ss:v.ss.length≤1000000
  sg:v.sg.length≤1000000
  g1:v.g.ws.length≤1000000
  g2:v.g.t.r.ks.length≤1000000
  g3:v.g.vo.length≤1000000
  g4:v.g.di.length≤1000000
  us:v.us.length≤1000000
  uw: ∀u∈v.us,u.ws.length≤1000000
  cs:v.cs.length≤1000000
  cw: ∀x∈v.cs,CSm x
  net:v.net.length≤1000000
  nw: ∀m∈v.net,m.ws.length≤1000000
def KT (F bu bc bn:Nat) (b:Nat):Prop:=b<F∨b=bu∨b=bc∨b=bn
structure VTw (w:World) (F bu bc bn:Nat) (m:VA) (v:Vh):Prop where
  ss:BB w m.ab m.nb m.cb v.ss
  sg:BG w m.sa m.ns v.sg
  g:GIn w m.g v.g
  ob:Ao v.ss (KT F bu bc bn) m.ab
  os:Ao v.sg (KT F bu bc bn) m.sa
  og:GO (KT F bu bc bn) m.g v.g
  us:ROwn UR 5 82 w F (KT F bu bc bn) m.au m.nu m.cu bu v.us
  cs:ROwn CR 5 94 w F (KT F bu bc bn) m.ac m.nc m.cc bc v.cs
  net:ROwn MR 7 99 w F (KT F bu bc bn) m.an m.nn m.cn bn v.net
  n4:bu≠bc
  n5:bu≠bn
  n6:bc≠bn
  cap:m.cu=m.nu∧m.cc=m.nc∧m.cn=m.nn
def TwAns (w:World) (v:Vh) (e:Ending) (w' :World):Prop:=(∃m bu bc bn,e=.returned (vhv v m)∧VTw w' w.heap.size bu bc bn m v)∧Below w.heap.size w w'
theorem zlx {α:Type} {R:World→(Nat→Prop)→α→List Value→Prop} {k:Nat} {t:TypeId} {l:List α} {g:Nat} {us:List Value} (hO: ∀{w:World} {K K' :Nat→Prop},(∀b,K' b→K b∨w.heap.size≤b)→∀x c,R w K x c→R w K' x c)
    (hF:F≤g) (hm:l.length≤1000000) (hb:w'.heap[g]?=some (.cells us.toArray t (0,0))) (hl:us.length=l.length * k) (hv:Vs (R w' (Out g)) l us):ROwn R k t w' F (fun b=>b≤g∨w'.heap.size≤b) (some ⟨g,0,none⟩) l.length l.length g l:=
  ⟨rfl,⟨us,⟨hl,.inr ⟨g,l.length,us.toArray,rfl,hF,hb,Nat.le_refl _,by unfold maxLen;omega,by simpa using hl,by rw [←hl];simp⟩⟩,hv.mono (hO fun b e=>e)⟩,rfl⟩
theorem zeg {W:World} {S g n c:Nat} {ss:List ByteArray} (h:BB W (some ⟨g,0,none⟩) n c ss) (hc:Chg (fun b=>b<S+2) W W') (hg:S+2≤g):BB W' (some ⟨g,0,none⟩) n c ss:=⟨h.at_.chg hc (.at_ (by show¬g<S+2;omega)),h.len,h.cap,h.max,h.short⟩
theorem ze7 {W:World} {S g n:Nat} {ss:List S2} (h:BG W (some ⟨g,0,none⟩) n ss) (hc:Chg (fun b=>b<S+2) W W') (hg:S+2≤g):BG W' (some ⟨g,0,none⟩) n ss:=⟨h.at_.chg hc (.at_ (by show¬g<S+2;omega)),h.len,h.max⟩
theorem zfk {W:World} {S:Nat} {k:GA} {g:Gt} (h:GIn W k g) (hf:GFr (S+2) k) (hc:Chg (fun b=>b<S+2) W W'):GIn W' k g:=h.chg hc (.fresh hf fun _ e=>e)
theorem zcb {α:Type} {R:World→(Nat→Prop)→α→List Value→Prop} {k:Nat} {t:TypeId} {W:World} {S g s n c:Nat} {l:List α} (hR: ∀{w w' :World} {K:Nat→Prop},Chg K w w' →∀x c,R w K x c→R w' K x c) (h:ROwn R k t W F (fun b=>b≤g∨s≤b) (some ⟨g,0,none⟩) n c g l) (hc:Chg (fun b=>b<S+2) W W') (hg:S+2≤g):ROwn R k t W' F (fun b=>b≤g∨s≤b) (some ⟨g,0,none⟩) n c g l:=
  h.chg hR (hc.mono fun b e=>.inl (by show b≤g;have e:b<S+2:=e;omega)) (hc.block g h.lt.2 (by show¬g<S+2;omega))
theorem zhm (v:Vh) (m:VA) (K:Nat→Prop) (w:World) (h:VIn w K m v) (hs:VSm v):
    Calls Tryz.prog 36 #[vhv v m] w (TwAns w v):=by
  have HB:=hide (fun W (hW:Below w.heap.size w W)=>zhj v.ss m.ab m.nb m.cb W (h.ss.below hW) (by rw [←h.ss.len];exact hs.ss));have HS:=hide (fun W (hW:Below w.heap.size w W)=>zip m.sa m.ns m.cs (sgs v.sg) W (sgs_row (h.sg.below hW).at_) (by rw [sgs_len,h.sg.len]) (zlr _) (by rw [←h.sg.len];exact hs.sg));have HG:=hide (fun W (hW:Below w.heap.size w W)=>zns v.g m.g W (h.g.below hW) (by rw [←h.g.ws.len];exact hs.g1) (by rw [←h.g.ks.len];exact hs.g2) (by rw [←h.g.vo.len];exact hs.g3) (by rw [←h.g.di.len];exact hs.g4));have HU:=hide (fun W (hW:Below w.heap.size w W)=>zmp m.au m.nu m.cu m.cu K v.us W (h.us.chg UR.chg (.of hW K)) (by rw [←h.us.len];exact hs.us) hs.uw);have HC:=hide (fun W (hW:Below w.heap.size w W)=>zm5 m.ac m.nc m.cc m.cc K v.cs W (h.cs.chg CR.chg (.of hW K)) (by rw [←h.cs.len];exact hs.cs) hs.cw);have HN:=hide (fun W (hW:Below w.heap.size w W)=>zmo m.an m.nn m.cn m.cn K v.net W (h.net.chg MR.chg (.of hW K)) (by rw [←h.net.len];exact hs.net) hs.nw);have HV:=hide h;have HM:=hide hs;clear h hs;have b0:=hide (zai (heap_alloc_last w (.cells (vhC v m) 40)) (.cells aZ 40));have b1:=hide (zau w (.cells (vhC v m) 40) (.cells aZ 40));have hw:=zdv w (.cells (vhC v m) 40) (.cells aZ 40);have hsz: ((w.alloc (.cells (vhC v m) 40)).alloc (.cells aZ 40)).heap.size=w.heap.size+1+1:=by simp
  unfold vhv;unfold vhC at hw b0 b1 hsz⊢;unfold bookv at HB;unfold gtv at HG;have x0:=zaa b0.out 0 _ rfl;go_enter Tryz.func36,Tryz.ntmps36;go_wp2_with fail;generalize ((w.alloc (.cells (aV m v) 40)).alloc (.cells aZ 40))=W0 at *;clear x0;have hlo:w.heap.size+2≤W0.heap.size:=by omega
  clear hsz;refine(zae HB _ hw).mono ?_;rintro e w1 ⟨⟨g1,i1,j1,rfl,F1⟩,hb⟩;replace F1:=hide F1;obtain ⟨s1,hs1⟩: ∃s,s=w1.heap.size:=⟨_,rfl⟩;have hl1:W0.heap.size≤s1:=by rw [hs1];exact hb.size
  have HS1:=hide hs1;have hn1:g1<s1:=by rw [hs1];exact j1
  clear j1;clear hs1;replace b0:=hide (zab b0.out hb);replace b1:=hide (zab b1.out hb);replace hw:=bT hw hb;have x0:=zaa b0.out 0 _ rfl;have f0:=zad b0.out 0;go_upto_region 2 with fail
  have hc:Chg (fun b=>b<w.heap.size+2) W0 (w1.setCell ⟨w.heap.size,0,none⟩ (.slice (some ⟨g1,0,none⟩) m.nb m.nb)):=((Chg.of hb (fun b=>b<w.heap.size+2)).set (by show w.heap.size<w.heap.size+2;omega) _);have hc1:Chg (fun b=>b<w.heap.size+2) w1 (w1.setCell ⟨w.heap.size,0,none⟩ (.slice (some ⟨g1,0,none⟩) m.nb m.nb)):=((Chg.refl (fun b=>b<w.heap.size+2) w1).set (by show w.heap.size<w.heap.size+2;omega) _);have b0n:Hid ((w1.setCell ⟨w.heap.size,0,none⟩ (.slice (some ⟨g1,0,none⟩) m.nb m.nb)).heap[w.heap.size]?=some (.cells #[.slice (some ⟨g1,0,none⟩) m.nb m.nb,.slice m.sa m.ns m.cs,.slice m.g.a m.g.n m.g.c,.int .i64 v.g.fu,.bool v.g.up,.int .i64 v.g.t.r.v,.slice m.g.ak m.g.nk m.g.ck,.int .i64 v.g.t.r.t,.int .i64 v.g.t.ver,.slice m.g.av m.g.nv m.g.cv,.slice m.g.ad m.g.nd m.g.cd,.slice m.au m.nu m.cu,.slice m.ac m.nc m.cc,.slice m.an m.nn m.cn,.int .i64 v.now] 40 (0,0))):=zdu b0.out 0 _;have b1n:Hid ((w1.setCell ⟨w.heap.size,0,none⟩ (.slice (some ⟨g1,0,none⟩) m.nb m.nb)).heap[w.heap.size+1]?=some (.cells aZ 40 (0,0))):=by
    show _=_
    rw [Below.heap_setCell _ _ _ _ (by show w.heap.size+1≠w.heap.size;omega)];exact b1.out
  replace hw:Below w.heap.size w (w1.setCell ⟨w.heap.size,0,none⟩ (.slice (some ⟨g1,0,none⟩) m.nb m.nb)):=(hw.setCell (p:=⟨w.heap.size,0,none⟩) (Nat.le_refl _) _);replace F1:=hide (zeg F1.out hc1 (by omega));have hz1:s1= (w1.setCell ⟨w.heap.size,0,none⟩ (.slice (some ⟨g1,0,none⟩) m.nb m.nb)).heap.size:=by rw [HS1.out];simp [World.setCell]
  clear x0 f0 b0 b1 hb hc hc1 HB;generalize (w1.setCell ⟨w.heap.size,0,none⟩ (.slice (some ⟨g1,0,none⟩) m.nb m.nb))=W1 at *;have b0:=b0n;have b1:=b1n;clear b0n b1n;have hy1:s1≤W1.heap.size:=Nat.le_of_eq hz1;clear hz1 HS1;have x1:=zaa b0.out 1 _ rfl;go_wp2_with fail;clear x1;refine(zae HS _ hw).mono ?_;rintro e w1 ⟨rfl,hw1⟩;obtain ⟨g2,hg2⟩: ∃g2,g2=W1.heap.size:=⟨_,rfl⟩;have hb:Below W1.heap.size W1 w1:=by rw [hw1];exact bA1
  have F2:Hid (BG w1 (some ⟨g2,0,none⟩) m.ns v.sg):=by rw [hw1,hg2];exact⟨sgs_of (new_row _ _ _),HV.out.sg.len,HV.out.sg.max⟩
  have j2:g2<w1.heap.size:=by rw [hw1,hg2];simp
  have i2:W1.heap.size≤g2:=Nat.le_of_eq hg2.symm;rw [←hg2];clear hw1 hg2;obtain ⟨s2,hs2⟩: ∃s,s=w1.heap.size:=⟨_,rfl⟩;have hl2:W1.heap.size≤s2:=by rw [hs2];exact hb.size
  have HS2:=hide hs2;have hn2:g2<s2:=by rw [hs2];exact j2
  clear j2;clear hs2;replace b0:=hide (zab b0.out hb);replace b1:=hide (zab b1.out hb);replace hw:=bT hw hb;have x1:=zaa b0.out 1 _ rfl;have f1:=zad b0.out 1;go_upto_region 3 with fail
  have hc:Chg (fun b=>b<w.heap.size+2) W1 (w1.setCell ⟨w.heap.size,1,none⟩ (.slice (some ⟨g2,0,none⟩) m.ns m.ns)):=((Chg.of hb (fun b=>b<w.heap.size+2)).set (by show w.heap.size<w.heap.size+2;omega) _);have hc1:Chg (fun b=>b<w.heap.size+2) w1 (w1.setCell ⟨w.heap.size,1,none⟩ (.slice (some ⟨g2,0,none⟩) m.ns m.ns)):=((Chg.refl (fun b=>b<w.heap.size+2) w1).set (by show w.heap.size<w.heap.size+2;omega) _);have b0n:Hid ((w1.setCell ⟨w.heap.size,1,none⟩ (.slice (some ⟨g2,0,none⟩) m.ns m.ns)).heap[w.heap.size]?=some (.cells #[.slice (some ⟨g1,0,none⟩) m.nb m.nb,.slice (some ⟨g2,0,none⟩) m.ns m.ns,.slice m.g.a m.g.n m.g.c,.int .i64 v.g.fu,.bool v.g.up,.int .i64 v.g.t.r.v,.slice m.g.ak m.g.nk m.g.ck,.int .i64 v.g.t.r.t,.int .i64 v.g.t.ver,.slice m.g.av m.g.nv m.g.cv,.slice m.g.ad m.g.nd m.g.cd,.slice m.au m.nu m.cu,.slice m.ac m.nc m.cc,.slice m.an m.nn m.cn,.int .i64 v.now] 40 (0,0))):=zdu b0.out 1 _;have b1n:Hid ((w1.setCell ⟨w.heap.size,1,none⟩ (.slice (some ⟨g2,0,none⟩) m.ns m.ns)).heap[w.heap.size+1]?=some (.cells aZ 40 (0,0))):=by
    show _=_
    rw [Below.heap_setCell _ _ _ _ (by show w.heap.size+1≠w.heap.size;omega)];exact b1.out
  replace hw:Below w.heap.size w (w1.setCell ⟨w.heap.size,1,none⟩ (.slice (some ⟨g2,0,none⟩) m.ns m.ns)):=(hw.setCell (p:=⟨w.heap.size,1,none⟩) (Nat.le_refl _) _);replace F1:=hide (zeg F1.out hc (by omega));replace F2:=hide (ze7 F2.out hc1 (by omega));have hz2:s2= (w1.setCell ⟨w.heap.size,1,none⟩ (.slice (some ⟨g2,0,none⟩) m.ns m.ns)).heap.size:=by rw [HS2.out];simp [World.setCell]
  clear x1 f1 b0 b1 hb hc hc1 HS;generalize (w1.setCell ⟨w.heap.size,1,none⟩ (.slice (some ⟨g2,0,none⟩) m.ns m.ns))=W2 at *;have b0:=b0n;have b1:=b1n;clear b0n b1n;have hy2:s2≤W2.heap.size:=Nat.le_of_eq hz2;clear hz2 HS2;have x2:=zaa b0.out 2 _ rfl;have x3:=zaa b0.out 3 _ rfl;have x4:=zaa b0.out 4 _ rfl;have x5:=zaa b0.out 5 _ rfl;have x6:=zaa b0.out 6 _ rfl;have x7:=zaa b0.out 7 _ rfl;have x8:=zaa b0.out 8 _ rfl;have x9:=zaa b0.out 9 _ rfl;have x10:=zaa b0.out 10 _ rfl;go_wp2_with fail;clear x2 x3 x4 x5 x6 x7 x8 x9 x10;refine(zae HG _ hw).mono ?_;rintro e w1 ⟨⟨k3,rfl,F3,E3⟩,hb⟩;replace F3:=hide F3;replace E3:Hid (GFr (w.heap.size+2) k3):=E3.lower (by omega);obtain ⟨s3,hs3⟩: ∃s,s=w1.heap.size:=⟨_,rfl⟩;have hl3:W2.heap.size≤s3:=by rw [hs3];exact hb.size
  have HS3:=hide hs3;have O3:Hid (GO (fun b=>b<w.heap.size+2∨s3≤b) k3 v.g):=by rw [hs3];exact(GO.fresh (K:=fun b=>b<w.heap.size+2) E3.out fun _ e=>e).wide F3.out (fun _ e=>e)
  clear hs3;replace b0:=hide (zab b0.out hb);replace b1:=hide (zab b1.out hb);replace hw:=bT hw hb;have x2:=zaa b0.out 2 _ rfl;have f2:=zad b0.out 2;have x3:=zaa b0.out 3 _ rfl;have f3:=zad b0.out 3;have x4:=zaa b0.out 4 _ rfl;have f4:=zad b0.out 4;have x5:=zaa b0.out 5 _ rfl;have f5:=zad b0.out 5;have x6:=zaa b0.out 6 _ rfl;have f6:=zad b0.out 6;have x7:=zaa b0.out 7 _ rfl;have f7:=zad b0.out 7;have x8:=zaa b0.out 8 _ rfl;have f8:=zad b0.out 8;have x9:=zaa b0.out 9 _ rfl;have f9:=zad b0.out 9;have x10:=zaa b0.out 10 _ rfl;have f10:=zad b0.out 10;go_upto_region 4 with fail
  have hc:Chg (fun b=>b<w.heap.size+2) W2 (((((((((w1.setCell ⟨w.heap.size,2,none⟩ (.slice k3.a k3.n k3.c)).setCell ⟨w.heap.size,3,none⟩ (.int .i64 v.g.fu)).setCell ⟨w.heap.size,4,none⟩ (.bool v.g.up)).setCell ⟨w.heap.size,5,none⟩ (.int .i64 v.g.t.r.v)).setCell ⟨w.heap.size,6,none⟩ (.slice k3.ak k3.nk k3.ck)).setCell ⟨w.heap.size,7,none⟩ (.int .i64 v.g.t.r.t)).setCell ⟨w.heap.size,8,none⟩ (.int .i64 v.g.t.ver)).setCell ⟨w.heap.size,9,none⟩ (.slice k3.av k3.nv k3.cv)).setCell ⟨w.heap.size,10,none⟩ (.slice k3.ad k3.nd k3.cd)):=((((((((((Chg.of hb (fun b=>b<w.heap.size+2)).set (by show w.heap.size<w.heap.size+2;omega) _).set (by show w.heap.size<w.heap.size+2;omega) _).set (by show w.heap.size<w.heap.size+2;omega) _).set (by show w.heap.size<w.heap.size+2;omega) _).set (by show w.heap.size<w.heap.size+2;omega) _).set (by show w.heap.size<w.heap.size+2;omega) _).set (by show w.heap.size<w.heap.size+2;omega) _).set (by show w.heap.size<w.heap.size+2;omega) _).set (by show w.heap.size<w.heap.size+2;omega) _);have hc1:Chg (fun b=>b<w.heap.size+2) w1 (((((((((w1.setCell ⟨w.heap.size,2,none⟩ (.slice k3.a k3.n k3.c)).setCell ⟨w.heap.size,3,none⟩ (.int .i64 v.g.fu)).setCell ⟨w.heap.size,4,none⟩ (.bool v.g.up)).setCell ⟨w.heap.size,5,none⟩ (.int .i64 v.g.t.r.v)).setCell ⟨w.heap.size,6,none⟩ (.slice k3.ak k3.nk k3.ck)).setCell ⟨w.heap.size,7,none⟩ (.int .i64 v.g.t.r.t)).setCell ⟨w.heap.size,8,none⟩ (.int .i64 v.g.t.ver)).setCell ⟨w.heap.size,9,none⟩ (.slice k3.av k3.nv k3.cv)).setCell ⟨w.heap.size,10,none⟩ (.slice k3.ad k3.nd k3.cd)):=((((((((((Chg.refl (fun b=>b<w.heap.size+2) w1).set (by show w.heap.size<w.heap.size+2;omega) _).set (by show w.heap.size<w.heap.size+2;omega) _).set (by show w.heap.size<w.heap.size+2;omega) _).set (by show w.heap.size<w.heap.size+2;omega) _).set (by show w.heap.size<w.heap.size+2;omega) _).set (by show w.heap.size<w.heap.size+2;omega) _).set (by show w.heap.size<w.heap.size+2;omega) _).set (by show w.heap.size<w.heap.size+2;omega) _).set (by show w.heap.size<w.heap.size+2;omega) _);have b0n:Hid ((((((((((w1.setCell ⟨w.heap.size,2,none⟩ (.slice k3.a k3.n k3.c)).setCell ⟨w.heap.size,3,none⟩ (.int .i64 v.g.fu)).setCell ⟨w.heap.size,4,none⟩ (.bool v.g.up)).setCell ⟨w.heap.size,5,none⟩ (.int .i64 v.g.t.r.v)).setCell ⟨w.heap.size,6,none⟩ (.slice k3.ak k3.nk k3.ck)).setCell ⟨w.heap.size,7,none⟩ (.int .i64 v.g.t.r.t)).setCell ⟨w.heap.size,8,none⟩ (.int .i64 v.g.t.ver)).setCell ⟨w.heap.size,9,none⟩ (.slice k3.av k3.nv k3.cv)).setCell ⟨w.heap.size,10,none⟩ (.slice k3.ad k3.nd k3.cd)).heap[w.heap.size]?=some (.cells #[.slice (some ⟨g1,0,none⟩) m.nb m.nb,.slice (some ⟨g2,0,none⟩) m.ns m.ns,.slice k3.a k3.n k3.c,.int .i64 v.g.fu,.bool v.g.up,.int .i64 v.g.t.r.v,.slice k3.ak k3.nk k3.ck,.int .i64 v.g.t.r.t,.int .i64 v.g.t.ver,.slice k3.av k3.nv k3.cv,.slice k3.ad k3.nd k3.cd,.slice m.au m.nu m.cu,.slice m.ac m.nc m.cc,.slice m.an m.nn m.cn,.int .i64 v.now] 40 (0,0))):=by
    show _=_
    simp only [World.setCell,Array.getElem?_modify]
    simp [b0.out]
  have b1n:Hid ((((((((((w1.setCell ⟨w.heap.size,2,none⟩ (.slice k3.a k3.n k3.c)).setCell ⟨w.heap.size,3,none⟩ (.int .i64 v.g.fu)).setCell ⟨w.heap.size,4,none⟩ (.bool v.g.up)).setCell ⟨w.heap.size,5,none⟩ (.int .i64 v.g.t.r.v)).setCell ⟨w.heap.size,6,none⟩ (.slice k3.ak k3.nk k3.ck)).setCell ⟨w.heap.size,7,none⟩ (.int .i64 v.g.t.r.t)).setCell ⟨w.heap.size,8,none⟩ (.int .i64 v.g.t.ver)).setCell ⟨w.heap.size,9,none⟩ (.slice k3.av k3.nv k3.cv)).setCell ⟨w.heap.size,10,none⟩ (.slice k3.ad k3.nd k3.cd)).heap[w.heap.size+1]?=some (.cells aZ 40 (0,0))):=by
    show _=_
    rw [Below.heap_setCell _ _ _ _ (by show w.heap.size+1≠w.heap.size;omega),Below.heap_setCell _ _ _ _ (by show w.heap.size+1≠w.heap.size;omega),Below.heap_setCell _ _ _ _ (by show w.heap.size+1≠w.heap.size;omega),Below.heap_setCell _ _ _ _ (by show w.heap.size+1≠w.heap.size;omega),Below.heap_setCell _ _ _ _ (by show w.heap.size+1≠w.heap.size;omega),Below.heap_setCell _ _ _ _ (by show w.heap.size+1≠w.heap.size;omega),Below.heap_setCell _ _ _ _ (by show w.heap.size+1≠w.heap.size;omega),Below.heap_setCell _ _ _ _ (by show w.heap.size+1≠w.heap.size;omega),Below.heap_setCell _ _ _ _ (by show w.heap.size+1≠w.heap.size;omega)];exact b1.out
  replace hw:Below w.heap.size w (((((((((w1.setCell ⟨w.heap.size,2,none⟩ (.slice k3.a k3.n k3.c)).setCell ⟨w.heap.size,3,none⟩ (.int .i64 v.g.fu)).setCell ⟨w.heap.size,4,none⟩ (.bool v.g.up)).setCell ⟨w.heap.size,5,none⟩ (.int .i64 v.g.t.r.v)).setCell ⟨w.heap.size,6,none⟩ (.slice k3.ak k3.nk k3.ck)).setCell ⟨w.heap.size,7,none⟩ (.int .i64 v.g.t.r.t)).setCell ⟨w.heap.size,8,none⟩ (.int .i64 v.g.t.ver)).setCell ⟨w.heap.size,9,none⟩ (.slice k3.av k3.nv k3.cv)).setCell ⟨w.heap.size,10,none⟩ (.slice k3.ad k3.nd k3.cd)):=(((((((((hw.setCell (p:=⟨w.heap.size,2,none⟩) (Nat.le_refl _) _).setCell (p:=⟨w.heap.size,3,none⟩) (Nat.le_refl _) _).setCell (p:=⟨w.heap.size,4,none⟩) (Nat.le_refl _) _).setCell (p:=⟨w.heap.size,5,none⟩) (Nat.le_refl _) _).setCell (p:=⟨w.heap.size,6,none⟩) (Nat.le_refl _) _).setCell (p:=⟨w.heap.size,7,none⟩) (Nat.le_refl _) _).setCell (p:=⟨w.heap.size,8,none⟩) (Nat.le_refl _) _).setCell (p:=⟨w.heap.size,9,none⟩) (Nat.le_refl _) _).setCell (p:=⟨w.heap.size,10,none⟩) (Nat.le_refl _) _);replace F1:=hide (zeg F1.out hc (by omega));replace F2:=hide (ze7 F2.out hc (by omega));replace F3:=hide (zfk F3.out E3.out hc1);have hz3:s3= (((((((((w1.setCell ⟨w.heap.size,2,none⟩ (.slice k3.a k3.n k3.c)).setCell ⟨w.heap.size,3,none⟩ (.int .i64 v.g.fu)).setCell ⟨w.heap.size,4,none⟩ (.bool v.g.up)).setCell ⟨w.heap.size,5,none⟩ (.int .i64 v.g.t.r.v)).setCell ⟨w.heap.size,6,none⟩ (.slice k3.ak k3.nk k3.ck)).setCell ⟨w.heap.size,7,none⟩ (.int .i64 v.g.t.r.t)).setCell ⟨w.heap.size,8,none⟩ (.int .i64 v.g.t.ver)).setCell ⟨w.heap.size,9,none⟩ (.slice k3.av k3.nv k3.cv)).setCell ⟨w.heap.size,10,none⟩ (.slice k3.ad k3.nd k3.cd)).heap.size:=by rw [HS3.out];simp [World.setCell]
  clear x2 f2 x3 f3 x4 f4 x5 f5 x6 f6 x7 f7 x8 f8 x9 f9 x10 f10 b0 b1 hb hc hc1 HG;generalize (((((((((w1.setCell ⟨w.heap.size,2,none⟩ (.slice k3.a k3.n k3.c)).setCell ⟨w.heap.size,3,none⟩ (.int .i64 v.g.fu)).setCell ⟨w.heap.size,4,none⟩ (.bool v.g.up)).setCell ⟨w.heap.size,5,none⟩ (.int .i64 v.g.t.r.v)).setCell ⟨w.heap.size,6,none⟩ (.slice k3.ak k3.nk k3.ck)).setCell ⟨w.heap.size,7,none⟩ (.int .i64 v.g.t.r.t)).setCell ⟨w.heap.size,8,none⟩ (.int .i64 v.g.t.ver)).setCell ⟨w.heap.size,9,none⟩ (.slice k3.av k3.nv k3.cv)).setCell ⟨w.heap.size,10,none⟩ (.slice k3.ad k3.nd k3.cd))=W3 at *;have b0:=b0n;have b1:=b1n;clear b0n b1n;have hy3:s3≤W3.heap.size:=Nat.le_of_eq hz3;clear hz3 HS3;have x11:=zaa b0.out 11 _ rfl;go_wp2_with fail;clear x11;refine(zae HU _ hw).mono ?_;rintro e w1 ⟨⟨g4,us4,i4,j4,rfl,t4,l4,q4⟩,hb⟩;have F4:=hide (zlx (F:=w.heap.size) UR.off (by omega) HM.out.us t4 l4 q4);obtain ⟨s4,hs4⟩: ∃s,s=w1.heap.size:=⟨_,rfl⟩;rw [←hs4] at F4;clear t4 l4 q4 us4;have hl4:W3.heap.size≤s4:=by rw [hs4];exact hb.size
  have HS4:=hide hs4;have hn4:g4<s4:=by rw [hs4];exact j4
  clear j4;clear hs4;replace b0:=hide (zab b0.out hb);replace b1:=hide (zab b1.out hb);replace hw:=bT hw hb;have x11:=zaa b0.out 11 _ rfl;have f11:=zad b0.out 11;go_upto_region 5 with fail
  have hc:Chg (fun b=>b<w.heap.size+2) W3 (w1.setCell ⟨w.heap.size,11,none⟩ (.slice (some ⟨g4,0,none⟩) v.us.length v.us.length)):=((Chg.of hb (fun b=>b<w.heap.size+2)).set (by show w.heap.size<w.heap.size+2;omega) _);have hc1:Chg (fun b=>b<w.heap.size+2) w1 (w1.setCell ⟨w.heap.size,11,none⟩ (.slice (some ⟨g4,0,none⟩) v.us.length v.us.length)):=((Chg.refl (fun b=>b<w.heap.size+2) w1).set (by show w.heap.size<w.heap.size+2;omega) _);have b0n:Hid ((w1.setCell ⟨w.heap.size,11,none⟩ (.slice (some ⟨g4,0,none⟩) v.us.length v.us.length)).heap[w.heap.size]?=some (.cells #[.slice (some ⟨g1,0,none⟩) m.nb m.nb,.slice (some ⟨g2,0,none⟩) m.ns m.ns,.slice k3.a k3.n k3.c,.int .i64 v.g.fu,.bool v.g.up,.int .i64 v.g.t.r.v,.slice k3.ak k3.nk k3.ck,.int .i64 v.g.t.r.t,.int .i64 v.g.t.ver,.slice k3.av k3.nv k3.cv,.slice k3.ad k3.nd k3.cd,.slice (some ⟨g4,0,none⟩) v.us.length v.us.length,.slice m.ac m.nc m.cc,.slice m.an m.nn m.cn,.int .i64 v.now] 40 (0,0))):=zdu b0.out 11 _;have b1n:Hid ((w1.setCell ⟨w.heap.size,11,none⟩ (.slice (some ⟨g4,0,none⟩) v.us.length v.us.length)).heap[w.heap.size+1]?=some (.cells aZ 40 (0,0))):=by
    show _=_
    rw [Below.heap_setCell _ _ _ _ (by show w.heap.size+1≠w.heap.size;omega)];exact b1.out
  replace hw:Below w.heap.size w (w1.setCell ⟨w.heap.size,11,none⟩ (.slice (some ⟨g4,0,none⟩) v.us.length v.us.length)):=(hw.setCell (p:=⟨w.heap.size,11,none⟩) (Nat.le_refl _) _);replace F1:=hide (zeg F1.out hc (by omega));replace F2:=hide (ze7 F2.out hc (by omega));replace F3:=hide (zfk F3.out E3.out hc);replace F4:=hide (zcb UR.chg F4.out hc1 (by omega));have hz4:s4= (w1.setCell ⟨w.heap.size,11,none⟩ (.slice (some ⟨g4,0,none⟩) v.us.length v.us.length)).heap.size:=by rw [HS4.out];simp [World.setCell]
  clear x11 f11 b0 b1 hb hc hc1 HU;generalize (w1.setCell ⟨w.heap.size,11,none⟩ (.slice (some ⟨g4,0,none⟩) v.us.length v.us.length))=W4 at *;have b0:=b0n;have b1:=b1n;clear b0n b1n;have hy4:s4≤W4.heap.size:=Nat.le_of_eq hz4;clear hz4 HS4;have x12:=zaa b0.out 12 _ rfl;go_wp2_with fail;clear x12;refine(zae HC _ hw).mono ?_;rintro e w1 ⟨⟨g5,us5,i5,j5,rfl,t5,l5,q5⟩,hb⟩;have F5:=hide (zlx (F:=w.heap.size) CR.off (by omega) HM.out.cs t5 l5 q5);obtain ⟨s5,hs5⟩: ∃s,s=w1.heap.size:=⟨_,rfl⟩;rw [←hs5] at F5;clear t5 l5 q5 us5;have hl5:W4.heap.size≤s5:=by rw [hs5];exact hb.size
  have HS5:=hide hs5;have hn5:g5<s5:=by rw [hs5];exact j5
  clear j5;clear hs5;replace b0:=hide (zab b0.out hb);replace b1:=hide (zab b1.out hb);replace hw:=bT hw hb;have x12:=zaa b0.out 12 _ rfl;have f12:=zad b0.out 12;go_upto_region 6 with fail
  have hc:Chg (fun b=>b<w.heap.size+2) W4 (w1.setCell ⟨w.heap.size,12,none⟩ (.slice (some ⟨g5,0,none⟩) v.cs.length v.cs.length)):=((Chg.of hb (fun b=>b<w.heap.size+2)).set (by show w.heap.size<w.heap.size+2;omega) _);have hc1:Chg (fun b=>b<w.heap.size+2) w1 (w1.setCell ⟨w.heap.size,12,none⟩ (.slice (some ⟨g5,0,none⟩) v.cs.length v.cs.length)):=((Chg.refl (fun b=>b<w.heap.size+2) w1).set (by show w.heap.size<w.heap.size+2;omega) _);have b0n:Hid ((w1.setCell ⟨w.heap.size,12,none⟩ (.slice (some ⟨g5,0,none⟩) v.cs.length v.cs.length)).heap[w.heap.size]?=some (.cells #[.slice (some ⟨g1,0,none⟩) m.nb m.nb,.slice (some ⟨g2,0,none⟩) m.ns m.ns,.slice k3.a k3.n k3.c,.int .i64 v.g.fu,.bool v.g.up,.int .i64 v.g.t.r.v,.slice k3.ak k3.nk k3.ck,.int .i64 v.g.t.r.t,.int .i64 v.g.t.ver,.slice k3.av k3.nv k3.cv,.slice k3.ad k3.nd k3.cd,.slice (some ⟨g4,0,none⟩) v.us.length v.us.length,.slice (some ⟨g5,0,none⟩) v.cs.length v.cs.length,.slice m.an m.nn m.cn,.int .i64 v.now] 40 (0,0))):=zdu b0.out 12 _;have b1n:Hid ((w1.setCell ⟨w.heap.size,12,none⟩ (.slice (some ⟨g5,0,none⟩) v.cs.length v.cs.length)).heap[w.heap.size+1]?=some (.cells aZ 40 (0,0))):=by
    show _=_
    rw [Below.heap_setCell _ _ _ _ (by show w.heap.size+1≠w.heap.size;omega)];exact b1.out
  replace hw:Below w.heap.size w (w1.setCell ⟨w.heap.size,12,none⟩ (.slice (some ⟨g5,0,none⟩) v.cs.length v.cs.length)):=(hw.setCell (p:=⟨w.heap.size,12,none⟩) (Nat.le_refl _) _);replace F1:=hide (zeg F1.out hc (by omega));replace F2:=hide (ze7 F2.out hc (by omega));replace F3:=hide (zfk F3.out E3.out hc);replace F4:=hide (zcb UR.chg F4.out hc (by omega));replace F5:=hide (zcb CR.chg F5.out hc1 (by omega));have hz5:s5= (w1.setCell ⟨w.heap.size,12,none⟩ (.slice (some ⟨g5,0,none⟩) v.cs.length v.cs.length)).heap.size:=by rw [HS5.out];simp [World.setCell]
  clear x12 f12 b0 b1 hb hc hc1 HC;generalize (w1.setCell ⟨w.heap.size,12,none⟩ (.slice (some ⟨g5,0,none⟩) v.cs.length v.cs.length))=W5 at *;have b0:=b0n;have b1:=b1n;clear b0n b1n;have hy5:s5≤W5.heap.size:=Nat.le_of_eq hz5;clear hz5 HS5;have x13:=zaa b0.out 13 _ rfl;go_wp2_with fail;clear x13;refine(zae HN _ hw).mono ?_;rintro e w1 ⟨⟨g6,us6,i6,j6,rfl,t6,l6,q6⟩,hb⟩;have F6:=hide (zlx (F:=w.heap.size) MR.off (by omega) HM.out.net t6 l6 q6);obtain ⟨s6,hs6⟩: ∃s,s=w1.heap.size:=⟨_,rfl⟩;rw [←hs6] at F6;clear t6 l6 q6 us6;have hl6:W5.heap.size≤s6:=by rw [hs6];exact hb.size
  have HS6:=hide hs6;have hn6:g6<s6:=by rw [hs6];exact j6
  clear j6;clear hs6;replace b0:=hide (zab b0.out hb);replace b1:=hide (zab b1.out hb);replace hw:=bT hw hb;have x13:=zaa b0.out 13 _ rfl;have f13:=zad b0.out 13;go_upto_region 7 with fail
  have hc:Chg (fun b=>b<w.heap.size+2) W5 (w1.setCell ⟨w.heap.size,13,none⟩ (.slice (some ⟨g6,0,none⟩) v.net.length v.net.length)):=((Chg.of hb (fun b=>b<w.heap.size+2)).set (by show w.heap.size<w.heap.size+2;omega) _);have hc1:Chg (fun b=>b<w.heap.size+2) w1 (w1.setCell ⟨w.heap.size,13,none⟩ (.slice (some ⟨g6,0,none⟩) v.net.length v.net.length)):=((Chg.refl (fun b=>b<w.heap.size+2) w1).set (by show w.heap.size<w.heap.size+2;omega) _);have b0n:Hid ((w1.setCell ⟨w.heap.size,13,none⟩ (.slice (some ⟨g6,0,none⟩) v.net.length v.net.length)).heap[w.heap.size]?=some (.cells #[.slice (some ⟨g1,0,none⟩) m.nb m.nb,.slice (some ⟨g2,0,none⟩) m.ns m.ns,.slice k3.a k3.n k3.c,.int .i64 v.g.fu,.bool v.g.up,.int .i64 v.g.t.r.v,.slice k3.ak k3.nk k3.ck,.int .i64 v.g.t.r.t,.int .i64 v.g.t.ver,.slice k3.av k3.nv k3.cv,.slice k3.ad k3.nd k3.cd,.slice (some ⟨g4,0,none⟩) v.us.length v.us.length,.slice (some ⟨g5,0,none⟩) v.cs.length v.cs.length,.slice (some ⟨g6,0,none⟩) v.net.length v.net.length,.int .i64 v.now] 40 (0,0))):=zdu b0.out 13 _;have b1n:Hid ((w1.setCell ⟨w.heap.size,13,none⟩ (.slice (some ⟨g6,0,none⟩) v.net.length v.net.length)).heap[w.heap.size+1]?=some (.cells aZ 40 (0,0))):=by
    show _=_
    rw [Below.heap_setCell _ _ _ _ (by show w.heap.size+1≠w.heap.size;omega)];exact b1.out
  replace hw:Below w.heap.size w (w1.setCell ⟨w.heap.size,13,none⟩ (.slice (some ⟨g6,0,none⟩) v.net.length v.net.length)):=(hw.setCell (p:=⟨w.heap.size,13,none⟩) (Nat.le_refl _) _);replace F1:=hide (zeg F1.out hc (by omega));replace F2:=hide (ze7 F2.out hc (by omega));replace F3:=hide (zfk F3.out E3.out hc);replace F4:=hide (zcb UR.chg F4.out hc (by omega));replace F5:=hide (zcb CR.chg F5.out hc (by omega));replace F6:=hide (zcb MR.chg F6.out hc1 (by omega));have hz6:s6= (w1.setCell ⟨w.heap.size,13,none⟩ (.slice (some ⟨g6,0,none⟩) v.net.length v.net.length)).heap.size:=by rw [HS6.out];simp [World.setCell]
  clear x13 f13 b0 b1 hb hc hc1 HN;generalize (w1.setCell ⟨w.heap.size,13,none⟩ (.slice (some ⟨g6,0,none⟩) v.net.length v.net.length))=W6 at *;have b0:=b0n;have b1:=b1n;clear b0n b1n;have hy6:s6≤W6.heap.size:=Nat.le_of_eq hz6;clear hz6 HS6;obtain ⟨x0,x1,x2,x3,x4,x5,x6,x7,x8,x9,x10,x11,x12,x13,x14⟩:=cl15 b0.out;obtain ⟨y0,y1,y2,y3,y4,y5,y6,y7,y8,y9,y10,y11,y12,y13,y14⟩:=cl15 b1.out;obtain ⟨f0,f1,f2,f3,f4,f5,f6,f7,f8,f9,f10,f11,f12,f13,f14⟩:=fr15 b1.out;clear b0 b1;go_wp2_with fail;refine bodyPost_ret (v:=.agg #[.slice (some ⟨g1,0,none⟩) m.nb m.nb,.slice (some ⟨g2,0,none⟩) m.ns m.ns,.slice k3.a k3.n k3.c,.int .i64 v.g.fu,.bool v.g.up,.int .i64 v.g.t.r.v,.slice k3.ak k3.nk k3.ck,.int .i64 v.g.t.r.t,.int .i64 v.g.t.ver,.slice k3.av k3.nv k3.cv,.slice k3.ad k3.nd k3.cd,.slice (some ⟨g4,0,none⟩) v.us.length v.us.length,.slice (some ⟨g5,0,none⟩) v.cs.length v.cs.length,.slice (some ⟨g6,0,none⟩) v.net.length v.net.length,.int .i64 v.now]) (by simp [results,Tryz.results36,go_sem,y0,y1,y2,y3,y4,y5,y6,y7,y8,y9,y10,y11,y12,y13,y14]) rfl ?_;have hc:Chg (fun b=>b<w.heap.size+2) W6 (puts W6 (w.heap.size+1) 0 [.slice (some ⟨g1,0,none⟩) m.nb m.nb,.slice (some ⟨g2,0,none⟩) m.ns m.ns,.slice k3.a k3.n k3.c,.int .i64 v.g.fu,.bool v.g.up,.int .i64 v.g.t.r.v,.slice k3.ak k3.nk k3.ck,.int .i64 v.g.t.r.t,.int .i64 v.g.t.ver,.slice k3.av k3.nv k3.cv,.slice k3.ad k3.nd k3.cd,.slice (some ⟨g4,0,none⟩) v.us.length v.us.length,.slice (some ⟨g5,0,none⟩) v.cs.length v.cs.length,.slice (some ⟨g6,0,none⟩) v.net.length v.net.length,.int .i64 v.now]):=(zbn _ _ _ _).mono fun b e=>by show b<w.heap.size+2;omega
  have hbel:Below w.heap.size w (puts W6 (w.heap.size+1) 0 [.slice (some ⟨g1,0,none⟩) m.nb m.nb,.slice (some ⟨g2,0,none⟩) m.ns m.ns,.slice k3.a k3.n k3.c,.int .i64 v.g.fu,.bool v.g.up,.int .i64 v.g.t.r.v,.slice k3.ak k3.nk k3.ck,.int .i64 v.g.t.r.t,.int .i64 v.g.t.ver,.slice k3.av k3.nv k3.cv,.slice k3.ad k3.nd k3.cd,.slice (some ⟨g4,0,none⟩) v.us.length v.us.length,.slice (some ⟨g5,0,none⟩) v.cs.length v.cs.length,.slice (some ⟨g6,0,none⟩) v.net.length v.net.length,.int .i64 v.now]):=hw.trans ((zbn _ _ _ _).below (fun b e=>by omega) hw.size);replace F1:=hide (zeg F1.out hc (by omega));replace F2:=hide (ze7 F2.out hc (by omega));replace F3:=hide (zfk F3.out E3.out hc);replace F4:=hide (zcb UR.chg F4.out hc (by omega));replace F5:=hide (zcb CR.chg F5.out hc (by omega));replace F6:=hide (zcb MR.chg F6.out hc (by omega));clear x0 y0 f0 x1 y1 f1 x2 y2 f2 x3 y3 f3 x4 y4 f4 x5 y5 f5 x6 y6 f6 x7 y7 f7 x8 y8 f8 x9 y9 f9 x10 y10 f10 x11 y11 f11 x12 y12 f12 x13 y13 f13 x14 y14 f14;have hfin:TwAns w v (.returned (vhv v ⟨some ⟨g1,0,none⟩,m.nb,m.nb,some ⟨g2,0,none⟩,m.ns,m.ns,k3,some ⟨g4,0,none⟩,v.us.length,v.us.length,some ⟨g5,0,none⟩,v.cs.length,v.cs.length,some ⟨g6,0,none⟩,v.net.length,v.net.length⟩)) (puts W6 (w.heap.size+1) 0 [.slice (some ⟨g1,0,none⟩) m.nb m.nb,.slice (some ⟨g2,0,none⟩) m.ns m.ns,.slice k3.a k3.n k3.c,.int .i64 v.g.fu,.bool v.g.up,.int .i64 v.g.t.r.v,.slice k3.ak k3.nk k3.ck,.int .i64 v.g.t.r.t,.int .i64 v.g.t.ver,.slice k3.av k3.nv k3.cv,.slice k3.ad k3.nd k3.cd,.slice (some ⟨g4,0,none⟩) v.us.length v.us.length,.slice (some ⟨g5,0,none⟩) v.cs.length v.cs.length,.slice (some ⟨g6,0,none⟩) v.net.length v.net.length,.int .i64 v.now]):=by
    generalize (puts W6 (w.heap.size+1) 0 [.slice (some ⟨g1,0,none⟩) m.nb m.nb,.slice (some ⟨g2,0,none⟩) m.ns m.ns,.slice k3.a k3.n k3.c,.int .i64 v.g.fu,.bool v.g.up,.int .i64 v.g.t.r.v,.slice k3.ak k3.nk k3.ck,.int .i64 v.g.t.r.t,.int .i64 v.g.t.ver,.slice k3.av k3.nv k3.cv,.slice k3.ad k3.nd k3.cd,.slice (some ⟨g4,0,none⟩) v.us.length v.us.length,.slice (some ⟨g5,0,none⟩) v.cs.length v.cs.length,.slice (some ⟨g6,0,none⟩) v.net.length v.net.length,.int .i64 v.now])=W7 at *;refine⟨⟨⟨some ⟨g1,0,none⟩,m.nb,m.nb,some ⟨g2,0,none⟩,m.ns,m.ns,k3,some ⟨g4,0,none⟩,v.us.length,v.us.length,some ⟨g5,0,none⟩,v.cs.length,v.cs.length,some ⟨g6,0,none⟩,v.net.length,v.net.length⟩,g4,g5,g6,rfl,⟨F1.out,F2.out,F3.out, ?_, ?_, ?_, ?_, ?_, ?_,by omega,by omega,by omega,rfl,rfl,rfl⟩⟩,hbel⟩
    { exact .at_ (by unfold KT;omega) }
    { exact .at_ (by unfold KT;omega) }
    { exact O3.out.wide F3.out (fun b e=>.inl (by unfold KT at e;omega)) }
    { exact F4.out.wide UR.off (fun b e=>.inl (by unfold KT at e;omega)) }
    { exact F5.out.wide CR.off (fun b e=>.inl (by unfold KT at e;omega)) }
    { exact F6.out.wide MR.off (fun b e=>.inl (by unfold KT at e;omega)) }
  exact hfin
end
end Go.Proofs.YthmekfcgdfckaaaGreatDoor
