/- The contract of unit.hearAbort. The contract of unit.hear. What package unit leaves is as long as what it is given, or nothing. No program in this text. The contracts of unit.checkHeard, Hear. -/
import Derived.Test.YthmekfcgdfckaaaGreatDoorWn13
import Derived.Test.YthmekfcgdfckaaaGreatDoorWn21
import Derived.Test.YthmekfcgdfckaaaGreatDoorWn15
import Derived.Test.YthmekfcgdfckaaaGreatDoorWn11
set_option maxRecDepth 1000000
set_option maxHeartbeats 0
namespace Go.Proofs.YthmekfcgdfckaaaGreatDoor
variable {ss:List ByteArray} {u:Un} {m:Ms} {xs:List Int} {w:World} {a x:Option Addr} {b:Nat} {cs:Array Value}
section
open Go.RowKit
attribute [local go_sem ↓] Go.wp_at_zero Go.wp_at_succ
theorem zm4 (B:Nat) (u:Un) (s:Us) (m:Ms) (a:Option Addr) (n c:Nat) (w:World) (hU:OwnU w B u):
    Calls Tryz.prog 300 #[.pointer (some ⟨B,0,none⟩),usv s,msv m a n c] w (HAns w B (aboS u s m)):=by
  have hb:=hide (hW_hb w s m a n c);have hw0:=zi5 w s m a n c;have hB:=hU.lt;have hU0:=hide (hU.below hw0);clear hU;unfold usv msv;have q:=hb.out.hs;unfold HS at q;obtain ⟨x0,x1,x2,y2,y3,y4,y5⟩:=q;unfold hW at x0 x1 x2 y2 y3 y4 y5
  by_cases z1:m.n≤s.by'
  {
  have HE:=hide (aboS_1 (u:=u) z1);clear y3 y4 y5;unfold hW at hw0 hU0;go_enter Tryz.func300,Tryz.ntmps300;go_wp2_with fail;go_ret;exact zde HE.out hU0.out (zaj hw0 B)
  }
  have d1:decide (m.n≤s.by')=false:=by simpa using z1
  have Z1:=hide z1
  by_cases z2:s.rdy=m.n
  rotate_left
  {
  have HEa:=hide (fun h=>(aboS_2 (u:=u) z1 z2).trans (aboB_1 h));have HEb:=hide (fun h=>(aboS_2 (u:=u) z1 z2).trans (aboB_2 h));have d2: (s.rdy==m.n)=false:=by simpa using z2
  have HG:=hide (zaj hw0 B);clear z1 z2;go_enter Tryz.func300,Tryz.ntmps300;go_upto_region 5 with fail
  clear x0 x1 x2 y2 y3 y4 y5;rw [show(w.alloc (.cells #[.int .i64 s.slot,.int .i64 s.by',.int .i64 s.rdy] 84)).alloc (.cells (aM m a n c) 99)=hW w s m a n c from rfl];generalize hW w s m a n c=W at *;obtain ⟨ua,un,uc,ub,ui,ul,ucap,umax,uoff⟩:=hU0.out;have UB:=hide ub;have UI:=hide ui;have UL:=hide ul;unfold unO at ub;have u3:=zaa ub 3 _ rfl;have u4:=zaa ub 4 _ rfl;have fu3:=zad ub 3;have fu4:=zad ub 4;have y2:=zaa hb.out.b1 2 _ rfl;clear ub ui ul
  by_cases z5:u.n=m.n
  {
  have HE:=hide (HEa.out z5);have d5: (u.n==m.n)=true:=by simpa using z5
  clear z5;go_wp2_with fail;go_quiet (fail);obtain ⟨wz,hwz⟩: ∃wz:World,wz=W.drewN nq:=⟨_,rfl⟩;have hbz:Below W.heap.size W wz:=by rw [hwz];exact below_drewN (Below.refl _ _) nq
  rw [←hwz];clear hwz u3 u4 fu3 fu4 y2;have UBz:=hide (zab UB.out hbz);have HBz:=hide (hb.out.below hbz);have ubz:=UBz.out;unfold unO at ubz;have u3:=zaa ubz 3 _ rfl;have u4:=zaa ubz 4 _ rfl;have fu3:=zad ubz 3;have fu4:=zad ubz 4;clear ubz;have hgS:wz.grownBy ((wz.setCell ⟨B,3,none⟩ (.int .i64 0)).setCell ⟨B,4,none⟩ (.int .i64 0)) (some B):=zac (zaw _ _ _ _) _ _;have HBs:=hide (HBz.out.turns hgS hB);have hUs:Hid (OwnU ((wz.setCell ⟨B,3,none⟩ (.int .i64 0)).setCell ⟨B,4,none⟩ (.int .i64 0)) B (mind u 0 0)):=⟨ua,un,uc,zig UBz.out,zax (UI.out.below hbz) hgS uoff,UL.out,ucap,umax,uoff⟩;have v0:=zaa HBs.out.b1 0 _ rfl;have v1:=zaa HBs.out.b1 1 _ rfl;have v2:=zaa HBs.out.b1 2 _ rfl;have v3:=zaa HBs.out.b1 3 _ rfl;have v4:=zaa HBs.out.b1 4 _ rfl;have v5:=zaa HBs.out.b1 5 _ rfl;have v6:=zaa HBs.out.b1 6 _ rfl;go_wp2_with fail;have HDn:=hide (zdy m a n c ((wz.setCell ⟨B,3,none⟩ (.int .i64 0)).setCell ⟨B,4,none⟩ (.int .i64 0)));unfold msv at HDn;refine(zae HDn).mono ?_;rintro e w6 ⟨⟨b,rfl,hm,_⟩,hb6⟩;go_wp2_with fail;go_ret;rw [HE.out];exact⟨⟨_,1,1,rfl,hm,rfl,Nat.le_refl _,Nat.le_refl _⟩,hUs.out.below hb6,((HG.out.trans (zaj hbz B)).trans hgS).trans (zaj hb6 B)⟩
  }
  {
  have HE:=hide (HEb.out z5);have d5: (u.n==m.n)=false:=by simpa using z5
  clear z5;go_wp2_with fail;go_quiet (fail);obtain ⟨wz,hwz⟩: ∃wz:World,wz=W.drewN nq:=⟨_,rfl⟩;have hbz:Below W.heap.size W wz:=by rw [hwz];exact below_drewN (Below.refl _ _) nq
  rw [←hwz];clear hwz u3 u4 fu3 fu4 y2;have HBz:=hide (hb.out.below hbz);have v0:=zaa HBz.out.b1 0 _ rfl;have v1:=zaa HBz.out.b1 1 _ rfl;have v2:=zaa HBz.out.b1 2 _ rfl;have v3:=zaa HBz.out.b1 3 _ rfl;have v4:=zaa HBz.out.b1 4 _ rfl;have v5:=zaa HBz.out.b1 5 _ rfl;have v6:=zaa HBz.out.b1 6 _ rfl;go_wp2_with fail;have HDn:=hide (zdy m a n c wz);unfold msv at HDn;refine(zae HDn).mono ?_;rintro e w6 ⟨⟨b,rfl,hm,_⟩,hb6⟩;go_wp2_with fail;go_ret;rw [HE.out];exact⟨⟨_,1,1,rfl,hm,rfl,Nat.le_refl _,Nat.le_refl _⟩,(hU0.out.below hbz).below hb6,(HG.out.trans (zaj hbz B)).trans (zaj hb6 B)⟩
  }
  }
  have d2: (s.rdy==m.n)=true:=by simpa using z2
  have HE3:=hide (aboS_3 (u:=u) z1 z2);have HE4:=hide (aboS_4 (u:=u) z1 z2);clear z1 z2;have hkB:=zaf (Below.refl (hW w s m a n c).heap.size (hW w s m a n c)) (.cells #[.int .i64 3,.int .i64 m.n] 3);have hUB:=hide (hU0.out.below hkB);have hszB:B< (hW w s m a n c).heap.size:=hU0.out.lt;have HNt:=hide (ze0 s (some ⟨(hW w s m a n c).heap.size,0,none⟩) 2 2 [3,m.n] B ((hW w s m a n c).alloc (.cells #[.int .i64 3,.int .i64 m.n] 3)) (by simp;omega) (zne _ 3 m.n 3) (fun ad e=>by cases e;show(hW w s m a n c).heap.size≠B;omega));have hszE: (hW w s m a n c).heap.size=w.heap.size+1+1:=by unfold hW;simp
  rw [hszE] at HNt;unfold usv at HNt;clear hszE;go_enter Tryz.func300,Tryz.ntmps300;go_wp2_with fail;clear x0 x1 x2 y2 y3 y4 y5;unfold hW at HNt;refine(zae HNt).mono ?_;rintro e w3 ⟨⟨fn3,caps3,rfl,hv3⟩,hb3⟩;have hk3:=hkB.trans (Below.mono hb3 (by unfold hW;simp));have HCh:=hide (zb5 B _ u (.func (.func fn3) #[] caps3) 258 w3 (hU0.out.below hk3) hv3);have hbx:=hide (hb.out.below hk3);have HG3:=hide ((zaj hw0 B).trans (zaj hk3 B));clear hk3 hkB hUB hb3 HNt hv3 hszB;go_wp2_with fail;refine(zae HCh).mono ?_;rintro e w5 ⟨rfl,hU5,hg5⟩;have HU5:=hide hU5;have HG5:=hide (HG3.out.trans hg5);have HB5:=hide (hbx.out.turns hg5 hB);clear hU5 hg5 HCh HG3 hbx hU0 hb hw0;generalize doV u (.not s [3,m.n])=R at *;cases g:R.2
  {
  have HE:=hide (HE4.out g);go_wp2_with fail;go_ret;exact zde HE.out HU5.out HG5.out
  }
  {
  have HEa:=hide (fun h=>(HE3.out g).trans (aboB_1 h));have HEb:=hide (fun h=>(HE3.out g).trans (aboB_2 h));clear HE3 HE4;go_upto_region 5 with fail
  obtain ⟨R1,R2⟩:=R;simp only at HU5 HEa HEb;obtain ⟨ua,un,uc,ub,ui,ul,ucap,umax,uoff⟩:=HU5.out;have UB:=hide ub;have UI:=hide ui;have UL:=hide ul;unfold unO at ub;have u3:=zaa ub 3 _ rfl;have u4:=zaa ub 4 _ rfl;have fu3:=zad ub 3;have fu4:=zad ub 4;have y2:=zaa HB5.out.b1 2 _ rfl;clear ub ui ul
  by_cases z5:R1.n=m.n
  {
  have HE:=hide (HEa.out z5);have d5: (R1.n==m.n)=true:=by simpa using z5
  clear z5;go_wp2_with fail;go_quiet (fail);obtain ⟨wz,hwz⟩: ∃wz:World,wz=w5.drewN nq:=⟨_,rfl⟩;have hbz:Below w5.heap.size w5 wz:=by rw [hwz];exact below_drewN (Below.refl _ _) nq
  rw [←hwz];clear hwz u3 u4 fu3 fu4 y2;have UBz:=hide (zab UB.out hbz);have HBz:=hide (HB5.out.below hbz);have ubz:=UBz.out;unfold unO at ubz;have u3:=zaa ubz 3 _ rfl;have u4:=zaa ubz 4 _ rfl;have fu3:=zad ubz 3;have fu4:=zad ubz 4;clear ubz;have hgS:wz.grownBy ((wz.setCell ⟨B,3,none⟩ (.int .i64 0)).setCell ⟨B,4,none⟩ (.int .i64 0)) (some B):=zac (zaw _ _ _ _) _ _;have HBs:=hide (HBz.out.turns hgS hB);have hUs:Hid (OwnU ((wz.setCell ⟨B,3,none⟩ (.int .i64 0)).setCell ⟨B,4,none⟩ (.int .i64 0)) B (mind R1 0 0)):=⟨ua,un,uc,zig UBz.out,zax (UI.out.below hbz) hgS uoff,UL.out,ucap,umax,uoff⟩;have v0:=zaa HBs.out.b1 0 _ rfl;have v1:=zaa HBs.out.b1 1 _ rfl;have v2:=zaa HBs.out.b1 2 _ rfl;have v3:=zaa HBs.out.b1 3 _ rfl;have v4:=zaa HBs.out.b1 4 _ rfl;have v5:=zaa HBs.out.b1 5 _ rfl;have v6:=zaa HBs.out.b1 6 _ rfl;go_wp2_with fail;have HDn:=hide (zdy m a n c ((wz.setCell ⟨B,3,none⟩ (.int .i64 0)).setCell ⟨B,4,none⟩ (.int .i64 0)));unfold msv at HDn;refine(zae HDn).mono ?_;rintro e w6 ⟨⟨b,rfl,hm,_⟩,hb6⟩;go_wp2_with fail;go_ret;rw [HE.out];exact⟨⟨_,1,1,rfl,hm,rfl,Nat.le_refl _,Nat.le_refl _⟩,hUs.out.below hb6,((HG5.out.trans (zaj hbz B)).trans hgS).trans (zaj hb6 B)⟩
  }
  {
  have HE:=hide (HEb.out z5);have d5: (R1.n==m.n)=false:=by simpa using z5
  clear z5;go_wp2_with fail;go_quiet (fail);obtain ⟨wz,hwz⟩: ∃wz:World,wz=w5.drewN nq:=⟨_,rfl⟩;have hbz:Below w5.heap.size w5 wz:=by rw [hwz];exact below_drewN (Below.refl _ _) nq
  rw [←hwz];clear hwz u3 u4 fu3 fu4 y2;have HBz:=hide (HB5.out.below hbz);have v0:=zaa HBz.out.b1 0 _ rfl;have v1:=zaa HBz.out.b1 1 _ rfl;have v2:=zaa HBz.out.b1 2 _ rfl;have v3:=zaa HBz.out.b1 3 _ rfl;have v4:=zaa HBz.out.b1 4 _ rfl;have v5:=zaa HBz.out.b1 5 _ rfl;have v6:=zaa HBz.out.b1 6 _ rfl;go_wp2_with fail;have HDn:=hide (zdy m a n c wz);unfold msv at HDn;refine(zae HDn).mono ?_;rintro e w6 ⟨⟨b,rfl,hm,_⟩,hb6⟩;go_wp2_with fail;go_ret;rw [HE.out];exact⟨⟨_,1,1,rfl,hm,rfl,Nat.le_refl _,Nat.le_refl _⟩,(HU5.out.below hbz).below hb6,(HG5.out.trans (zaj hbz B)).trans (zaj hb6 B)⟩
  }
  }
end
section
open Go.RowKit
attribute [local go_sem ↓] Go.wp_at_zero Go.wp_at_succ
theorem zu6 (k:Nat): ∀(l:List Int),okL l=true→∀r∈(zb6 k l).1,okL r=true:=by
  induction k with
  |zero=>intro l _ r hr;simp [zb6] at hr
  |succ k ih=>
    intro l hl r hr;rw [zci] at hr
    split at hr
    { simp at hr }
    {
    simp only [List.mem_cons] at hr
    rcases hr with rfl|hr
    { exact zi6 _ (zfq _ hl) }
    { exact ih _ (zfq _ hl) r hr }
    }
theorem zpd {s:Us} {r:List Int} (h:okL r=true) (h0:0≤s.slot∧s.slot≤1):0≤(zcf s r).slot∧(zcf s r).slot≤1:=by
  by_cases c:isR r 1 3=true∧r.getD 1 0≤1
  {
  rw [zn1 c.1 c.2];have hl:=zlq c.1;have:=zk3 h 1 (by omega);unfold okW at this;simp only [decide_eq_true_eq] at this;exact⟨by show 0≤r.getD 1 0;omega,c.2⟩
  }
  {
  by_cases c2:isR r 2 2=true
  { rw [zng c c2];exact h0 }
  {
  by_cases c3:isR r 3 2=true
  { rw [zom c c2 c3];exact h0 }
  { rw [znn c c2 c3];exact h0 }
  }
  }
theorem stR_slot (rs:List (List Int)): ∀(s:Us),(∀r∈rs,okL r=true)→0≤s.slot∧s.slot≤1→0≤(rs.foldl zcf s).slot∧(rs.foldl zcf s).slot≤1:=by
  induction rs with
  |nil=>intro s _ h;exact h
  |cons r rs ih=>intro s h h0;exact ih _ (fun x hx=>h x (List.mem_cons_of_mem _ hx)) (zpd (h r (List.mem_cons_self ..)) h0)
theorem zr1 {ws:List Int} {f:Int} (h:lchk ws f=0):0≤(stOf ws).slot∧(stOf ws).slot≤1:=by
  refine stR_slot _ _ (zu6 _ _ ?_) ⟨by decide,by decide⟩;exact zi6 _ (zfq _ (zdm h).2.2.2.1)
theorem hearK_1 (h:m.k=1):hearK ss u m= (zda u (stOf u.ws) m, []):=by unfold hearK;rw [if_pos h]
theorem hearK_2 (h:m.k=2):hearK ss u m=prepS ss u (stOf u.ws) m:=by unfold hearK;rw [if_neg (by omega),if_pos h]
theorem zut (h:m.k=4):hearK ss u m=comS u (stOf u.ws) m:=by unfold hearK;rw [if_neg (by omega),if_neg (by omega),if_pos h]
theorem zuo (h:m.k=5):hearK ss u m=aboS u (stOf u.ws) m:=by unfold hearK;rw [if_neg (by omega),if_neg (by omega),if_neg (by omega),if_pos h]
theorem hearK_0 (h1:m.k≠1) (h2:m.k≠2) (h4:m.k≠4) (h5:m.k≠5):hearK ss u m= (u, []):=by unfold hearK;rw [if_neg h1,if_neg h2,if_neg h4,if_neg h5]
def qW (w:World) (ab:Option Addr) (nb cb:Nat) (m:Ms) (a:Option Addr) (n c:Nat):World:=
  (w.alloc (.cells #[.slice ab nb cb] 24)).alloc (.cells (aM m a n c) 99)
theorem hear_any (ab:Option Addr) (nb cb:Nat) (ss:List ByteArray) (B:Nat) (u:Un) (m:Ms) (a:Option Addr) (n c:Nat) (w:World) (hTB: ∀w' :World,w.grownBy w' (some B)→BB w' ab nb cb ss∧Tab w') (hU:OwnU w B u) (hl:lchk u.ws u.fu=0) (hbi:BI w a n m.ws) (ho:m.ws= []∨Off B a) (hat0:0≤m.at') (hat1:m.at' ≤40) (hn8:n≤8):
    Calls Tryz.prog 279 #[bookv ab nb cb,.pointer (some ⟨B,0,none⟩),msv m a n c] w (HAns w B (hearK ss u m)):=by
  have hw0:Below w.heap.size w (qW w ab nb cb m a n c):=bA2;have hB:=hU.lt;have b0:Hid ((qW w ab nb cb m a n c).heap[w.heap.size]?=some (.cells #[.slice ab nb cb] 24 (0,0))):=zai (heap_alloc_last _ _) _;have b1:Hid ((qW w ab nb cb m a n c).heap[w.heap.size+1]?=some (.cells (aM m a n c) 99 (0,0))):=zau _ _ _;have hU0:=hide (hU.below hw0);have HSl:=hide (zr1 hl);have HTB:=hide hTB;have HBI:=hide hbi;have HO:=hide ho;have HAT:=hide (And.intro hat0 hat1);obtain ⟨ua,un,uc,ub,ui,ul,ucap,umax,uoff⟩:=hU0.out;have HSt:=hide (zgc ua un uc u.ws u.fu (qW w ab nb cb m a n c) ⟨ui,ul,ucap,umax⟩ hl);have UB:=hide ub;have HK1:=hide (fun h=>hearK_1 (ss:=ss) (u:=u) (m:=m) h);have HK2:=hide (fun h=>hearK_2 (ss:=ss) (u:=u) (m:=m) h);have HK4:=hide (fun h=>zut (ss:=ss) (u:=u) (m:=m) h);have HK5:=hide (fun h=>zuo (ss:=ss) (u:=u) (m:=m) h);have HK0:=hide (fun h1 h2 h4 h5=>hearK_0 (ss:=ss) (u:=u) (m:=m) h1 h2 h4 h5);clear hU hTB hl hbi ho hat0 hat1 ub ui ul;unfold msv bookv;unfold qW at hw0 b0 b1 hU0 HSt UB;have v0:=zaa UB.out 0 _ rfl;have v1:=zaa UB.out 1 _ rfl;go_enter Tryz.func279,Tryz.ntmps279;go_wp2_with fail;clear v0 v1;generalize (w.alloc (.cells #[.slice ab nb cb] 24)).alloc (.cells (aM m a n c) 99)=W at *;refine(zae HSt).mono ?_;rintro e w1 ⟨rfl,hb1⟩;unfold usv;go_upto_region 2 with fail
  generalize stOf u.ws=s at *;have S0:=hide (heap_alloc_last w1 (.cells #[.int .i64 s.slot,.int .i64 s.by',.int .i64 s.rdy] 84));have hb2:=hb1.alloc hb1.size (.cells #[.int .i64 s.slot,.int .i64 s.by',.int .i64 s.rdy] 84);have B0:=hide (zab b0.out hb2);have B1:=hide (zab b1.out hb2);have hU2:=hide (hU0.out.below hb2);have hk:=bT hw0 hb2;have HG:=hide (zaj hk B);have HBI2:=hide (HBI.out.below hk);clear hb1 b0 b1 hU0 UB hw0 HBI hb2 HSt;generalize w1.heap.size=S at *;generalize w1.alloc (.cells #[.int .i64 s.slot,.int .i64 s.by',.int .i64 s.rdy] 84)=W2 at *;have k0:=zaa B0.out 0 _ rfl;obtain ⟨y0,y1,y2,y3,y4,y5,y6⟩:=cl7 B1.out;have x0:=zaa S0.out 0 _ rfl;have x1:=zaa S0.out 1 _ rfl;have x2:=zaa S0.out 2 _ rfl
  by_cases z1:m.k=1
  {
  have HE:=hide (HK1.out z1);have d1: (m.k==1)=true:=by simpa using z1
  have HP:=hide (zmq B u s m a n c W2 hU2.out HSl.out.1 HSl.out.2 HBI2.out HO.out HAT.out.1 HAT.out.2 hn8);unfold usv msv at HP;clear z1;go_wp2_with fail;refine(zae HP).mono ?_;rintro e w3 ⟨rfl,hu3,hg3⟩;go_wp2_with fail;go_ret;exact zde HE.out hu3 (HG.out.trans hg3)
  }
  have d1: (m.k==1)=false:=by simpa using z1
  by_cases z2:m.k=2
  {
  have HE:=hide (HK2.out z2);have d2: (m.k==2)=true:=by simpa using z2
  have HP:=hide (zkl ab nb cb ss B u s m a n c W2 (fun w' h=>HTB.out w' (HG.out.trans h)) hU2.out HSl.out.1 HSl.out.2);unfold usv msv bookv at HP;clear z1 z2;go_wp2_with fail;refine(zae HP).mono ?_;rintro e w3 ⟨⟨a3,n3,c3,rfl,hm3,hn3,hc3,hx3⟩,hu3,hg3⟩;go_wp2_with fail;go_ret;rw [HE.out];exact⟨⟨a3,n3,c3,rfl,hm3,hn3,hc3,hx3⟩,hu3,HG.out.trans hg3⟩
  }
  have d2: (m.k==2)=false:=by simpa using z2
  by_cases z4:m.k=4
  {
  have HE:=hide (HK4.out z4);have d4: (m.k==4)=true:=by simpa using z4
  have HP:=hide (zlk B u s m a n c W2 hU2.out HSl.out.1 HSl.out.2);unfold usv msv at HP;clear z1 z2 z4;go_wp2_with fail;refine(zae HP).mono ?_;rintro e w3 ⟨⟨a3,n3,c3,rfl,hm3,hn3,hc3,hx3⟩,hu3,hg3⟩;go_wp2_with fail;go_ret;rw [HE.out];exact⟨⟨a3,n3,c3,rfl,hm3,hn3,hc3,hx3⟩,hu3,HG.out.trans hg3⟩
  }
  have d4: (m.k==4)=false:=by simpa using z4
  by_cases z5:m.k=5
  {
  have HE:=hide (HK5.out z5);have d5: (m.k==5)=true:=by simpa using z5
  have HP:=hide (zm4 B u s m a n c W2 hU2.out);unfold usv msv at HP;clear z1 z2 z4 z5;go_wp2_with fail;refine(zae HP).mono ?_;rintro e w3 ⟨⟨a3,n3,c3,rfl,hm3,hn3,hc3,hx3⟩,hu3,hg3⟩;go_wp2_with fail;go_ret;rw [HE.out];exact⟨⟨a3,n3,c3,rfl,hm3,hn3,hc3,hx3⟩,hu3,HG.out.trans hg3⟩
  }
  have d5: (m.k==5)=false:=by simpa using z5
  have HE:=hide (HK0.out z1 z2 z4 z5);clear z1 z2 z4 z5;go_wp2_with fail;go_ret;exact zde HE.out hU2.out HG.out
end
section
open Go.RowKit
def Lk (xs ys:List Int):Prop:=ys.length=xs.length∨ys= []
theorem Lk.refl (xs:List Int):Lk xs xs:=.inl rfl
theorem Lk.nil (xs:List Int):Lk xs []:=.inr rfl
theorem Lk.trans {ys zs:List Int} (h:Lk xs ys) (h2:Lk ys zs):Lk xs zs:=by
  rcases h2 with h2|h2
  {
  rcases h with h|h
  { exact .inl (h2.trans h) }
  { subst h;exact .inr (List.eq_nil_of_length_eq_zero h2) }
  }
  { exact .inr h2 }
theorem zje (ws:List Int) (fuel p:Int) (words:List Int):Lk ws (progS ws fuel p words).1:=by
  unfold progS
  split
  { exact Lk.nil _ }
  {
  split
  { exact Lk.nil _ }
  {
  split
  { exact Lk.nil _ }
  { exact .inl (zbw ..) }
  }
  }
theorem eraS_lk (ws:List Int) (fuel s:Int):Lk ws (eraS ws fuel s).1:=by
  unfold eraS
  split
  { exact Lk.nil _ }
  {
  split
  { exact Lk.nil _ }
  { exact .inl (zbw ..) }
  }
theorem doS_lk (st:Stp) (ws:List Int) (f:Int):Lk ws (doS st ws f).1:=by
  cases st with
  |inl s=>exact eraS_lk _ _ _
  |inr q=>obtain ⟨p,words⟩:=q;exact zje _ _ _ _
theorem zn6 (sts:List Stp): ∀(ws:List Int) (f:Int),Lk ws (turnS sts ws f).1:=by
  induction sts with
  |nil=>intro ws f;exact Lk.refl _
  |cons st r ih=>
    intro ws f
    by_cases h: (doS st ws f).2.2=0
    { rw [zjb h];exact(doS_lk _ _ _).trans (ih _ _) }
    { rw [zgx h];exact doS_lk _ _ _ }
theorem clrAt_lk (ws:List Int) (f s:Int) (k:Nat):Lk ws (clrAt ws f s k).1:=by
  induction k with
  |zero=>exact Lk.refl _
  |succ k ih=>
    show Lk ws (if _ then _ else _:List Int×Int×Int).1
    split
    { exact ih }
    { exact ih.trans (eraS_lk _ _ _) }
theorem doT_lk (st:Stu) (ws:List Int) (f:Int):Lk ws (doT st ws f).1:=by
  rcases st with (_|s)| (⟨s,p,words⟩| (⟨s,l,nm⟩| ⟨s,r⟩))
  {
  show Lk _ (fmtS ws f).1
  unfold fmtS
  split
  { exact Lk.nil _ }
  { exact zn6 _ _ _ }
  }
  {
  show Lk _ (clrS ws f s).1
  unfold clrS
  split
  { exact Lk.nil _ }
  { exact clrAt_lk _ _ _ _ }
  }
  {
  show Lk _ (fillS ws f s p words).1
  unfold fillS
  split
  { exact Lk.nil _ }
  {
  split
  { exact Lk.nil _ }
  { exact zje _ _ _ _ }
  }
  }
  {
  show Lk _ (sealS ws f s l nm).1
  unfold sealS
  split
  { exact Lk.nil _ }
  {
  split
  { exact Lk.nil _ }
  { exact zje _ _ _ _ }
  }
  }
  {
  show Lk _ (appS ws f r (keepU s)).1
  unfold appS
  split
  { exact Lk.nil _ }
  { exact zn6 _ _ _ }
  }
theorem zco (u:Un) (st:Stu):Lk u.ws (doV u st).1.ws:=by
  unfold doV doU
  split
  { exact doT_lk _ _ _ }
  {
  split
  { exact doT_lk _ _ _ }
  { exact Lk.refl _ }
  }
theorem zmj (u:Un) (s:Us) (m:Ms):Lk u.ws (zb8 u s m).1.ws:=by
  unfold zb8
  split
  {
  split
  { exact zco _ _ }
  { exact zco _ _ }
  }
  { exact Lk.refl _ }
theorem pieceB_lk (u:Un) (s:Us) (m:Ms):Lk u.ws (zcj u s m).ws:=by
  unfold zcj
  split
  {
  split
  { exact zco _ _ }
  { exact zco _ _ }
  }
  { exact Lk.refl _ }
theorem pieceS_lk (u:Un) (s:Us) (m:Ms):Lk u.ws (zda u s m).ws:=by
  unfold zda
  split
  { exact Lk.refl _ }
  {
  split
  { exact(zmj u s m).trans (pieceB_lk _ _ _) }
  { exact zmj u s m }
  }
theorem prepC_lk (u:Un) (s:Us) (m:Ms):Lk u.ws (prepC u s m).1.ws:=by
  unfold prepC
  split<;>exact zco _ _
theorem prepB_lk (u:Un) (s:Us) (m:Ms) (words:List Int):Lk u.ws (prepB u s m words).1.ws:=by
  unfold prepB
  split
  {
  split
  { exact(zco u (.sea (oth s) m.at' m.im)).trans (prepC_lk (mind (doV u (.sea (oth s) m.at' m.im)).1 0 0) _ _) }
  { exact zco u (.sea (oth s) m.at' m.im) }
  }
  { exact zco _ _ }
theorem prepS_lk (ss:List ByteArray) (u:Un) (s:Us) (m:Ms):Lk u.ws (prepS ss u s m).1.ws:=by
  unfold prepS
  split
  { exact Lk.refl _ }
  {
  split
  { exact Lk.refl _ }
  {
  split
  { exact prepB_lk _ _ _ _ }
  { exact Lk.refl _ }
  }
  }
theorem comS_lk (u:Un) (s:Us) (m:Ms):Lk u.ws (comS u s m).1.ws:=by
  unfold comS
  split
  { exact Lk.refl _ }
  {
  split
  { exact Lk.refl _ }
  { split<;>exact zco _ _ }
  }
theorem aboB_lk (u:Un) (m:Ms):Lk u.ws (aboB u m).1.ws:=by
  unfold aboB
  show Lk u.ws (if _ then _ else _:Un).ws
  split<;>exact Lk.refl _
theorem aboS_lk (u:Un) (s:Us) (m:Ms):Lk u.ws (aboS u s m).1.ws:=by
  unfold aboS
  split
  { exact Lk.refl _ }
  {
  split
  {
  split
  { exact(zco u (.not s [3,m.n])).trans (aboB_lk _ _) }
  { exact zco _ _ }
  }
  { exact aboB_lk _ _ }
  }
theorem zod (ss:List ByteArray) (u:Un) (m:Ms):Lk u.ws (hearK ss u m).1.ws:=by
  unfold hearK
  split
  { exact pieceS_lk _ _ _ }
  {
  split
  { exact prepS_lk _ _ _ _ }
  {
  split
  { exact comS_lk _ _ _ }
  {
  split
  { exact aboS_lk _ _ _ }
  {
  exact Lk.refl _
  }
  }
  }
  }
end
section
open Go.RowKit
attribute [local go_sem ↓] Go.wp_at_zero Go.wp_at_succ
theorem heE_1 (h:bookE ss≠0):heE ss u m=bookE ss:=by unfold heE;rw [if_pos h]
theorem heE_2 (h:bookE ss=0) (h2:unE u≠0):heE ss u m=unE u:=by unfold heE;rw [if_neg (by simpa using h),if_pos h2]
theorem heE_3 (h:bookE ss=0) (h2:unE u=0):heE ss u m=msE m:=by unfold heE;rw [if_neg (by simpa using h),if_neg (by simpa using h2)]
theorem heE_ok (h:heE ss u m=0):bookE ss=0∧unE u=0∧msE m=0:=by
  by_cases h1:bookE ss=0
  {
  by_cases h2:unE u=0
  { exact⟨h1,h2,by rw [←heE_3 h1 h2];exact h⟩ }
  { rw [heE_2 h1 h2] at h;exact absurd h h2 }
  }
  { rw [heE_1 h1] at h;exact absurd h h1 }
theorem msE_0 (h:msE m=0): (1≤m.k∧m.k≤7)∧(0≤m.u∧m.u≤3)∧(1≤m.n∧m.n≤8)∧(0≤m.at' ∧m.at' ≤40)∧(0≤m.im∧m.im≤60)∧m.ws.length≤8∧okL m.ws=true:=by
  have hb:msB m=true:=by
    cases g:msB m
    { rw [msE_bad g] at h;cases h }
    { rfl }
  unfold msB inB at hb
  simpa [and_assoc] using hb
def cW (w:World) (ab:Option Addr) (nb cb:Nat) (u:Un) (a:Option Addr) (n c:Nat) (m:Ms) (am:Option Addr) (nm cm:Nat):World:=
  ((w.alloc (.cells #[.slice ab nb cb] 24)).alloc (.cells (aU a n c u) 82)).alloc (.cells (aM m am nm cm) 99)
theorem zlh (ab:Option Addr) (nb cb:Nat) (ss:List ByteArray) (u:Un) (a:Option Addr) (n c:Nat) (m:Ms) (am:Option Addr) (nm cm:Nat) (w:World) (hB:BB w ab nb cb ss) (hU:BW w a n c u.ws) (hM:BI w am nm m.ws):
    Calls Tryz.prog 278 #[bookv ab nb cb,unv u a n c,msv m am nm cm] w fun e w' =>e=.returned (.int .i64 (heE ss u m))∧Below w.heap.size w w' :=by
  have hw0:Below w.heap.size w (cW w ab nb cb u a n c m am nm cm):=(bA2).alloc (by simp;omega) _;have b1:Hid ((cW w ab nb cb u a n c m am nm cm).heap[w.heap.size+1]?=some (.cells (aU a n c u) 82 (0,0))):=bk3.2.1;have b2:Hid ((cW w ab nb cb u a n c m am nm cm).heap[w.heap.size+1+1]?=some (.cells (aM m am nm cm) 99 (0,0))):=bk3.2.2;have HC:=hide (fun W (hW:Below w.heap.size w W)=>zdw ab nb cb ss W (hB.below hW).at_ hB.len hB.cap hB.short);have HU:=hide (fun W (hW:Below w.heap.size w W)=>zcz u a n c W (hU.below hW));have HM:=hide (fun W (hW:Below w.heap.size w W)=>ze9 m am nm cm W (hM.below hW));have E1:=hide (fun h=>heE_1 (ss:=ss) (u:=u) (m:=m) h);have E2:=hide (fun h h2=>heE_2 (ss:=ss) (u:=u) (m:=m) h h2);have E3:=hide (fun h h2=>heE_3 (ss:=ss) (u:=u) (m:=m) h h2);clear hB hU hM;unfold bookv at *;unfold unv at *;unfold msv at *;unfold cW at hw0 b1 b2;go_enter Tryz.func278,Tryz.ntmps278;go_wp2_with fail;generalize ((w.alloc (.cells #[.slice ab nb cb] 24)).alloc (.cells (aU a n c u) 82)).alloc (.cells (aM m am nm cm) 99)=W at *;refine(zae HC _ hw0).mono ?_;rintro e w1 ⟨rfl,hb⟩;replace b1:=hide (zab b1.out hb);replace b2:=hide (zab b2.out hb);replace hw0:=bT hw0 hb;clear hb HC
  by_cases z1:bookE ss=0
  rotate_left
  {
  have HE:=hide (E1.out z1);have d1: (bookE ss !=0)=true:=by simpa using z1
  clear z1;generalize bookE ss=q at *;go_wp2_with fail;go_ret;exact⟨zap HE.out.symm,hw0⟩
  }
  replace E2:=hide (E2.out z1);replace E3:=hide (E3.out z1);rw [z1];clear z1 E1;obtain ⟨x0,x1,x2,x3,x4⟩:=cl5 b1.out;go_wp2_with fail;refine(zae HU _ hw0).mono ?_;rintro e w2 ⟨rfl,hb⟩;replace b2:=hide (zab b2.out hb);replace hw0:=bT hw0 hb;clear hb HU x0 x1 x2 x3 x4 b1
  by_cases z2:unE u=0
  rotate_left
  {
  have HE:=hide (E2.out z2);have d1: (unE u !=0)=true:=by simpa using z2
  clear z2;generalize unE u=q at *;go_wp2_with fail;go_ret;exact⟨zap HE.out.symm,hw0⟩
  }
  have HE:=hide (E3.out z2);rw [z2];clear z2 E2 E3;obtain ⟨y0,y1,y2,y3,y4,y5,y6⟩:=cl7 b2.out;go_wp2_with fail;refine(zae HM _ hw0).mono ?_;rintro e w3 ⟨rfl,hb⟩;go_wp2_with fail;go_ret;exact⟨zap HE.out.symm,(bT hw0 hb)⟩
def un0:Un:=⟨[],0,false,0,0⟩
def hearA (ss:List ByteArray) (u:Un) (m:Ms):Un×List Ms×Int:=if heE ss u m≠0 then(un0, [],heE ss u m) else((hearS ss u m).1,(hearS ss u m).2,0)
theorem hearA_e (h:heE ss u m≠0):hearA ss u m= (un0, [],heE ss u m):=by unfold hearA;rw [if_pos h]
theorem zqg (h:heE ss u m=0) (h2:u.up=false):hearA ss u m= (u, [],0):=by unfold hearA hearS;rw [if_neg (by simpa using h),if_neg (by rw [h2];decide)]
theorem zu7 (h:heE ss u m=0) (h2:u.up=true):hearA ss u m= ((hearK ss u m).1,(hearK ss u m).2,0):=by unfold hearA hearS;rw [if_neg (by simpa using h),if_pos h2]
def HearAns (w:World) (r:Un×List Ms×Int) (e:Ending) (w' :World):Prop:=
  (∃a n c am nm cm,e=.returned (.tuple #[unv r.1 a n c,.slice am nm cm,.int .i64 r.2.2])∧BW w' a n c r.1.ws∧za9 w' am r.2.1∧r.2.1.length=nm∧nm≤cm∧cm≤1)∧Below w.heap.size w w'
theorem zfz {t:TypeId} {p q:Nat} {i0 i1 i2:Int} {o:Bool} (h:zag w a xs) (hx:xs= []∨3≤xs.length) (hb:w.heap[b]?=some (.cells cs t (0,0))) (hc:cs=#[.slice x p q,.int .i64 i0,.bool o,.int .i64 i1,.int .i64 i2]):xs= []∨Off b a:=by
  rcases h with h| ⟨g,off,rfl,hi⟩
  { exact .inl h }
  {
  rcases hx with hx|hx
  { exact .inl hx }
  {
  refine .inr fun ad e=> ?_
  cases e;intro hgb;have hgb:g=b:=hgb;subst hgb hc;have c0:=hi 0 (by omega);have c1:=hi 1 (by omega);have c2:=hi 2 (by omega);have key: ∀k v,w.cell? ⟨g,k,none⟩=some (.int .i64 v)→k=1∨k=3∨k=4:=by
    intro k v hk
    by_cases h5:k<5
    {
    have hv:=zaa hb k ((#[Value.slice x p q,.int .i64 i0,.bool o,.int .i64 i1,.int .i64 i2]:Array Value)[k]'(by simpa using h5)) (by simp [h5]);rw [hk] at hv
    match k,h5 with
    |0,_=>simp at hv
    |1,_=>simp
    |2,_=>simp at hv
    |3,_=>simp
    |4,_=>simp
    }
    {
    exfalso
    have hn: (#[Value.slice x p q,.int .i64 i0,.bool o,.int .i64 i1,.int .i64 i2]:Array Value)[k]?=none:=Array.getElem?_eq_none (by simp;omega);unfold World.cell? at hk;simp only [hb] at hk
    simp [hn] at hk
    }
  have k0:=key _ _ c0;have k1:=key _ _ c1;have k2:=key _ _ c2;omega
  }
  }
theorem msgs_unit {l:List Ms} {t:TypeId} {p q:Nat} {i0 i1 i2:Int} {o:Bool} (h:za9 w a l) (hb:w.heap[b]?=some (.cells cs t (0,0))) (hc:cs=#[.slice x p q,.int .i64 i0,.bool o,.int .i64 i1,.int .i64 i2]):l= []∨Off b a:=by
  rcases h with h| ⟨g,rfl,hi⟩
  { exact .inl h }
  {
  cases l with
  |nil=>exact .inl rfl
  |cons m l=>
    refine .inr fun ad e=> ?_
    cases e;intro hgb;have hgb:g=b:=hgb;subst hgb hc;have c0:=(hi 0 m rfl).2.1;have hv:=zaa hb 0 (.slice x p q) rfl
    simp at c0
    rw [hv] at c0
    simp at c0
  }
theorem za9.ne {l:List Ms} (h:za9 w a l) (ho:l= []∨Off b a) (i:Nat) (v:Value):za9 (w.setCell ⟨b,i,none⟩ v) a l:=by
  rcases ho with e|ho
  { exact .inl e }
  {
  rcases h with h| ⟨g,rfl,hc⟩
  { exact .inl h }
  {
  have hne:g≠b:=ho _ rfl;refine .inr ⟨g,rfl,fun j m hj=> ?_⟩;obtain ⟨h0,h1,h2,h3,h4,h5,h6,h7⟩:=hc j m hj;have hg:w.grownBy (w.setCell ⟨b,i,none⟩ v) (some b):=zaw w b i v;have hx: ∀k u,w.cell? ⟨g,k,none⟩=some u→(w.setCell ⟨b,i,none⟩ v).cell? ⟨g,k,none⟩=some u:=fun k u h=>hg.cell h (fun e=>hne (by cases e;rfl))
  exact⟨h0,hx _ _ h1,hx _ _ h2,hx _ _ h3,hx _ _ h4,hx _ _ h5,hx _ _ h6,hx _ _ h7⟩
  }
  }
theorem BW.ne {n c:Nat} (h:BW w a n c xs) (ho:xs= []∨Off b a) (i:Nat) (v:Value):BW (w.setCell ⟨b,i,none⟩ v) a n c xs:=by
  refine⟨?_,h.len,h.cap,h.max⟩
  rcases ho with e|ho
  { exact .inl e }
  {
  exact zax h.at_ (zaw w b i v) ho
  }
def rW (w:World) (ab:Option Addr) (nb cb:Nat) (u:Un) (a:Option Addr) (n c:Nat) (m:Ms) (am:Option Addr) (nm cm:Nat):World:=
  (cW w ab nb cb u a n c m am nm cm).alloc (.cells #[.slice none 0 0,.int .i64 0,.bool false,.int .i64 0,.int .i64 0] 82)
structure RB (W:World) (X:Nat) (ab:Option Addr) (nb cb:Nat) (u:Un) (a:Option Addr) (n c:Nat) (m:Ms) (am:Option Addr) (nm cm:Nat):Prop where
  b0:W.heap[X]?=some (.cells #[.slice ab nb cb] 24 (0,0))
  b1:W.heap[X+1]?=some (.cells (aU a n c u) 82 (0,0))
  b2:W.heap[X+1+1]?=some (.cells (aM m am nm cm) 99 (0,0))
  b3:W.heap[X+1+1+1]?=some (.cells #[.slice none 0 0,.int .i64 0,.bool false,.int .i64 0,.int .i64 0] 82 (0,0))
theorem rW_rb (w:World) (ab:Option Addr) (nb cb:Nat) (u:Un) (a:Option Addr) (n c:Nat) (m:Ms) (am:Option Addr) (nm cm:Nat):RB (rW w ab nb cb u a n c m am nm cm) w.heap.size ab nb cb u a n c m am nm cm:=
  ⟨zai bk3.1 _,zai bk3.2.1 _,zai bk3.2.2 _,zj3 _ _ _ _ _⟩
theorem RB.below {W W' :World} {X:Nat} {ab:Option Addr} {nb cb:Nat} {n c:Nat} {am:Option Addr} {nm cm:Nat} (h:RB W X ab nb cb u a n c m am nm cm) (hb:Below W.heap.size W W'):RB W' X ab nb cb u a n c m am nm cm:=
  ⟨zab h.b0 hb,zab h.b1 hb,zab h.b2 hb,zab h.b3 hb⟩
theorem znr (ab:Option Addr) (nb cb:Nat) (ss:List ByteArray) (u:Un) (a:Option Addr) (n c:Nat) (m:Ms) (am:Option Addr) (nm cm:Nat) (w:World) (hB:BB w ab nb cb ss) (hT:Tab w) (hU:BW w a n c u.ws) (hM:BI w am nm m.ws):
    Calls Tryz.prog 248 #[bookv ab nb cb,unv u a n c,msv m am nm cm] w (HearAns w (hearA ss u m)):=by
  have hw0:Below w.heap.size w (rW w ab nb cb u a n c m am nm cm):=((bA2).alloc (by simp;omega) _).alloc (by simp;omega) _;have R:=hide (rW_rb w ab nb cb u a n c m am nm cm);have HC:=hide (fun W (hW:Below w.heap.size w W)=>zlh ab nb cb ss u a n c m am nm cm W (hB.below hW) (hU.below hW) (hM.below hW));have HBW:=hide hU;have HBB:=hide hB;have HTb:=hide hT;have HM:=hide hM;have EE:=hide (fun h=>hearA_e (ss:=ss) (u:=u) (m:=m) h);have ED:=hide (fun h h2=>zqg (ss:=ss) (u:=u) (m:=m) h h2);have EU:=hide (fun h h2=>zu7 (ss:=ss) (u:=u) (m:=m) h h2);clear hB hU hM hT;unfold bookv at *;unfold unv at *;unfold msv at *;unfold rW cW at hw0 R;go_enter Tryz.func248,Tryz.ntmps248;go_wp2_with fail;generalize (((w.alloc (.cells #[.slice ab nb cb] 24)).alloc (.cells (aU a n c u) 82)).alloc (.cells (aM m am nm cm) 99)).alloc (.cells #[.slice none 0 0,.int .i64 0,.bool false,.int .i64 0,.int .i64 0] 82)=W at *;refine(zae HC _ hw0).mono ?_;rintro e w1 ⟨rfl,hb⟩;replace R:=hide (R.out.below hb);replace hw0:=bT hw0 hb;clear hb HC;have z0:=zaa R.out.b3 0 _ rfl;have z1:=zaa R.out.b3 1 _ rfl;have z2:=zaa R.out.b3 2 _ rfl;have z3:=zaa R.out.b3 3 _ rfl;have z4:=zaa R.out.b3 4 _ rfl;have g0:=zad R.out.b3 0;have g1:=zad R.out.b3 1;have g2:=zad R.out.b3 2;have g3:=zad R.out.b3 3;have g4:=zad R.out.b3 4;have hx:w.heap.size≤w.heap.size+1+1+1:=by omega
  by_cases c1:heE ss u m=0
  rotate_left
  {
  have HE:=hide (EE.out c1);have d1: (heE ss u m !=0)=true:=by simpa using c1
  clear c1;generalize heE ss u m=q at *;go_wp2_with fail;refine bodyPost_ret (v:=.tuple #[unv un0 none 0 0,.slice none 0 0,.int .i64 q]) (by simp [results,Tryz.results248,go_sem,unv,un0,z0,z1,z2,z3,z4]) rfl ?_;rw [HE.out];exact⟨⟨none,0,0,none,0,0,rfl,⟨.inl rfl,rfl,Nat.le_refl _,by decide⟩,.inl rfl,rfl,Nat.le_refl _,by decide⟩,((((hw0.setCell hx _).setCell hx _).setCell hx _).setCell hx _).setCell hx _⟩
  }
  obtain ⟨_,u0,m0⟩:=heE_ok c1;obtain ⟨hl,hlen,_⟩:=zjw u0;obtain ⟨_,_,_,hat,_,hm8,_⟩:=msE_0 m0;have HL:=hide hl;have LN:=hide hlen;have HAT:=hide hat;have M8:=hide hm8;replace ED:=hide (ED.out c1);replace EU:=hide (EU.out c1);have HTw:=hide (zhf u a n c w1 (HBW.out.below hw0) (by rw [←HBW.out.len,hlen];decide));unfold unv at HTw;rw [c1];clear c1 u0 m0 hl hlen hat hm8 EE z0 z1 z2 z3 z4 g0 g1 g2 g3 g4;have x0:=zaa R.out.b1 0 _ rfl;have x1:=zaa R.out.b1 1 _ rfl;have x2:=zaa R.out.b1 2 _ rfl;have x3:=zaa R.out.b1 3 _ rfl;have x4:=zaa R.out.b1 4 _ rfl;go_wp2_with fail;refine(zae HTw).mono ?_;rintro e w2 ⟨⟨a2,c2,rfl,hi2,hf2,hc2⟩,hb2⟩;rw [LN.out] at hc2;unfold unv;rw [LN.out];replace R:=hide (R.out.below hb2);replace hw0:=bT hw0 hb2;have HI2:=hide hi2;clear hb2 hi2 hf2 HTw x0 x1 x2 x3 x4;go_upto_region 5 with fail
  have S0:=hide (heap_alloc_last w2 (.cells #[.slice a2 192 c2,.int .i64 u.fu,.bool u.up,.int .i64 u.n,.int .i64 u.hv] 82));have hb3:Below w2.heap.size w2 (w2.alloc (.cells #[.slice a2 192 c2,.int .i64 u.fu,.bool u.up,.int .i64 u.n,.int .i64 u.hv] 82)):=bA1;have hX:w.heap.size+1+1+1<w2.heap.size:=zak R.out.b3;have ho2:Off w2.heap.size a2:=by
    rcases zcu HI2.out w2.heap.size (Nat.le_refl _) with e|h
    { have:=LN.out;rw [e] at this;simp at this }
    { exact h }
  have HOw:Hid (OwnU (w2.alloc (.cells #[.slice a2 192 c2,.int .i64 u.fu,.bool u.up,.int .i64 u.n,.int .i64 u.hv] 82)) w2.heap.size u):=⟨a2,192,c2,S0.out,HI2.out.below hb3,LN.out,hc2,by decide,ho2⟩;have hk:=bT hw0 hb3;have HI3:=hide (HI2.out.below hb3);replace R:=hide (R.out.below hb3);have HMo:=hide (zcu HM.out.at_ w2.heap.size hw0.size);have HO2:=hide ho2;have hBw:=hw0.size;have hBW:w2.heap.size< (w2.alloc (.cells #[.slice a2 192 c2,.int .i64 u.fu,.bool u.up,.int .i64 u.n,.int .i64 u.hv] 82)).heap.size:=by simp
  clear hw0 hb3 HI2 ho2;generalize w2.heap.size=B at *;generalize w2.alloc (.cells #[.slice a2 192 c2,.int .i64 u.fu,.bool u.up,.int .i64 u.n,.int .i64 u.hv] 82)=W3 at *;have z0:=zaa R.out.b3 0 _ rfl;have z1:=zaa R.out.b3 1 _ rfl;have z2:=zaa R.out.b3 2 _ rfl;have z3:=zaa R.out.b3 3 _ rfl;have z4:=zaa R.out.b3 4 _ rfl;have g0:=zad R.out.b3 0;have g1:=zad R.out.b3 1;have g2:=zad R.out.b3 2;have g3:=zad R.out.b3 3;have g4:=zad R.out.b3 4;obtain ⟨s0,s1,s2,s3,s4⟩:=cl5 S0.out;cases hup:u.up
  {
  have HE:=hide (ED.out hup)
  (try dsimp only [aU] at s2);rw [hup] at s2
  go_wp2_with fail;refine bodyPost_ret (v:=.tuple #[unv u a2 192 c2,.slice none 0 0,.int .i64 0]) (by simp [results,Tryz.results248,go_sem,unv,hup,z0,z1,z2,z3,z4]) rfl ?_;rw [HE.out];have hbw:BW W3 a2 192 c2 u.ws:=⟨HI3.out,LN.out,hc2,by decide⟩;have ho:=zfz HI3.out (.inr (by rw [LN.out];decide)) R.out.b3 rfl;exact⟨⟨a2,192,c2,none,0,0,rfl,((((hbw.ne ho _ _).ne ho _ _).ne ho _ _).ne ho _ _).ne ho _ _,.inl rfl,rfl,Nat.le_refl _,by decide⟩,((((hk.setCell hx _).setCell hx _).setCell hx _).setCell hx _).setCell hx _⟩
  }
  have HE:=hide (EU.out hup);have HLk:=hide (zod ss u m);have HHr:=hide (hear_any ab nb cb ss B u m am nm cm W3 (fun w' hg=>⟨HBB.out.below (zam hk hg hBw hk.size),HTb.out.below (zam hk hg hBw hk.size)⟩) HOw.out HL.out (HM.out.below hk) HMo.out HAT.out.1 HAT.out.2 (by rw [←HM.out.len];exact M8.out));unfold bookv msv at HHr
  (try dsimp only [aU] at s2);rw [hup] at s2
  have k0:=zaa R.out.b0 0 _ rfl;have y0:=zaa R.out.b2 0 _ rfl;have y1:=zaa R.out.b2 1 _ rfl;have y2:=zaa R.out.b2 2 _ rfl;have y3:=zaa R.out.b2 3 _ rfl;have y4:=zaa R.out.b2 4 _ rfl;have y5:=zaa R.out.b2 5 _ rfl;have y6:=zaa R.out.b2 6 _ rfl;go_wp2_with fail;clear k0 y0 y1 y2 y3 y4 y5 y6 s0 s1 s2 s3 s4 z0 z1 z2 z3 z4 g0 g1 g2 g3 g4;refine(zae HHr).mono ?_;rintro e w4 ⟨⟨a4,n4,c4,rfl,hm4,hn4,hc4,hx4⟩,⟨ua,un,uc,ub,ui,ul,ucap,umax,uoff⟩,hg4⟩;have B3:=hide (zar R.out.b3 hg4 (by omega));have hk4:=zam hk hg4 hBw hk.size;have UB:=hide ub;have UW:=hide (show BW w4 ua un uc (hearK ss u m).1.ws from⟨ui,ul,ucap,umax⟩);have MM:=hide hm4;have ML:=hide hn4;have ho:=hide (zfz ui (by rcases HLk.out with h|h;(· right;rw [h,LN.out];decide);(· exact .inl h)) B3.out rfl);have hp:=hide (msgs_unit hm4 B3.out rfl);clear ub ui ul uoff hg4 hm4 hn4 HHr HLk;generalize hearK ss u m=r at *;unfold unO at UB;obtain ⟨z0,z1,z2,z3,z4⟩:=cl5 B3.out;obtain ⟨g0,g1,g2,g3,g4⟩:=fr5 B3.out;obtain ⟨s0,s1,s2,s3,s4⟩:=cl5 UB.out;go_wp2_with fail;refine bodyPost_ret (v:=.tuple #[unv r.1 ua un uc,.slice a4 n4 c4,.int .i64 0]) (by simp [results,Tryz.results248,go_sem,unv,z0,z1,z2,z3,z4]) rfl ?_;rw [HE.out];exact⟨⟨ua,un,uc,a4,n4,c4,rfl,((((UW.out.ne ho.out _ _).ne ho.out _ _).ne ho.out _ _).ne ho.out _ _).ne ho.out _ _,((((MM.out.ne hp.out _ _).ne hp.out _ _).ne hp.out _ _).ne hp.out _ _).ne hp.out _ _,ML.out,hc4,hx4⟩,((((hk4.setCell hx _).setCell hx _).setCell hx _).setCell hx _).setCell hx _⟩
end
end Go.Proofs.YthmekfcgdfckaaaGreatDoor
