/- The contract of gate.stateOf. The contracts of gate.Read, stateUp. The steps of a unit: unit.clearing, filling, sealing, and what they make. -/
import Derived.Test.YthmekfcgdfckaaaGreatDoorWt10
import Derived.Test.YthmekfcgdfckaaaGreatDoorWt9
import Derived.BigQuiet
import Derived.Deep.RegionWith
set_option maxRecDepth 1000000
set_option maxHeartbeats 0
namespace Go.Proofs.YthmekfcgdfckaaaGreatDoor
variable {rs:List (List Int)} {r:List Int} {g:Gt}
section
open Go.RowKit
attribute [local go_sem ↓] Go.wp_at_zero Go.wp_at_succ
theorem RecM.turnsG {w w' :World} {a:Option Addr} {S:Nat} {cs:Array Value} (h:RecM w a rs) (hS:w.heap[S]?=some (.cells cs 72 (0,0))) (hg:w.grownBy w' (some S)):RecM w' a rs:=by
  rcases h with h| ⟨b,cur,rfl,hb,hr⟩
  { exact .inl h }
  {
  have hne: ∀(g:Nat) (cs' :Array Value) (t:TypeId),w.heap[g]?=some (.cells cs' t (0,0))→t≠72→g≠S:=by
    rintro g cs' t h1 h2 rfl;rw [hS] at h1
    simp at h1
    exact h2 h1.2.symm
  refine .inr ⟨b,cur,rfl,zar hb hg (hne _ _ _ hb (by decide)),fun i r hi=> ?_⟩;obtain ⟨g,c,h1,⟨cu,h2,h3⟩,h4⟩:=hr i r hi;exact⟨g,c,h1,⟨cu,zar h2 hg (hne _ _ _ h2 (by decide)),h3⟩,h4⟩
  }
theorem gR_step {k:Nat} (hk:k<rs.length):gR (rs.take (k+1))=gNext (gR (rs.take k)) rs[k]:=by
  unfold gR;rw [List.take_succ_eq_append_getElem hk,List.foldl_append];rfl
theorem gNext_1 {s:Gs} (h:isBeg r=true):gNext s r= ⟨r.getD 1 0,r.getD 2 0,false,false,false⟩:=by unfold gNext;rw [if_pos h]
theorem gNext_2 {s:Gs} (h:isBeg r=false) (h2:isOf s r=true):gNext s r=trnG s (r.getD 0 0):=by unfold gNext;rw [if_neg (by rw [h];decide),if_pos h2]
theorem gNext_0 {s:Gs} (h:isBeg r=false) (h2:isOf s r=false):gNext s r=s:=by unfold gNext;rw [if_neg (by rw [h];decide),if_neg (by rw [h2];decide)]
structure SG (W:World) (B:Nat) (s:Gs):Prop where
  b1:W.heap[B+1]?=some (gsO gs0)
  b2:W.heap[B+1+1]?=some (gsO s)
theorem gs_set5 {W:World} {b:Nat} {s t:Gs} (h:W.heap[b]?=some (gsO s)): (((((W.setCell ⟨b,0,none⟩ (.int .i64 t.n)).setCell ⟨b,1,none⟩ (.int .i64 t.v)).setCell ⟨b,2,none⟩ (.bool t.co)).setCell ⟨b,3,none⟩ (.bool t.ab)).setCell ⟨b,4,none⟩ (.bool t.en)).heap[b]?=some (gsO t):=by
  unfold gsO at h⊢;simp only [World.setCell,Array.getElem?_modify]
  simp [h]
theorem zg0 (w:World) (B:Nat) (v0 v1 v2 v3 v4:Value):w.grownBy (((((w.setCell ⟨B,0,none⟩ v0).setCell ⟨B,1,none⟩ v1).setCell ⟨B,2,none⟩ v2).setCell ⟨B,3,none⟩ v3).setCell ⟨B,4,none⟩ v4) (some B):=
  zac (zac (zac (zac (zac (World.grownBy.refl _ _) 0 v0) 1 v1) 2 v2) 3 v3) 4 v4
theorem zfu (a:Option Addr) (n c:Nat) (ws:List Int) (fuel:Int) (w:World) (h:BW w a n c ws) (e1:lchk ws fuel=0):
    Calls Tryz.prog 105 #[.agg #[.slice a n c,.int .i64 fuel]] w fun e w' =>e=.returned (gsv (gOf ws))∧Below w.heap.size w w' :=by
  have hw0:Below w.heap.size w (((w.alloc (.cells #[.slice a n c,.int .i64 fuel] 28)).alloc (gsO gs0)).alloc (gsO gs0)):=(bA2).alloc (by simp;omega) _;have b0:Hid ((((w.alloc (.cells #[.slice a n c,.int .i64 fuel] 28)).alloc (gsO gs0)).alloc (gsO gs0)).heap[w.heap.size]?=some (.cells #[.slice a n c,.int .i64 fuel] 28 (0,0))):=zai (zai (heap_alloc_last _ _) _) _;have sb:Hid (SG (((w.alloc (.cells #[.slice a n c,.int .i64 fuel] 28)).alloc (gsO gs0)).alloc (gsO gs0)) w.heap.size gs0):=⟨zai (zau _ _ _) _,zb9 _ _ _ _⟩;have HR:=hide (fun W (hW:Below w.heap.size w W)=>zh9 a n c ws fuel W (h.below hW) e1);have hfew: (logR ws).length≤31:=zoq (by have:=zdm e1;omega);have HS:Hid (gOf ws=gR (logR ws)):=rfl;clear h e1;generalize logR ws=rs at *;have x0:=zaa b0.out 0 _ rfl;have x1:=zaa b0.out 1 _ rfl;unfold gsO gs0 at hw0 b0 sb x0 x1;go_enter Tryz.func105,Tryz.ntmps105;go_wp2_with fail;generalize ((w.alloc (.cells #[.slice a n c,.int .i64 fuel] 28)).alloc (.cells aX 72)).alloc (.cells aX 72)=W at *;refine(zae HR _ hw0).mono ?_;rintro e w1 ⟨⟨ar,cr,rfl,hrm,hlc,hcm⟩,hb⟩;replace sb:Hid (SG w1 w.heap.size gs0):=⟨zab sb.out.b1 hb,zab sb.out.b2 hb⟩;replace hw0:=bT hw0 hb;clear hb HR x0 x1 b0;obtain ⟨nr,hnr⟩: ∃nr,nr=rs.length:=⟨_,rfl⟩;rw [←hnr] at hfew hlc⊢;have LR:=hide hnr;have HM:=hide hrm;clear hnr hrm;go_wp2_with fail
  go_loopw [15] (fun i wr=>∃k:Nat,k≤nr∧i=.int .i64 k∧Below w.heap.size w wr∧Hid (SG wr w.heap.size (gR (rs.take k)))∧Hid (RecM wr ar rs)) (fun i _=>nr - (intOf i).toNat)
  case atStart=>exact⟨0,Nat.zero_le _,rfl,hw0,by show SG _ _ _;simpa [gR] using sb.out,HM⟩
  case round=>
    clear hw0 sb HM;obtain ⟨wq,rfl⟩: ∃wq:World,wq=wr:=⟨_,rfl⟩;obtain ⟨k,hk,rfl,hw,sb,hm⟩:=hrel;generalize hst:gR (rs.take k)=st at *
    by_cases hlt:k<nr
    {
    have hkx:k<rs.length:=by rw [←LR.out];exact hlt
    have HX:=hide (gR_step hkx);rw [hst] at HX
    rcases hm.out with e| ⟨b,cur,rfl,hb,hr⟩
    { rw [e] at hkx;simp at hkx }
    obtain ⟨g,cg,h1,h2,h3,h4⟩:=hr k rs[k] (List.getElem?_eq_getElem hkx);have ec:=zaa hb k _ h1;have hcell:=fun i hi=>h2.cell i hi
    clear hst hr h1 hb;generalize rs[k]=r at *;obtain ⟨m,hmr⟩: ∃m,m=r.length:=⟨_,rfl⟩;rw [←hmr] at ec h3;unfold maxLen at h4;have LM:=hide hmr;have S2:=hide sb.out.b2;have S1:=hide sb.out.b1;have N1:=hide (gNext_1 (s:=st) (r:=r));have N2:=hide (gNext_2 (s:=st) (r:=r));have N0:=hide (gNext_0 (s:=st) (r:=r));have C0:=hide (hcell 0);have C1:=hide (hcell 1);have C2:=hide (hcell 2);clear hmr hcell h2;have frame: ∀(w' :World) (s' :Gs),wq.grownBy w' (some (w.heap.size+1+1))→w'.heap[w.heap.size+1+1]?=some (gsO s')→Below w.heap.size w w' ∧SG w' w.heap.size s' ∧RecM w' (some ⟨b,0,none⟩) rs:=by
      intro w' s' hg hb2;exact⟨zam hw hg (by omega) hw.size,⟨zar S1.out hg (by omega),hb2⟩,hm.out.turnsG (by unfold gsO at S2;exact S2.out) hg⟩
    have FR:=hide frame;clear frame;unfold gsO gs0 at S1;unfold gsO at S2;obtain ⟨s0,s1,s2,s3,s4⟩:=cl5 S2.out;obtain ⟨f0,f1,f2,f3,f4⟩:=fr5 S2.out
    by_cases z3:m=3
    {
    subst z3;have hl3:r.length=3:=LM.out.symm;have c0:=C0.out (by rw [hl3];decide);have c1:=C1.out (by rw [hl3];decide);have c2:=C2.out (by rw [hl3];decide);have hof:isOf st r=false:=by unfold isOf;rw [hl3];rfl
    by_cases y0:r.getD 0 0=1
    {
    cases y1:inB (r.getD 1 0) 1 8
    {
    have HN:=hide (HX.out.trans (N0.out (by unfold isBeg;rw [y1];simp) hof));rw [y0] at c0;clear N1 N2 N0 y0 hof hl3 C0 C1 C2;generalize r.getD 1 0=r1 at *;generalize r.getD 2 0=r2 at *;go_upto_region 8 with (go_at_call 135;refine(zbc _ _ _ _).mono ?_;rintro e w' ⟨rfl,rfl⟩)
    go_quiet (fail);go_wp2_with fail
    go_roundw
    case rel=>
      obtain ⟨q1,q2,q3⟩:=FR.out _ st (zaj (below_drewN (Below.refl _ _) nq) _) (zab (by unfold gsO;exact S2.out) (below_drewN (Below.refl _ _) nq));exact⟨k+1,by omega,by go_num,q1,by show SG _ _ _;rw [HN.out];exact q2,q3⟩
    case measure=>simp [intOf];omega
    }
    {
    have HN:=hide (HX.out.trans (N1.out (by unfold isBeg;rw [hl3,y0,y1];rfl)));rw [y0] at c0;clear N1 N2 N0 y0 hof hl3 C0 C1 C2;generalize r.getD 1 0=r1 at *;generalize r.getD 2 0=r2 at *;go_upto_region 7 with (go_at_call 135;refine(zbc _ _ _ _).mono ?_;rintro e w' ⟨rfl,rfl⟩)
    go_region
    go_wp2_with fail
    go_roundw
    case rel=>
      obtain ⟨q1,q2,q3⟩:=FR.out _ ⟨r1,r2,false,false,false⟩ ((zbv (World.grownBy.refl _ _)).trans (zg0 _ _ _ _ _ _ _)) (gs_set5 (s:=st) (t:=⟨r1,r2,false,false,false⟩) (by unfold gsO;exact zfn S2.out));exact⟨k+1,by omega,by go_num,q1,by show SG _ _ _;rw [HN.out];exact q2,q3⟩
    case measure=>simp [intOf];omega
    }
    }
    {
    have HN:=hide (HX.out.trans (N0.out (by unfold isBeg;rw [decide_eq_false y0];simp) hof));have d0: (r.getD 0 0==1)=false:=by simpa using y0
    clear N1 N2 N0 y0 hof hl3 C0 C1 C2;generalize r.getD 0 0=r0 at *;go_upto_region 8 with (go_at_call 135;refine(zbc _ _ _ _).mono ?_;rintro e w' ⟨rfl,rfl⟩)
    go_quiet (fail);go_wp2_with fail
    go_roundw
    case rel=>
      obtain ⟨q1,q2,q3⟩:=FR.out _ st (zaj (below_drewN (Below.refl _ _) nq) _) (zab (by unfold gsO;exact S2.out) (below_drewN (Below.refl _ _) nq));exact⟨k+1,by omega,by go_num,q1,by show SG _ _ _;rw [HN.out];exact q2,q3⟩
    case measure=>simp [intOf];omega
    }
    }
    have d3: ((m:Int)==3)=false:=by simp;omega
    have hbeg:isBeg r=false:=by unfold isBeg;rw [←LM.out];simp [z3]
    by_cases z2:m=2
    rotate_left
    {
    have d2: ((m:Int)==2)=false:=by simp;omega
    have HN:=hide (HX.out.trans (N0.out hbeg (by unfold isOf;rw [←LM.out];simp [z2])));clear N1 N2 N0 C0 C1 C2 z2 z3 hbeg;go_upto_region 8 with (go_at_call 135;refine(zbc _ _ _ _).mono ?_;rintro e w' ⟨rfl,rfl⟩)
    go_quiet (fail);go_wp2_with fail
    go_roundw
    case rel=>
      obtain ⟨q1,q2,q3⟩:=FR.out _ st (zaj (below_drewN (Below.refl _ _) nq) _) (zab (by unfold gsO;exact S2.out) (below_drewN (Below.refl _ _) nq));exact⟨k+1,by omega,by go_num,q1,by show SG _ _ _;rw [HN.out];exact q2,q3⟩
    case measure=>simp [intOf];omega
    }
    subst z2;have hl2:r.length=2:=LM.out.symm;have c0:=C0.out (by rw [hl2];decide);have c1:=C1.out (by rw [hl2];decide);clear d3 z3
    by_cases y0:st.n=0
    {
    have HN:=hide (HX.out.trans (N0.out hbeg (by unfold isOf;simp [y0])));have e0: (st.n !=0)=false:=by simpa using y0
    clear N1 N2 N0 C0 C1 C2 hbeg y0 hl2;go_upto_region 8 with (go_at_call 135;refine(zbc _ _ _ _).mono ?_;rintro e w' ⟨rfl,rfl⟩)
    go_quiet (fail);go_wp2_with fail
    go_roundw
    case rel=>
      obtain ⟨q1,q2,q3⟩:=FR.out _ st (zaj (below_drewN (Below.refl _ _) nq) _) (zab (by unfold gsO;exact S2.out) (below_drewN (Below.refl _ _) nq));exact⟨k+1,by omega,by go_num,q1,by show SG _ _ _;rw [HN.out];exact q2,q3⟩
    case measure=>simp [intOf];omega
    }
    have e0: (st.n !=0)=true:=by simpa using y0
    by_cases y1:r.getD 1 0=st.n
    rotate_left
    {
    have HN:=hide (HX.out.trans (N0.out hbeg (by unfold isOf;rw [decide_eq_false y1];simp)));have e1: (r.getD 1 0==st.n)=false:=by simpa using y1
    clear N1 N2 N0 C0 C1 C2 hbeg y0 y1 hl2;generalize r.getD 1 0=r1 at *;go_upto_region 8 with (go_at_call 135;refine(zbc _ _ _ _).mono ?_;rintro e w' ⟨rfl,rfl⟩)
    go_quiet (fail);go_wp2_with fail
    go_roundw
    case rel=>
      obtain ⟨q1,q2,q3⟩:=FR.out _ st (zaj (below_drewN (Below.refl _ _) nq) _) (zab (by unfold gsO;exact S2.out) (below_drewN (Below.refl _ _) nq));exact⟨k+1,by omega,by go_num,q1,by show SG _ _ _;rw [HN.out];exact q2,q3⟩
    case measure=>simp [intOf];omega
    }
    have e1: (r.getD 1 0==st.n)=true:=by simpa using y1
    have HN:=hide (HX.out.trans (N2.out hbeg (by unfold isOf;rw [hl2,decide_eq_true (p:=st.n≠0) y0,decide_eq_true y1];rfl)));have HT:=hide (fun W=>zp9 st (r.getD 0 0) W);unfold gsv at HT;clear N1 N2 N0 C0 C1 C2 hbeg y0 y1 hl2;generalize trnG st (r.getD 0 0)=tt at *;generalize r.getD 0 0=r0 at *;generalize r.getD 1 0=r1 at *;go_upto_region 8 with (go_at_call 135;refine(zbc _ _ _ _).mono ?_;rintro e w' ⟨rfl,rfl⟩)
    go_quiet (fail);go_upto_region 9 with fail
    have hbq:Below wq.heap.size wq (wq.drewN nq):=below_drewN (Below.refl _ _) nq;have ltS:=zak S2.out;generalize hWq:wq.drewN nq=W2 at *;clear hWq;have X2:=hide (zab S2.out hbq);have cg0:=(hbq.cell (zah c0)).trans c0;obtain ⟨x0,x1,x2,x3,x4⟩:=cl5 X2.out;clear s0 s1 s2 s3 s4 f0 f1 f2 f3 f4 c0 c1 ec e0 e1
    go_region_with ((go_at_call 172;refine(zae HT _).mono ?_;rintro e w6 ⟨rfl,hb6⟩;have hk6:Below W2.heap.size W2 w6:=(Below.refl _ W2).drew.trans (hb6.mono (Nat.le_refl _));have X6:=hide (zab X2.out hk6);have t0:=zaa X6.out 0 _ rfl;have q0:=zad X6.out 0;have t1:=zaa X6.out 1 _ rfl;have q1:=zad X6.out 1;have t2:=zaa X6.out 2 _ rfl;have q2:=zad X6.out 2;have t3:=zaa X6.out 3 _ rfl;have q3:=zad X6.out 3;have t4:=zaa X6.out 4 _ rfl;have q4:=zad X6.out 4))
    all_goals
      go_wp2_with fail
      go_roundw
      case rel=>
        obtain ⟨q1,q2,q3⟩:=FR.out _ tt ((zaj ((bT hbq hk6)) _).trans (zg0 _ _ _ _ _ _ _)) (gs_set5 (s:=st) (t:=tt) (by unfold gsO;exact X6.out));exact⟨k+1,by omega,by go_num,q1,by show SG _ _ _;rw [HN.out];exact q2,q3⟩
      case measure=>simp [intOf];omega
    }
    {
    have hx:gR rs=st:=by rw [←hst,List.take_of_length_le (by rw [←LR.out];omega)]
    have HE:=hide (HS.out.trans hx);have S2:=hide sb.out.b2;have S1:=hide sb.out.b1;unfold gsO gs0 at S1;unfold gsO at S2;obtain ⟨s0,s1,s2,s3,s4⟩:=cl5 S2.out;obtain ⟨y0,y1,y2,y3,y4⟩:=cl5 S1.out;obtain ⟨f0,f1,f2,f3,f4⟩:=fr5 S1.out;clear hx hst;go_wp2_with fail;refine bodyPost_ret (v:=gsv st) (by simp [results,Tryz.results105,go_sem,gsv,y0,y1,y2,y3,y4]) rfl ?_;rw [HE.out];exact⟨rfl,zam hw (zg0 _ _ _ _ _ _ _) (by omega) hw.size⟩
    }
end
section
open Go.RowKit
attribute [local go_sem ↓] Go.wp_at_zero Go.wp_at_succ
theorem gReadS_e (h:gtE g≠0):zc3 g= (gs0,gtE g):=by unfold zc3;rw [if_pos h]
theorem zt2 (h:gtE g=0):zc3 g= (gOf g.ws,0):=by unfold zc3;rw [if_neg (by simpa using h)]
def gUpS (g:Gt):Gs×Int:=if upE g≠0 then(gs0,upE g) else(gOf g.ws,0)
theorem upE_e (h:gtE g≠0):upE g=gtE g:=by unfold upE;rw [if_pos h]
theorem upE_7 (h:gtE g=0) (h2:g.up=false):upE g=7:=by unfold upE;rw [if_neg (by simpa using h),if_neg (by rw [h2];decide)]
theorem upE_0 (h:gtE g=0) (h2:g.up=true):upE g=0:=by unfold upE;rw [if_neg (by simpa using h),if_pos h2]
theorem gUpS_e (h:gtE g≠0):gUpS g= (gs0,gtE g):=by unfold gUpS;rw [upE_e h,if_pos h]
theorem gUpS_7 (h:gtE g=0) (h2:g.up=false):gUpS g= (gs0,7):=by unfold gUpS;rw [upE_7 h h2,if_pos (by decide)]
theorem gUpS_0 (h:gtE g=0) (h2:g.up=true):gUpS g= (gOf g.ws,0):=by unfold gUpS;rw [upE_0 h h2,if_neg (by decide)]
theorem zh0 (g:Gt) (m:GA) (w:World) (h:GIn w m g):
    Calls Tryz.prog 25 #[gtv g m] w fun e w' =>e=.returned (.tuple #[gsv (zc3 g).1,.int .i64 (zc3 g).2])∧Below w.heap.size w w' :=by
  have E1:=fun h=>gReadS_e (g:=g) h
  have E0:=fun h=>zt2 (g:=g) h
  have hw0:Below w.heap.size w ((w.alloc (.cells (aG m g) 35)).alloc (.cells aX 72)):=bA2;have b0:Hid (((w.alloc (.cells (aG m g) 35)).alloc (.cells aX 72)).heap[w.heap.size]?=some (.cells (aG m g) 35 (0,0))):=zai (heap_alloc_last _ _) _;have b1:Hid (((w.alloc (.cells (aG m g) 35)).alloc (.cells aX 72)).heap[w.heap.size+1]?=some (.cells aX 72 (0,0))):=zau _ _ _;have HC:=hide (fun W (hW:Below w.heap.size w W)=>zca g m W (h.below hW));have HS:=hide (fun (e1:lchk g.ws g.fu=0) W (hW:Below w.heap.size w W)=>zfu m.a m.n m.c g.ws g.fu W (h.ws.below hW) e1);have hx:w.heap.size≤w.heap.size+1:=by omega
  unfold gtv at *;clear h;go_enter Tryz.func25,Tryz.ntmps25;go_wp2_with fail;generalize ((w.alloc (.cells (aG m g) 35)).alloc (.cells aX 72))=W at *;refine(zae HC _ hw0).mono ?_;rintro e w1 ⟨rfl,hb⟩;replace b0:=hide (zab b0.out hb);replace b1:=hide (zab b1.out hb);replace hw0:=bT hw0 hb;clear hb HC
  by_cases z1:gtE g=0
  rotate_left
  {
  have HE:=hide (E1 z1);have d1: (gtE g !=0)=true:=by simpa using z1
  obtain ⟨y0,y1,y2,y3,y4⟩:=cl5 b1.out;obtain ⟨f0,f1,f2,f3,f4⟩:=fr5 b1.out;clear z1 E1 E0;generalize gtE g=q at *;go_wp2_with fail;refine bodyPost_ret (v:=.tuple #[gsv gs0,.int .i64 q]) (by simp [results,Tryz.results25,go_sem,gsv,gs0,y0,y1,y2,y3,y4]) rfl ?_;rw [HE.out];exact⟨rfl,((((hw0.setCell hx _).setCell hx _).setCell hx _).setCell hx _).setCell hx _⟩
  }
  have HE:=hide (E0 z1);have HSt:=hide (HS.out (zen z1).1 _ hw0);rw [z1];clear z1 E1 E0 HS;have x0:=zaa b0.out 0 _ rfl;have x1:=zaa b0.out 1 _ rfl;go_wp2_with fail;refine(zae HSt).mono ?_;rintro e w2 ⟨rfl,hb⟩;replace b1:=hide (zab b1.out hb);replace hw0:=bT hw0 hb;clear hb HSt x0 x1;obtain ⟨y0,y1,y2,y3,y4⟩:=cl5 b1.out;obtain ⟨f0,f1,f2,f3,f4⟩:=fr5 b1.out;generalize gOf g.ws=s at *;unfold gsv;go_wp2_with fail;refine bodyPost_ret (v:=.tuple #[gsv s,.int .i64 0]) (by simp [results,Tryz.results25,go_sem,gsv,y0,y1,y2,y3,y4]) rfl ?_;rw [HE.out];exact⟨rfl,((((hw0.setCell hx _).setCell hx _).setCell hx _).setCell hx _).setCell hx _⟩
theorem zf8 (g:Gt) (m:GA) (w:World) (h:GIn w m g):
    Calls Tryz.prog 239 #[gtv g m] w fun e w' =>e=.returned (.tuple #[gsv (gUpS g).1,.int .i64 (gUpS g).2])∧Below w.heap.size w w' :=by
  have E1:=fun h=>gUpS_e (g:=g) h
  have E7:=fun h h2=>gUpS_7 (g:=g) h h2
  have E0:=fun h h2=>gUpS_0 (g:=g) h h2
  have hw0:Below w.heap.size w ((w.alloc (.cells (aG m g) 35)).alloc (.cells aX 72)):=bA2;have b0:Hid (((w.alloc (.cells (aG m g) 35)).alloc (.cells aX 72)).heap[w.heap.size]?=some (.cells (aG m g) 35 (0,0))):=zai (heap_alloc_last _ _) _;have b1:Hid (((w.alloc (.cells (aG m g) 35)).alloc (.cells aX 72)).heap[w.heap.size+1]?=some (.cells aX 72 (0,0))):=zau _ _ _;have HC:=hide (fun W (hW:Below w.heap.size w W)=>zca g m W (h.below hW));have HS:=hide (fun (e1:lchk g.ws g.fu=0) W (hW:Below w.heap.size w W)=>zfu m.a m.n m.c g.ws g.fu W (h.ws.below hW) e1);have hx:w.heap.size≤w.heap.size+1:=by omega
  unfold gtv at *;clear h;go_enter Tryz.func239,Tryz.ntmps239;go_wp2_with fail;generalize ((w.alloc (.cells (aG m g) 35)).alloc (.cells aX 72))=W at *;refine(zae HC _ hw0).mono ?_;rintro e w1 ⟨rfl,hb⟩;replace b0:=hide (zab b0.out hb);replace b1:=hide (zab b1.out hb);replace hw0:=bT hw0 hb;clear hb HC
  by_cases z1:gtE g=0
  rotate_left
  {
  have HE:=hide (E1 z1);have d1: (gtE g !=0)=true:=by simpa using z1
  obtain ⟨y0,y1,y2,y3,y4⟩:=cl5 b1.out;obtain ⟨f0,f1,f2,f3,f4⟩:=fr5 b1.out;clear z1 E1 E0 E7;generalize gtE g=q at *;go_wp2_with fail;refine bodyPost_ret (v:=.tuple #[gsv gs0,.int .i64 q]) (by simp [results,Tryz.results239,go_sem,gsv,gs0,y0,y1,y2,y3,y4]) rfl ?_;rw [HE.out];exact⟨rfl,((((hw0.setCell hx _).setCell hx _).setCell hx _).setCell hx _).setCell hx _⟩
  }
  have x2:=zaa b0.out 2 _ rfl;cases zu:g.up
  {
  have HE:=hide (E7 z1 zu)
  (try dsimp only [aG] at x2);rw [zu] at x2
  rw [z1];obtain ⟨y0,y1,y2,y3,y4⟩:=cl5 b1.out;obtain ⟨f0,f1,f2,f3,f4⟩:=fr5 b1.out;clear z1 E1 E0 E7 zu;go_wp2_with fail;refine bodyPost_ret (v:=.tuple #[gsv gs0,.int .i64 7]) (by simp [results,Tryz.results239,go_sem,gsv,gs0,y0,y1,y2,y3,y4]) rfl ?_;rw [HE.out];exact⟨rfl,((((hw0.setCell hx _).setCell hx _).setCell hx _).setCell hx _).setCell hx _⟩
  }
  (try dsimp only [aG] at x2);rw [zu] at x2
  have HE:=hide (E0 z1 zu);have HSt:=hide (HS.out (zen z1).1 _ hw0);rw [z1];clear z1 E1 E0 HS E7 zu;have x0:=zaa b0.out 0 _ rfl;have x1:=zaa b0.out 1 _ rfl;go_wp2_with fail;refine(zae HSt).mono ?_;rintro e w2 ⟨rfl,hb⟩;replace b1:=hide (zab b1.out hb);replace hw0:=bT hw0 hb;clear hb HSt x0 x1 x2;obtain ⟨y0,y1,y2,y3,y4⟩:=cl5 b1.out;obtain ⟨f0,f1,f2,f3,f4⟩:=fr5 b1.out;generalize gOf g.ws=s at *;unfold gsv;go_wp2_with fail;refine bodyPost_ret (v:=.tuple #[gsv s,.int .i64 0]) (by simp [results,Tryz.results239,go_sem,gsv,y0,y1,y2,y3,y4]) rfl ?_;rw [HE.out];exact⟨rfl,((((hw0.setCell hx _).setCell hx _).setCell hx _).setCell hx _).setCell hx _⟩
end
section
open Go.RowKit
attribute [local go_sem ↓] Go.wp_at_zero Go.wp_at_succ
theorem zpo (b1:Nat) (s:Int) (a:Option Addr) (n c:Nat) (ws:List Int) (fuel:Int) (w:World) (hc1:w.cell? ⟨b1,0,none⟩=some (.int .i64 s)) (h:BW w a n c ws):
    Calls Tryz.prog 322 #[.agg #[.slice a n c,.int .i64 fuel],.pointer (some ⟨b1,0,none⟩)] w (zbf w (clrS ws fuel s)):=by
  have HE:=hide (fun W (hW:Below w.heap.size w W)=>clear_any a n c ws fuel s W (h.below hW).at_ h.len h.max h.cap);have hw:Below w.heap.size w ((w.alloc (.cells #[.slice a n c,.int .i64 fuel] 28)).alloc (.cells #[.slice none 0 0,.int .i64 0] 28)):=
    bA2
  have b1: ((w.alloc (.cells #[.slice a n c,.int .i64 fuel] 28)).alloc (.cells #[.slice none 0 0,.int .i64 0] 28)).heap[w.heap.size+1]?=some (.cells #[.slice none 0 0,.int .i64 0] 28 (0,0)):=
    zau _ _ _
  have k1:=(hw.cell (zah hc1)).trans hc1;have B1:=hide b1;clear b1 h;go_enter Tryz.func322,Tryz.ntmps322;go_wp2_with fail;generalize (w.alloc (.cells #[.slice a n c,.int .i64 fuel] 28)).alloc (.cells #[.slice none 0 0,.int .i64 0] 28)=W at *;refine(zae HE _ hw).mono ?_;rintro e w1 ⟨⟨a1,n1,c1,rfl,hi1,hn1,hc1,hf1⟩,hb1⟩;have q0:=zaa (zab B1.out hb1) 0 _ rfl;have q1:=zaa (zab B1.out hb1) 1 _ rfl;have q2:=zad (zab B1.out hb1) 0;have q3:=zad (zab B1.out hb1) 1;have ltB:=zak B1.out;have hw1:=bT hw hb1;have HN1:=hide hn1;clear hn1;generalize clrS ws fuel s=R at *;go_wp2_with fail;refine bodyPost_ret (v:=.tuple #[.agg #[.slice a1 n1 c1,.int .i64 R.2.1],.int .i64 R.2.2]) (by simp [results,Tryz.results322,go_sem,q0,q1]) rfl ?_;exact⟨⟨a1,n1,c1,rfl,(hi1.other hf1 ltB 0 _).other hf1 ltB 1 _,HN1.out,hc1,zal.mono hf1 hw.size⟩,(hw1.setCell (by show w.heap.size≤w.heap.size+1;omega) _).setCell (by show w.heap.size≤w.heap.size+1;omega) _⟩
theorem zpw (b1 b2 b3:Nat) (s p:Int) (a2:Option Addr) (n2 c2:Nat) (words:List Int) (a:Option Addr) (n c:Nat) (ws:List Int) (fuel:Int) (w:World) (hc1:w.cell? ⟨b1,0,none⟩=some (.int .i64 s)) (hc2:w.cell? ⟨b2,0,none⟩=some (.int .i64 p)) (hc3:w.cell? ⟨b3,0,none⟩=some (.slice a2 n2 c2)) (h2:BI w a2 n2 words) (h:BW w a n c ws):
    Calls Tryz.prog 253 #[.agg #[.slice a n c,.int .i64 fuel],.pointer (some ⟨b1,0,none⟩),.pointer (some ⟨b2,0,none⟩),.pointer (some ⟨b3,0,none⟩)] w (zbf w (fillS ws fuel s p words)):=by
  have HE:=hide (fun W (hW:Below w.heap.size w W)=>fill_any a n c ws fuel s p a2 n2 c2 words W (h.below hW).at_ h.len h.max (h2.below hW).at_ h2.len h2.max);have hw:Below w.heap.size w ((w.alloc (.cells #[.slice a n c,.int .i64 fuel] 28)).alloc (.cells #[.slice none 0 0,.int .i64 0] 28)):=
    bA2
  have b1: ((w.alloc (.cells #[.slice a n c,.int .i64 fuel] 28)).alloc (.cells #[.slice none 0 0,.int .i64 0] 28)).heap[w.heap.size+1]?=some (.cells #[.slice none 0 0,.int .i64 0] 28 (0,0)):=
    zau _ _ _
  have k1:=(hw.cell (zah hc1)).trans hc1;have k2:=(hw.cell (zah hc2)).trans hc2;have k3:=(hw.cell (zah hc3)).trans hc3;have B1:=hide b1;clear b1 h h2;go_enter Tryz.func253,Tryz.ntmps253;go_wp2_with fail;generalize (w.alloc (.cells #[.slice a n c,.int .i64 fuel] 28)).alloc (.cells #[.slice none 0 0,.int .i64 0] 28)=W at *;refine(zae HE _ hw).mono ?_;rintro e w1 ⟨⟨a1,n1,c1,rfl,hi1,hn1,hc1,hf1⟩,hb1⟩;have q0:=zaa (zab B1.out hb1) 0 _ rfl;have q1:=zaa (zab B1.out hb1) 1 _ rfl;have q2:=zad (zab B1.out hb1) 0;have q3:=zad (zab B1.out hb1) 1;have ltB:=zak B1.out;have hw1:=bT hw hb1;have HN1:=hide hn1;clear hn1;generalize fillS ws fuel s p words=R at *;go_wp2_with fail;refine bodyPost_ret (v:=.tuple #[.agg #[.slice a1 n1 c1,.int .i64 R.2.1],.int .i64 R.2.2]) (by simp [results,Tryz.results253,go_sem,q0,q1]) rfl ?_;exact⟨⟨a1,n1,c1,rfl,(hi1.other hf1 ltB 0 _).other hf1 ltB 1 _,HN1.out,hc1,zal.mono hf1 hw.size⟩,(hw1.setCell (by show w.heap.size≤w.heap.size+1;omega) _).setCell (by show w.heap.size≤w.heap.size+1;omega) _⟩
theorem zpv (b1 b2 b3:Nat) (s long name:Int) (a:Option Addr) (n c:Nat) (ws:List Int) (fuel:Int) (w:World) (hc1:w.cell? ⟨b1,0,none⟩=some (.int .i64 s)) (hc2:w.cell? ⟨b2,0,none⟩=some (.int .i64 long)) (hc3:w.cell? ⟨b3,0,none⟩=some (.int .i64 name)) (h:BW w a n c ws):
    Calls Tryz.prog 255 #[.agg #[.slice a n c,.int .i64 fuel],.pointer (some ⟨b1,0,none⟩),.pointer (some ⟨b2,0,none⟩),.pointer (some ⟨b3,0,none⟩)] w (zbf w (sealS ws fuel s long name)):=by
  have HE:=hide (fun W (hW:Below w.heap.size w W)=>seal_any a n c ws fuel s long name W (h.below hW).at_ h.len h.max);have hw:Below w.heap.size w ((w.alloc (.cells #[.slice a n c,.int .i64 fuel] 28)).alloc (.cells #[.slice none 0 0,.int .i64 0] 28)):=
    bA2
  have b1: ((w.alloc (.cells #[.slice a n c,.int .i64 fuel] 28)).alloc (.cells #[.slice none 0 0,.int .i64 0] 28)).heap[w.heap.size+1]?=some (.cells #[.slice none 0 0,.int .i64 0] 28 (0,0)):=
    zau _ _ _
  have k1:=(hw.cell (zah hc1)).trans hc1;have k2:=(hw.cell (zah hc2)).trans hc2;have k3:=(hw.cell (zah hc3)).trans hc3;have B1:=hide b1;clear b1 h;go_enter Tryz.func255,Tryz.ntmps255;go_wp2_with fail;generalize (w.alloc (.cells #[.slice a n c,.int .i64 fuel] 28)).alloc (.cells #[.slice none 0 0,.int .i64 0] 28)=W at *;refine(zae HE _ hw).mono ?_;rintro e w1 ⟨⟨a1,n1,c1,rfl,hi1,hn1,hc1,hf1⟩,hb1⟩;have q0:=zaa (zab B1.out hb1) 0 _ rfl;have q1:=zaa (zab B1.out hb1) 1 _ rfl;have q2:=zad (zab B1.out hb1) 0;have q3:=zad (zab B1.out hb1) 1;have ltB:=zak B1.out;have hw1:=bT hw hb1;have HN1:=hide hn1;clear hn1;generalize sealS ws fuel s long name=R at *;go_wp2_with fail;refine bodyPost_ret (v:=.tuple #[.agg #[.slice a1 n1 c1,.int .i64 R.2.1],.int .i64 R.2.2]) (by simp [results,Tryz.results255,go_sem,q0,q1]) rfl ?_;exact⟨⟨a1,n1,c1,rfl,(hi1.other hf1 ltB 0 _).other hf1 ltB 1 _,HN1.out,hc1,zal.mono hf1 hw.size⟩,(hw1.setCell (by show w.heap.size≤w.heap.size+1;omega) _).setCell (by show w.heap.size≤w.heap.size+1;omega) _⟩
theorem zo2 (b1 b2:Nat) (ar:Option Addr) (nr cr:Nat) (r:List Int) (ak:Option Addr) (nk ck:Nat) (keep:List (List Int)) (a:Option Addr) (n c:Nat) (ws:List Int) (fuel:Int) (w:World) (hc1:w.cell? ⟨b1,0,none⟩=some (.slice ar nr cr)) (hc2:w.cell? ⟨b2,0,none⟩=some (.slice ak nk ck)) (hr:BI w ar nr r) (hk:zck w ak keep) (hnk:keep.length=nk) (hmk:nk≤maxLen) (h:BW w a n c ws):
    Calls Tryz.prog 257 #[.agg #[.slice a n c,.int .i64 fuel],.pointer (some ⟨b1,0,none⟩),.pointer (some ⟨b2,0,none⟩)] w (zbf w (appS ws fuel r keep)):=by
  have HE:=hide (fun W (hW:Below w.heap.size w W)=>zjp a n c ws fuel ar nr cr r ak nk ck keep W (h.below hW).at_ h.len h.cap h.max (hr.below hW).at_ hr.len hr.max (hk.below hW) hnk hmk);have hw:Below w.heap.size w ((w.alloc (.cells #[.slice a n c,.int .i64 fuel] 28)).alloc (.cells #[.slice none 0 0,.int .i64 0] 28)):=
    bA2
  have b1: ((w.alloc (.cells #[.slice a n c,.int .i64 fuel] 28)).alloc (.cells #[.slice none 0 0,.int .i64 0] 28)).heap[w.heap.size+1]?=some (.cells #[.slice none 0 0,.int .i64 0] 28 (0,0)):=
    zau _ _ _
  have k1:=(hw.cell (zah hc1)).trans hc1;have k2:=(hw.cell (zah hc2)).trans hc2;have B1:=hide b1;clear b1 h hr hnk;go_enter Tryz.func257,Tryz.ntmps257;go_wp2_with fail;generalize (w.alloc (.cells #[.slice a n c,.int .i64 fuel] 28)).alloc (.cells #[.slice none 0 0,.int .i64 0] 28)=W at *;refine(zae HE _ hw).mono ?_;rintro e w1 ⟨⟨a1,n1,c1,rfl,hi1,hn1,hc1,hf1⟩,hb1⟩;have q0:=zaa (zab B1.out hb1) 0 _ rfl;have q1:=zaa (zab B1.out hb1) 1 _ rfl;have q2:=zad (zab B1.out hb1) 0;have q3:=zad (zab B1.out hb1) 1;have ltB:=zak B1.out;have hw1:=bT hw hb1;have HN1:=hide hn1;clear hn1;generalize appS ws fuel r keep=R at *;go_wp2_with fail;refine bodyPost_ret (v:=.tuple #[.agg #[.slice a1 n1 c1,.int .i64 R.2.1],.int .i64 R.2.2]) (by simp [results,Tryz.results257,go_sem,q0,q1]) rfl ?_;exact⟨⟨a1,n1,c1,rfl,(hi1.other hf1 ltB 0 _).other hf1 ltB 1 _,HN1.out,hc1,zal.mono hf1 hw.size⟩,(hw1.setCell (by show w.heap.size≤w.heap.size+1;omega) _).setCell (by show w.heap.size≤w.heap.size+1;omega) _⟩
def IsSt0 (w:World) (v:Value):Stu→Prop
  | .inl (.inl _)=>v=.func (.func 137) #[] #[]
  | .inl (.inr s)=>∃b1,v=.func (.func 322) #[] #[.pointer (some ⟨b1,0,none⟩)]∧w.cell? ⟨b1,0,none⟩=some (.int .i64 s)
  | .inr (.inl (s,p,words))=>∃b1 b2 b3 a2 n2 c2,v=.func (.func 253) #[] #[.pointer (some ⟨b1,0,none⟩),.pointer (some ⟨b2,0,none⟩),.pointer (some ⟨b3,0,none⟩)]∧w.cell? ⟨b1,0,none⟩=some (.int .i64 s)∧w.cell? ⟨b2,0,none⟩=some (.int .i64 p)∧w.cell? ⟨b3,0,none⟩=some (.slice a2 n2 c2)∧BI w a2 n2 words
  | .inr (.inr (.inl (s,l,nm)))=>∃b1 b2 b3,v=.func (.func 255) #[] #[.pointer (some ⟨b1,0,none⟩),.pointer (some ⟨b2,0,none⟩),.pointer (some ⟨b3,0,none⟩)]∧w.cell? ⟨b1,0,none⟩=some (.int .i64 s)∧w.cell? ⟨b2,0,none⟩=some (.int .i64 l)∧w.cell? ⟨b3,0,none⟩=some (.int .i64 nm)
  | .inr (.inr (.inr (s,r)))=>∃b1 b2 ar nr cr ak nk ck,v=.func (.func 257) #[] #[.pointer (some ⟨b1,0,none⟩),.pointer (some ⟨b2,0,none⟩)]∧w.cell? ⟨b1,0,none⟩=some (.slice ar nr cr)∧w.cell? ⟨b2,0,none⟩=some (.slice ak nk ck)∧BI w ar nr r∧zck w ak (keepU s)∧(keepU s).length=nk∧nk≤maxLen
def IsStu (w:World) (B:Nat) (v:Value) (st:Stu):Prop:=∀w' :World,w.grownBy w' (some B)→IsSt0 w' v st
theorem IsStu.turns {w w' :World} {B:Nat} {v:Value} {st:Stu} (h:IsStu w B v st) (hg:w.grownBy w' (some B)):IsStu w' B v st:=fun w2 h2=>h w2 (hg.trans h2)
def CapsOf (v:Value) (fn:Nat) (caps:Array Value):Prop:=v=.func (.func fn) #[] caps∧
  ((fn=137∧caps=#[])∨(fn=322∧∃p,caps=#[p])∨(fn=253∧∃p q r,caps=#[p,q,r])∨(fn=255∧∃p q r,caps=#[p,q,r])∨(fn=257∧∃p q,caps=#[p,q]))
theorem step_any (v:Value) (st:Stu) (a:Option Addr) (n c:Nat) (ws:List Int) (fuel:Int) (w:World) (hs:IsSt0 w v st) (h:BW w a n c ws):
    ∃fn caps,CapsOf v fn caps∧Calls Tryz.prog fn (#[.agg #[.slice a n c,.int .i64 fuel]]++caps) w (zbf w (doT st ws fuel)):=by
  rcases st with (_|s)| (⟨s,p,words⟩| (⟨s,l,nm⟩| ⟨s,r⟩))
  { exact⟨_,_,⟨hs,.inl ⟨rfl,rfl⟩⟩,zju a n c ws fuel w h.at_ h.len h.max⟩ }
  {
  obtain ⟨b1,hv,h1⟩:=hs;exact⟨_,_,⟨hv,.inr (.inl ⟨rfl,_,rfl⟩)⟩,zpo b1 s a n c ws fuel w h1 h⟩
  }
  {
  obtain ⟨b1,b2,b3,a2,n2,c2,hv,h1,h2,h3,h4⟩:=hs;exact⟨_,_,⟨hv,.inr (.inr (.inl ⟨rfl,_,_,_,rfl⟩))⟩,zpw b1 b2 b3 s p a2 n2 c2 words a n c ws fuel w h1 h2 h3 h4 h⟩
  }
  {
  obtain ⟨b1,b2,b3,hv,h1,h2,h3⟩:=hs;exact⟨_,_,⟨hv,.inr (.inr (.inr (.inl ⟨rfl,_,_,_,rfl⟩)))⟩,zpv b1 b2 b3 s l nm a n c ws fuel w h1 h2 h3 h⟩
  }
  {
  obtain ⟨b1,b2,ar,nr,cr,ak,nk,ck,hv,h1,h2,h3,h4,h5,h6⟩:=hs;exact⟨_,_,⟨hv,.inr (.inr (.inr (.inr ⟨rfl,_,_,rfl⟩)))⟩,zo2 b1 b2 ar nr cr r ak nk ck (keepU s) a n c ws fuel w h1 h2 h3 h4 h5 h6 h⟩
  }
theorem zho (ws:List Int) (fuel p:Int) (words:List Int): (progS ws fuel p words).1.length≤ws.length:=by
  unfold progS
  split
  { simp }
  {
  split
  { simp }
  {
  split
  { simp }
  { rw [zbw];exact Nat.le_refl _ }
  }
  }
theorem doS_le (st:Stp) (ws:List Int) (f:Int): (doS st ws f).1.length≤ws.length:=by
  cases st with
  |inl s=>exact zni _ _ _
  |inr q=>obtain ⟨p,words⟩:=q;exact zho _ _ _ _
theorem zi4 (sts:List Stp): ∀(ws:List Int) (f:Int),(turnS sts ws f).1.length≤ws.length:=by
  induction sts with
  |nil=>intro ws f;exact Nat.le_refl _
  |cons st r ih=>
    intro ws f
    by_cases h: (doS st ws f).2.2=0
    { rw [zjb h];exact Nat.le_trans (ih _ _) (doS_le _ _ _) }
    { rw [zgx h];exact doS_le _ _ _ }
theorem doT_le (st:Stu) (ws:List Int) (f:Int): (doT st ws f).1.length≤ws.length:=by
  rcases st with (_|s)| (⟨s,p,words⟩| (⟨s,l,nm⟩| ⟨s,r⟩))
  {
  show(fmtS ws f).1.length≤_
  unfold fmtS
  split
  { simp }
  { exact zi4 _ _ _ }
  }
  {
  show(clrS ws f s).1.length≤_
  unfold clrS
  split
  { simp }
  { exact zmc _ _ _ _ }
  }
  {
  show(fillS ws f s p words).1.length≤_
  unfold fillS
  split
  { simp }
  {
  split
  { simp }
  { exact zho _ _ _ _ }
  }
  }
  {
  show(sealS ws f s l nm).1.length≤_
  unfold sealS
  split
  { simp }
  {
  split
  { simp }
  { exact zho _ _ _ _ }
  }
  }
  {
  show(appS ws f r (keepU s)).1.length≤_
  unfold appS
  split
  { simp }
  {
  exact zi4 _ _ _
  }
  }
end
end Go.Proofs.YthmekfcgdfckaaaGreatDoor
