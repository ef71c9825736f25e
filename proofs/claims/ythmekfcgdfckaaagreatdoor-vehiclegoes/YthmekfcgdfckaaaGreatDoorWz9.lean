/- Facts. -/
import Derived.Test.YthmekfcgdfckaaaGreatDoorWz6
set_option maxRecDepth 1000000
set_option maxHeartbeats 0
namespace Go.Proofs.YthmekfcgdfckaaaGreatDoor
open Go.RowKit
variable {rs:LL} {r:LI} {g:Gt}
section
attribute [local go_sem ↓] kM kO
theorem RecM.turnsG {w w' :World} {a:oA} {S:Nat} {cs:Array Value} (h:RecM w a rs) (hS:w.heap[S]?=some (.cells cs 72 (0,0))) (hg:w.grownBy w' (some S)):RecM w' a rs:=by
 rcases h with h| ⟨b,cur,rfl,hb,hr⟩
 { exact .inl h }
 {
 have hne: ∀(g:Nat) (cs' :Array Value) (t:TypeId),w.heap[g]?=some (.cells cs' t (0,0))->t≠72->g≠S:=by
  rintro g cs' t h1 h2 rfl;rw [hS] at h1
  simp at h1
  exact h2 h1.2.symm
 refine .inr ⟨b,cur,rfl,zar hb hg (hne _ _ _ hb (by decide)),fun i r hi=> ?_⟩;obtain ⟨g,c,h1,⟨cu,h2,h3⟩,h4⟩:=hr i r hi;exact⟨g,c,h1,⟨cu,zar h2 hg (hne _ _ _ h2 (by decide)),h3⟩,h4⟩ }
theorem gR_step {k:Nat} (hk:k<rs.length):gR (rs.take (k+1))=gNext (gR (rs.take k)) rs[k]:=by
 unfold gR;rw [kl hk,List.foldl_append];rfl
theorem gNext_1 {s:Gs} (h:isBeg r=true):gNext s r= ⟨r.getD 1 0,r.getD 2 0,false,false,false⟩:=by unfold gNext;rw [KK h]
theorem gNext_2 {s:Gs} (h:isBeg r=false) (h2:isOf s r=true):gNext s r=trnG s (r.getD 0 0):=by unfold gNext;rw [KJ (by rw [h];decide),KK h2]
theorem gNext_0 {s:Gs} (h:isBeg r=false) (h2:isOf s r=false):gNext s r=s:=by unfold gNext;rw [KJ (by rw [h];decide),KJ (by rw [h2];decide)]
structure SG (W:World) (B:Nat) (s:Gs):Prop where
 b1:W.heap[B+1]?=some (gsO gs0)
 b2:W.heap[B+1+1]?=some (gsO s)
theorem gs_set5 {W:World} {b:Nat} {s t:Gs} (h:W.heap[b]?=some (gsO s)): (((((W.setCell ⟨b,0,none⟩ (iV t.n)).setCell ⟨b,1,none⟩ (iV t.v)).setCell ⟨b,2,none⟩ (.bool t.co)).setCell ⟨b,3,none⟩ (.bool t.ab)).setCell ⟨b,4,none⟩ (.bool t.en)).heap[b]?=some (gsO t):=by
 unfold gsO at h|-;simp only [World.setCell,KP]
 simp [h]
theorem zg0 (w:World) (B:Nat) (v0 v1 v2 v3 v4:Value):w.grownBy (((((w.setCell ⟨B,0,none⟩ v0).setCell ⟨B,1,none⟩ v1).setCell ⟨B,2,none⟩ v2).setCell ⟨B,3,none⟩ v3).setCell ⟨B,4,none⟩ v4) (some B):=
 zac (zac (zac (zac (zac (kf _ _) 0 v0) 1 v1) 2 v2) 3 v3) 4 v4
theorem zfu (a:oA) (n c:Nat) (ws:LI) (fuel:Int) (w:World) (h:BW w a n c ws) (e1:lchk ws fuel=0):
 Cq 105 #[.agg #[.slice a n c,iV fuel]] w fun e w' =>e=.returned (gsv (gOf ws))/\bZ w w' :=by
 have hw0:bZ w (((w.alloc (.cells #[.slice a n c,iV fuel] 28)).alloc (gsO gs0)).alloc (gsO gs0)):=(bA2).alloc (by simp;omega) _;have b0:Hd ((((w.alloc (.cells #[.slice a n c,iV fuel] 28)).alloc (gsO gs0)).alloc (gsO gs0)).heap[w.heap.size]?=some (.cells #[.slice a n c,iV fuel] 28 (0,0))):=zai (zai (kP _ _) _) _;have sb:Hd (SG (((w.alloc (.cells #[.slice a n c,iV fuel] 28)).alloc (gsO gs0)).alloc (gsO gs0)) w.heap.size gs0):=⟨zai (zau _ _ _) _,zb9 _ _ _ _⟩;have HR:=uH (fun W (hW:bZ w W)=>zh9 a n c ws fuel W (h.bl hW) e1);have hfew: (logR ws).length<=31:=zoq (by have:=zdm e1;omega);have HS:Hd (gOf ws=gR (logR ws)):=rfl;clear h e1;generalize logR ws=rs at *;have x0:=zaa b0.o 0 _ rfl;have x1:=zaa b0.o 1 _ rfl;unfold gsO gs0 at hw0 b0 sb x0 x1;go_enter Tryz.func105,Tryz.ntmps105;go_wp2_with fail;generalize ((w.alloc (.cells #[.slice a n c,iV fuel] 28)).alloc (.cells aX 72)).alloc (.cells aX 72)=W at *;refine(zae HR _ hw0).mono ?_;rintro e w1 ⟨⟨ar,cr,rfl,hrm,hlc,hcm⟩,hb⟩;replace sb:Hd (SG w1 w.heap.size gs0):=⟨zab sb.o.b1 hb,zab sb.o.b2 hb⟩;replace hw0:=bT hw0 hb;clear hb HR x0 x1 b0;obtain ⟨nr,hnr⟩: ∃nr,nr=rs.length:=⟨_,rfl⟩;rw [<-hnr] at hfew hlc|-;have LR:=uH hnr;have HM:=uH hrm;clear hnr hrm;go_wp2_with fail
 go_loopw [15] (fun i wr=>∃k:Nat,k<=nr/\i=iV k/\bZ w wr/\Hd (SG wr w.heap.size (gR (rs.take k)))/\Hd (RecM wr ar rs)) (fun i _=>nr - (intOf i).toNat)
 case atStart=>exact⟨0,KG _,rfl,hw0,by show SG _ _ _;simpa [gR] using sb.o,HM⟩
 case round=>
  clear hw0 sb HM;obtain ⟨wq,rfl⟩: ∃wq:World,wq=wr:=⟨_,rfl⟩;obtain ⟨k,hk,rfl,hw,sb,hm⟩:=hrel;generalize hst:gR (rs.take k)=st at *
  by_cases hlt:k<nr
  {
  have hkx:k<rs.length:=by rw [<-LR.o];exact hlt
  have HX:=uH (gR_step hkx);rw [hst] at HX
  rcases hm.o with e| ⟨b,cur,rfl,hb,hr⟩
  { rw [e] at hkx;simp at hkx }
  obtain ⟨g,cg,h1,h2,h3,h4⟩:=hr k rs[k] (kX hkx);have ec:=zaa hb k _ h1;have hcell:=fun i hi=>h2.cell i hi
  clear hst hr h1 hb;generalize rs[k]=r at *;obtain ⟨m,hmr⟩: ∃m,m=r.length:=⟨_,rfl⟩;rw [<-hmr] at ec h3;unfold maxLen at h4;have LM:=uH hmr;have S2:=uH sb.o.b2;have S1:=uH sb.o.b1;have N1:=uH (gNext_1 (s:=st) (r:=r));have N2:=uH (gNext_2 (s:=st) (r:=r));have N0:=uH (gNext_0 (s:=st) (r:=r));have C0:=uH (hcell 0);have C1:=uH (hcell 1);have C2:=uH (hcell 2);clear hmr hcell h2;have frame: ∀(w' :World) (s' :Gs),wq.grownBy w' (some (w.heap.size+1+1))->w'.heap[w.heap.size+1+1]?=some (gsO s')->bZ w w' /\SG w' w.heap.size s' /\RecM w' (some ⟨b,0,none⟩) rs:=by
   intro w' s' hg hb2;exact⟨zam hw hg (by omega) hw.size,⟨zar S1.o hg (by omega),hb2⟩,hm.o.turnsG (by unfold gsO at S2;exact S2.o) hg⟩
  have FR:=uH frame;clear frame;unfold gsO gs0 at S1;unfold gsO at S2;obtain ⟨s0,s1,s2,s3,s4⟩:=cl5 S2.o;obtain ⟨f0,f1,f2,f3,f4⟩:=fr5 S2.o
  by_cases z3:m=3
  {
  subst z3;have hl3:r.length=3:=LM.o.symm;have c0:=C0.o (by rw [hl3];decide);have c1:=C1.o (by rw [hl3];decide);have c2:=C2.o (by rw [hl3];decide);have hof:isOf st r=false:=by unfold isOf;rw [hl3];rfl
  by_cases y0:r.getD 0 0=1
  {
  cases y1:inB (r.getD 1 0) 1 8
  {
  have HN:=uH (HX.o.trans (N0.o (by unfold isBeg;rw [y1];simp) hof));rw [y0] at c0;clear N1 N2 N0 y0 hof hl3 C0 C1 C2;generalize r.getD 1 0=r1 at *;generalize r.getD 2 0=r2 at *;go_upto_region 8 with (go_at_call 135;refine(zbc _ _ _ _).mono ?_;rintro e w' ⟨rfl,rfl⟩)
  go_quiet (fail);go_wp2_with fail
  go_roundw
  case rel=>
   obtain ⟨q1,q2,q3⟩:=FR.o _ st (zaj (kA (kS _ _) nq) _) (zab (by unfold gsO;exact S2.o) (kA (kS _ _) nq));exact⟨k+1,by omega,by go_num,q1,by show SG _ _ _;rw [HN.o];exact q2,q3⟩
  case measure=>simp [intOf];omega }
  {
  have HN:=uH (HX.o.trans (N1.o (by unfold isBeg;rw [hl3,y0,y1];rfl)));rw [y0] at c0;clear N1 N2 N0 y0 hof hl3 C0 C1 C2;generalize r.getD 1 0=r1 at *;generalize r.getD 2 0=r2 at *;go_upto_region 7 with (go_at_call 135;refine(zbc _ _ _ _).mono ?_;rintro e w' ⟨rfl,rfl⟩)
  go_region
  go_wp2_with fail
  go_roundw
  case rel=>
   obtain ⟨q1,q2,q3⟩:=FR.o _ ⟨r1,r2,false,false,false⟩ ((zbv (kf _ _)).trans (zg0 _ _ _ _ _ _ _)) (gs_set5 (s:=st) (t:=⟨r1,r2,false,false,false⟩) (by unfold gsO;exact zfn S2.o));exact⟨k+1,by omega,by go_num,q1,by show SG _ _ _;rw [HN.o];exact q2,q3⟩
  case measure=>simp [intOf];omega } }
  {
  have HN:=uH (HX.o.trans (N0.o (by unfold isBeg;rw [decide_eq_false y0];simp) hof));have d0: (r.getD 0 0==1)=false:=by simpa using y0
  clear N1 N2 N0 y0 hof hl3 C0 C1 C2;generalize r.getD 0 0=r0 at *;go_upto_region 8 with (go_at_call 135;refine(zbc _ _ _ _).mono ?_;rintro e w' ⟨rfl,rfl⟩)
  go_quiet (fail);go_wp2_with fail
  go_roundw
  case rel=>
   obtain ⟨q1,q2,q3⟩:=FR.o _ st (zaj (kA (kS _ _) nq) _) (zab (by unfold gsO;exact S2.o) (kA (kS _ _) nq));exact⟨k+1,by omega,by go_num,q1,by show SG _ _ _;rw [HN.o];exact q2,q3⟩
  case measure=>simp [intOf];omega } }
  have d3: ((m:Int)==3)=false:=by simp;omega
  have hbeg:isBeg r=false:=by unfold isBeg;rw [<-LM.o];simp [z3]
  by_cases z2:m=2
  rotate_left
  {
  have d2: ((m:Int)==2)=false:=by simp;omega
  have HN:=uH (HX.o.trans (N0.o hbeg (by unfold isOf;rw [<-LM.o];simp [z2])));clear N1 N2 N0 C0 C1 C2 z2 z3 hbeg;go_upto_region 8 with (go_at_call 135;refine(zbc _ _ _ _).mono ?_;rintro e w' ⟨rfl,rfl⟩)
  go_quiet (fail);go_wp2_with fail
  go_roundw
  case rel=>
   obtain ⟨q1,q2,q3⟩:=FR.o _ st (zaj (kA (kS _ _) nq) _) (zab (by unfold gsO;exact S2.o) (kA (kS _ _) nq));exact⟨k+1,by omega,by go_num,q1,by show SG _ _ _;rw [HN.o];exact q2,q3⟩
  case measure=>simp [intOf];omega }
  subst z2;have hl2:r.length=2:=LM.o.symm;have c0:=C0.o (by rw [hl2];decide);have c1:=C1.o (by rw [hl2];decide);clear d3 z3
  by_cases y0:st.n=0
  {
  have HN:=uH (HX.o.trans (N0.o hbeg (by unfold isOf;simp [y0])));have e0: (st.n !=0)=false:=by simpa using y0
  clear N1 N2 N0 C0 C1 C2 hbeg y0 hl2;go_upto_region 8 with (go_at_call 135;refine(zbc _ _ _ _).mono ?_;rintro e w' ⟨rfl,rfl⟩)
  go_quiet (fail);go_wp2_with fail
  go_roundw
  case rel=>
   obtain ⟨q1,q2,q3⟩:=FR.o _ st (zaj (kA (kS _ _) nq) _) (zab (by unfold gsO;exact S2.o) (kA (kS _ _) nq));exact⟨k+1,by omega,by go_num,q1,by show SG _ _ _;rw [HN.o];exact q2,q3⟩
  case measure=>simp [intOf];omega }
  have e0: (st.n !=0)=true:=by simpa using y0
  by_cases y1:r.getD 1 0=st.n
  rotate_left
  {
  have HN:=uH (HX.o.trans (N0.o hbeg (by unfold isOf;rw [decide_eq_false y1];simp)));have e1: (r.getD 1 0==st.n)=false:=by simpa using y1
  clear N1 N2 N0 C0 C1 C2 hbeg y0 y1 hl2;generalize r.getD 1 0=r1 at *;go_upto_region 8 with (go_at_call 135;refine(zbc _ _ _ _).mono ?_;rintro e w' ⟨rfl,rfl⟩)
  go_quiet (fail);go_wp2_with fail
  go_roundw
  case rel=>
   obtain ⟨q1,q2,q3⟩:=FR.o _ st (zaj (kA (kS _ _) nq) _) (zab (by unfold gsO;exact S2.o) (kA (kS _ _) nq));exact⟨k+1,by omega,by go_num,q1,by show SG _ _ _;rw [HN.o];exact q2,q3⟩
  case measure=>simp [intOf];omega }
  have e1: (r.getD 1 0==st.n)=true:=by simpa using y1
  have HN:=uH (HX.o.trans (N2.o hbeg (by unfold isOf;rw [hl2,decide_eq_true (p:=st.n≠0) y0,decide_eq_true y1];rfl)));have HT:=uH (fun W=>zp9 st (r.getD 0 0) W);unfold gsv at HT;clear N1 N2 N0 C0 C1 C2 hbeg y0 y1 hl2;generalize trnG st (r.getD 0 0)=tt at *;generalize r.getD 0 0=r0 at *;generalize r.getD 1 0=r1 at *;go_upto_region 8 with (go_at_call 135;refine(zbc _ _ _ _).mono ?_;rintro e w' ⟨rfl,rfl⟩)
  go_quiet (fail);go_upto_region 9 with fail
  have hbq:bZ wq (wq.drewN nq):=kA (kS _ _) nq;have ltS:=zak S2.o;generalize hWq:wq.drewN nq=W2 at *;clear hWq;have X2:=uH (zab S2.o hbq);have cg0:=(hbq.cell (zah c0)).trans c0;obtain ⟨x0,x1,x2,x3,x4⟩:=cl5 X2.o;clear s0 s1 s2 s3 s4 f0 f1 f2 f3 f4 c0 c1 ec e0 e1
  go_region_with ((go_at_call 172;refine(zae HT _).mono ?_;rintro e w6 ⟨rfl,hb6⟩;have hk6:bZ W2 w6:=(kS _ W2).drew.trans (hb6.mono (kQ _));have X6:=uH (zab X2.o hk6);have t0:=zaa X6.o 0 _ rfl;have q0:=zad X6.o 0;have t1:=zaa X6.o 1 _ rfl;have q1:=zad X6.o 1;have t2:=zaa X6.o 2 _ rfl;have q2:=zad X6.o 2;have t3:=zaa X6.o 3 _ rfl;have q3:=zad X6.o 3;have t4:=zaa X6.o 4 _ rfl;have q4:=zad X6.o 4))
  all_goals
   go_wp2_with fail
   go_roundw
   case rel=>
    obtain ⟨q1,q2,q3⟩:=FR.o _ tt ((zaj (bT hbq hk6) _).trans (zg0 _ _ _ _ _ _ _)) (gs_set5 (s:=st) (t:=tt) (by unfold gsO;exact X6.o));exact⟨k+1,by omega,by go_num,q1,by show SG _ _ _;rw [HN.o];exact q2,q3⟩
   case measure=>simp [intOf];omega }
  {
  have hx:gR rs=st:=by rw [<-hst,kh (by rw [<-LR.o];omega)]
  have HE:=uH (HS.o.trans hx);have S2:=uH sb.o.b2;have S1:=uH sb.o.b1;unfold gsO gs0 at S1;unfold gsO at S2;obtain ⟨s0,s1,s2,s3,s4⟩:=cl5 S2.o;obtain ⟨y0,y1,y2,y3,y4⟩:=cl5 S1.o;obtain ⟨f0,f1,f2,f3,f4⟩:=fr5 S1.o;clear hx hst;go_wp2_with fail;refine kT (v:=gsv st) (by simp [results,Tryz.results105,go_sem,gsv,y0,y1,y2,y3,y4]) rfl ?_;rw [HE.o];exact⟨rfl,zam hw (zg0 _ _ _ _ _ _ _) (by omega) hw.size⟩ }
end
section
attribute [local go_sem ↓] kM kO
theorem gReadS_e (h:gtE g≠0):zc3 g= (gs0,gtE g):=by unfold zc3;rw [KK h]
theorem zt2 (h:gtE g=0):zc3 g= (gOf g.ws,0):=by unfold zc3;rw [KJ (by simpa using h)]
def gUpS (g:Gt):Gs×Int:=if upE g≠0 then(gs0,upE g) else(gOf g.ws,0)
theorem upE_e (h:gtE g≠0):upE g=gtE g:=by unfold upE;rw [KK h]
theorem upE_7 (h:gtE g=0) (h2:g.up=false):upE g=7:=by unfold upE;rw [KJ (by simpa using h),KJ (by rw [h2];decide)]
theorem upE_0 (h:gtE g=0) (h2:g.up=true):upE g=0:=by unfold upE;rw [KJ (by simpa using h),KK h2]
theorem gUpS_e (h:gtE g≠0):gUpS g= (gs0,gtE g):=by unfold gUpS;rw [upE_e h,KK h]
theorem gUpS_7 (h:gtE g=0) (h2:g.up=false):gUpS g= (gs0,7):=by unfold gUpS;rw [upE_7 h h2,KK (by decide)]
theorem gUpS_0 (h:gtE g=0) (h2:g.up=true):gUpS g= (gOf g.ws,0):=by unfold gUpS;rw [upE_0 h h2,KJ (by decide)]
theorem zh0 (g:Gt) (m:GA) (w:World) (h:GIn w m g):
 Cq 25 #[gtv g m] w fun e w' =>e=.returned (.tuple #[gsv (zc3 g).1,iV (zc3 g).2])/\bZ w w' :=by
 have E1:=fun h=>gReadS_e (g:=g) h
 have E0:=fun h=>zt2 (g:=g) h
 have hw0:bZ w ((w.alloc (.cells (aG m g) 35)).alloc (.cells aX 72)):=bA2;have b0:Hd (((w.alloc (.cells (aG m g) 35)).alloc (.cells aX 72)).heap[w.heap.size]?=some (.cells (aG m g) 35 (0,0))):=zai (kP _ _) _;have b1:Hd (((w.alloc (.cells (aG m g) 35)).alloc (.cells aX 72)).heap[w.heap.size+1]?=some (.cells aX 72 (0,0))):=zau _ _ _;have HC:=uH (fun W (hW:bZ w W)=>zca g m W (h.bl hW));have HS:=uH (fun (e1:lchk g.ws g.fu=0) W (hW:bZ w W)=>zfu m.a m.n m.c g.ws g.fu W (h.ws.bl hW) e1);have hx:w.heap.size<=w.heap.size+1:=by omega
 unfold gtv at *;clear h;go_enter Tryz.func25,Tryz.ntmps25;go_wp2_with fail;generalize ((w.alloc (.cells (aG m g) 35)).alloc (.cells aX 72))=W at *;refine(zae HC _ hw0).mono ?_;rintro e w1 ⟨rfl,hb⟩;replace b0:=uH (zab b0.o hb);replace b1:=uH (zab b1.o hb);replace hw0:=bT hw0 hb;clear hb HC
 by_cases z1:gtE g=0
 rotate_left
 {
 have HE:=uH (E1 z1);have d1: (gtE g !=0)=true:=by simpa using z1
 obtain ⟨y0,y1,y2,y3,y4⟩:=cl5 b1.o;obtain ⟨f0,f1,f2,f3,f4⟩:=fr5 b1.o;clear z1 E1 E0;generalize gtE g=q at *;go_wp2_with fail;refine kT (v:=.tuple #[gsv gs0,iV q]) (by simp [results,Tryz.results25,go_sem,gsv,gs0,y0,y1,y2,y3,y4]) rfl ?_;rw [HE.o];exact⟨rfl,((((hw0.setCell hx _).setCell hx _).setCell hx _).setCell hx _).setCell hx _⟩ }
 have HE:=uH (E0 z1);have HSt:=uH (HS.o (zen z1).1 _ hw0);rw [z1];clear z1 E1 E0 HS;have x0:=zaa b0.o 0 _ rfl;have x1:=zaa b0.o 1 _ rfl;go_wp2_with fail;refine(zae HSt).mono ?_;rintro e w2 ⟨rfl,hb⟩;replace b1:=uH (zab b1.o hb);replace hw0:=bT hw0 hb;clear hb HSt x0 x1;obtain ⟨y0,y1,y2,y3,y4⟩:=cl5 b1.o;obtain ⟨f0,f1,f2,f3,f4⟩:=fr5 b1.o;generalize gOf g.ws=s at *;unfold gsv;go_wp2_with fail;refine kT (v:=.tuple #[gsv s,iV 0]) (by simp [results,Tryz.results25,go_sem,gsv,y0,y1,y2,y3,y4]) rfl ?_;rw [HE.o];exact⟨rfl,((((hw0.setCell hx _).setCell hx _).setCell hx _).setCell hx _).setCell hx _⟩
theorem zf8 (g:Gt) (m:GA) (w:World) (h:GIn w m g):
 Cq 239 #[gtv g m] w fun e w' =>e=.returned (.tuple #[gsv (gUpS g).1,iV (gUpS g).2])/\bZ w w' :=by
 have E1:=fun h=>gUpS_e (g:=g) h
 have E7:=fun h h2=>gUpS_7 (g:=g) h h2
 have E0:=fun h h2=>gUpS_0 (g:=g) h h2
 have hw0:bZ w ((w.alloc (.cells (aG m g) 35)).alloc (.cells aX 72)):=bA2;have b0:Hd (((w.alloc (.cells (aG m g) 35)).alloc (.cells aX 72)).heap[w.heap.size]?=some (.cells (aG m g) 35 (0,0))):=zai (kP _ _) _;have b1:Hd (((w.alloc (.cells (aG m g) 35)).alloc (.cells aX 72)).heap[w.heap.size+1]?=some (.cells aX 72 (0,0))):=zau _ _ _;have HC:=uH (fun W (hW:bZ w W)=>zca g m W (h.bl hW));have HS:=uH (fun (e1:lchk g.ws g.fu=0) W (hW:bZ w W)=>zfu m.a m.n m.c g.ws g.fu W (h.ws.bl hW) e1);have hx:w.heap.size<=w.heap.size+1:=by omega
 unfold gtv at *;clear h;go_enter Tryz.func239,Tryz.ntmps239;go_wp2_with fail;generalize ((w.alloc (.cells (aG m g) 35)).alloc (.cells aX 72))=W at *;refine(zae HC _ hw0).mono ?_;rintro e w1 ⟨rfl,hb⟩;replace b0:=uH (zab b0.o hb);replace b1:=uH (zab b1.o hb);replace hw0:=bT hw0 hb;clear hb HC
 by_cases z1:gtE g=0
 rotate_left
 {
 have HE:=uH (E1 z1);have d1: (gtE g !=0)=true:=by simpa using z1
 obtain ⟨y0,y1,y2,y3,y4⟩:=cl5 b1.o;obtain ⟨f0,f1,f2,f3,f4⟩:=fr5 b1.o;clear z1 E1 E0 E7;generalize gtE g=q at *;go_wp2_with fail;refine kT (v:=.tuple #[gsv gs0,iV q]) (by simp [results,Tryz.results239,go_sem,gsv,gs0,y0,y1,y2,y3,y4]) rfl ?_;rw [HE.o];exact⟨rfl,((((hw0.setCell hx _).setCell hx _).setCell hx _).setCell hx _).setCell hx _⟩ }
 have x2:=zaa b0.o 2 _ rfl;cases zu:g.up
 {
 have HE:=uH (E7 z1 zu)
 (try dsimp only [aG] at x2);rw [zu] at x2
 rw [z1];obtain ⟨y0,y1,y2,y3,y4⟩:=cl5 b1.o;obtain ⟨f0,f1,f2,f3,f4⟩:=fr5 b1.o;clear z1 E1 E0 E7 zu;go_wp2_with fail;refine kT (v:=.tuple #[gsv gs0,iV 7]) (by simp [results,Tryz.results239,go_sem,gsv,gs0,y0,y1,y2,y3,y4]) rfl ?_;rw [HE.o];exact⟨rfl,((((hw0.setCell hx _).setCell hx _).setCell hx _).setCell hx _).setCell hx _⟩ }
 (try dsimp only [aG] at x2);rw [zu] at x2
 have HE:=uH (E0 z1 zu);have HSt:=uH (HS.o (zen z1).1 _ hw0);rw [z1];clear z1 E1 E0 HS E7 zu;have x0:=zaa b0.o 0 _ rfl;have x1:=zaa b0.o 1 _ rfl;go_wp2_with fail;refine(zae HSt).mono ?_;rintro e w2 ⟨rfl,hb⟩;replace b1:=uH (zab b1.o hb);replace hw0:=bT hw0 hb;clear hb HSt x0 x1 x2;obtain ⟨y0,y1,y2,y3,y4⟩:=cl5 b1.o;obtain ⟨f0,f1,f2,f3,f4⟩:=fr5 b1.o;generalize gOf g.ws=s at *;unfold gsv;go_wp2_with fail;refine kT (v:=.tuple #[gsv s,iV 0]) (by simp [results,Tryz.results239,go_sem,gsv,y0,y1,y2,y3,y4]) rfl ?_;rw [HE.o];exact⟨rfl,((((hw0.setCell hx _).setCell hx _).setCell hx _).setCell hx _).setCell hx _⟩
end
def Lk (xs ys:LI):Prop:=ys.length=xs.length\/ys= []
theorem Lk.refl (xs:LI):Lk xs xs:=.inl rfl
theorem Lk.nil (xs:LI):Lk xs []:=.inr rfl
theorem Lk.trans {xs ys zs:LI} (h:Lk xs ys) (h2:Lk ys zs):Lk xs zs:=by
 rcases h2 with h2|h2
 {
 rcases h with h|h
 { exact .inl (h2.trans h) }
 { subst h;exact .inr (kn h2) } }
 { exact .inr h2 }
theorem zje (ws:LI) (fuel p:Int) (words:LI):Lk ws (progS ws fuel p words).1:=by
 unfold progS
 split
 { exact Lk.nil _ }
 {
 split
 { exact Lk.nil _ }
 {
 split
 { exact Lk.nil _ }
 { exact .inl (zbw ..) } } }
theorem eraS_lk (ws:LI) (fuel s:Int):Lk ws (eraS ws fuel s).1:=by
 unfold eraS
 split
 { exact Lk.nil _ }
 {
 split
 { exact Lk.nil _ }
 { exact .inl (zbw ..) } }
theorem doS_lk (st:Stp) (ws:LI) (f:Int):Lk ws (doS st ws f).1:=by
 cases st with
 |inl s=>exact eraS_lk _ _ _
 |inr q=>obtain ⟨p,words⟩:=q;exact zje _ _ _ _
theorem zn6 (sts:List Stp): ∀(ws:LI) (f:Int),Lk ws (turnS sts ws f).1:=by
 induction sts with
 |nil=>intro ws f;exact Lk.refl _
 |cons st r ih=>
  intro ws f
  by_cases h: (doS st ws f).2.2=0
  { rw [zjb h];exact(doS_lk _ _ _).trans (ih _ _) }
  { rw [zgx h];exact doS_lk _ _ _ }
theorem clrAt_lk (ws:LI) (f s:Int) (k:Nat):Lk ws (clrAt ws f s k).1:=by
 induction k with
 |zero=>exact Lk.refl _
 |succ k ih=>
  show Lk ws (if _ then _ else _:LI×Int×Int).1
  split
  { exact ih }
  { exact ih.trans (eraS_lk _ _ _) }
theorem doT_lk (st:Stu) (ws:LI) (f:Int):Lk ws (doT st ws f).1:=by
 rcases st with (_|s)| (⟨s,p,words⟩| (⟨s,l,nm⟩| ⟨s,r⟩))
 {
 show Lk _ (fmtS ws f).1
 unfold fmtS
 split
 { exact Lk.nil _ }
 { exact zn6 _ _ _ } }
 {
 show Lk _ (clrS ws f s).1
 unfold clrS
 split
 { exact Lk.nil _ }
 { exact clrAt_lk _ _ _ _ } }
 {
 show Lk _ (fillS ws f s p words).1
 unfold fillS
 split
 { exact Lk.nil _ }
 {
 split
 { exact Lk.nil _ }
 { exact zje _ _ _ _ } } }
 {
 show Lk _ (sealS ws f s l nm).1
 unfold sealS
 split
 { exact Lk.nil _ }
 {
 split
 { exact Lk.nil _ }
 { exact zje _ _ _ _ } } }
 {
 show Lk _ (appS ws f r (keepU s)).1
 unfold appS
 split
 { exact Lk.nil _ }
 { exact zn6 _ _ _ } }
theorem zco (u:Un) (st:Stu):Lk u.ws (doV u st).1.ws:=by
 unfold doV doU
 split
 { exact doT_lk _ _ _ }
 {
 split
 { exact doT_lk _ _ _ }
 { exact Lk.refl _ } }
theorem zmj (u:Un) (s:Us) (m:Ms):Lk u.ws (zb8 u s m).1.ws:=by
 unfold zb8
 split
 {
 split
 { exact zco _ _ }
 { exact zco _ _ } }
 { exact Lk.refl _ }
theorem pieceB_lk (u:Un) (s:Us) (m:Ms):Lk u.ws (zcj u s m).ws:=by
 unfold zcj
 split
 {
 split
 { exact zco _ _ }
 { exact zco _ _ } }
 { exact Lk.refl _ }
theorem pieceS_lk (u:Un) (s:Us) (m:Ms):Lk u.ws (zda u s m).ws:=by
 unfold zda
 split
 { exact Lk.refl _ }
 {
 split
 { exact(zmj u s m).trans (pieceB_lk _ _ _) }
 { exact zmj u s m } }
theorem prepC_lk (u:Un) (s:Us) (m:Ms):Lk u.ws (prepC u s m).1.ws:=by
 unfold prepC
 split<;>exact zco _ _
theorem prepB_lk (u:Un) (s:Us) (m:Ms) (words:LI):Lk u.ws (prepB u s m words).1.ws:=by
 unfold prepB
 split
 {
 split
 { exact(zco u (.sea (oth s) m.at' m.im)).trans (prepC_lk (mind (doV u (.sea (oth s) m.at' m.im)).1 0 0) _ _) }
 { exact zco u (.sea (oth s) m.at' m.im) } }
 { exact zco _ _ }
theorem prepS_lk (ss:LB) (u:Un) (s:Us) (m:Ms):Lk u.ws (prepS ss u s m).1.ws:=by
 unfold prepS
 split
 { exact Lk.refl _ }
 {
 split
 { exact Lk.refl _ }
 {
 split
 { exact prepB_lk _ _ _ _ }
 { exact Lk.refl _ } } }
theorem comS_lk (u:Un) (s:Us) (m:Ms):Lk u.ws (comS u s m).1.ws:=by
 unfold comS
 split
 { exact Lk.refl _ }
 {
 split
 { exact Lk.refl _ }
 { split<;>exact zco _ _ } }
theorem aboB_lk (u:Un) (m:Ms):Lk u.ws (aboB u m).1.ws:=by
 unfold aboB
 show Lk u.ws (if _ then _ else _:Un).ws
 split<;>exact Lk.refl _
theorem aboS_lk (u:Un) (s:Us) (m:Ms):Lk u.ws (aboS u s m).1.ws:=by
 unfold aboS
 split
 { exact Lk.refl _ }
 {
 split
 {
 split
 { exact(zco u (.not s [3,m.n])).trans (aboB_lk _ _) }
 { exact zco _ _ } }
 { exact aboB_lk _ _ } }
theorem zod (ss:LB) (u:Un) (m:Ms):Lk u.ws (hearK ss u m).1.ws:=by
 unfold hearK
 split
 { exact pieceS_lk _ _ _ }
 {
 split
 { exact prepS_lk _ _ _ _ }
 {
 split
 { exact comS_lk _ _ _ }
 {
 split
 { exact aboS_lk _ _ _ }
 {
 exact Lk.refl _ } } } }
end Go.Proofs.YthmekfcgdfckaaaGreatDoor
