/- The contract of unit.change: steps, one behind the other, each one done, or the unit's power gone, or nothing done. -/
import Derived.Test.YthmekfcgdfckaaaGreatDoorWt11
set_option maxRecDepth 1000000
set_option maxHeartbeats 0
namespace Go.Proofs.YthmekfcgdfckaaaGreatDoor
variable {u:Un} {r:List Stu} {W:World} {b:Nat} {a:Option Addr}
section
open Go.RowKit
attribute [local go_sem ↓] Go.wp_at_zero Go.wp_at_succ
theorem doU_7 {r:List Int×Int×Int} (h:r.2.2=7):doU u r= (⟨r.1,r.2.1,false,0,0⟩,false):=by unfold doU;rw [if_pos h]
theorem doU_0 {r:List Int×Int×Int} (h:r.2.2=0):doU u r= (⟨r.1,r.2.1,u.up,u.n,u.hv⟩,true):=by unfold doU;rw [if_neg (by rw [h];decide),if_pos h]
theorem doU_e {r:List Int×Int×Int} (h7:r.2.2≠7) (h0:r.2.2≠0):doU u r= (u,false):=by unfold doU;rw [if_neg h7,if_neg h0]
theorem ziy {st:Stu} (h: (doV u st).2=true):turnU (st::r) u=turnU r (doV u st).1:=by show(if _ then _ else _)=_;rw [if_pos h]
theorem zez {st:Stu} (h: (doV u st).2=false):turnU (st::r) u= ((doV u st).1,false):=by show(if _ then _ else _)=_;rw [if_neg (by rw [h];decide)]
theorem turnU_one (st:Stu) (u:Un):turnU [st] u=doV u st:=by
  cases h: (doV u st).2
  { rw [zez h,←h] }
  {
  rw [ziy h];show((doV u st).1,true)=_;rw [←h]
  }
theorem un_set5 {t:Un} {a2:Option Addr} {n c n2 c2:Nat} (h:W.heap[b]?=some (unO u a n c)):
    (((((W.setCell ⟨b,0,none⟩ (.slice a2 n2 c2)).setCell ⟨b,1,none⟩ (.int .i64 t.fu)).setCell ⟨b,2,none⟩ (.bool t.up)).setCell ⟨b,3,none⟩ (.int .i64 t.n)).setCell ⟨b,4,none⟩ (.int .i64 t.hv)).heap[b]?=some (unO t a2 n2 c2):=by
  unfold unO at h⊢;simp only [World.setCell,Array.getElem?_modify]
  simp [h]
theorem un_set2 {ws:List Int} {f:Int} {a2:Option Addr} {n c n2 c2:Nat} (h:W.heap[b]?=some (unO u a n c)):
    ((W.setCell ⟨b,0,none⟩ (.slice a2 n2 c2)).setCell ⟨b,1,none⟩ (.int .i64 f)).heap[b]?=some (unO ⟨ws,f,u.up,u.n,u.hv⟩ a2 n2 c2):=by
  unfold unO at h⊢;simp only [World.setCell,Array.getElem?_modify]
  simp [h]
theorem zig {x y:Int} {n c:Nat} (h:W.heap[b]?=some (unO u a n c)):
    ((W.setCell ⟨b,3,none⟩ (.int .i64 x)).setCell ⟨b,4,none⟩ (.int .i64 y)).heap[b]?=some (unO (mind u x y) a n c):=by
  unfold unO mind at *;simp only [World.setCell,Array.getElem?_modify]
  simp [h]
theorem un_hv {y:Int} {n c:Nat} (h:W.heap[b]?=some (unO u a n c)):
    (W.setCell ⟨b,4,none⟩ (.int .i64 y)).heap[b]?=some (unO (mind u u.n y) a n c):=by
  unfold unO mind at *;simp only [World.setCell,Array.getElem?_modify]
  simp [h]
theorem OwnU.below {w w' :World} {B:Nat} (h:OwnU w B u) (hb:Below w.heap.size w w'):OwnU w' B u:=by
  obtain ⟨a,n,c,h1,h2,h3⟩:=h;exact⟨a,n,c,zab h1 hb,h2.below hb,h3⟩
theorem OwnU.lt {w:World} {B:Nat} (h:OwnU w B u):B<w.heap.size:=by
  obtain ⟨a,n,c,h1,_⟩:=h;exact zak h1
theorem zgg (B bs L cl:Nat) (sts:List Stu) (u:Un) (w:World) (hU:OwnU w B u) (hst: ∀(i:Nat) (st:Stu),sts[i]?=some st→∃v,w.cell? ⟨bs,i,none⟩=some v∧IsStu w B v st) (hne:bs≠B) (hL:sts.length=L) (hL2:L≤100):
    Calls Tryz.prog 206 #[.pointer (some ⟨B,0,none⟩),.slice (some ⟨bs,0,none⟩) L cl] w fun e w' =>e=.returned (.bool (turnU sts u).2)∧OwnU w' B (turnU sts u).1∧w.grownBy w' (some B):=by
  have HS:=hide hst;have HL:=hide hL;have HU:=hide hU;clear hst hL hU;go_enter Tryz.func206,Tryz.ntmps206;go_wp2_with fail
  go_loopw [11] (fun i wr=>∃(k:Nat) (us:Un),k≤L∧i=.int .i64 k∧Hid (OwnU wr B us)∧w.grownBy wr (some B)∧Hid (turnU sts u=turnU (sts.drop k) us)) (fun i _=>L - (intOf i).toNat)
  case atStart=>exact⟨0,u,Nat.zero_le _,rfl,HU,World.grownBy.refl _ _,by show _=_;rw [List.drop_zero]⟩
  case round=>
    clear HU;obtain ⟨wq,rfl⟩: ∃wq:World,wq=wr:=⟨_,rfl⟩;obtain ⟨k,us,hk,rfl,hu,hg,ht⟩:=hrel
    by_cases hlt:k<L
    {
    have hkl:k<sts.length:=by rw [HL.out];exact hlt
    obtain ⟨v,hv,hsv⟩:=HS.out k sts[k] (List.getElem?_eq_getElem hkl);have hv' :=hg.cell hv (fun e=>hne (by cases e;rfl));have hs0:=hsv wq hg;have hd:Hid (sts.drop k=sts[k]::sts.drop (k+1)):=List.drop_eq_getElem_cons hkl;obtain ⟨a,n,c,hb,hi,hl,hc,hm,ho⟩:=hu.out;generalize sts[k]=st at *;clear hv hsv;obtain ⟨fn,caps,⟨rfl,hcaps⟩,hcall⟩:=step_any v st a n c us.ws us.fu wq hs0 ⟨hi,hl,hc,hm⟩;have HCall:=hide hcall;have hle:=doT_le st us.ws us.fu;rw [hl] at hle;have HV:Hid (doV us st=doU us (doT st us.ws us.fu)):=rfl;have HB:=hide hb;have hltB:=zak hb;have hi0:=hide hi;have hl0:=hide hl;clear hs0 hcall hi hl;unfold unO at hb;have x0:=zaa hb 0 _ rfl;have x1:=zaa hb 1 _ rfl;clear hb;generalize doT st us.ws us.fu=R at *
    rcases hcaps with ⟨rfl,rfl⟩| ⟨rfl,p,rfl⟩| ⟨rfl,p,q,r,rfl⟩| ⟨rfl,p,q,r,rfl⟩| ⟨rfl,p,q,rfl⟩
    all_goals
      go_wp2_with fail;refine(zae HCall).mono ?_;rintro e w1 ⟨⟨a2,n2,c2,rfl,hi2,hn2,hc2,hf2⟩,hb2⟩;have hbA:=zaf hb2 (.cells #[.slice a2 n2 c2,.int .i64 R.2.1] 28);have B1:=hide (zab HB.out hbA);have hi2A:=hi2.alloc (.cells #[.slice a2 n2 c2,.int .i64 R.2.1] 28);have bT:=hide (heap_alloc_last w1 (.cells #[.slice a2 n2 c2,.int .i64 R.2.1] 28));have hgA:=hg.trans (zaj hbA B);have hneT:w1.heap.size≠B:=by have:=hb2.size;omega
      have HI2:=hide hi2A;have HN2:=hide hn2;have HF2:=hide hf2;rw [HN2.out] at hle;have hm2:n2≤maxLen:=Nat.le_trans hle hm;have huA:=hide (OwnU.below hu.out hbA);clear hn2 hi2 hi2A hf2 hb2 hbA;have t0:=zaa bT.out 0 _ rfl;have t1:=zaa bT.out 1 _ rfl;have hB5:=B1.out;unfold unO at hB5;obtain ⟨y0,y1,y2,y3,y4⟩:=cl5 hB5;obtain ⟨f0,f1,f2,f3,f4⟩:=fr5 hB5;clear hB5
      by_cases z7:R.2.2=7
      {
      have HT:Hid (turnU sts u= (⟨R.1,R.2.1,false,0,0⟩,false)):=by
        show _=_
        have h7:=HV.out.trans (doU_7 z7);rw [ht.out,hd.out,zez (by rw [h7]),h7]
      have d7: (R.2.2==7)=true:=by simpa using z7
      have d0: (R.2.2 !=0)=true:=by rw [z7];decide
      clear z7 huA;go_wp2_with fail;go_ret;rw [HT.out];refine⟨rfl, ?_,zac (zac (zac (zac (zac hgA _ _) _ _) _ _) _ _) _ _⟩;have hfar:=za6 HF2.out hltB;exact⟨a2,n2,c2,un_set5 (t:=⟨R.1,R.2.1,false,0,0⟩) B1.out,zax HI2.out (zac (zac (zac (zac (zac (World.grownBy.refl _ _) _ _) _ _) _ _) _ _) _ _) hfar,HN2.out,hc2,hm2,hfar⟩
      }
      {
      have d7: (R.2.2==7)=false:=by simpa using z7
      by_cases z0:R.2.2=0
      {
      have hV0:=HV.out.trans (doU_0 (u:=us) z0);have HT:Hid (turnU sts u=turnU (sts.drop (k+1)) ⟨R.1,R.2.1,us.up,us.n,us.hv⟩):=by
        show _=_
        rw [ht.out,hd.out,ziy (by rw [hV0]),hV0]
      have d0: (R.2.2 !=0)=false:=by simpa using z0
      clear z0 z7 huA hV0;go_wp2_with fail
      go_roundw
      case rel=>
        have hfar:=za6 HF2.out hltB;refine⟨k+1,⟨R.1,R.2.1,us.up,us.n,us.hv⟩,by omega,by go_num, ?_,zac (zac hgA _ _) _ _,HT⟩;exact⟨a2,n2,c2,un_set2 B1.out,zax HI2.out (zac (zac (World.grownBy.refl _ _) _ _) _ _) hfar,HN2.out,hc2,hm2,hfar⟩
      case measure=>simp [intOf];omega
      }
      {
      have hV0:=HV.out.trans (doU_e (u:=us) z7 z0);have HT:Hid (turnU sts u= (us,false)):=by
        show _=_
        rw [ht.out,hd.out,zez (by rw [hV0]),hV0]
      have d0: (R.2.2 !=0)=true:=by simpa using z0
      clear z0 z7 hV0;go_wp2_with fail;go_ret;rw [HT.out];exact⟨rfl,huA.out,hgA⟩
      }
      }
    }
    {
    have HT:Hid (turnU sts u= (us,true)):=by show _=_;rw [ht.out,List.drop_eq_nil_of_le (by rw [HL.out];omega)];rfl
    go_wp2_with fail;go_ret;rw [HT.out];exact⟨rfl,hu.out,hg⟩
    }
end
end Go.Proofs.YthmekfcgdfckaaaGreatDoor
