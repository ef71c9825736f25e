/- The contract of unit.hearPiece. -/
import Derived.Test.YthmekfcgdfckaaaGreatDoorWt13
set_option maxRecDepth 1000000
set_option maxHeartbeats 0
namespace Go.Proofs.YthmekfcgdfckaaaGreatDoor
variable {u:Un} {s:Us} {m:Ms}
section
open Go.RowKit
attribute [local go_sem ↓] Go.wp_at_zero Go.wp_at_succ
theorem zoj (h:s.rdy≠0∨m.n≤s.by'):zda u s m=u:=by unfold zda;rw [if_pos h]
theorem pieceS_2 (h: ¬(s.rdy≠0∨m.n≤s.by')) (h2: (zb8 u s m).2=false):zda u s m= (zb8 u s m).1:=by unfold zda;rw [if_neg h,if_neg (by rw [h2];decide)]
theorem pieceS_3 (h: ¬(s.rdy≠0∨m.n≤s.by')) (h2: (zb8 u s m).2=true):zda u s m=zcj (zb8 u s m).1 s m:=by unfold zda;rw [if_neg h,if_pos h2]
theorem zl9 (h: ¬(m.at' =0∧(u.n≠m.n∨u.hv=0))):zb8 u s m= (u,true):=by unfold zb8;rw [if_neg h]
theorem pieceA_ok (h:m.at' =0∧(u.n≠m.n∨u.hv=0)) (h2: (doV u (.clr (oth s))).2=true):zb8 u s m= (mind (doV u (.clr (oth s))).1 m.n 0,true):=by unfold zb8;rw [if_pos h,if_pos h2]
theorem zp5 (h:m.at' =0∧(u.n≠m.n∨u.hv=0)) (h2: (doV u (.clr (oth s))).2=false):zb8 u s m= ((doV u (.clr (oth s))).1,false):=by unfold zb8;rw [if_pos h,if_neg (by rw [h2];decide)]
theorem zht (h: ¬(u.n=m.n∧u.hv=m.at' ∧(m.ws.length:Int)≤40 - m.at')):zcj u s m=u:=by unfold zcj;rw [if_neg h]
theorem zia (h:u.n=m.n∧u.hv=m.at' ∧(m.ws.length:Int)≤40 - m.at') (h2: (doV u (.fil (oth s) m.at' m.ws)).2=true):zcj u s m=mind (doV u (.fil (oth s) m.at' m.ws)).1 (doV u (.fil (oth s) m.at' m.ws)).1.n ((doV u (.fil (oth s) m.at' m.ws)).1.hv+m.ws.length):=by unfold zcj;rw [if_pos h,if_pos h2]
theorem zgu (h:u.n=m.n∧u.hv=m.at' ∧(m.ws.length:Int)≤40 - m.at') (h2: (doV u (.fil (oth s) m.at' m.ws)).2=false):zcj u s m= (doV u (.fil (oth s) m.at' m.ws)).1:=by unfold zcj;rw [if_pos h,if_neg (by rw [h2];decide)]
theorem doV_hv {st:Stu} (h: (doV u st).2=true): (doV u st).1.hv=u.hv:=by
  unfold doV doU at h⊢
  split at h
  { cases h }
  {
  rename_i h1
  split at h
  {
  rename_i h2
  rw [if_neg h1,if_pos h2]
  }
  {
  cases h
  }
  }
theorem zmq (B:Nat) (u:Un) (s:Us) (m:Ms) (a:Option Addr) (n c:Nat) (w:World) (hU:OwnU w B u) (hs0:0≤s.slot) (hs1:s.slot≤1) (hbi:BI w a n m.ws) (ho:m.ws= []∨Off B a) (hat0:0≤m.at') (hat1:m.at' ≤40) (hn8:n≤8):
    Calls Tryz.prog 297 #[.pointer (some ⟨B,0,none⟩),usv s,msv m a n c] w fun e w' =>e=.returned (.tuple #[])∧OwnU w' B (zda u s m)∧w.grownBy w' (some B):=by
  have hb:=hide (hW_hb w s m a n c);have hw0:=zi5 w s m a n c;have hB:=hU.lt;have hU0:=hide (hU.below hw0);have LW:=hide hbi.len;have HG:=hide (zaj hw0 B);have hwl:=hide (Below.refl w.heap.size w);clear hU;unfold usv msv;have q:=hb.out.hs;unfold HS at q;obtain ⟨x0,x1,x2,y2,y3,y4,y5⟩:=q;unfold hW at x0 x1 x2 y2 y3 y4 y5
  by_cases z1:s.rdy=0
  rotate_left
  · have HE:=hide (zoj (u:=u) (m:=m) (.inl z1))
    have d1: (s.rdy !=0)=true:=by simpa using z1
    clear z1 y3 y4 y5;unfold hW at hw0 hU0 HG;go_enter Tryz.func297,Tryz.ntmps297;go_wp2_with fail
    first|go_end0|refine bodyPost_ret (results_none rfl _ _ _) rfl ?_
    rw [HE.out];exact⟨rfl,hU0.out,HG.out⟩
  have d1: (s.rdy !=0)=false:=by simpa using z1
  by_cases z2:m.n≤s.by'
  · have HE:=hide (zoj (u:=u) (s:=s) (m:=m) (.inr z2))
    clear z1 y3 y4 y5;unfold hW at hw0 hU0 HG;go_enter Tryz.func297,Tryz.ntmps297;go_wp2_with fail
    first|go_end0|refine bodyPost_ret (results_none rfl _ _ _) rfl ?_
    rw [HE.out];exact⟨rfl,hU0.out,HG.out⟩
  have d2:decide (m.n≤s.by')=false:=by simpa using z2
  have hnn: ¬(s.rdy≠0∨m.n≤s.by'):=fun h=>h.elim (fun h=>h z1) z2
  have HS2:=hide (pieceS_2 (u:=u) hnn);have HS3:=hide (pieceS_3 (u:=u) hnn);clear z1 z2 hnn;go_enter Tryz.func297,Tryz.ntmps297;go_upto_region 2 with fail
  clear x0 x1 x2 y2 y3 y4 y5 d1 d2;rw [show(w.alloc (.cells #[.int .i64 s.slot,.int .i64 s.by',.int .i64 s.rdy] 84)).alloc (.cells (aM m a n c) 99)=hW w s m a n c from rfl];generalize hW w s m a n c=W at *;obtain ⟨oa,on,oc,ob,oi,ol,ocap,omax,ooff⟩:=hU0.out;unfold unO at ob;have u3:=zaa ob 3 _ rfl;have u4:=zaa ob 4 _ rfl;have y2:=zaa hb.out.b1 2 _ rfl;have y3:=zaa hb.out.b1 3 _ rfl;clear ob oi ol
  by_cases z3:m.at' =0
  rotate_left
  · have hA:=zl9 (u:=u) (s:=s) (m:=m) (fun h=>z3 h.1)
    have HEp:=hide (HS3.out (by rw [hA]));rw [hA] at HEp;have d3: (m.at' ==0)=false:=by simpa using z3
    clear HS2 HS3 hA z3;go_quiet (fail);obtain ⟨wa,hwa⟩: ∃wa:World,wa=W.drewN nq:=⟨_,rfl⟩;have hba:Below W.heap.size W wa:=by rw [hwa];exact below_drewN (Below.refl _ _) nq
    rw [←hwa];clear hwa u3 u4 y2 y3 d3;have HUa:=hide (hU0.out.below hba);have HBa:=hide (hb.out.below hba);have HGa:=hide (HG.out.trans (zaj hba B));clear hba hU0 hb HG hw0;go_upto_region 5 with fail
    obtain ⟨ua,un,uc,ub,ui,ul,ucap,umax,uoff⟩:=HUa.out;have UB:=hide ub;unfold unO at ub;have u3:=zaa ub 3 _ rfl;have u4:=zaa ub 4 _ rfl;have y2:=zaa HBa.out.b1 2 _ rfl;have y3:=zaa HBa.out.b1 3 _ rfl;have y5:=zaa HBa.out.b1 5 _ rfl;clear ub ui ul;have hno: ∀(h: ¬(u.n=m.n∧u.hv=m.at' ∧(m.ws.length:Int)≤40 - m.at')),zcj u s m=u:=fun h=>zht h
    have HNO:=hide hno;have HOK:=hide (fun h1 h2=>zia (s:=s) (m:=m) (u:=u) h1 h2);have HBAD:=hide (fun h1 h2=>zgu (s:=s) (m:=m) (u:=u) h1 h2);rw [LW.out] at HNO HOK HBAD;clear hno
    by_cases b1:u.n=m.n
    rotate_left
    · have HE:=hide (HEp.out.trans (HNO.out (fun h=>b1 h.1)))
      have d1: (u.n !=m.n)=true:=by simpa using b1
      clear b1 HNO HOK HBAD;go_wp2_with fail;go_quiet (fail);go_wp2_with fail
      first|go_end0|refine bodyPost_ret (results_none rfl _ _ _) rfl ?_
      rw [HE.out];exact⟨rfl,HUa.out.below (below_drewN (Below.refl _ _) nq),HGa.out.trans (zaj (below_drewN (Below.refl _ _) nq) B)⟩
    have d1: (u.n !=m.n)=false:=by simpa using b1
    by_cases b2:u.hv=m.at'
    rotate_left
    · have HE:=hide (HEp.out.trans (HNO.out (fun h=>b2 h.2.1)))
      have d2: (u.hv !=m.at')=true:=by simpa using b2
      clear b1 b2 HNO HOK HBAD;go_wp2_with fail;go_quiet (fail);go_wp2_with fail
      first|go_end0|refine bodyPost_ret (results_none rfl _ _ _) rfl ?_
      rw [HE.out];exact⟨rfl,HUa.out.below (below_drewN (Below.refl _ _) nq),HGa.out.trans (zaj (below_drewN (Below.refl _ _) nq) B)⟩
    have d2: (u.hv !=m.at')=false:=by simpa using b2
    by_cases b3: (n:Int)≤40 - m.at'
    rotate_left
    · have HE:=hide (HEp.out.trans (HNO.out (fun h=>b3 h.2.2)))
      have d3:decide (40 - m.at' < (n:Int))=true:=by simp;omega
      clear b1 b2 b3 HNO HOK HBAD;go_wp2_with fail;go_quiet (fail);go_wp2_with fail
      first|go_end0|refine bodyPost_ret (results_none rfl _ _ _) rfl ?_
      rw [HE.out];exact⟨rfl,HUa.out.below (below_drewN (Below.refl _ _) nq),HGa.out.trans (zaj (below_drewN (Below.refl _ _) nq) B)⟩
    have d3:decide (40 - m.at' < (n:Int))=false:=by simp;omega
    have HEo:=hide (fun h=>HEp.out.trans (HOK.out ⟨b1,b2,b3⟩ h));have HEb:=hide (fun h=>HEp.out.trans (HBAD.out ⟨b1,b2,b3⟩ h));have B2:=hide b2;clear b1 b2 HNO HOK HBAD;go_wp2_with fail;go_quiet (fail);obtain ⟨wz,hwz⟩: ∃wz:World,wz=wa.drewN nq:=⟨_,rfl⟩;have hbz:Below wa.heap.size wa wz:=by rw [hwz];exact below_drewN (Below.refl _ _) nq
    rw [←hwz];clear hwz u3 u4 y2 y3 y5 d1 d2 d3;have HUz:=hide (HUa.out.below hbz);have HBz:=hide (HBa.out.below hbz);have HGz:=hide (HGa.out.trans (zaj hbz B));clear hbz UB;have hBz:=HUz.out.lt;go_upto_region 6 with fail
    refine wp_region_held_drew (S:=fun W' =>W'.cell? ⟨w.heap.size,0,none⟩=some (.int .i64 s.slot)∧W'.cell? ⟨w.heap.size,1,none⟩=some (.int .i64 s.by')∧W'.cell? ⟨w.heap.size,2,none⟩=some (.int .i64 s.rdy)∧W'.cell? ⟨w.heap.size+1,2,none⟩=some (.int .i64 m.n)∧W'.cell? ⟨w.heap.size+1,3,none⟩=some (.int .i64 m.at')∧W'.cell? ⟨w.heap.size+1,4,none⟩=some (.int .i64 m.im)∧W'.cell? ⟨w.heap.size+1,5,none⟩=some (.slice a n c)) (by kernel_rfl) HBz.out.hs ?_;intro hHeld;refine Htk (i:=0) ?_
    try simp only [sq]
    refine Htk (i:=1) ?_
    try simp only [sq]
    refine Htk (i:=3) ?_
    try simp only [sq]
    refine Htk (i:=4) ?_
    try simp only [sq]
    refine Htk (i:=5) ?_
    try simp only [sq]
    refine Htk (i:=6) ?_
    try simp only [sq]
    refine wpAnyH_ready (rs:= [2]) (by kernel_rfl) (by simp) ?_;refine AllReadyH.cons (by rfl) (fun K hK=> ?_) AllReadyH.nil;go_simp;have hk0:Below wz.heap.size wz wz.drew:=(Below.refl _ _).drew;have HO:=hide (zcs s wz.drew hs0 hs1);refine(zae HO).mono ?_;rintro e w1 ⟨rfl,hb1⟩;have hk1:=bT hk0 hb1;clear hb1 HO hk0;go_wp2_with fail;refine hK.out _ _ ((HBz.out.below hk1).hs) (fun hHeld=> ?_);clear hK K
    try simp only [sq]
    refine wpAnyH_ready (rs:= [7]) (by kernel_rfl) (by simp) ?_;refine AllReadyH.cons (by rfl) (fun K hK=> ?_) AllReadyH.nil;go_simp;have HFl:=hide (zel (oth s) m.at' a n c m.ws B w1 (by have:=hk1.size;omega) (zb0 (hbi.below hwl.out) (HGz.out.trans (zaj hk1 B)) ho) ho);refine(zae HFl).mono ?_;rintro e w3 ⟨⟨fn3,caps3,rfl,hv3⟩,hb3⟩;have hk3:=bT hk1 hb3;clear hb3 HFl;go_wp2_with fail;refine hK.out _ _ ((HBz.out.below hk3).hs) (fun hHeld=> ?_);clear hK K
    try simp only [sq]
    refine wpAnyH_ready (rs:= [8]) (by kernel_rfl) (by simp) ?_;refine AllReadyH.cons (by rfl) (fun K hK=> ?_) AllReadyH.nil;go_simp;have hk4:=zaf hk3 (.cells #[.func (.func fn3) #[] caps3] 258);refine hK.out _ _ ((HBz.out.below hk4).hs) (fun hHeld=> ?_);clear hK K
    try simp only [sq]
    refine wpAnyH_ready (rs:= [9]) (by kernel_rfl) (by simp) ?_;refine AllReadyH.cons (by rfl) (fun K hK=> ?_) AllReadyH.nil;go_simp;have HCh:=hide (zb5 B _ u (.func (.func fn3) #[] caps3) 258 w3 (HUz.out.below hk3) hv3);refine(zae HCh).mono ?_;rintro e w5 ⟨rfl,hU5,hg5⟩;have hg:=(zaj hk3 B).trans hg5;have HU5:=hide hU5;have HG5:=hide (HGz.out.trans hg);have HB5:=hide (HBz.out.turns hg hB);clear hU5 hg5 HCh hk1 hk3 hk4 hg hv3;have HN5:=hide (doV_hv (st:=.fil (oth s) m.at' m.ws) (u:=u));generalize doV u (.fil (oth s) m.at' m.ws)=R at *;go_wp2_with fail;refine hK.out _ _ (HB5.out.hs) (fun hHeld=> ?_);clear hK K
    try simp only [sq]
    refine wpAnyH_done (by kernel_rfl) ?_ _;clear hHeld;cases g:R.2
    · have HE:=hide (HEb.out g)
      go_wp2_with fail
      first|go_end0|refine bodyPost_ret (results_none rfl _ _ _) rfl ?_
      rw [HE.out];exact⟨rfl,HU5.out,HG5.out⟩
    · have HE:=hide (HEo.out g)
      obtain ⟨R1,R2⟩:=R;simp only at HU5 HE HN5 g;have hhv:R1.hv=m.at' :=by rw [HN5.out g,B2.out]
      obtain ⟨va,vn,vc,vb,vi,vl,vcap,vmax,voff⟩:=HU5.out;have VB:=hide vb;have VI:=hide vi;have VL:=hide vl;unfold unO at vb;rw [hhv] at vb;have u4:=zaa vb 4 _ rfl;have fu4:=zad vb 4;have y5:=zaa HB5.out.b1 5 _ rfl;have hneX:B≠w.heap.size+1:=by omega
      have HHV:=hide hhv;clear vb vi vl hhv g;go_upto_region 7 with fail
      go_region
      go_wp2_with fail
      first|go_end0|refine bodyPost_ret (results_none rfl _ _ _) rfl ?_
      rw [HE.out];rw [HHV.out];exact⟨rfl,⟨va,vn,vc,zfn (un_hv VB.out),zax VI.out (zbv (zaw _ _ _ _)) voff,VL.out,vcap,vmax,voff⟩,zbv (zac HG5.out _ _)⟩
  have d3: (m.at' ==0)=true:=by simpa using z3
  by_cases z4:u.n=m.n∧¬u.hv=0
  · have hA:=zl9 (u:=u) (s:=s) (m:=m) (fun h=>h.2.elim (fun h=>h z4.1) z4.2)
    have HEp:=hide (HS3.out (by rw [hA]));rw [hA] at HEp;have d4: (u.n !=m.n)=false:=by simpa using z4.1
    have d5: (u.hv==0)=false:=by simpa using z4.2
    clear HS2 HS3 hA z4 z3;go_quiet (fail);obtain ⟨wa,hwa⟩: ∃wa:World,wa=W.drewN nq:=⟨_,rfl⟩;have hba:Below W.heap.size W wa:=by rw [hwa];exact below_drewN (Below.refl _ _) nq
    rw [←hwa];clear hwa u3 u4 y2 y3 d3 d4 d5;have HUa:=hide (hU0.out.below hba);have HBa:=hide (hb.out.below hba);have HGa:=hide (HG.out.trans (zaj hba B));clear hba hU0 hb HG hw0;go_upto_region 5 with fail
    obtain ⟨ua,un,uc,ub,ui,ul,ucap,umax,uoff⟩:=HUa.out;have UB:=hide ub;unfold unO at ub;have u3:=zaa ub 3 _ rfl;have u4:=zaa ub 4 _ rfl;have y2:=zaa HBa.out.b1 2 _ rfl;have y3:=zaa HBa.out.b1 3 _ rfl;have y5:=zaa HBa.out.b1 5 _ rfl;clear ub ui ul;have hno: ∀(h: ¬(u.n=m.n∧u.hv=m.at' ∧(m.ws.length:Int)≤40 - m.at')),zcj u s m=u:=fun h=>zht h
    have HNO:=hide hno;have HOK:=hide (fun h1 h2=>zia (s:=s) (m:=m) (u:=u) h1 h2);have HBAD:=hide (fun h1 h2=>zgu (s:=s) (m:=m) (u:=u) h1 h2);rw [LW.out] at HNO HOK HBAD;clear hno
    by_cases b1:u.n=m.n
    rotate_left
    · have HE:=hide (HEp.out.trans (HNO.out (fun h=>b1 h.1)))
      have d1: (u.n !=m.n)=true:=by simpa using b1
      clear b1 HNO HOK HBAD;go_wp2_with fail;go_quiet (fail);go_wp2_with fail
      first|go_end0|refine bodyPost_ret (results_none rfl _ _ _) rfl ?_
      rw [HE.out];exact⟨rfl,HUa.out.below (below_drewN (Below.refl _ _) nq),HGa.out.trans (zaj (below_drewN (Below.refl _ _) nq) B)⟩
    have d1: (u.n !=m.n)=false:=by simpa using b1
    by_cases b2:u.hv=m.at'
    rotate_left
    · have HE:=hide (HEp.out.trans (HNO.out (fun h=>b2 h.2.1)))
      have d2: (u.hv !=m.at')=true:=by simpa using b2
      clear b1 b2 HNO HOK HBAD;go_wp2_with fail;go_quiet (fail);go_wp2_with fail
      first|go_end0|refine bodyPost_ret (results_none rfl _ _ _) rfl ?_
      rw [HE.out];exact⟨rfl,HUa.out.below (below_drewN (Below.refl _ _) nq),HGa.out.trans (zaj (below_drewN (Below.refl _ _) nq) B)⟩
    have d2: (u.hv !=m.at')=false:=by simpa using b2
    by_cases b3: (n:Int)≤40 - m.at'
    rotate_left
    · have HE:=hide (HEp.out.trans (HNO.out (fun h=>b3 h.2.2)))
      have d3:decide (40 - m.at' < (n:Int))=true:=by simp;omega
      clear b1 b2 b3 HNO HOK HBAD;go_wp2_with fail;go_quiet (fail);go_wp2_with fail
      first|go_end0|refine bodyPost_ret (results_none rfl _ _ _) rfl ?_
      rw [HE.out];exact⟨rfl,HUa.out.below (below_drewN (Below.refl _ _) nq),HGa.out.trans (zaj (below_drewN (Below.refl _ _) nq) B)⟩
    have d3:decide (40 - m.at' < (n:Int))=false:=by simp;omega
    have HEo:=hide (fun h=>HEp.out.trans (HOK.out ⟨b1,b2,b3⟩ h));have HEb:=hide (fun h=>HEp.out.trans (HBAD.out ⟨b1,b2,b3⟩ h));have B2:=hide b2;clear b1 b2 HNO HOK HBAD;go_wp2_with fail;go_quiet (fail);obtain ⟨wz,hwz⟩: ∃wz:World,wz=wa.drewN nq:=⟨_,rfl⟩;have hbz:Below wa.heap.size wa wz:=by rw [hwz];exact below_drewN (Below.refl _ _) nq
    rw [←hwz];clear hwz u3 u4 y2 y3 y5 d1 d2 d3;have HUz:=hide (HUa.out.below hbz);have HBz:=hide (HBa.out.below hbz);have HGz:=hide (HGa.out.trans (zaj hbz B));clear hbz UB;have hBz:=HUz.out.lt;go_upto_region 6 with fail
    refine wp_region_held_drew (S:=fun W' =>W'.cell? ⟨w.heap.size,0,none⟩=some (.int .i64 s.slot)∧W'.cell? ⟨w.heap.size,1,none⟩=some (.int .i64 s.by')∧W'.cell? ⟨w.heap.size,2,none⟩=some (.int .i64 s.rdy)∧W'.cell? ⟨w.heap.size+1,2,none⟩=some (.int .i64 m.n)∧W'.cell? ⟨w.heap.size+1,3,none⟩=some (.int .i64 m.at')∧W'.cell? ⟨w.heap.size+1,4,none⟩=some (.int .i64 m.im)∧W'.cell? ⟨w.heap.size+1,5,none⟩=some (.slice a n c)) (by kernel_rfl) HBz.out.hs ?_;intro hHeld;refine Htk (i:=0) ?_
    try simp only [sq]
    refine Htk (i:=1) ?_
    try simp only [sq]
    refine Htk (i:=3) ?_
    try simp only [sq]
    refine Htk (i:=4) ?_
    try simp only [sq]
    refine Htk (i:=5) ?_
    try simp only [sq]
    refine Htk (i:=6) ?_
    try simp only [sq]
    refine wpAnyH_ready (rs:= [2]) (by kernel_rfl) (by simp) ?_;refine AllReadyH.cons (by rfl) (fun K hK=> ?_) AllReadyH.nil;go_simp;have hk0:Below wz.heap.size wz wz.drew:=(Below.refl _ _).drew;have HO:=hide (zcs s wz.drew hs0 hs1);refine(zae HO).mono ?_;rintro e w1 ⟨rfl,hb1⟩;have hk1:=bT hk0 hb1;clear hb1 HO hk0;go_wp2_with fail;refine hK.out _ _ ((HBz.out.below hk1).hs) (fun hHeld=> ?_);clear hK K
    try simp only [sq]
    refine wpAnyH_ready (rs:= [7]) (by kernel_rfl) (by simp) ?_;refine AllReadyH.cons (by rfl) (fun K hK=> ?_) AllReadyH.nil;go_simp;have HFl:=hide (zel (oth s) m.at' a n c m.ws B w1 (by have:=hk1.size;omega) (zb0 (hbi.below hwl.out) (HGz.out.trans (zaj hk1 B)) ho) ho);refine(zae HFl).mono ?_;rintro e w3 ⟨⟨fn3,caps3,rfl,hv3⟩,hb3⟩;have hk3:=bT hk1 hb3;clear hb3 HFl;go_wp2_with fail;refine hK.out _ _ ((HBz.out.below hk3).hs) (fun hHeld=> ?_);clear hK K
    try simp only [sq]
    refine wpAnyH_ready (rs:= [8]) (by kernel_rfl) (by simp) ?_;refine AllReadyH.cons (by rfl) (fun K hK=> ?_) AllReadyH.nil;go_simp;have hk4:=zaf hk3 (.cells #[.func (.func fn3) #[] caps3] 258);refine hK.out _ _ ((HBz.out.below hk4).hs) (fun hHeld=> ?_);clear hK K
    try simp only [sq]
    refine wpAnyH_ready (rs:= [9]) (by kernel_rfl) (by simp) ?_;refine AllReadyH.cons (by rfl) (fun K hK=> ?_) AllReadyH.nil;go_simp;have HCh:=hide (zb5 B _ u (.func (.func fn3) #[] caps3) 258 w3 (HUz.out.below hk3) hv3);refine(zae HCh).mono ?_;rintro e w5 ⟨rfl,hU5,hg5⟩;have hg:=(zaj hk3 B).trans hg5;have HU5:=hide hU5;have HG5:=hide (HGz.out.trans hg);have HB5:=hide (HBz.out.turns hg hB);clear hU5 hg5 HCh hk1 hk3 hk4 hg hv3;have HN5:=hide (doV_hv (st:=.fil (oth s) m.at' m.ws) (u:=u));generalize doV u (.fil (oth s) m.at' m.ws)=R at *;go_wp2_with fail;refine hK.out _ _ (HB5.out.hs) (fun hHeld=> ?_);clear hK K
    try simp only [sq]
    refine wpAnyH_done (by kernel_rfl) ?_ _;clear hHeld;cases g:R.2
    · have HE:=hide (HEb.out g)
      go_wp2_with fail
      first|go_end0|refine bodyPost_ret (results_none rfl _ _ _) rfl ?_
      rw [HE.out];exact⟨rfl,HU5.out,HG5.out⟩
    · have HE:=hide (HEo.out g)
      obtain ⟨R1,R2⟩:=R;simp only at HU5 HE HN5 g;have hhv:R1.hv=m.at' :=by rw [HN5.out g,B2.out]
      obtain ⟨va,vn,vc,vb,vi,vl,vcap,vmax,voff⟩:=HU5.out;have VB:=hide vb;have VI:=hide vi;have VL:=hide vl;unfold unO at vb;rw [hhv] at vb;have u4:=zaa vb 4 _ rfl;have fu4:=zad vb 4;have y5:=zaa HB5.out.b1 5 _ rfl;have hneX:B≠w.heap.size+1:=by omega
      have HHV:=hide hhv;clear vb vi vl hhv g;go_upto_region 7 with fail
      go_region
      go_wp2_with fail
      first|go_end0|refine bodyPost_ret (results_none rfl _ _ _) rfl ?_
      rw [HE.out];rw [HHV.out];exact⟨rfl,⟨va,vn,vc,zfn (un_hv VB.out),zax VI.out (zbv (zaw _ _ _ _)) voff,VL.out,vcap,vmax,voff⟩,zbv (zac HG5.out _ _)⟩
  have hcl:m.at' =0∧(u.n≠m.n∨u.hv=0):=⟨z3,by
    by_cases h:u.n=m.n
    · exact .inr (Classical.byContradiction fun h2=>z4 ⟨h,h2⟩)
    · exact .inl h⟩
  have HAo:=hide (fun h=>pieceA_ok (s:=s) hcl h);have HAb:=hide (fun h=>zp5 (s:=s) hcl h);have HCl:=hide hcl.2;have Z3:=hide z3;have hgo: ((u.n !=m.n)=true)∨((u.n !=m.n)=false∧(u.hv==0)=true):=by
    rcases HCl.out with h|h
    · exact .inl (by simpa using h)
    · by_cases h3:u.n=m.n
      · exact .inr ⟨by simpa using h3,by simpa using h⟩
      · exact .inl (by simpa using h3)
  clear z3 z4 hcl HCl
  go_cut [34] (fun v wa=>v=.bool true∧Below W.heap.size W wa)
  case first=>
    rcases hgo with d4| ⟨d4,d5⟩
    · go_quiet (fail)
      go_wp2_with fail
      go_meet
      case rel=>exact⟨rfl,below_drewN (Below.refl _ _) nq⟩
    · go_quiet (fail)
      go_wp2_with fail
      go_meet
      case rel=>exact⟨rfl,below_drewN (Below.refl _ _) nq⟩
  case rest=>
  obtain ⟨rfl,hba⟩:=hcut;obtain ⟨wa,rfl⟩: ∃wa:World,wa=wc:=⟨_,rfl⟩;clear u3 u4 y2 y3 d3 hgo;have HUa:=hide (hU0.out.below hba);have HBa:=hide (hb.out.below hba);have HGa:=hide (HG.out.trans (zaj hba B));have hBa:=HUa.out.lt;clear hba hU0 hb HG hw0;have x0:=zaa HBa.out.b0 0 _ rfl;have x1:=zaa HBa.out.b0 1 _ rfl;have x2:=zaa HBa.out.b0 2 _ rfl;go_wp2_with fail;refine(zcs s wa hs0 hs1).mono ?_;rintro e w1 ⟨rfl,hb1⟩;go_wp2_with fail;refine(zoi (oth s) B w1 (by have:=hb1.size;omega)).mono ?_;rintro e w2 ⟨⟨fn2,caps2,rfl,hv2⟩,hb2⟩;have hk2:=bT hb1 hb2;have HCh:=hide (zb5 B _ u (.func (.func fn2) #[] caps2) 258 w2 (HUa.out.below hk2) hv2);clear x0 x1 x2 hb1 hb2 hv2;go_wp2_with fail;refine(zae HCh).mono ?_;rintro e w4 ⟨rfl,hU4,hg4⟩;have hg:=(zaj hk2 B).trans hg4;have HU4:=hide hU4;have HG4:=hide (HGa.out.trans hg);have HB4:=hide (HBa.out.turns hg hB);clear hU4 hg4 hg hk2 HCh HUa HBa HGa;generalize doV u (.clr (oth s))=R at *;cases g:R.2
  · have hA:=HAb.out g
    have HE:=hide (HS2.out (by rw [hA]));rw [hA] at HE;clear hA;go_wp2_with fail
    first|go_end0|refine bodyPost_ret (results_none rfl _ _ _) rfl ?_
    rw [HE.out];exact⟨rfl,HU4.out,HG4.out⟩
  · have hA:=HAo.out g
    have HEp:=hide (HS3.out (by rw [hA]));rw [hA] at HEp;clear hA HS2 HS3 HAo HAb;obtain ⟨R1,R2⟩:=R;simp only at HU4 HEp;obtain ⟨va,vn,vc,vb,vi,vl,vcap,vmax,voff⟩:=HU4.out;have VB:=hide vb;have VI:=hide vi;have VL:=hide vl;unfold unO at vb;have u3:=zaa vb 3 _ rfl;have fu3:=zad vb 3;have u4:=zaa vb 4 _ rfl;have fu4:=zad vb 4;have y2:=zaa HB4.out.b1 2 _ rfl;have hneX:B≠w.heap.size+1:=by omega
    clear vb vi vl;have hgS:w4.grownBy ((w4.setCell ⟨B,3,none⟩ (.int .i64 m.n)).setCell ⟨B,4,none⟩ (.int .i64 0)) (some B):=zac (zaw _ _ _ _) _ _;have HUs:Hid (OwnU ((w4.setCell ⟨B,3,none⟩ (.int .i64 m.n)).setCell ⟨B,4,none⟩ (.int .i64 0)) B (mind R1 m.n 0)):=⟨va,vn,vc,zig VB.out,zax VI.out hgS voff,VL.out,vcap,vmax,voff⟩;have HBs:=hide (HB4.out.turns hgS hB);have HGs:=hide (HG4.out.trans hgS);go_upto_region 5 with fail
    generalize (w4.setCell ⟨B,3,none⟩ (.int .i64 m.n)).setCell ⟨B,4,none⟩ (.int .i64 0)=ws5 at *;clear u3 u4 fu3 fu4 y2 hgS VB VI VL voff HU4 HB4 HG4;generalize mind R1 m.n 0=u5 at *;obtain ⟨ua,un,uc,ub,ui,ul,ucap,umax,uoff⟩:=HUs.out;have UB:=hide ub;unfold unO at ub;have u3:=zaa ub 3 _ rfl;have u4:=zaa ub 4 _ rfl;have y2:=zaa HBs.out.b1 2 _ rfl;have y3:=zaa HBs.out.b1 3 _ rfl;have y5:=zaa HBs.out.b1 5 _ rfl;clear ub ui ul;have hno: ∀(h: ¬(u5.n=m.n∧u5.hv=m.at' ∧(m.ws.length:Int)≤40 - m.at')),zcj u5 s m=u5:=fun h=>zht h
    have HNO:=hide hno;have HOK:=hide (fun h1 h2=>zia (s:=s) (m:=m) (u:=u5) h1 h2);have HBAD:=hide (fun h1 h2=>zgu (s:=s) (m:=m) (u:=u5) h1 h2);rw [LW.out] at HNO HOK HBAD;clear hno
    by_cases b1:u5.n=m.n
    rotate_left
    · have HE:=hide (HEp.out.trans (HNO.out (fun h=>b1 h.1)))
      have d1: (u5.n !=m.n)=true:=by simpa using b1
      clear b1 HNO HOK HBAD;go_wp2_with fail;go_quiet (fail);go_wp2_with fail
      first|go_end0|refine bodyPost_ret (results_none rfl _ _ _) rfl ?_
      rw [HE.out];exact⟨rfl,HUs.out.below (below_drewN (Below.refl _ _) nq),HGs.out.trans (zaj (below_drewN (Below.refl _ _) nq) B)⟩
    have d1: (u5.n !=m.n)=false:=by simpa using b1
    by_cases b2:u5.hv=m.at'
    rotate_left
    · have HE:=hide (HEp.out.trans (HNO.out (fun h=>b2 h.2.1)))
      have d2: (u5.hv !=m.at')=true:=by simpa using b2
      clear b1 b2 HNO HOK HBAD;go_wp2_with fail;go_quiet (fail);go_wp2_with fail
      first|go_end0|refine bodyPost_ret (results_none rfl _ _ _) rfl ?_
      rw [HE.out];exact⟨rfl,HUs.out.below (below_drewN (Below.refl _ _) nq),HGs.out.trans (zaj (below_drewN (Below.refl _ _) nq) B)⟩
    have d2: (u5.hv !=m.at')=false:=by simpa using b2
    by_cases b3: (n:Int)≤40 - m.at'
    rotate_left
    · have HE:=hide (HEp.out.trans (HNO.out (fun h=>b3 h.2.2)))
      have d3:decide (40 - m.at' < (n:Int))=true:=by simp;omega
      clear b1 b2 b3 HNO HOK HBAD;go_wp2_with fail;go_quiet (fail);go_wp2_with fail
      first|go_end0|refine bodyPost_ret (results_none rfl _ _ _) rfl ?_
      rw [HE.out];exact⟨rfl,HUs.out.below (below_drewN (Below.refl _ _) nq),HGs.out.trans (zaj (below_drewN (Below.refl _ _) nq) B)⟩
    have d3:decide (40 - m.at' < (n:Int))=false:=by simp;omega
    have HEo:=hide (fun h=>HEp.out.trans (HOK.out ⟨b1,b2,b3⟩ h));have HEb:=hide (fun h=>HEp.out.trans (HBAD.out ⟨b1,b2,b3⟩ h));have B2:=hide b2;clear b1 b2 HNO HOK HBAD;go_wp2_with fail;go_quiet (fail);obtain ⟨wz,hwz⟩: ∃wz:World,wz=ws5.drewN nq:=⟨_,rfl⟩;have hbz:Below ws5.heap.size ws5 wz:=by rw [hwz];exact below_drewN (Below.refl _ _) nq
    rw [←hwz];clear hwz u3 u4 y2 y3 y5 d1 d2 d3;have HUz:=hide (HUs.out.below hbz);have HBz:=hide (HBs.out.below hbz);have HGz:=hide (HGs.out.trans (zaj hbz B));clear hbz UB;have hBz:=HUz.out.lt;go_upto_region 6 with fail
    refine wp_region_held_drew (S:=fun W' =>W'.cell? ⟨w.heap.size,0,none⟩=some (.int .i64 s.slot)∧W'.cell? ⟨w.heap.size,1,none⟩=some (.int .i64 s.by')∧W'.cell? ⟨w.heap.size,2,none⟩=some (.int .i64 s.rdy)∧W'.cell? ⟨w.heap.size+1,2,none⟩=some (.int .i64 m.n)∧W'.cell? ⟨w.heap.size+1,3,none⟩=some (.int .i64 m.at')∧W'.cell? ⟨w.heap.size+1,4,none⟩=some (.int .i64 m.im)∧W'.cell? ⟨w.heap.size+1,5,none⟩=some (.slice a n c)) (by kernel_rfl) HBz.out.hs ?_;intro hHeld;refine Htk (i:=0) ?_
    try simp only [sq]
    refine Htk (i:=1) ?_
    try simp only [sq]
    refine Htk (i:=3) ?_
    try simp only [sq]
    refine Htk (i:=4) ?_
    try simp only [sq]
    refine Htk (i:=5) ?_
    try simp only [sq]
    refine Htk (i:=6) ?_
    try simp only [sq]
    refine wpAnyH_ready (rs:= [2]) (by kernel_rfl) (by simp) ?_;refine AllReadyH.cons (by rfl) (fun K hK=> ?_) AllReadyH.nil;go_simp;have hk0:Below wz.heap.size wz wz.drew:=(Below.refl _ _).drew;have HO:=hide (zcs s wz.drew hs0 hs1);refine(zae HO).mono ?_;rintro e w1 ⟨rfl,hb1⟩;have hk1:=bT hk0 hb1;clear hb1 HO hk0;go_wp2_with fail;refine hK.out _ _ ((HBz.out.below hk1).hs) (fun hHeld=> ?_);clear hK K
    try simp only [sq]
    refine wpAnyH_ready (rs:= [7]) (by kernel_rfl) (by simp) ?_;refine AllReadyH.cons (by rfl) (fun K hK=> ?_) AllReadyH.nil;go_simp;have HFl:=hide (zel (oth s) m.at' a n c m.ws B w1 (by have:=hk1.size;omega) (zb0 (hbi.below hwl.out) (HGz.out.trans (zaj hk1 B)) ho) ho);refine(zae HFl).mono ?_;rintro e w3 ⟨⟨fn3,caps3,rfl,hv3⟩,hb3⟩;have hk3:=bT hk1 hb3;clear hb3 HFl;go_wp2_with fail;refine hK.out _ _ ((HBz.out.below hk3).hs) (fun hHeld=> ?_);clear hK K
    try simp only [sq]
    refine wpAnyH_ready (rs:= [8]) (by kernel_rfl) (by simp) ?_;refine AllReadyH.cons (by rfl) (fun K hK=> ?_) AllReadyH.nil;go_simp;have hk4:=zaf hk3 (.cells #[.func (.func fn3) #[] caps3] 258);refine hK.out _ _ ((HBz.out.below hk4).hs) (fun hHeld=> ?_);clear hK K
    try simp only [sq]
    refine wpAnyH_ready (rs:= [9]) (by kernel_rfl) (by simp) ?_;refine AllReadyH.cons (by rfl) (fun K hK=> ?_) AllReadyH.nil;go_simp;have HCh:=hide (zb5 B _ u5 (.func (.func fn3) #[] caps3) 258 w3 (HUz.out.below hk3) hv3);refine(zae HCh).mono ?_;rintro e w5 ⟨rfl,hU5,hg5⟩;have hg:=(zaj hk3 B).trans hg5;have HU5:=hide hU5;have HG5:=hide (HGz.out.trans hg);have HB5:=hide (HBz.out.turns hg hB);clear hU5 hg5 HCh hk1 hk3 hk4 hg hv3;have HN5:=hide (doV_hv (st:=.fil (oth s) m.at' m.ws) (u:=u5));generalize doV u5 (.fil (oth s) m.at' m.ws)=R at *;go_wp2_with fail;refine hK.out _ _ (HB5.out.hs) (fun hHeld=> ?_);clear hK K
    try simp only [sq]
    refine wpAnyH_done (by kernel_rfl) ?_ _;clear hHeld;cases g:R.2
    · have HE:=hide (HEb.out g)
      go_wp2_with fail
      first|go_end0|refine bodyPost_ret (results_none rfl _ _ _) rfl ?_
      rw [HE.out];exact⟨rfl,HU5.out,HG5.out⟩
    · have HE:=hide (HEo.out g)
      obtain ⟨R1,R2⟩:=R;simp only at HU5 HE HN5 g;have hhv:R1.hv=m.at' :=by rw [HN5.out g,B2.out]
      obtain ⟨va,vn,vc,vb,vi,vl,vcap,vmax,voff⟩:=HU5.out;have VB:=hide vb;have VI:=hide vi;have VL:=hide vl;unfold unO at vb;rw [hhv] at vb;have u4:=zaa vb 4 _ rfl;have fu4:=zad vb 4;have y5:=zaa HB5.out.b1 5 _ rfl;have hneX:B≠w.heap.size+1:=by omega
      have HHV:=hide hhv;clear vb vi vl hhv g;go_upto_region 7 with fail
      go_region
      go_wp2_with fail
      first|go_end0|refine bodyPost_ret (results_none rfl _ _ _) rfl ?_
      rw [HE.out];rw [HHV.out];exact⟨rfl,⟨va,vn,vc,zfn (un_hv VB.out),zax VI.out (zbv (zaw _ _ _ _)) voff,VL.out,vcap,vmax,voff⟩,zbv (zac HG5.out _ _)⟩
end
end Go.Proofs.YthmekfcgdfckaaaGreatDoor
