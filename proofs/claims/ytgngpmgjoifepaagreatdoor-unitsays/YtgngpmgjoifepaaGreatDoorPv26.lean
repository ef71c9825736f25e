/- The contract of unit.hearPiece. -/
import Derived.Test.YtgngpmgjoifepaaGreatDoorPv25
namespace Go.Proofs.YtgngpmgjoifepaaGreatDoor
open Go.RowKit
attribute [local go_sem ↓] Go.wp_at_zero Go.wp_at_succ

theorem pieceS_1 {u : Un} {s : Us} {m : Ms} (h : s.rdy ≠ 0 ∨ m.n ≤ s.by') : pieceS u s m = u := by unfold pieceS; rw [if_pos h]
theorem pieceS_2 {u : Un} {s : Us} {m : Ms} (h : ¬ (s.rdy ≠ 0 ∨ m.n ≤ s.by')) (h2 : (pieceA u s m).2 = false) : pieceS u s m = (pieceA u s m).1 := by unfold pieceS; rw [if_neg h, if_neg (by rw [h2]; decide)]
theorem pieceS_3 {u : Un} {s : Us} {m : Ms} (h : ¬ (s.rdy ≠ 0 ∨ m.n ≤ s.by')) (h2 : (pieceA u s m).2 = true) : pieceS u s m = pieceB (pieceA u s m).1 s m := by unfold pieceS; rw [if_neg h, if_pos h2]
theorem pieceA_no {u : Un} {s : Us} {m : Ms} (h : ¬ (m.at' = 0 ∧ (u.n ≠ m.n ∨ u.hv = 0))) : pieceA u s m = (u, true) := by unfold pieceA; rw [if_neg h]
theorem pieceA_ok {u : Un} {s : Us} {m : Ms} (h : m.at' = 0 ∧ (u.n ≠ m.n ∨ u.hv = 0)) (h2 : (doV u (.clr (oth s))).2 = true) : pieceA u s m = (mind (doV u (.clr (oth s))).1 m.n 0, true) := by unfold pieceA; rw [if_pos h, if_pos h2]
theorem pieceA_bad {u : Un} {s : Us} {m : Ms} (h : m.at' = 0 ∧ (u.n ≠ m.n ∨ u.hv = 0)) (h2 : (doV u (.clr (oth s))).2 = false) : pieceA u s m = ((doV u (.clr (oth s))).1, false) := by unfold pieceA; rw [if_pos h, if_neg (by rw [h2]; decide)]
theorem pieceB_no {u : Un} {s : Us} {m : Ms} (h : ¬ (u.n = m.n ∧ u.hv = m.at' ∧ (m.ws.length : Int) ≤ 40 - m.at')) : pieceB u s m = u := by unfold pieceB; rw [if_neg h]
theorem pieceB_ok {u : Un} {s : Us} {m : Ms} (h : u.n = m.n ∧ u.hv = m.at' ∧ (m.ws.length : Int) ≤ 40 - m.at') (h2 : (doV u (.fil (oth s) m.at' m.ws)).2 = true) : pieceB u s m = mind (doV u (.fil (oth s) m.at' m.ws)).1 (doV u (.fil (oth s) m.at' m.ws)).1.n ((doV u (.fil (oth s) m.at' m.ws)).1.hv + m.ws.length) := by unfold pieceB; rw [if_pos h, if_pos h2]
theorem pieceB_bad {u : Un} {s : Us} {m : Ms} (h : u.n = m.n ∧ u.hv = m.at' ∧ (m.ws.length : Int) ≤ 40 - m.at') (h2 : (doV u (.fil (oth s) m.at' m.ws)).2 = false) : pieceB u s m = (doV u (.fil (oth s) m.at' m.ws)).1 := by unfold pieceB; rw [if_pos h, if_neg (by rw [h2]; decide)]
theorem doV_hv {u : Un} {st : Stu} (h : (doV u st).2 = true) : (doV u st).1.hv = u.hv := by
  unfold doV doU at h ⊢
  split at h
  { cases h }
  {
  rename_i h1
  split at h
  {
  rename_i h2
  rw [if_neg h1, if_pos h2]
  }
  {
  cases h

  }
  }
set_option maxRecDepth 100000 in
set_option maxHeartbeats 12800000 in
theorem hearPiece_any (B : Nat) (u : Un) (s : Us) (m : Ms) (a : Option Addr) (n c : Nat) (w : World) (hU : OwnU w B u) (hs0 : 0 ≤ s.slot) (hs1 : s.slot ≤ 1) (hbi : BI w a n m.ws) (ho : m.ws = [] ∨ Off B a) (hat0 : 0 ≤ m.at') (hat1 : m.at' ≤ 40) (hn8 : n ≤ 8) :
    Calls Tryz.prog 103 #[.pointer (some ⟨B, 0, none⟩), usv s, msv m a n c] w fun e w' => e = .returned (.tuple #[]) ∧ OwnU w' B (pieceS u s m) ∧ w.grownBy w' (some B) := by
  have hb := hide (hW_hb w s m a n c)
  have hw0 := hW_below w s m a n c
  have hB := hU.lt
  have hU0 := hide (hU.below hw0)
  have LW := hide hbi.len
  have HG := hide (turns_of hw0 B)
  have hwl := hide (Below.refl w.heap.size w)
  clear hU
  unfold usv msv
  have q := hb.out.hs
  unfold HS at q
  obtain ⟨x0, x1, x2, y2, y3, y4, y5⟩ := q
  unfold hW at x0 x1 x2 y2 y3 y4 y5
  by_cases z1 : s.rdy = 0
  rotate_left
  · have HE := hide (pieceS_1 (u := u) (m := m) (.inl z1))
    have d1 : (s.rdy != 0) = true := by simpa using z1
    clear z1 y3 y4 y5
    unfold hW at hw0 hU0 HG
    go_enter Tryz.func103, Tryz.ntmps103
    go_wp2_with fail
    first | go_end0 | refine bodyPost_ret (results_none rfl _ _ _) rfl ?_
    rw [HE.out]
    exact ⟨rfl, hU0.out, HG.out⟩
  have d1 : (s.rdy != 0) = false := by simpa using z1
  by_cases z2 : m.n ≤ s.by'
  · have HE := hide (pieceS_1 (u := u) (s := s) (m := m) (.inr z2))
    clear z1 y3 y4 y5
    unfold hW at hw0 hU0 HG
    go_enter Tryz.func103, Tryz.ntmps103
    go_wp2_with fail
    first | go_end0 | refine bodyPost_ret (results_none rfl _ _ _) rfl ?_
    rw [HE.out]
    exact ⟨rfl, hU0.out, HG.out⟩
  have d2 : decide (m.n ≤ s.by') = false := by simpa using z2
  have hnn : ¬ (s.rdy ≠ 0 ∨ m.n ≤ s.by') := fun h => h.elim (fun h => h z1) z2
  have HS2 := hide (pieceS_2 (u := u) hnn)
  have HS3 := hide (pieceS_3 (u := u) hnn)
  clear z1 z2 hnn
  go_enter Tryz.func103, Tryz.ntmps103
  go_upto_region 2 with fail
  clear x0 x1 x2 y2 y3 y4 y5 d1 d2
  rw [show (w.alloc (.cells #[.int .i64 s.slot, .int .i64 s.by', .int .i64 s.rdy] 40)).alloc (.cells #[.int .i64 m.k, .int .i64 m.u, .int .i64 m.n, .int .i64 m.at', .int .i64 m.im, .slice a n c, .bool m.y] 31) = hW w s m a n c from rfl]
  generalize hW w s m a n c = W at *
  obtain ⟨oa, on, oc, ob, oi, ol, ocap, omax, ooff⟩ := hU0.out
  unfold unO at ob
  have u3 := blk_cell ob 3 _ rfl
  have u4 := blk_cell ob 4 _ rfl
  have y2 := blk_cell hb.out.b1 2 _ rfl
  have y3 := blk_cell hb.out.b1 3 _ rfl
  clear ob oi ol
  by_cases z3 : m.at' = 0
  rotate_left
  · have hA := pieceA_no (u := u) (s := s) (m := m) (fun h => z3 h.1)
    have HEp := hide (HS3.out (by rw [hA]))
    rw [hA] at HEp
    have d3 : (m.at' == 0) = false := by simpa using z3
    clear HS2 HS3 hA z3
    go_quiet (fail)
    obtain ⟨wa, hwa⟩ : ∃ wa : World, wa = W.drewN nq := ⟨_, rfl⟩
    have hba : Below W.heap.size W wa := by rw [hwa]; exact below_drewN (Below.refl _ _) nq
    rw [← hwa]
    clear hwa u3 u4 y2 y3 d3
    have HUa := hide (hU0.out.below hba)
    have HBa := hide (hb.out.below hba)
    have HGa := hide (HG.out.trans (turns_of hba B))
    clear hba hU0 hb HG hw0
    go_upto_region 5 with fail
    obtain ⟨ua, un, uc, ub, ui, ul, ucap, umax, uoff⟩ := HUa.out
    have UB := hide ub
    unfold unO at ub
    have u3 := blk_cell ub 3 _ rfl
    have u4 := blk_cell ub 4 _ rfl
    have y2 := blk_cell HBa.out.b1 2 _ rfl
    have y3 := blk_cell HBa.out.b1 3 _ rfl
    have y5 := blk_cell HBa.out.b1 5 _ rfl
    clear ub ui ul
    have hno : ∀ (h : ¬ (u.n = m.n ∧ u.hv = m.at' ∧ (m.ws.length : Int) ≤ 40 - m.at')), pieceB u s m = u := fun h => pieceB_no h
    have HNO := hide hno
    have HOK := hide (fun h1 h2 => pieceB_ok (s := s) (m := m) (u := u) h1 h2)
    have HBAD := hide (fun h1 h2 => pieceB_bad (s := s) (m := m) (u := u) h1 h2)
    rw [LW.out] at HNO HOK HBAD
    clear hno
    by_cases b1 : u.n = m.n
    rotate_left
    · have HE := hide (HEp.out.trans (HNO.out (fun h => b1 h.1)))
      have d1 : (u.n != m.n) = true := by simpa using b1
      clear b1 HNO HOK HBAD
      go_wp2_with fail
      go_quiet (fail)
      go_wp2_with fail
      first | go_end0 | refine bodyPost_ret (results_none rfl _ _ _) rfl ?_
      rw [HE.out]
      exact ⟨rfl, HUa.out.below (below_drewN (Below.refl _ _) nq), HGa.out.trans (turns_of (below_drewN (Below.refl _ _) nq) B)⟩
    have d1 : (u.n != m.n) = false := by simpa using b1
    by_cases b2 : u.hv = m.at'
    rotate_left
    · have HE := hide (HEp.out.trans (HNO.out (fun h => b2 h.2.1)))
      have d2 : (u.hv != m.at') = true := by simpa using b2
      clear b1 b2 HNO HOK HBAD
      go_wp2_with fail
      go_quiet (fail)
      go_wp2_with fail
      first | go_end0 | refine bodyPost_ret (results_none rfl _ _ _) rfl ?_
      rw [HE.out]
      exact ⟨rfl, HUa.out.below (below_drewN (Below.refl _ _) nq), HGa.out.trans (turns_of (below_drewN (Below.refl _ _) nq) B)⟩
    have d2 : (u.hv != m.at') = false := by simpa using b2
    by_cases b3 : (n : Int) ≤ 40 - m.at'
    rotate_left
    · have HE := hide (HEp.out.trans (HNO.out (fun h => b3 h.2.2)))
      have d3 : decide (40 - m.at' < (n : Int)) = true := by simp; omega
      clear b1 b2 b3 HNO HOK HBAD
      go_wp2_with fail
      go_quiet (fail)
      go_wp2_with fail
      first | go_end0 | refine bodyPost_ret (results_none rfl _ _ _) rfl ?_
      rw [HE.out]
      exact ⟨rfl, HUa.out.below (below_drewN (Below.refl _ _) nq), HGa.out.trans (turns_of (below_drewN (Below.refl _ _) nq) B)⟩
    have d3 : decide (40 - m.at' < (n : Int)) = false := by simp; omega
    have HEo := hide (fun h => HEp.out.trans (HOK.out ⟨b1, b2, b3⟩ h))
    have HEb := hide (fun h => HEp.out.trans (HBAD.out ⟨b1, b2, b3⟩ h))
    have B2 := hide b2
    clear b1 b2 HNO HOK HBAD
    go_wp2_with fail
    go_quiet (fail)
    obtain ⟨wz, hwz⟩ : ∃ wz : World, wz = wa.drewN nq := ⟨_, rfl⟩
    have hbz : Below wa.heap.size wa wz := by rw [hwz]; exact below_drewN (Below.refl _ _) nq
    rw [← hwz]
    clear hwz u3 u4 y2 y3 y5 d1 d2 d3
    have HUz := hide (HUa.out.below hbz)
    have HBz := hide (HBa.out.below hbz)
    have HGz := hide (HGa.out.trans (turns_of hbz B))
    clear hbz UB
    have hBz := HUz.out.lt
    go_upto_region 6 with fail
    refine wp_region_held_drew (S := fun W' => W'.cell? ⟨w.heap.size, 0, none⟩ = some (.int .i64 s.slot) ∧ W'.cell? ⟨w.heap.size, 1, none⟩ = some (.int .i64 s.by') ∧ W'.cell? ⟨w.heap.size, 2, none⟩ = some (.int .i64 s.rdy) ∧ W'.cell? ⟨w.heap.size + 1, 2, none⟩ = some (.int .i64 m.n) ∧ W'.cell? ⟨w.heap.size + 1, 3, none⟩ = some (.int .i64 m.at') ∧ W'.cell? ⟨w.heap.size + 1, 4, none⟩ = some (.int .i64 m.im) ∧ W'.cell? ⟨w.heap.size + 1, 5, none⟩ = some (.slice a n c)) (by kernel_rfl) HBz.out.hs ?_
    intro hHeld
    refine Htake (i := 0) (v := ?_) (by rfl) (by kernel_rfl) (by exact fun _ _ _ h => h) (Or.inl ⟨by rfl, ?_⟩) (by assumption) ?_
    rotate_left
    · intro w hSw
      try dsimp only at hSw
      go_simp
      try with_reducible rfl
    try simp only [sq]
    refine Htake (i := 1) (v := ?_) (by rfl) (by kernel_rfl) (by exact fun _ _ _ h => h) (Or.inl ⟨by rfl, ?_⟩) (by assumption) ?_
    rotate_left
    · intro w hSw
      try dsimp only at hSw
      go_simp
      try with_reducible rfl
    try simp only [sq]
    refine Htake (i := 3) (v := ?_) (by rfl) (by kernel_rfl) (by exact fun _ _ _ h => h) (Or.inl ⟨by rfl, ?_⟩) (by assumption) ?_
    rotate_left
    · intro w hSw
      try dsimp only at hSw
      go_simp
      try with_reducible rfl
    try simp only [sq]
    refine Htake (i := 4) (v := ?_) (by rfl) (by kernel_rfl) (by exact fun _ _ _ h => h) (Or.inl ⟨by rfl, ?_⟩) (by assumption) ?_
    rotate_left
    · intro w hSw
      try dsimp only at hSw
      go_simp
      try with_reducible rfl
    try simp only [sq]
    refine Htake (i := 5) (v := ?_) (by rfl) (by kernel_rfl) (by exact fun _ _ _ h => h) (Or.inl ⟨by rfl, ?_⟩) (by assumption) ?_
    rotate_left
    · intro w hSw
      try dsimp only at hSw
      go_simp
      try with_reducible rfl
    try simp only [sq]
    refine Htake (i := 6) (v := ?_) (by rfl) (by kernel_rfl) (by exact fun _ _ _ h => h) (Or.inl ⟨by rfl, ?_⟩) (by assumption) ?_
    rotate_left
    · intro w hSw
      try dsimp only at hSw
      go_simp
      try with_reducible rfl
    try simp only [sq]
    refine wpAnyH_ready (rs := [2]) (by kernel_rfl) (by simp) ?_
    refine AllReadyH.cons (by rfl) (fun K hK => ?_) AllReadyH.nil
    go_simp
    have hk0 : Below wz.heap.size wz wz.drew := (Below.refl _ _).drew
    have HO := hide (other_any s wz.drew hs0 hs1)
    refine (unhide HO).mono ?_
    rintro e w1 ⟨rfl, hb1⟩
    have hk1 := hk0.trans (hb1.mono hk0.size)
    clear hb1 HO hk0
    go_wp2_with fail
    refine hK.out _ _ ((HBz.out.below hk1).hs) (fun hHeld => ?_)
    clear hK K
    try simp only [sq]
    refine wpAnyH_ready (rs := [7]) (by kernel_rfl) (by simp) ?_
    refine AllReadyH.cons (by rfl) (fun K hK => ?_) AllReadyH.nil
    go_simp
    have HFl := hide (filling_any (oth s) m.at' a n c m.ws B w1 (by have := hk1.size; omega) (bi_turns (hbi.below hwl.out) (HGz.out.trans (turns_of hk1 B)) ho) ho)
    refine (unhide HFl).mono ?_
    rintro e w3 ⟨⟨fn3, caps3, rfl, hv3⟩, hb3⟩
    have hk3 := hk1.trans (hb3.mono hk1.size)
    clear hb3 HFl
    go_wp2_with fail
    refine hK.out _ _ ((HBz.out.below hk3).hs) (fun hHeld => ?_)
    clear hK K
    try simp only [sq]
    refine wpAnyH_ready (rs := [8]) (by kernel_rfl) (by simp) ?_
    refine AllReadyH.cons (by rfl) (fun K hK => ?_) AllReadyH.nil
    go_simp
    have hk4 := below_new hk3 (.cells #[.func (.func fn3) #[] caps3] 117)
    refine hK.out _ _ ((HBz.out.below hk4).hs) (fun hHeld => ?_)
    clear hK K
    try simp only [sq]
    refine wpAnyH_ready (rs := [9]) (by kernel_rfl) (by simp) ?_
    refine AllReadyH.cons (by rfl) (fun K hK => ?_) AllReadyH.nil
    go_simp
    have HCh := hide (change1_any B _ u (.func (.func fn3) #[] caps3) 117 w3 (HUz.out.below hk3) hv3)
    refine (unhide HCh).mono ?_
    rintro e w5 ⟨rfl, hU5, hg5⟩
    have hg := (turns_of hk3 B).trans hg5
    have HU5 := hide hU5
    have HG5 := hide (HGz.out.trans hg)
    have HB5 := hide (HBz.out.turns hg hB)
    clear hU5 hg5 HCh hk1 hk3 hk4 hg hv3
    have HN5 := hide (doV_hv (st := .fil (oth s) m.at' m.ws) (u := u))
    generalize doV u (.fil (oth s) m.at' m.ws) = R at *
    go_wp2_with fail
    refine hK.out _ _ (HB5.out.hs) (fun hHeld => ?_)
    clear hK K
    try simp only [sq]
    refine wpAnyH_done (by kernel_rfl) ?_ _
    clear hHeld
    cases g : R.2
    · have HE := hide (HEb.out g)
      go_wp2_with fail
      first | go_end0 | refine bodyPost_ret (results_none rfl _ _ _) rfl ?_
      rw [HE.out]
      exact ⟨rfl, HU5.out, HG5.out⟩
    · have HE := hide (HEo.out g)
      obtain ⟨R1, R2⟩ := R
      simp only at HU5 HE HN5 g
      have hhv : R1.hv = m.at' := by rw [HN5.out g, B2.out]
      obtain ⟨va, vn, vc, vb, vi, vl, vcap, vmax, voff⟩ := HU5.out
      have VB := hide vb
      have VI := hide vi
      have VL := hide vl
      unfold unO at vb
      rw [hhv] at vb
      have u4 := blk_cell vb 4 _ rfl
      have fu4 := blk_free vb 4
      have y5 := blk_cell HB5.out.b1 5 _ rfl
      have hneX : B ≠ w.heap.size + 1 := by omega
      have HHV := hide hhv
      clear vb vi vl hhv g
      go_upto_region 7 with fail
      go_region
      go_wp2_with fail
      first | go_end0 | refine bodyPost_ret (results_none rfl _ _ _) rfl ?_
      rw [HE.out]
      rw [HHV.out]
      exact ⟨rfl, ⟨va, vn, vc, blk_drew (un_hv VB.out), ints_turns VI.out (grown_drew' (turns_set1 _ _ _ _)) voff, VL.out, vcap, vmax, voff⟩, grown_drew' (turns_set HG5.out _ _)⟩
  have d3 : (m.at' == 0) = true := by simpa using z3
  by_cases z4 : u.n = m.n ∧ ¬ u.hv = 0
  · have hA := pieceA_no (u := u) (s := s) (m := m) (fun h => h.2.elim (fun h => h z4.1) z4.2)
    have HEp := hide (HS3.out (by rw [hA]))
    rw [hA] at HEp
    have d4 : (u.n != m.n) = false := by simpa using z4.1
    have d5 : (u.hv == 0) = false := by simpa using z4.2
    clear HS2 HS3 hA z4 z3
    go_quiet (fail)
    obtain ⟨wa, hwa⟩ : ∃ wa : World, wa = W.drewN nq := ⟨_, rfl⟩
    have hba : Below W.heap.size W wa := by rw [hwa]; exact below_drewN (Below.refl _ _) nq
    rw [← hwa]
    clear hwa u3 u4 y2 y3 d3 d4 d5
    have HUa := hide (hU0.out.below hba)
    have HBa := hide (hb.out.below hba)
    have HGa := hide (HG.out.trans (turns_of hba B))
    clear hba hU0 hb HG hw0
    go_upto_region 5 with fail
    obtain ⟨ua, un, uc, ub, ui, ul, ucap, umax, uoff⟩ := HUa.out
    have UB := hide ub
    unfold unO at ub
    have u3 := blk_cell ub 3 _ rfl
    have u4 := blk_cell ub 4 _ rfl
    have y2 := blk_cell HBa.out.b1 2 _ rfl
    have y3 := blk_cell HBa.out.b1 3 _ rfl
    have y5 := blk_cell HBa.out.b1 5 _ rfl
    clear ub ui ul
    have hno : ∀ (h : ¬ (u.n = m.n ∧ u.hv = m.at' ∧ (m.ws.length : Int) ≤ 40 - m.at')), pieceB u s m = u := fun h => pieceB_no h
    have HNO := hide hno
    have HOK := hide (fun h1 h2 => pieceB_ok (s := s) (m := m) (u := u) h1 h2)
    have HBAD := hide (fun h1 h2 => pieceB_bad (s := s) (m := m) (u := u) h1 h2)
    rw [LW.out] at HNO HOK HBAD
    clear hno
    by_cases b1 : u.n = m.n
    rotate_left
    · have HE := hide (HEp.out.trans (HNO.out (fun h => b1 h.1)))
      have d1 : (u.n != m.n) = true := by simpa using b1
      clear b1 HNO HOK HBAD
      go_wp2_with fail
      go_quiet (fail)
      go_wp2_with fail
      first | go_end0 | refine bodyPost_ret (results_none rfl _ _ _) rfl ?_
      rw [HE.out]
      exact ⟨rfl, HUa.out.below (below_drewN (Below.refl _ _) nq), HGa.out.trans (turns_of (below_drewN (Below.refl _ _) nq) B)⟩
    have d1 : (u.n != m.n) = false := by simpa using b1
    by_cases b2 : u.hv = m.at'
    rotate_left
    · have HE := hide (HEp.out.trans (HNO.out (fun h => b2 h.2.1)))
      have d2 : (u.hv != m.at') = true := by simpa using b2
      clear b1 b2 HNO HOK HBAD
      go_wp2_with fail
      go_quiet (fail)
      go_wp2_with fail
      first | go_end0 | refine bodyPost_ret (results_none rfl _ _ _) rfl ?_
      rw [HE.out]
      exact ⟨rfl, HUa.out.below (below_drewN (Below.refl _ _) nq), HGa.out.trans (turns_of (below_drewN (Below.refl _ _) nq) B)⟩
    have d2 : (u.hv != m.at') = false := by simpa using b2
    by_cases b3 : (n : Int) ≤ 40 - m.at'
    rotate_left
    · have HE := hide (HEp.out.trans (HNO.out (fun h => b3 h.2.2)))
      have d3 : decide (40 - m.at' < (n : Int)) = true := by simp; omega
      clear b1 b2 b3 HNO HOK HBAD
      go_wp2_with fail
      go_quiet (fail)
      go_wp2_with fail
      first | go_end0 | refine bodyPost_ret (results_none rfl _ _ _) rfl ?_
      rw [HE.out]
      exact ⟨rfl, HUa.out.below (below_drewN (Below.refl _ _) nq), HGa.out.trans (turns_of (below_drewN (Below.refl _ _) nq) B)⟩
    have d3 : decide (40 - m.at' < (n : Int)) = false := by simp; omega
    have HEo := hide (fun h => HEp.out.trans (HOK.out ⟨b1, b2, b3⟩ h))
    have HEb := hide (fun h => HEp.out.trans (HBAD.out ⟨b1, b2, b3⟩ h))
    have B2 := hide b2
    clear b1 b2 HNO HOK HBAD
    go_wp2_with fail
    go_quiet (fail)
    obtain ⟨wz, hwz⟩ : ∃ wz : World, wz = wa.drewN nq := ⟨_, rfl⟩
    have hbz : Below wa.heap.size wa wz := by rw [hwz]; exact below_drewN (Below.refl _ _) nq
    rw [← hwz]
    clear hwz u3 u4 y2 y3 y5 d1 d2 d3
    have HUz := hide (HUa.out.below hbz)
    have HBz := hide (HBa.out.below hbz)
    have HGz := hide (HGa.out.trans (turns_of hbz B))
    clear hbz UB
    have hBz := HUz.out.lt
    go_upto_region 6 with fail
    refine wp_region_held_drew (S := fun W' => W'.cell? ⟨w.heap.size, 0, none⟩ = some (.int .i64 s.slot) ∧ W'.cell? ⟨w.heap.size, 1, none⟩ = some (.int .i64 s.by') ∧ W'.cell? ⟨w.heap.size, 2, none⟩ = some (.int .i64 s.rdy) ∧ W'.cell? ⟨w.heap.size + 1, 2, none⟩ = some (.int .i64 m.n) ∧ W'.cell? ⟨w.heap.size + 1, 3, none⟩ = some (.int .i64 m.at') ∧ W'.cell? ⟨w.heap.size + 1, 4, none⟩ = some (.int .i64 m.im) ∧ W'.cell? ⟨w.heap.size + 1, 5, none⟩ = some (.slice a n c)) (by kernel_rfl) HBz.out.hs ?_
    intro hHeld
    refine Htake (i := 0) (v := ?_) (by rfl) (by kernel_rfl) (by exact fun _ _ _ h => h) (Or.inl ⟨by rfl, ?_⟩) (by assumption) ?_
    rotate_left
    · intro w hSw
      try dsimp only at hSw
      go_simp
      try with_reducible rfl
    try simp only [sq]
    refine Htake (i := 1) (v := ?_) (by rfl) (by kernel_rfl) (by exact fun _ _ _ h => h) (Or.inl ⟨by rfl, ?_⟩) (by assumption) ?_
    rotate_left
    · intro w hSw
      try dsimp only at hSw
      go_simp
      try with_reducible rfl
    try simp only [sq]
    refine Htake (i := 3) (v := ?_) (by rfl) (by kernel_rfl) (by exact fun _ _ _ h => h) (Or.inl ⟨by rfl, ?_⟩) (by assumption) ?_
    rotate_left
    · intro w hSw
      try dsimp only at hSw
      go_simp
      try with_reducible rfl
    try simp only [sq]
    refine Htake (i := 4) (v := ?_) (by rfl) (by kernel_rfl) (by exact fun _ _ _ h => h) (Or.inl ⟨by rfl, ?_⟩) (by assumption) ?_
    rotate_left
    · intro w hSw
      try dsimp only at hSw
      go_simp
      try with_reducible rfl
    try simp only [sq]
    refine Htake (i := 5) (v := ?_) (by rfl) (by kernel_rfl) (by exact fun _ _ _ h => h) (Or.inl ⟨by rfl, ?_⟩) (by assumption) ?_
    rotate_left
    · intro w hSw
      try dsimp only at hSw
      go_simp
      try with_reducible rfl
    try simp only [sq]
    refine Htake (i := 6) (v := ?_) (by rfl) (by kernel_rfl) (by exact fun _ _ _ h => h) (Or.inl ⟨by rfl, ?_⟩) (by assumption) ?_
    rotate_left
    · intro w hSw
      try dsimp only at hSw
      go_simp
      try with_reducible rfl
    try simp only [sq]
    refine wpAnyH_ready (rs := [2]) (by kernel_rfl) (by simp) ?_
    refine AllReadyH.cons (by rfl) (fun K hK => ?_) AllReadyH.nil
    go_simp
    have hk0 : Below wz.heap.size wz wz.drew := (Below.refl _ _).drew
    have HO := hide (other_any s wz.drew hs0 hs1)
    refine (unhide HO).mono ?_
    rintro e w1 ⟨rfl, hb1⟩
    have hk1 := hk0.trans (hb1.mono hk0.size)
    clear hb1 HO hk0
    go_wp2_with fail
    refine hK.out _ _ ((HBz.out.below hk1).hs) (fun hHeld => ?_)
    clear hK K
    try simp only [sq]
    refine wpAnyH_ready (rs := [7]) (by kernel_rfl) (by simp) ?_
    refine AllReadyH.cons (by rfl) (fun K hK => ?_) AllReadyH.nil
    go_simp
    have HFl := hide (filling_any (oth s) m.at' a n c m.ws B w1 (by have := hk1.size; omega) (bi_turns (hbi.below hwl.out) (HGz.out.trans (turns_of hk1 B)) ho) ho)
    refine (unhide HFl).mono ?_
    rintro e w3 ⟨⟨fn3, caps3, rfl, hv3⟩, hb3⟩
    have hk3 := hk1.trans (hb3.mono hk1.size)
    clear hb3 HFl
    go_wp2_with fail
    refine hK.out _ _ ((HBz.out.below hk3).hs) (fun hHeld => ?_)
    clear hK K
    try simp only [sq]
    refine wpAnyH_ready (rs := [8]) (by kernel_rfl) (by simp) ?_
    refine AllReadyH.cons (by rfl) (fun K hK => ?_) AllReadyH.nil
    go_simp
    have hk4 := below_new hk3 (.cells #[.func (.func fn3) #[] caps3] 117)
    refine hK.out _ _ ((HBz.out.below hk4).hs) (fun hHeld => ?_)
    clear hK K
    try simp only [sq]
    refine wpAnyH_ready (rs := [9]) (by kernel_rfl) (by simp) ?_
    refine AllReadyH.cons (by rfl) (fun K hK => ?_) AllReadyH.nil
    go_simp
    have HCh := hide (change1_any B _ u (.func (.func fn3) #[] caps3) 117 w3 (HUz.out.below hk3) hv3)
    refine (unhide HCh).mono ?_
    rintro e w5 ⟨rfl, hU5, hg5⟩
    have hg := (turns_of hk3 B).trans hg5
    have HU5 := hide hU5
    have HG5 := hide (HGz.out.trans hg)
    have HB5 := hide (HBz.out.turns hg hB)
    clear hU5 hg5 HCh hk1 hk3 hk4 hg hv3
    have HN5 := hide (doV_hv (st := .fil (oth s) m.at' m.ws) (u := u))
    generalize doV u (.fil (oth s) m.at' m.ws) = R at *
    go_wp2_with fail
    refine hK.out _ _ (HB5.out.hs) (fun hHeld => ?_)
    clear hK K
    try simp only [sq]
    refine wpAnyH_done (by kernel_rfl) ?_ _
    clear hHeld
    cases g : R.2
    · have HE := hide (HEb.out g)
      go_wp2_with fail
      first | go_end0 | refine bodyPost_ret (results_none rfl _ _ _) rfl ?_
      rw [HE.out]
      exact ⟨rfl, HU5.out, HG5.out⟩
    · have HE := hide (HEo.out g)
      obtain ⟨R1, R2⟩ := R
      simp only at HU5 HE HN5 g
      have hhv : R1.hv = m.at' := by rw [HN5.out g, B2.out]
      obtain ⟨va, vn, vc, vb, vi, vl, vcap, vmax, voff⟩ := HU5.out
      have VB := hide vb
      have VI := hide vi
      have VL := hide vl
      unfold unO at vb
      rw [hhv] at vb
      have u4 := blk_cell vb 4 _ rfl
      have fu4 := blk_free vb 4
      have y5 := blk_cell HB5.out.b1 5 _ rfl
      have hneX : B ≠ w.heap.size + 1 := by omega
      have HHV := hide hhv
      clear vb vi vl hhv g
      go_upto_region 7 with fail
      go_region
      go_wp2_with fail
      first | go_end0 | refine bodyPost_ret (results_none rfl _ _ _) rfl ?_
      rw [HE.out]
      rw [HHV.out]
      exact ⟨rfl, ⟨va, vn, vc, blk_drew (un_hv VB.out), ints_turns VI.out (grown_drew' (turns_set1 _ _ _ _)) voff, VL.out, vcap, vmax, voff⟩, grown_drew' (turns_set HG5.out _ _)⟩
  have hcl : m.at' = 0 ∧ (u.n ≠ m.n ∨ u.hv = 0) := ⟨z3, by
    by_cases h : u.n = m.n
    · exact .inr (Classical.byContradiction fun h2 => z4 ⟨h, h2⟩)
    · exact .inl h⟩
  have HAo := hide (fun h => pieceA_ok (s := s) hcl h)
  have HAb := hide (fun h => pieceA_bad (s := s) hcl h)
  have HCl := hide hcl.2
  have Z3 := hide z3
  have hgo : ((u.n != m.n) = true) ∨ ((u.n != m.n) = false ∧ (u.hv == 0) = true) := by
    rcases HCl.out with h | h
    · exact .inl (by simpa using h)
    · by_cases h3 : u.n = m.n
      · exact .inr ⟨by simpa using h3, by simpa using h⟩
      · exact .inl (by simpa using h3)
  clear z3 z4 hcl HCl
  go_cut [34] (fun v wa => v = .bool true ∧ Below W.heap.size W wa)
  case first =>
    rcases hgo with d4 | ⟨d4, d5⟩
    · go_quiet (fail)
      go_wp2_with fail
      go_meet
      case rel => exact ⟨rfl, below_drewN (Below.refl _ _) nq⟩
    · go_quiet (fail)
      go_wp2_with fail
      go_meet
      case rel => exact ⟨rfl, below_drewN (Below.refl _ _) nq⟩
  case rest =>
  obtain ⟨rfl, hba⟩ := hcut
  obtain ⟨wa, rfl⟩ : ∃ wa : World, wa = wc := ⟨_, rfl⟩
  clear u3 u4 y2 y3 d3 hgo
  have HUa := hide (hU0.out.below hba)
  have HBa := hide (hb.out.below hba)
  have HGa := hide (HG.out.trans (turns_of hba B))
  have hBa := HUa.out.lt
  clear hba hU0 hb HG hw0
  have x0 := blk_cell HBa.out.b0 0 _ rfl
  have x1 := blk_cell HBa.out.b0 1 _ rfl
  have x2 := blk_cell HBa.out.b0 2 _ rfl
  go_wp2_with fail
  refine (other_any s wa hs0 hs1).mono ?_
  rintro e w1 ⟨rfl, hb1⟩
  go_wp2_with fail
  refine (clearing_any (oth s) B w1 (by have := hb1.size; omega)).mono ?_
  rintro e w2 ⟨⟨fn2, caps2, rfl, hv2⟩, hb2⟩
  have hk2 := hb1.trans (hb2.mono hb1.size)
  have HCh := hide (change1_any B _ u (.func (.func fn2) #[] caps2) 117 w2 (HUa.out.below hk2) hv2)
  clear x0 x1 x2 hb1 hb2 hv2
  go_wp2_with fail
  refine (unhide HCh).mono ?_
  rintro e w4 ⟨rfl, hU4, hg4⟩
  have hg := (turns_of hk2 B).trans hg4
  have HU4 := hide hU4
  have HG4 := hide (HGa.out.trans hg)
  have HB4 := hide (HBa.out.turns hg hB)
  clear hU4 hg4 hg hk2 HCh HUa HBa HGa
  generalize doV u (.clr (oth s)) = R at *
  cases g : R.2
  · have hA := HAb.out g
    have HE := hide (HS2.out (by rw [hA]))
    rw [hA] at HE
    clear hA
    go_wp2_with fail
    first | go_end0 | refine bodyPost_ret (results_none rfl _ _ _) rfl ?_
    rw [HE.out]
    exact ⟨rfl, HU4.out, HG4.out⟩
  · have hA := HAo.out g
    have HEp := hide (HS3.out (by rw [hA]))
    rw [hA] at HEp
    clear hA HS2 HS3 HAo HAb
    obtain ⟨R1, R2⟩ := R
    simp only at HU4 HEp
    obtain ⟨va, vn, vc, vb, vi, vl, vcap, vmax, voff⟩ := HU4.out
    have VB := hide vb
    have VI := hide vi
    have VL := hide vl
    unfold unO at vb
    have u3 := blk_cell vb 3 _ rfl
    have fu3 := blk_free vb 3
    have u4 := blk_cell vb 4 _ rfl
    have fu4 := blk_free vb 4
    have y2 := blk_cell HB4.out.b1 2 _ rfl
    have hneX : B ≠ w.heap.size + 1 := by omega
    clear vb vi vl
    have hgS : w4.grownBy ((w4.setCell ⟨B, 3, none⟩ (.int .i64 m.n)).setCell ⟨B, 4, none⟩ (.int .i64 0)) (some B) := turns_set (turns_set1 _ _ _ _) _ _
    have HUs : Hid (OwnU ((w4.setCell ⟨B, 3, none⟩ (.int .i64 m.n)).setCell ⟨B, 4, none⟩ (.int .i64 0)) B (mind R1 m.n 0)) := ⟨va, vn, vc, un_mind VB.out, ints_turns VI.out hgS voff, VL.out, vcap, vmax, voff⟩
    have HBs := hide (HB4.out.turns hgS hB)
    have HGs := hide (HG4.out.trans hgS)
    go_upto_region 5 with fail
    generalize (w4.setCell ⟨B, 3, none⟩ (.int .i64 m.n)).setCell ⟨B, 4, none⟩ (.int .i64 0) = ws5 at *
    clear u3 u4 fu3 fu4 y2 hgS VB VI VL voff HU4 HB4 HG4
    generalize mind R1 m.n 0 = u5 at *
    obtain ⟨ua, un, uc, ub, ui, ul, ucap, umax, uoff⟩ := HUs.out
    have UB := hide ub
    unfold unO at ub
    have u3 := blk_cell ub 3 _ rfl
    have u4 := blk_cell ub 4 _ rfl
    have y2 := blk_cell HBs.out.b1 2 _ rfl
    have y3 := blk_cell HBs.out.b1 3 _ rfl
    have y5 := blk_cell HBs.out.b1 5 _ rfl
    clear ub ui ul
    have hno : ∀ (h : ¬ (u5.n = m.n ∧ u5.hv = m.at' ∧ (m.ws.length : Int) ≤ 40 - m.at')), pieceB u5 s m = u5 := fun h => pieceB_no h
    have HNO := hide hno
    have HOK := hide (fun h1 h2 => pieceB_ok (s := s) (m := m) (u := u5) h1 h2)
    have HBAD := hide (fun h1 h2 => pieceB_bad (s := s) (m := m) (u := u5) h1 h2)
    rw [LW.out] at HNO HOK HBAD
    clear hno
    by_cases b1 : u5.n = m.n
    rotate_left
    · have HE := hide (HEp.out.trans (HNO.out (fun h => b1 h.1)))
      have d1 : (u5.n != m.n) = true := by simpa using b1
      clear b1 HNO HOK HBAD
      go_wp2_with fail
      go_quiet (fail)
      go_wp2_with fail
      first | go_end0 | refine bodyPost_ret (results_none rfl _ _ _) rfl ?_
      rw [HE.out]
      exact ⟨rfl, HUs.out.below (below_drewN (Below.refl _ _) nq), HGs.out.trans (turns_of (below_drewN (Below.refl _ _) nq) B)⟩
    have d1 : (u5.n != m.n) = false := by simpa using b1
    by_cases b2 : u5.hv = m.at'
    rotate_left
    · have HE := hide (HEp.out.trans (HNO.out (fun h => b2 h.2.1)))
      have d2 : (u5.hv != m.at') = true := by simpa using b2
      clear b1 b2 HNO HOK HBAD
      go_wp2_with fail
      go_quiet (fail)
      go_wp2_with fail
      first | go_end0 | refine bodyPost_ret (results_none rfl _ _ _) rfl ?_
      rw [HE.out]
      exact ⟨rfl, HUs.out.below (below_drewN (Below.refl _ _) nq), HGs.out.trans (turns_of (below_drewN (Below.refl _ _) nq) B)⟩
    have d2 : (u5.hv != m.at') = false := by simpa using b2
    by_cases b3 : (n : Int) ≤ 40 - m.at'
    rotate_left
    · have HE := hide (HEp.out.trans (HNO.out (fun h => b3 h.2.2)))
      have d3 : decide (40 - m.at' < (n : Int)) = true := by simp; omega
      clear b1 b2 b3 HNO HOK HBAD
      go_wp2_with fail
      go_quiet (fail)
      go_wp2_with fail
      first | go_end0 | refine bodyPost_ret (results_none rfl _ _ _) rfl ?_
      rw [HE.out]
      exact ⟨rfl, HUs.out.below (below_drewN (Below.refl _ _) nq), HGs.out.trans (turns_of (below_drewN (Below.refl _ _) nq) B)⟩
    have d3 : decide (40 - m.at' < (n : Int)) = false := by simp; omega
    have HEo := hide (fun h => HEp.out.trans (HOK.out ⟨b1, b2, b3⟩ h))
    have HEb := hide (fun h => HEp.out.trans (HBAD.out ⟨b1, b2, b3⟩ h))
    have B2 := hide b2
    clear b1 b2 HNO HOK HBAD
    go_wp2_with fail
    go_quiet (fail)
    obtain ⟨wz, hwz⟩ : ∃ wz : World, wz = ws5.drewN nq := ⟨_, rfl⟩
    have hbz : Below ws5.heap.size ws5 wz := by rw [hwz]; exact below_drewN (Below.refl _ _) nq
    rw [← hwz]
    clear hwz u3 u4 y2 y3 y5 d1 d2 d3
    have HUz := hide (HUs.out.below hbz)
    have HBz := hide (HBs.out.below hbz)
    have HGz := hide (HGs.out.trans (turns_of hbz B))
    clear hbz UB
    have hBz := HUz.out.lt
    go_upto_region 6 with fail
    refine wp_region_held_drew (S := fun W' => W'.cell? ⟨w.heap.size, 0, none⟩ = some (.int .i64 s.slot) ∧ W'.cell? ⟨w.heap.size, 1, none⟩ = some (.int .i64 s.by') ∧ W'.cell? ⟨w.heap.size, 2, none⟩ = some (.int .i64 s.rdy) ∧ W'.cell? ⟨w.heap.size + 1, 2, none⟩ = some (.int .i64 m.n) ∧ W'.cell? ⟨w.heap.size + 1, 3, none⟩ = some (.int .i64 m.at') ∧ W'.cell? ⟨w.heap.size + 1, 4, none⟩ = some (.int .i64 m.im) ∧ W'.cell? ⟨w.heap.size + 1, 5, none⟩ = some (.slice a n c)) (by kernel_rfl) HBz.out.hs ?_
    intro hHeld
    refine Htake (i := 0) (v := ?_) (by rfl) (by kernel_rfl) (by exact fun _ _ _ h => h) (Or.inl ⟨by rfl, ?_⟩) (by assumption) ?_
    rotate_left
    · intro w hSw
      try dsimp only at hSw
      go_simp
      try with_reducible rfl
    try simp only [sq]
    refine Htake (i := 1) (v := ?_) (by rfl) (by kernel_rfl) (by exact fun _ _ _ h => h) (Or.inl ⟨by rfl, ?_⟩) (by assumption) ?_
    rotate_left
    · intro w hSw
      try dsimp only at hSw
      go_simp
      try with_reducible rfl
    try simp only [sq]
    refine Htake (i := 3) (v := ?_) (by rfl) (by kernel_rfl) (by exact fun _ _ _ h => h) (Or.inl ⟨by rfl, ?_⟩) (by assumption) ?_
    rotate_left
    · intro w hSw
      try dsimp only at hSw
      go_simp
      try with_reducible rfl
    try simp only [sq]
    refine Htake (i := 4) (v := ?_) (by rfl) (by kernel_rfl) (by exact fun _ _ _ h => h) (Or.inl ⟨by rfl, ?_⟩) (by assumption) ?_
    rotate_left
    · intro w hSw
      try dsimp only at hSw
      go_simp
      try with_reducible rfl
    try simp only [sq]
    refine Htake (i := 5) (v := ?_) (by rfl) (by kernel_rfl) (by exact fun _ _ _ h => h) (Or.inl ⟨by rfl, ?_⟩) (by assumption) ?_
    rotate_left
    · intro w hSw
      try dsimp only at hSw
      go_simp
      try with_reducible rfl
    try simp only [sq]
    refine Htake (i := 6) (v := ?_) (by rfl) (by kernel_rfl) (by exact fun _ _ _ h => h) (Or.inl ⟨by rfl, ?_⟩) (by assumption) ?_
    rotate_left
    · intro w hSw
      try dsimp only at hSw
      go_simp
      try with_reducible rfl
    try simp only [sq]
    refine wpAnyH_ready (rs := [2]) (by kernel_rfl) (by simp) ?_
    refine AllReadyH.cons (by rfl) (fun K hK => ?_) AllReadyH.nil
    go_simp
    have hk0 : Below wz.heap.size wz wz.drew := (Below.refl _ _).drew
    have HO := hide (other_any s wz.drew hs0 hs1)
    refine (unhide HO).mono ?_
    rintro e w1 ⟨rfl, hb1⟩
    have hk1 := hk0.trans (hb1.mono hk0.size)
    clear hb1 HO hk0
    go_wp2_with fail
    refine hK.out _ _ ((HBz.out.below hk1).hs) (fun hHeld => ?_)
    clear hK K
    try simp only [sq]
    refine wpAnyH_ready (rs := [7]) (by kernel_rfl) (by simp) ?_
    refine AllReadyH.cons (by rfl) (fun K hK => ?_) AllReadyH.nil
    go_simp
    have HFl := hide (filling_any (oth s) m.at' a n c m.ws B w1 (by have := hk1.size; omega) (bi_turns (hbi.below hwl.out) (HGz.out.trans (turns_of hk1 B)) ho) ho)
    refine (unhide HFl).mono ?_
    rintro e w3 ⟨⟨fn3, caps3, rfl, hv3⟩, hb3⟩
    have hk3 := hk1.trans (hb3.mono hk1.size)
    clear hb3 HFl
    go_wp2_with fail
    refine hK.out _ _ ((HBz.out.below hk3).hs) (fun hHeld => ?_)
    clear hK K
    try simp only [sq]
    refine wpAnyH_ready (rs := [8]) (by kernel_rfl) (by simp) ?_
    refine AllReadyH.cons (by rfl) (fun K hK => ?_) AllReadyH.nil
    go_simp
    have hk4 := below_new hk3 (.cells #[.func (.func fn3) #[] caps3] 117)
    refine hK.out _ _ ((HBz.out.below hk4).hs) (fun hHeld => ?_)
    clear hK K
    try simp only [sq]
    refine wpAnyH_ready (rs := [9]) (by kernel_rfl) (by simp) ?_
    refine AllReadyH.cons (by rfl) (fun K hK => ?_) AllReadyH.nil
    go_simp
    have HCh := hide (change1_any B _ u5 (.func (.func fn3) #[] caps3) 117 w3 (HUz.out.below hk3) hv3)
    refine (unhide HCh).mono ?_
    rintro e w5 ⟨rfl, hU5, hg5⟩
    have hg := (turns_of hk3 B).trans hg5
    have HU5 := hide hU5
    have HG5 := hide (HGz.out.trans hg)
    have HB5 := hide (HBz.out.turns hg hB)
    clear hU5 hg5 HCh hk1 hk3 hk4 hg hv3
    have HN5 := hide (doV_hv (st := .fil (oth s) m.at' m.ws) (u := u5))
    generalize doV u5 (.fil (oth s) m.at' m.ws) = R at *
    go_wp2_with fail
    refine hK.out _ _ (HB5.out.hs) (fun hHeld => ?_)
    clear hK K
    try simp only [sq]
    refine wpAnyH_done (by kernel_rfl) ?_ _
    clear hHeld
    cases g : R.2
    · have HE := hide (HEb.out g)
      go_wp2_with fail
      first | go_end0 | refine bodyPost_ret (results_none rfl _ _ _) rfl ?_
      rw [HE.out]
      exact ⟨rfl, HU5.out, HG5.out⟩
    · have HE := hide (HEo.out g)
      obtain ⟨R1, R2⟩ := R
      simp only at HU5 HE HN5 g
      have hhv : R1.hv = m.at' := by rw [HN5.out g, B2.out]
      obtain ⟨va, vn, vc, vb, vi, vl, vcap, vmax, voff⟩ := HU5.out
      have VB := hide vb
      have VI := hide vi
      have VL := hide vl
      unfold unO at vb
      rw [hhv] at vb
      have u4 := blk_cell vb 4 _ rfl
      have fu4 := blk_free vb 4
      have y5 := blk_cell HB5.out.b1 5 _ rfl
      have hneX : B ≠ w.heap.size + 1 := by omega
      have HHV := hide hhv
      clear vb vi vl hhv g
      go_upto_region 7 with fail
      go_region
      go_wp2_with fail
      first | go_end0 | refine bodyPost_ret (results_none rfl _ _ _) rfl ?_
      rw [HE.out]
      rw [HHV.out]
      exact ⟨rfl, ⟨va, vn, vc, blk_drew (un_hv VB.out), ints_turns VI.out (grown_drew' (turns_set1 _ _ _ _)) voff, VL.out, vcap, vmax, voff⟩, grown_drew' (turns_set HG5.out _ _)⟩

end Go.Proofs.YtgngpmgjoifepaaGreatDoor
