/- The contract of gate.GiveUp. The contracts of gate.verdict, gate.unless, gate.isUnit. -/
import Derived.Test.YtgngpmgjoifepaaGreatDoorPq22
namespace Go.Proofs.YtgngpmgjoifepaaGreatDoor
open Go.RowKit
attribute [local go_sem ↓] Go.wp_at_zero Go.wp_at_succ

theorem gvUp_e {g : Gt} (h : upE g ≠ 0) : gvUp g = (gt0, upE g) := by unfold gvUp; rw [if_pos h]
theorem gvUp_l {g : Gt} (h : upE g = 0) (h2 : (decide ((gOf g.ws).n = 0) || decG (gOf g.ws)) = true) : gvUp g = (gt0, 12) := by unfold gvUp; rw [if_neg (by simpa using h), if_pos h2]
theorem gvUp_0 {g : Gt} (h : upE g = 0) (h2 : (decide ((gOf g.ws).n = 0) || decG (gOf g.ws)) = false) : gvUp g = ((noteG g (gOf g.ws) [3, (gOf g.ws).n]).1, 0) := by unfold gvUp; rw [if_neg (by simpa using h), if_neg (by rw [h2]; decide)]
theorem gUpS_no {g : Gt} (h : upE g ≠ 0) : gUpS g = (gs0, upE g) := by unfold gUpS; rw [if_pos h]
theorem gUpS_ok {g : Gt} (h : upE g = 0) : gUpS g = (gOf g.ws, 0) := by unfold gUpS; rw [if_neg (by simpa using h)]
theorem upE_gt {g : Gt} (h : upE g = 0) : gtE g = 0 := by
  rcases Decidable.em (gtE g = 0) with h1 | h1
  · exact h1
  · rw [upE_e h1] at h; exact absurd h h1

set_option maxRecDepth 100000 in
set_option maxHeartbeats 6400000 in
theorem giveUp_any (g : Gt) (m : GA) (w : World) (h : GIn w m g) :
    Calls Tryz.prog 31 #[gtv g m] w (GAns w (gvUp g)) := by
  have E1 := fun h => gvUp_e (g := g) h
  have E2 := fun h h2 => gvUp_l (g := g) h h2
  have E0 := fun h h2 => gvUp_0 (g := g) h h2
  have hw : Below w.heap.size w ((w.alloc (.cells #[.slice m.a m.n m.c, .int .i64 g.fu, .bool g.up, .int .i64 g.t.r.v, .slice m.ak m.nk m.ck, .int .i64 g.t.r.t, .int .i64 g.t.ver, .slice m.av m.nv m.cv, .slice m.ad m.nd m.cd] 68)).alloc (.cells #[.slice none 0 0, .int .i64 0, .bool false, .int .i64 0, .slice none 0 0, .int .i64 0, .int .i64 0, .slice none 0 0, .slice none 0 0] 68)) := ((Below.refl _ _).alloc (Nat.le_refl _) _).alloc (by simp) _
  have b1 : Hid (((w.alloc (.cells #[.slice m.a m.n m.c, .int .i64 g.fu, .bool g.up, .int .i64 g.t.r.v, .slice m.ak m.nk m.ck, .int .i64 g.t.r.t, .int .i64 g.t.ver, .slice m.av m.nv m.cv, .slice m.ad m.nd m.cd] 68)).alloc (.cells #[.slice none 0 0, .int .i64 0, .bool false, .int .i64 0, .slice none 0 0, .int .i64 0, .int .i64 0, .slice none 0 0, .slice none 0 0] 68)).heap[w.heap.size + 1]? = some (.cells #[.slice none 0 0, .int .i64 0, .bool false, .int .i64 0, .slice none 0 0, .int .i64 0, .int .i64 0, .slice none 0 0, .slice none 0 0] 68 (0, 0))) := by have := heap_alloc_last (w.alloc (.cells #[.slice m.a m.n m.c, .int .i64 g.fu, .bool g.up, .int .i64 g.t.r.v, .slice m.ak m.nk m.ck, .int .i64 g.t.r.t, .int .i64 g.t.ver, .slice m.av m.nv m.cv, .slice m.ad m.nd m.cd] 68)) (.cells #[.slice none 0 0, .int .i64 0, .bool false, .int .i64 0, .slice none 0 0, .int .i64 0, .int .i64 0, .slice none 0 0, .slice none 0 0] 68); rw [show (w.alloc (.cells #[.slice m.a m.n m.c, .int .i64 g.fu, .bool g.up, .int .i64 g.t.r.v, .slice m.ak m.nk m.ck, .int .i64 g.t.r.t, .int .i64 g.t.ver, .slice m.av m.nv m.cv, .slice m.ad m.nd m.cd] 68)).heap.size = w.heap.size + 1 from by simp] at this; exact this
  have b0 : Hid (((w.alloc (.cells #[.slice m.a m.n m.c, .int .i64 g.fu, .bool g.up, .int .i64 g.t.r.v, .slice m.ak m.nk m.ck, .int .i64 g.t.r.t, .int .i64 g.t.ver, .slice m.av m.nv m.cv, .slice m.ad m.nd m.cd] 68)).alloc (.cells #[.slice none 0 0, .int .i64 0, .bool false, .int .i64 0, .slice none 0 0, .int .i64 0, .int .i64 0, .slice none 0 0, .slice none 0 0] 68)).heap[w.heap.size]? = some (.cells #[.slice m.a m.n m.c, .int .i64 g.fu, .bool g.up, .int .i64 g.t.r.v, .slice m.ak m.nk m.ck, .int .i64 g.t.r.t, .int .i64 g.t.ver, .slice m.av m.nv m.cv, .slice m.ad m.nd m.cd] 68 (0, 0))) := blk_below (heap_alloc_last w (.cells #[.slice m.a m.n m.c, .int .i64 g.fu, .bool g.up, .int .i64 g.t.r.v, .slice m.ak m.nk m.ck, .int .i64 g.t.r.t, .int .i64 g.t.ver, .slice m.av m.nv m.cv, .slice m.ad m.nd m.cd] 68)) (below_new (Below.refl _ _) _)
  have HU := hide (fun W (hW : Below w.heap.size w W) => stateUp_any g m W (h.below hW))
  have HP := hide h
  have hx : w.heap.size ≤ w.heap.size + 1 := by omega
  clear h
  unfold gtv at HU
  unfold gtv
  go_enter Tryz.func31, Tryz.ntmps31
  go_wp2_with fail
  generalize ((w.alloc (.cells #[.slice m.a m.n m.c, .int .i64 g.fu, .bool g.up, .int .i64 g.t.r.v, .slice m.ak m.nk m.ck, .int .i64 g.t.r.t, .int .i64 g.t.ver, .slice m.av m.nv m.cv, .slice m.ad m.nd m.cd] 68)).alloc (.cells #[.slice none 0 0, .int .i64 0, .bool false, .int .i64 0, .slice none 0 0, .int .i64 0, .int .i64 0, .slice none 0 0, .slice none 0 0] 68)) = W at *
  refine (unhide HU _ hw).mono ?_
  rintro e w1 ⟨rfl, hb⟩
  replace b0 := hide (blk_below b0.out hb)
  replace b1 := hide (blk_below b1.out hb)
  replace hw := hw.trans (hb.mono hw.size)
  clear hb HU
  by_cases z1 : upE g = 0
  rotate_left
  · have HE := hide (E1 z1)
    have d1 : (upE g != 0) = true := by simpa using z1
    rw [gUpS_no z1]
    unfold gsv gs0
    replace b1 := hide (blk_below b1.out (below_new (Below.refl w1.heap.size w1) (.cells #[.int .i64 0, .int .i64 0, .bool false, .bool false, .bool false] 82)))
    have hw2 : Below w.heap.size w (w1.alloc (.cells #[.int .i64 0, .int .i64 0, .bool false, .bool false, .bool false] 82)) := hw.alloc hw.size _
    clear z1 E1 E0 E2
    generalize upE g = q at *
    go_upto_region 2 with fail
    generalize (w1.alloc (.cells #[.int .i64 0, .int .i64 0, .bool false, .bool false, .bool false] 82)) = W1 at *
    have y0 := blk_cell b1.out 0 _ rfl
    have y1 := blk_cell b1.out 1 _ rfl
    have y2 := blk_cell b1.out 2 _ rfl
    have y3 := blk_cell b1.out 3 _ rfl
    have y4 := blk_cell b1.out 4 _ rfl
    have y5 := blk_cell b1.out 5 _ rfl
    have y6 := blk_cell b1.out 6 _ rfl
    have y7 := blk_cell b1.out 7 _ rfl
    have y8 := blk_cell b1.out 8 _ rfl
    have f0 := blk_free b1.out 0
    have f1 := blk_free b1.out 1
    have f2 := blk_free b1.out 2
    have f3 := blk_free b1.out 3
    have f4 := blk_free b1.out 4
    have f5 := blk_free b1.out 5
    have f6 := blk_free b1.out 6
    have f7 := blk_free b1.out 7
    have f8 := blk_free b1.out 8
    go_wp2_with fail
    refine bodyPost_ret (v := .tuple #[gtv gt0 ga0, .int .i64 q]) (by simp [results, Tryz.results31, go_sem, gtv, gt0, ga0, y0, y1, y2, y3, y4, y5, y6, y7, y8]) rfl ?_
    rw [HE.out]
    exact ⟨⟨ga0, rfl, gin0 _, gfr0 _⟩, turns_below hw2 (turns_set (turns_set (turns_set (turns_set (turns_set (turns_set (turns_set (turns_set (turns_set (World.grownBy.refl W1 (some (w.heap.size + 1))) 0 (.slice none 0 0)) 1 (.int .i64 0)) 2 (.bool false)) 3 (.int .i64 0)) 4 (.slice none 0 0)) 5 (.int .i64 0)) 6 (.int .i64 0)) 7 (.slice none 0 0)) 8 (.slice none 0 0)) hx hw2.size⟩
  rw [gUpS_ok z1]
  replace E2 := E2 z1
  replace E0 := E0 z1
  obtain ⟨hlw, hlk, hlv, hld⟩ := HP.out.sizes (upE_gt z1)
  have HT := hide (fun W (hW : Below w.heap.size w W) => gateTwin_any g m W (HP.out.below hW) hlw hlk hlv hld)
  unfold gtv at HT
  clear z1 E1 hlw hlk hlv hld
  generalize gOf g.ws = s at *
  have HD := hide (fun W => decided_any s W)
  unfold gsv at HD
  unfold gsv
  have bS := hide (heap_alloc_last w1 (.cells #[.int .i64 s.n, .int .i64 s.v, .bool s.co, .bool s.ab, .bool s.en] 82))
  replace b0 := hide (blk_below b0.out (below_new (Below.refl w1.heap.size w1) (.cells #[.int .i64 s.n, .int .i64 s.v, .bool s.co, .bool s.ab, .bool s.en] 82)))
  replace b1 := hide (blk_below b1.out (below_new (Below.refl w1.heap.size w1) (.cells #[.int .i64 s.n, .int .i64 s.v, .bool s.co, .bool s.ab, .bool s.en] 82)))
  replace hw : Below w.heap.size w (w1.alloc (.cells #[.int .i64 s.n, .int .i64 s.v, .bool s.co, .bool s.ab, .bool s.en] 82)) := hw.alloc hw.size _
  go_upto_region 2 with fail
  generalize (w1.alloc (.cells #[.int .i64 s.n, .int .i64 s.v, .bool s.co, .bool s.ab, .bool s.en] 82)) = W1 at *
  generalize w1.heap.size = S at *
  have s0 := blk_cell bS.out 0 _ rfl
  have s1 := blk_cell bS.out 1 _ rfl
  have s2 := blk_cell bS.out 2 _ rfl
  have s3 := blk_cell bS.out 3 _ rfl
  have s4 := blk_cell bS.out 4 _ rfl
  by_cases z2 : s.n = 0
  · have HE := hide (E2 (by simp [z2]))
    have d2 : (s.n == 0) = true := by simpa using z2
    clear E2 E0 HT HD z2
    have y0 := blk_cell b1.out 0 _ rfl
    have y1 := blk_cell b1.out 1 _ rfl
    have y2 := blk_cell b1.out 2 _ rfl
    have y3 := blk_cell b1.out 3 _ rfl
    have y4 := blk_cell b1.out 4 _ rfl
    have y5 := blk_cell b1.out 5 _ rfl
    have y6 := blk_cell b1.out 6 _ rfl
    have y7 := blk_cell b1.out 7 _ rfl
    have y8 := blk_cell b1.out 8 _ rfl
    have f0 := blk_free b1.out 0
    have f1 := blk_free b1.out 1
    have f2 := blk_free b1.out 2
    have f3 := blk_free b1.out 3
    have f4 := blk_free b1.out 4
    have f5 := blk_free b1.out 5
    have f6 := blk_free b1.out 6
    have f7 := blk_free b1.out 7
    have f8 := blk_free b1.out 8
    go_wp2_with fail
    refine bodyPost_ret (v := .tuple #[gtv gt0 ga0, .int .i64 12]) (by simp [results, Tryz.results31, go_sem, gtv, gt0, ga0, y0, y1, y2, y3, y4, y5, y6, y7, y8]) rfl ?_
    rw [HE.out]
    exact ⟨⟨ga0, rfl, gin0 _, gfr0 _⟩, turns_below hw (turns_set (turns_set (turns_set (turns_set (turns_set (turns_set (turns_set (turns_set (turns_set (World.grownBy.refl W1 (some (w.heap.size + 1))) 0 (.slice none 0 0)) 1 (.int .i64 0)) 2 (.bool false)) 3 (.int .i64 0)) 4 (.slice none 0 0)) 5 (.int .i64 0)) 6 (.int .i64 0)) 7 (.slice none 0 0)) 8 (.slice none 0 0)) hx hw.size⟩
  have d2 : (s.n == 0) = false := by simpa using z2
  go_wp2_with fail
  refine (unhide HD _).mono ?_
  rintro e w3 ⟨rfl, hb3⟩
  replace b0 := hide (blk_below b0.out hb3)
  replace b1 := hide (blk_below b1.out hb3)
  replace bS := hide (blk_below bS.out hb3)
  replace hw := hw.trans (hb3.mono hw.size)
  clear hb3 HD s0 s1 s2 s3 s4
  cases z3 : decG s
  rotate_left
  · have HE := hide (E2 (by simp [z3]))
    clear E2 E0 HT z2
    have y0 := blk_cell b1.out 0 _ rfl
    have y1 := blk_cell b1.out 1 _ rfl
    have y2 := blk_cell b1.out 2 _ rfl
    have y3 := blk_cell b1.out 3 _ rfl
    have y4 := blk_cell b1.out 4 _ rfl
    have y5 := blk_cell b1.out 5 _ rfl
    have y6 := blk_cell b1.out 6 _ rfl
    have y7 := blk_cell b1.out 7 _ rfl
    have y8 := blk_cell b1.out 8 _ rfl
    have f0 := blk_free b1.out 0
    have f1 := blk_free b1.out 1
    have f2 := blk_free b1.out 2
    have f3 := blk_free b1.out 3
    have f4 := blk_free b1.out 4
    have f5 := blk_free b1.out 5
    have f6 := blk_free b1.out 6
    have f7 := blk_free b1.out 7
    have f8 := blk_free b1.out 8
    go_wp2_with fail
    refine bodyPost_ret (v := .tuple #[gtv gt0 ga0, .int .i64 12]) (by simp [results, Tryz.results31, go_sem, gtv, gt0, ga0, y0, y1, y2, y3, y4, y5, y6, y7, y8]) rfl ?_
    rw [HE.out]
    exact ⟨⟨ga0, rfl, gin0 _, gfr0 _⟩, turns_below hw (turns_set (turns_set (turns_set (turns_set (turns_set (turns_set (turns_set (turns_set (turns_set (World.grownBy.refl w3 (some (w.heap.size + 1))) 0 (.slice none 0 0)) 1 (.int .i64 0)) 2 (.bool false)) 3 (.int .i64 0)) 4 (.slice none 0 0)) 5 (.int .i64 0)) 6 (.int .i64 0)) 7 (.slice none 0 0)) 8 (.slice none 0 0)) hx hw.size⟩
  have HE := hide (E0 (by simp [z2, z3]))
  clear E2 E0 z2 z3 d2
  have x0 := blk_cell b0.out 0 _ rfl
  have x1 := blk_cell b0.out 1 _ rfl
  have x2 := blk_cell b0.out 2 _ rfl
  have x3 := blk_cell b0.out 3 _ rfl
  have x4 := blk_cell b0.out 4 _ rfl
  have x5 := blk_cell b0.out 5 _ rfl
  have x6 := blk_cell b0.out 6 _ rfl
  have x7 := blk_cell b0.out 7 _ rfl
  have x8 := blk_cell b0.out 8 _ rfl
  go_wp2_with fail
  have hF0 := hw.size
  refine (unhide HT _ hw).mono ?_
  rintro e w5 ⟨⟨k, bv, bd, rfl, ho, hoff⟩, hb5⟩
  have hlt := blk_lt b1.out
  replace b1 := hide (blk_below (blk_below b1.out hb5) (below_new (Below.refl w5.heap.size w5) (.cells #[.slice k.a k.n k.c, .int .i64 g.fu, .bool g.up, .int .i64 g.t.r.v, .slice k.ak k.nk k.ck, .int .i64 g.t.r.t, .int .i64 g.t.ver, .slice k.av k.nv k.cv, .slice k.ad k.nd k.cd] 68)))
  replace bS := hide (blk_below (blk_below bS.out hb5) (below_new (Below.refl w5.heap.size w5) (.cells #[.slice k.a k.n k.c, .int .i64 g.fu, .bool g.up, .int .i64 g.t.r.v, .slice k.ak k.nk k.ck, .int .i64 g.t.r.t, .int .i64 g.t.ver, .slice k.av k.nv k.cv, .slice k.ad k.nd k.cd] 68)))
  have hbx := hide (ho.boxed hb5.size (hoff _ (.inr (Nat.le_refl _))))
  have hw5 : Below w3.heap.size w3 (w5.alloc (.cells #[.slice k.a k.n k.c, .int .i64 g.fu, .bool g.up, .int .i64 g.t.r.v, .slice k.ak k.nk k.ck, .int .i64 g.t.r.t, .int .i64 g.t.ver, .slice k.av k.nv k.cv, .slice k.ad k.nd k.cd] 68)) := below_new hb5 _
  have hB := hb5.size
  clear HT ho hoff hb5 b0 x0 x1 x2 x3 x4 x5 x6 x7 x8
  unfold gtv
  go_upto_region 7 with fail
  generalize (w5.alloc (.cells #[.slice k.a k.n k.c, .int .i64 g.fu, .bool g.up, .int .i64 g.t.r.v, .slice k.ak k.nk k.ck, .int .i64 g.t.r.t, .int .i64 g.t.ver, .slice k.av k.nv k.cv, .slice k.ad k.nd k.cd] 68)) = W5 at *
  generalize w5.heap.size = B at *
  have s0 := blk_cell bS.out 0 _ rfl
  have s1 := blk_cell bS.out 1 _ rfl
  have s2 := blk_cell bS.out 2 _ rfl
  have s3 := blk_cell bS.out 3 _ rfl
  have s4 := blk_cell bS.out 4 _ rfl
  have hb3 := hide ((Below.refl W5.heap.size W5).alloc (Nat.le_refl _) (.cells #[.int .i64 3, .int .i64 s.n] 3))
  have HN := hide (note_any _ _ _ _ _ _ s (some ⟨W5.heap.size, 0, none⟩) 2 2 [3, s.n] _ (hbx.out.below hb3.out) (gi_made2 W5 3 s.n 3))
  unfold gsv at HN
  go_wp2_with fail
  refine (unhide HN).mono ?_
  rintro e w6 ⟨rfl, ⟨k2, hb7⟩, hg7⟩
  have g7 := (g3_below (B := B) (b1 := bv) (b2 := bd) hb3.out).trans hg7
  have hb8 := g7.bel hw5 hB hb7.own.fv hb7.own.fd hw5.size
  replace b1 := hide (g7.blk b1.out (by omega) (by have := hb7.own.fv; omega) (by have := hb7.own.fd; omega))
  replace hw := hw.trans (hb8.mono hw.size)
  replace HE := HE.out
  generalize (noteG g s [3, s.n]).1 = g2 at *
  have HE := hide HE
  have bC := hide hb7.box
  unfold gtO at bC
  have HB := hide hb7
  clear hb7 hg7 g7 hb8 HN hbx bS s0 s1 s2 s3 s4
  have x0 := blk_cell bC.out 0 _ rfl
  have x1 := blk_cell bC.out 1 _ rfl
  have x2 := blk_cell bC.out 2 _ rfl
  have x3 := blk_cell bC.out 3 _ rfl
  have x4 := blk_cell bC.out 4 _ rfl
  have x5 := blk_cell bC.out 5 _ rfl
  have x6 := blk_cell bC.out 6 _ rfl
  have x7 := blk_cell bC.out 7 _ rfl
  have x8 := blk_cell bC.out 8 _ rfl
  have y0 := blk_cell b1.out 0 _ rfl
  have y1 := blk_cell b1.out 1 _ rfl
  have y2 := blk_cell b1.out 2 _ rfl
  have y3 := blk_cell b1.out 3 _ rfl
  have y4 := blk_cell b1.out 4 _ rfl
  have y5 := blk_cell b1.out 5 _ rfl
  have y6 := blk_cell b1.out 6 _ rfl
  have y7 := blk_cell b1.out 7 _ rfl
  have y8 := blk_cell b1.out 8 _ rfl
  have f0 := blk_free b1.out 0
  have f1 := blk_free b1.out 1
  have f2 := blk_free b1.out 2
  have f3 := blk_free b1.out 3
  have f4 := blk_free b1.out 4
  have f5 := blk_free b1.out 5
  have f6 := blk_free b1.out 6
  have f7 := blk_free b1.out 7
  have f8 := blk_free b1.out 8
  go_wp2_with fail
  refine bodyPost_ret (v := .tuple #[gtv g2 k2, .int .i64 0]) (by simp [results, Tryz.results31, go_sem, gtv, y0, y1, y2, y3, y4, y5, y6, y7, y8]) rfl ?_
  rw [HE.out]
  have hT := turns_set (turns_set (turns_set (turns_set (turns_set (turns_set (turns_set (turns_set (turns_set (World.grownBy.refl w6 (some (w.heap.size + 1))) 0 (.slice k2.a k2.n k2.c)) 1 (.int .i64 g2.fu)) 2 (.bool g2.up)) 3 (.int .i64 g2.t.r.v)) 4 (.slice k2.ak k2.nk k2.ck)) 5 (.int .i64 g2.t.r.t)) 6 (.int .i64 g2.t.ver)) 7 (.slice k2.av k2.nv k2.cv)) 8 (.slice k2.ad k2.nd k2.cd)
  exact ⟨⟨k2, rfl, (HB.out.own.low hT hlt).gin, HB.out.own.fr hF0⟩, turns_below hw hT hx hw.size⟩

end Go.Proofs.YtgngpmgjoifepaaGreatDoor

namespace Go.Proofs.YtgngpmgjoifepaaGreatDoor
open Go.RowKit
attribute [local go_sem ↓] Go.wp_at_zero Go.wp_at_succ

theorem verdict_any (s : Gs) (u n : Int) (w : World) :
    Calls Tryz.prog 97 #[gsv s, .int .i64 u, .int .i64 n] w fun e w' => e = .returned (msv (verd s u n) none 0 0) ∧ Below w.heap.size w w' := by
  unfold gsv
  by_cases z : s.n = n
  · have d : (s.n == n) = true := by simpa using z
    cases z2 : s.co
    · have HE : Hid (verd s u n = ⟨5, u, n, 0, 0, [], false⟩) := by show _ = _; unfold verd; rw [z2]; simp
      go_enter Tryz.func97, Tryz.ntmps97
      go_wp2_with fail
      refine bodyPost_ret (v := msv ⟨5, u, n, 0, 0, [], false⟩ none 0 0) (by simp [results, Tryz.results97, go_sem, msv]) rfl ?_
      rw [HE.out]
      exact ⟨rfl, ((Below.refl _ _).alloc (Nat.le_refl _) _).alloc (by simp) _⟩
    · have HE : Hid (verd s u n = ⟨4, u, n, 0, 0, [], false⟩) := by show _ = _; unfold verd; rw [z2]; simp [z]
      go_enter Tryz.func97, Tryz.ntmps97
      go_wp2_with fail
      refine bodyPost_ret (v := msv ⟨4, u, n, 0, 0, [], false⟩ none 0 0) (by simp [results, Tryz.results97, go_sem, msv]) rfl ?_
      rw [HE.out]
      exact ⟨rfl, ((Below.refl _ _).alloc (Nat.le_refl _) _).alloc (by simp) _⟩
  · have d : (s.n == n) = false := by simpa using z
    have HE : Hid (verd s u n = ⟨5, u, n, 0, 0, [], false⟩) := by show _ = _; unfold verd; simp [z]
    go_enter Tryz.func97, Tryz.ntmps97
    go_wp2_with fail
    refine bodyPost_ret (v := msv ⟨5, u, n, 0, 0, [], false⟩ none 0 0) (by simp [results, Tryz.results97, go_sem, msv]) rfl ?_
    rw [HE.out]
    exact ⟨rfl, ((Below.refl _ _).alloc (Nat.le_refl _) _).alloc (by simp) _⟩

theorem unless_any (b : Bool) (m : Ms) (hm : m.ws = []) (w : World) :
    Calls Tryz.prog 96 #[.bool b, msv m none 0 0] w fun e w' => (∃ a n c, e = .returned (.slice a n c) ∧ IsMsgs w' a (if b = true then [] else [m]) ∧ (if b = true then [] else [m]).length = n ∧ n ≤ c ∧ FreshA w.heap.size a) ∧ Below w.heap.size w w' := by
  unfold msv
  cases b
  · go_enter Tryz.func96, Tryz.ntmps96
    go_wp2_with fail
    go_ret
    have hs : (w.alloc (.cells #[.int .i64 m.k, .int .i64 m.u, .int .i64 m.n, .int .i64 m.at', .int .i64 m.im, .slice none 0 0, .bool m.y] 31)).heap.size = w.heap.size + 1 := by simp
    have hl := heap_alloc_last (w.alloc (.cells #[.int .i64 m.k, .int .i64 m.u, .int .i64 m.n, .int .i64 m.at', .int .i64 m.im, .slice none 0 0, .bool m.y] 31)) (.cells #[.int .i64 m.k, .int .i64 m.u, .int .i64 m.n, .int .i64 m.at', .int .i64 m.im, .slice none 0 0, .bool m.y] 31)
    rw [hs] at hl
    exact ⟨⟨_, 1, 1, rfl, isMsgs_one hm hl, rfl, Nat.le_refl _, fun ad e => by cases e; exact Nat.le_succ _⟩, ((Below.refl _ _).alloc (Nat.le_refl _) _).alloc (by simp) _⟩
  · go_enter Tryz.func96, Tryz.ntmps96
    go_wp2_with fail
    go_ret
    exact ⟨⟨none, 0, 0, rfl, .inl rfl, rfl, Nat.le_refl _, FreshA.nil _⟩, (Below.refl _ _).alloc (Nat.le_refl _) _⟩

theorem isUnit_any (g : Gt) (m : GA) (u : Int) (w : World) (h : GIn w m g) :
    Calls Tryz.prog 95 #[gtv g m, .int .i64 u] w fun e w' => e = .returned (.bool (inB u 0 ((g.vo.length : Int) - 1))) ∧ Below w.heap.size w w' := by
  have hl := h.vo.len
  have hm := h.vo.max
  have HW : Hid (wrap64 ((m.nv : Int) - 1) = (m.nv : Int) - 1) := by show _ = _; unfold maxLen at hm; unfold wrap64; omega
  unfold gtv
  go_enter Tryz.func95, Tryz.ntmps95
  go_wp2_with fail
  rw [HW.out]
  refine (gWithin_any _ _ _ _).mono ?_
  rintro e w1 ⟨rfl, rfl⟩
  go_wp2_with fail
  go_ret
  exact ⟨ret_bool (by rw [hl]), (Below.refl _ _).alloc (Nat.le_refl _) _⟩

end Go.Proofs.YtgngpmgjoifepaaGreatDoor
