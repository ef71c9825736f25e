/- The contract of gate.GiveUp. The contracts of gate.verdict, gate.unless, gate.isUnit. The contracts of trust.Count, checkSigs, trusted. The contract of trust.trusted. -/
import Derived.Test.YtgngpmgjoifepaaGreatDoorPt16
import Derived.Test.YtgngpmgjoifepaaGreatDoorPt12
namespace Go.Proofs.YtgngpmgjoifepaaGreatDoor
open Go.RowKit
attribute [local go_sem ↓] Go.wp_at_zero Go.wp_at_succ

theorem gvUp_e {g : Gt} (h : upE g ≠ 0) : gvUp g = (gt0, upE g) := by unfold gvUp; rw [if_pos h]
theorem gvUp_l {g : Gt} (h : upE g = 0) (h2 : (decide ((gOf g.ws).n = 0) || decG (gOf g.ws)) = true) : gvUp g = (gt0, 12) := by unfold gvUp; rw [if_neg (by simpa using h), if_pos h2]
theorem gvUp_0 {g : Gt} (h : upE g = 0) (h2 : (decide ((gOf g.ws).n = 0) || decG (gOf g.ws)) = false) : gvUp g = ((noteG g (gOf g.ws) [3, (gOf g.ws).n]).1, 0) := by unfold gvUp; rw [if_neg (by simpa using h), if_neg (by rw [h2]; decide)]
theorem gUpS_no {g : Gt} (h : upE g ≠ 0) : gUpS g = (gs0, upE g) := by unfold gUpS; rw [if_pos h]
theorem gUpS_ok {g : Gt} (h : upE g = 0) : gUpS g = (gOf g.ws, 0) := by unfold gUpS; rw [if_neg (by simpa using h)]
theorem upE_gt {g : Gt} (h : upE g = 0) : gtE g = 0 := by
  rcases Decidable.em (gtE g = 0) with h1 | h1
  { exact h1 }
  {
  rw [upE_e h1] at h; exact absurd h h1

  }
set_option maxRecDepth 100000 in
set_option maxHeartbeats 6400000 in
theorem giveUp_any (g : Gt) (m : GA) (w : World) (h : GIn w m g) :
    Calls Tryz.prog 31 #[gtv g m] w (GAns w (gvUp g)) := by
  have E1 := fun h => gvUp_e (g := g) h
  have E2 := fun h h2 => gvUp_l (g := g) h h2
  have E0 := fun h h2 => gvUp_0 (g := g) h h2
  have hw : Below w.heap.size w ((w.alloc (.cells #[.slice m.a m.n m.c, .int .i64 g.fu, .bool g.up, .int .i64 g.t.r.v, .slice m.ak m.nk m.ck, .int .i64 g.t.r.t, .int .i64 g.t.ver, .slice m.av m.nv m.cv, .slice m.ad m.nd m.cd] 68)).alloc (.cells #[.slice none 0 0, .int .i64 0, .bool false, .int .i64 0, .slice none 0 0, .int .i64 0, .int .i64 0, .slice none 0 0, .slice none 0 0] 68)) := ((Below.refl _ _).alloc (Nat.le_refl _) _).alloc (by simp) _
  have b1 : Hid (((w.alloc (.cells #[.slice m.a m.n m.c, .int .i64 g.fu, .bool g.up, .int .i64 g.t.r.v, .slice m.ak m.nk m.ck, .int .i64 g.t.r.t, .int .i64 g.t.ver, .slice m.av m.nv m.cv, .slice m.ad m.nd m.cd] 68)).alloc (.cells #[.slice none 0 0, .int .i64 0, .bool false, .int .i64 0, .slice none 0 0, .int .i64 0, .int .i64 0, .slice none 0 0, .slice none 0 0] 68)).heap[w.heap.size + 1]? = some (.cells #[.slice none 0 0, .int .i64 0, .bool false, .int .i64 0, .slice none 0 0, .int .i64 0, .int .i64 0, .slice none 0 0, .slice none 0 0] 68 (0, 0))) := by have := heap_alloc_last (w.alloc (.cells #[.slice m.a m.n m.c, .int .i64 g.fu, .bool g.up, .int .i64 g.t.r.v, .slice m.ak m.nk m.ck, .int .i64 g.t.r.t, .int .i64 g.t.ver, .slice m.av m.nv m.cv, .slice m.ad m.nd m.cd] 68)) (.cells #[.slice none 0 0, .int .i64 0, .bool false, .int .i64 0, .slice none 0 0, .int .i64 0, .int .i64 0, .slice none 0 0, .slice none 0 0] 68); rw [show (w.alloc (.cells #[.slice m.a m.n m.c, .int .i64 g.fu, .bool g.up, .int .i64 g.t.r.v, .slice m.ak m.nk m.ck, .int .i64 g.t.r.t, .int .i64 g.t.ver, .slice m.av m.nv m.cv, .slice m.ad m.nd m.cd] 68)).heap.size = w.heap.size + 1 from by simp] at this; exact this
  have b0 : Hid (((w.alloc (.cells #[.slice m.a m.n m.c, .int .i64 g.fu, .bool g.up, .int .i64 g.t.r.v, .slice m.ak m.nk m.ck, .int .i64 g.t.r.t, .int .i64 g.t.ver, .slice m.av m.nv m.cv, .slice m.ad m.nd m.cd] 68)).alloc (.cells #[.slice none 0 0, .int .i64 0, .bool false, .int .i64 0, .slice none 0 0, .int .i64 0, .int .i64 0, .slice none 0 0, .slice none 0 0] 68)).heap[w.heap.size]? = some (.cells #[.slice m.a m.n m.c, .int .i64 g.fu, .bool g.up, .int .i64 g.t.r.v, .slice m.ak m.nk m.ck, .int .i64 g.t.r.t, .int .i64 g.t.ver, .slice m.av m.nv m.cv, .slice m.ad m.nd m.cd] 68 (0, 0))) := blk_below (heap_alloc_last w (.cells #[.slice m.a m.n m.c, .int .i64 g.fu, .bool g.up, .int .i64 g.t.r.v, .slice m.ak m.nk m.ck, .int .i64 g.t.r.t, .int .i64 g.t.ver, .slice m.av m.nv m.cv, .slice m.ad m.nd m.cd] 68)) (below_new (Below.refl _ _) _)
  have HU := hide (fun W (hW : Below w.heap.size w W) => stateUp_any g m W (h.below hW))
  have HP := hide h
  have hx : w.heap.size ≤ w.heap.size + 1 := by omega
  clear h
  unfold gtv at HU
  unfold gtv
  go_enter Tryz.func31, Tryz.ntmps31
  go_wp2_with fail
  generalize ((w.alloc (.cells #[.slice m.a m.n m.c, .int .i64 g.fu, .bool g.up, .int .i64 g.t.r.v, .slice m.ak m.nk m.ck, .int .i64 g.t.r.t, .int .i64 g.t.ver, .slice m.av m.nv m.cv, .slice m.ad m.nd m.cd] 68)).alloc (.cells #[.slice none 0 0, .int .i64 0, .bool false, .int .i64 0, .slice none 0 0, .int .i64 0, .int .i64 0, .slice none 0 0, .slice none 0 0] 68)) = W at *
  refine (unhide HU _ hw).mono ?_
  rintro e w1 ⟨rfl, hb⟩
  replace b0 := hide (blk_below b0.out hb)
  replace b1 := hide (blk_below b1.out hb)
  replace hw := hw.trans (hb.mono hw.size)
  clear hb HU
  by_cases z1 : upE g = 0
  rotate_left
  {
  have HE := hide (E1 z1)
  have d1 : (upE g != 0) = true := by simpa using z1
  rw [gUpS_no z1]
  unfold gsv gs0
  replace b1 := hide (blk_below b1.out (below_new (Below.refl w1.heap.size w1) (.cells #[.int .i64 0, .int .i64 0, .bool false, .bool false, .bool false] 82)))
  have hw2 : Below w.heap.size w (w1.alloc (.cells #[.int .i64 0, .int .i64 0, .bool false, .bool false, .bool false] 82)) := hw.alloc hw.size _
  clear z1 E1 E0 E2
  generalize upE g = q at *
  go_upto_region 2 with fail
  generalize (w1.alloc (.cells #[.int .i64 0, .int .i64 0, .bool false, .bool false, .bool false] 82)) = W1 at *
  obtain ⟨y0, y1, y2, y3, y4, y5, y6, y7, y8⟩ := cl9 b1.out
  obtain ⟨f0, f1, f2, f3, f4, f5, f6, f7, f8⟩ := fr9 b1.out
  go_wp2_with fail
  refine bodyPost_ret (v := .tuple #[gtv gt0 ga0, .int .i64 q]) (by simp [results, Tryz.results31, go_sem, gtv, gt0, ga0, y0, y1, y2, y3, y4, y5, y6, y7, y8]) rfl ?_
  rw [HE.out]
  exact ⟨⟨ga0, rfl, gin0 _, gfr0 _⟩, turns_below hw2 (turns_set (turns_set (turns_set (turns_set (turns_set (turns_set (turns_set (turns_set (turns_set (World.grownBy.refl W1 (some (w.heap.size + 1))) 0 (.slice none 0 0)) 1 (.int .i64 0)) 2 (.bool false)) 3 (.int .i64 0)) 4 (.slice none 0 0)) 5 (.int .i64 0)) 6 (.int .i64 0)) 7 (.slice none 0 0)) 8 (.slice none 0 0)) hx hw2.size⟩
  }
  rw [gUpS_ok z1]
  replace E2 := E2 z1
  replace E0 := E0 z1
  obtain ⟨hlw, hlk, hlv, hld⟩ := HP.out.sizes (upE_gt z1)
  have HT := hide (fun W (hW : Below w.heap.size w W) => gateTwin_any g m W (HP.out.below hW) hlw hlk hlv hld)
  unfold gtv at HT
  clear z1 E1 hlw hlk hlv hld
  generalize gOf g.ws = s at *
  have HD := hide (fun W => decided_any s W)
  unfold gsv at HD
  unfold gsv
  have bS := hide (heap_alloc_last w1 (.cells #[.int .i64 s.n, .int .i64 s.v, .bool s.co, .bool s.ab, .bool s.en] 82))
  replace b0 := hide (blk_below b0.out (below_new (Below.refl w1.heap.size w1) (.cells #[.int .i64 s.n, .int .i64 s.v, .bool s.co, .bool s.ab, .bool s.en] 82)))
  replace b1 := hide (blk_below b1.out (below_new (Below.refl w1.heap.size w1) (.cells #[.int .i64 s.n, .int .i64 s.v, .bool s.co, .bool s.ab, .bool s.en] 82)))
  replace hw : Below w.heap.size w (w1.alloc (.cells #[.int .i64 s.n, .int .i64 s.v, .bool s.co, .bool s.ab, .bool s.en] 82)) := hw.alloc hw.size _
  go_upto_region 2 with fail
  generalize (w1.alloc (.cells #[.int .i64 s.n, .int .i64 s.v, .bool s.co, .bool s.ab, .bool s.en] 82)) = W1 at *
  generalize w1.heap.size = S at *
  obtain ⟨s0, s1, s2, s3, s4⟩ := cl5 bS.out
  by_cases z2 : s.n = 0
  {
  have HE := hide (E2 (by simp [z2]))
  have d2 : (s.n == 0) = true := by simpa using z2
  clear E2 E0 HT HD z2
  obtain ⟨y0, y1, y2, y3, y4, y5, y6, y7, y8⟩ := cl9 b1.out
  obtain ⟨f0, f1, f2, f3, f4, f5, f6, f7, f8⟩ := fr9 b1.out
  go_wp2_with fail
  refine bodyPost_ret (v := .tuple #[gtv gt0 ga0, .int .i64 12]) (by simp [results, Tryz.results31, go_sem, gtv, gt0, ga0, y0, y1, y2, y3, y4, y5, y6, y7, y8]) rfl ?_
  rw [HE.out]
  exact ⟨⟨ga0, rfl, gin0 _, gfr0 _⟩, turns_below hw (turns_set (turns_set (turns_set (turns_set (turns_set (turns_set (turns_set (turns_set (turns_set (World.grownBy.refl W1 (some (w.heap.size + 1))) 0 (.slice none 0 0)) 1 (.int .i64 0)) 2 (.bool false)) 3 (.int .i64 0)) 4 (.slice none 0 0)) 5 (.int .i64 0)) 6 (.int .i64 0)) 7 (.slice none 0 0)) 8 (.slice none 0 0)) hx hw.size⟩
  }
  have d2 : (s.n == 0) = false := by simpa using z2
  go_wp2_with fail
  refine (unhide HD _).mono ?_
  rintro e w3 ⟨rfl, hb3⟩
  replace b0 := hide (blk_below b0.out hb3)
  replace b1 := hide (blk_below b1.out hb3)
  replace bS := hide (blk_below bS.out hb3)
  replace hw := hw.trans (hb3.mono hw.size)
  clear hb3 HD s0 s1 s2 s3 s4
  cases z3 : decG s
  rotate_left
  {
  have HE := hide (E2 (by simp [z3]))
  clear E2 E0 HT z2
  obtain ⟨y0, y1, y2, y3, y4, y5, y6, y7, y8⟩ := cl9 b1.out
  obtain ⟨f0, f1, f2, f3, f4, f5, f6, f7, f8⟩ := fr9 b1.out
  go_wp2_with fail
  refine bodyPost_ret (v := .tuple #[gtv gt0 ga0, .int .i64 12]) (by simp [results, Tryz.results31, go_sem, gtv, gt0, ga0, y0, y1, y2, y3, y4, y5, y6, y7, y8]) rfl ?_
  rw [HE.out]
  exact ⟨⟨ga0, rfl, gin0 _, gfr0 _⟩, turns_below hw (turns_set (turns_set (turns_set (turns_set (turns_set (turns_set (turns_set (turns_set (turns_set (World.grownBy.refl w3 (some (w.heap.size + 1))) 0 (.slice none 0 0)) 1 (.int .i64 0)) 2 (.bool false)) 3 (.int .i64 0)) 4 (.slice none 0 0)) 5 (.int .i64 0)) 6 (.int .i64 0)) 7 (.slice none 0 0)) 8 (.slice none 0 0)) hx hw.size⟩
  }
  have HE := hide (E0 (by simp [z2, z3]))
  clear E2 E0 z2 z3 d2
  obtain ⟨x0, x1, x2, x3, x4, x5, x6, x7, x8⟩ := cl9 b0.out
  go_wp2_with fail
  have hF0 := hw.size
  refine (unhide HT _ hw).mono ?_
  rintro e w5 ⟨⟨k, bv, bd, rfl, ho, hoff⟩, hb5⟩
  have hlt := blk_lt b1.out
  replace b1 := hide (blk_below (blk_below b1.out hb5) (below_new (Below.refl w5.heap.size w5) (.cells #[.slice k.a k.n k.c, .int .i64 g.fu, .bool g.up, .int .i64 g.t.r.v, .slice k.ak k.nk k.ck, .int .i64 g.t.r.t, .int .i64 g.t.ver, .slice k.av k.nv k.cv, .slice k.ad k.nd k.cd] 68)))
  replace bS := hide (blk_below (blk_below bS.out hb5) (below_new (Below.refl w5.heap.size w5) (.cells #[.slice k.a k.n k.c, .int .i64 g.fu, .bool g.up, .int .i64 g.t.r.v, .slice k.ak k.nk k.ck, .int .i64 g.t.r.t, .int .i64 g.t.ver, .slice k.av k.nv k.cv, .slice k.ad k.nd k.cd] 68)))
  have hbx := hide (ho.boxed hb5.size (hoff _ (.inr (Nat.le_refl _))))
  have hw5 : Below w3.heap.size w3 (w5.alloc (.cells #[.slice k.a k.n k.c, .int .i64 g.fu, .bool g.up, .int .i64 g.t.r.v, .slice k.ak k.nk k.ck, .int .i64 g.t.r.t, .int .i64 g.t.ver, .slice k.av k.nv k.cv, .slice k.ad k.nd k.cd] 68)) := below_new hb5 _
  have hB := hb5.size
  clear HT ho hoff hb5 b0 x0 x1 x2 x3 x4 x5 x6 x7 x8
  unfold gtv
  go_upto_region 7 with fail
  generalize (w5.alloc (.cells #[.slice k.a k.n k.c, .int .i64 g.fu, .bool g.up, .int .i64 g.t.r.v, .slice k.ak k.nk k.ck, .int .i64 g.t.r.t, .int .i64 g.t.ver, .slice k.av k.nv k.cv, .slice k.ad k.nd k.cd] 68)) = W5 at *
  generalize w5.heap.size = B at *
  obtain ⟨s0, s1, s2, s3, s4⟩ := cl5 bS.out
  have hb3 := hide ((Below.refl W5.heap.size W5).alloc (Nat.le_refl _) (.cells #[.int .i64 3, .int .i64 s.n] 3))
  have HN := hide (note_any _ _ _ _ _ _ s (some ⟨W5.heap.size, 0, none⟩) 2 2 [3, s.n] _ (hbx.out.below hb3.out) (gi_made2 W5 3 s.n 3))
  unfold gsv at HN
  go_wp2_with fail
  refine (unhide HN).mono ?_
  rintro e w6 ⟨rfl, ⟨k2, hb7⟩, hg7⟩
  have g7 := (g3_below (B := B) (b1 := bv) (b2 := bd) hb3.out).trans hg7
  have hb8 := g7.bel hw5 hB hb7.own.fv hb7.own.fd hw5.size
  replace b1 := hide (g7.blk b1.out (by omega) (by have := hb7.own.fv; omega) (by have := hb7.own.fd; omega))
  replace hw := hw.trans (hb8.mono hw.size)
  replace HE := HE.out
  generalize (noteG g s [3, s.n]).1 = g2 at *
  have HE := hide HE
  have bC := hide hb7.box
  unfold gtO at bC
  have HB := hide hb7
  clear hb7 hg7 g7 hb8 HN hbx bS s0 s1 s2 s3 s4
  obtain ⟨x0, x1, x2, x3, x4, x5, x6, x7, x8⟩ := cl9 bC.out
  obtain ⟨y0, y1, y2, y3, y4, y5, y6, y7, y8⟩ := cl9 b1.out
  obtain ⟨f0, f1, f2, f3, f4, f5, f6, f7, f8⟩ := fr9 b1.out
  go_wp2_with fail
  refine bodyPost_ret (v := .tuple #[gtv g2 k2, .int .i64 0]) (by simp [results, Tryz.results31, go_sem, gtv, y0, y1, y2, y3, y4, y5, y6, y7, y8]) rfl ?_
  rw [HE.out]
  have hT := turns_set (turns_set (turns_set (turns_set (turns_set (turns_set (turns_set (turns_set (turns_set (World.grownBy.refl w6 (some (w.heap.size + 1))) 0 (.slice k2.a k2.n k2.c)) 1 (.int .i64 g2.fu)) 2 (.bool g2.up)) 3 (.int .i64 g2.t.r.v)) 4 (.slice k2.ak k2.nk k2.ck)) 5 (.int .i64 g2.t.r.t)) 6 (.int .i64 g2.t.ver)) 7 (.slice k2.av k2.nv k2.cv)) 8 (.slice k2.ad k2.nd k2.cd)
  exact ⟨⟨k2, rfl, (HB.out.own.low hT hlt).gin, HB.out.own.fr hF0⟩, turns_below hw hT hx hw.size⟩

end Go.Proofs.YtgngpmgjoifepaaGreatDoor

namespace Go.Proofs.YtgngpmgjoifepaaGreatDoor
open Go.RowKit
attribute [local go_sem ↓] Go.wp_at_zero Go.wp_at_succ

theorem verdict_any (s : Gs) (u n : Int) (w : World) :
    Calls Tryz.prog 97 #[gsv s, .int .i64 u, .int .i64 n] w fun e w' => e = .returned (msv (verd s u n) none 0 0) ∧ Below w.heap.size w w' := by
  unfold gsv
  by_cases z : s.n = n
  {
  have d : (s.n == n) = true := by simpa using z
  cases z2 : s.co
  {
  have HE : Hid (verd s u n = ⟨5, u, n, 0, 0, [], false⟩) := by show _ = _; unfold verd; rw [z2]; simp
  go_enter Tryz.func97, Tryz.ntmps97
  go_wp2_with fail
  refine bodyPost_ret (v := msv ⟨5, u, n, 0, 0, [], false⟩ none 0 0) (by simp [results, Tryz.results97, go_sem, msv]) rfl ?_
  rw [HE.out]
  exact ⟨rfl, ((Below.refl _ _).alloc (Nat.le_refl _) _).alloc (by simp) _⟩
  }
  {
  have HE : Hid (verd s u n = ⟨4, u, n, 0, 0, [], false⟩) := by show _ = _; unfold verd; rw [z2]; simp [z]
  go_enter Tryz.func97, Tryz.ntmps97
  go_wp2_with fail
  refine bodyPost_ret (v := msv ⟨4, u, n, 0, 0, [], false⟩ none 0 0) (by simp [results, Tryz.results97, go_sem, msv]) rfl ?_
  rw [HE.out]
  exact ⟨rfl, ((Below.refl _ _).alloc (Nat.le_refl _) _).alloc (by simp) _⟩
  }
  }
  {
  have d : (s.n == n) = false := by simpa using z
  have HE : Hid (verd s u n = ⟨5, u, n, 0, 0, [], false⟩) := by show _ = _; unfold verd; simp [z]
  go_enter Tryz.func97, Tryz.ntmps97
  go_wp2_with fail
  refine bodyPost_ret (v := msv ⟨5, u, n, 0, 0, [], false⟩ none 0 0) (by simp [results, Tryz.results97, go_sem, msv]) rfl ?_
  rw [HE.out]
  exact ⟨rfl, ((Below.refl _ _).alloc (Nat.le_refl _) _).alloc (by simp) _⟩

  }
theorem unless_any (b : Bool) (m : Ms) (hm : m.ws = []) (w : World) :
    Calls Tryz.prog 96 #[.bool b, msv m none 0 0] w fun e w' => (∃ a n c, e = .returned (.slice a n c) ∧ IsMsgs w' a (if b = true then [] else [m]) ∧ (if b = true then [] else [m]).length = n ∧ n ≤ c ∧ FreshA w.heap.size a) ∧ Below w.heap.size w w' := by
  unfold msv
  cases b
  {
  go_enter Tryz.func96, Tryz.ntmps96
  go_wp2_with fail
  go_ret
  have hs : (w.alloc (.cells #[.int .i64 m.k, .int .i64 m.u, .int .i64 m.n, .int .i64 m.at', .int .i64 m.im, .slice none 0 0, .bool m.y] 31)).heap.size = w.heap.size + 1 := by simp
  have hl := heap_alloc_last (w.alloc (.cells #[.int .i64 m.k, .int .i64 m.u, .int .i64 m.n, .int .i64 m.at', .int .i64 m.im, .slice none 0 0, .bool m.y] 31)) (.cells #[.int .i64 m.k, .int .i64 m.u, .int .i64 m.n, .int .i64 m.at', .int .i64 m.im, .slice none 0 0, .bool m.y] 31)
  rw [hs] at hl
  exact ⟨⟨_, 1, 1, rfl, isMsgs_one hm hl, rfl, Nat.le_refl _, fun ad e => by cases e; exact Nat.le_succ _⟩, ((Below.refl _ _).alloc (Nat.le_refl _) _).alloc (by simp) _⟩
  }
  {
  go_enter Tryz.func96, Tryz.ntmps96
  go_wp2_with fail
  go_ret
  exact ⟨⟨none, 0, 0, rfl, .inl rfl, rfl, Nat.le_refl _, FreshA.nil _⟩, (Below.refl _ _).alloc (Nat.le_refl _) _⟩

  }
theorem isUnit_any (g : Gt) (m : GA) (u : Int) (w : World) (h : GIn w m g) :
    Calls Tryz.prog 95 #[gtv g m, .int .i64 u] w fun e w' => e = .returned (.bool (inB u 0 ((g.vo.length : Int) - 1))) ∧ Below w.heap.size w w' := by
  have hl := h.vo.len
  have hm := h.vo.max
  have HW : Hid (wrap64 ((m.nv : Int) - 1) = (m.nv : Int) - 1) := by show _ = _; unfold maxLen at hm; unfold wrap64; omega
  unfold gtv
  go_enter Tryz.func95, Tryz.ntmps95
  go_wp2_with fail
  rw [HW.out]
  refine (gWithin_any _ _ _ _).mono ?_
  rintro e w1 ⟨rfl, rfl⟩
  go_wp2_with fail
  go_ret
  exact ⟨ret_bool (by rw [hl]), (Below.refl _ _).alloc (Nat.le_refl _) _⟩

end Go.Proofs.YtgngpmgjoifepaaGreatDoor

namespace Go.Proofs.YtgngpmgjoifepaaGreatDoor
open Go.RowKit

theorem cntE_1 {l : List S2} {r : Rt} {sigs : List Int} (h : sigE l ≠ 0) : cntE l r sigs = sigE l := by unfold cntE; rw [if_neg h]
theorem cntE_2 {l : List S2} {r : Rt} {sigs : List Int} (h : sigE l = 0) (h2 : r.e ≠ 0) : cntE l r sigs = r.e := by unfold cntE; rw [if_pos h, if_neg h2]
theorem cntE_3 {l : List S2} {r : Rt} {sigs : List Int} (h : sigE l = 0) (h2 : r.e = 0) (h3 : 50 < sigs.length) : cntE l r sigs = 2 := by unfold cntE; rw [if_pos h, if_pos h2, if_pos h3]
theorem cntE_0 {l : List S2} {r : Rt} {sigs : List Int} (h : sigE l = 0) (h2 : r.e = 0) (h3 : ¬ 50 < sigs.length) : cntE l r sigs = 0 := by unfold cntE; rw [if_pos h, if_pos h2, if_neg h3]
theorem cntV_0 {l : List S2} {r : Rt} {sigs : List Int} {name : Int} (h : cntE l r sigs = 0) : cntV l r sigs name = (cntN l r.ks sigs name : Int) := by unfold cntV; rw [if_pos h]
theorem cntV_1 {l : List S2} {r : Rt} {sigs : List Int} {name : Int} (h : cntE l r sigs ≠ 0) : cntV l r sigs name = 0 := by unfold cntV; rw [if_neg h]

set_option maxHeartbeats 1600000 in
set_option maxRecDepth 100000 in
theorem count_any (a1 : Option Addr) (n1 c1 : Nat) (l : List S2) (r : Rt) (a2 : Option Addr) (n2 c2 : Nat) (a3 : Option Addr) (n3 c3 : Nat) (sigs : List Int) (name : Int) (w : World) (h1 : BG w a1 n1 l) (h2 : BI w a2 n2 r.ks) (h3 : BI w a3 n3 sigs) :
    Calls Tryz.prog 212 #[.slice a1 n1 c1, rv r.v a2 n2 c2 r.t, .slice a3 n3 c3, .int .i64 name] w fun e w' => e = .returned (.tuple #[.int .i64 (cntV l r sigs name), .int .i64 (cntE l r sigs)]) ∧ Below w.heap.size w w' := by
  have hw0 : Below w.heap.size w (w.alloc (.cells #[.int .i64 r.v, .slice a2 n2 c2, .int .i64 r.t] 63)) := (Below.refl _ _).alloc (Nat.le_refl _) _
  have b0 := hide (heap_alloc_last w (.cells #[.int .i64 r.v, .slice a2 n2 c2, .int .i64 r.t] 63))
  have HS := hide (fun W (hW : Below w.heap.size w W) => checkSigned_any a1 n1 c1 l W (h1.below hW))
  have HR : Hid (∀ W, Below w.heap.size w W → Calls Tryz.prog 146 #[rv r.v a2 n2 c2 r.t] W fun e w' => e = .returned (.int .i64 r.e) ∧ Below W.heap.size W w') := fun W hW => checkRoot_any r.v a2 n2 c2 r.t r.ks W (h2.below hW).at_ h2.len h2.max
  have HC := hide (fun W k (hW : Below w.heap.size w W) => contains_ints a3 n3 c3 sigs k W (h3.below hW))
  have HD := hide (fun W s (hW : Below w.heap.size w W) => contains_sigs a1 n1 c1 l s W (h1.below hW))
  have HI := hide h2.at_
  have HL2 := hide h2.len
  have HL3 := hide h3.len
  have m2 := h2.max
  have m3 := h3.max
  unfold maxLen at m2 m3
  unfold rv at HR ⊢
  unfold sv at HD
  clear h1 h2 h3
  by_cases z1 : sigE l = 0
  {
  rw [z1] at HS
  by_cases z2 : r.e = 0
  {
  rw [z2] at HR
  by_cases z3 : 50 < n3
  {
  have HE := hide (cntE_3 z1 z2 (sigs := sigs) (by rw [HL3.out]; exact z3))
  have HV := hide (cntV_1 (name := name) (by rw [HE.out]; decide))
  clear z1 z2
  go_enter Tryz.func212, Tryz.ntmps212
  go_wp2_with fail
  generalize w.alloc (.cells #[.int .i64 r.v, .slice a2 n2 c2, .int .i64 r.t] 63) = W at *
  refine (unhide HS _ hw0).mono ?_
  rintro e w1 ⟨rfl, hb1⟩
  replace b0 := hide (blk_below b0.out hb1)
  replace hw0 := hw0.trans (hb1.mono hw0.size)
  clear hb1
  have x0 := blk_cell b0.out 0 _ rfl
  have x1 := blk_cell b0.out 1 _ rfl
  have x2 := blk_cell b0.out 2 _ rfl
  go_wp2_with fail
  refine (unhide HR _ hw0).mono ?_
  rintro e w2 ⟨rfl, hb2⟩
  replace hw0 := hw0.trans (hb2.mono hw0.size)
  go_wp2_with fail
  go_ret2
  exact ⟨ret_ints HV.out.symm HE.out.symm, hw0⟩
  }
  {
  have HE := hide (cntE_0 z1 z2 (sigs := sigs) (by rw [HL3.out]; exact z3))
  have HV := hide (cntV_0 (name := name) HE.out)
  clear z1 z2
  go_enter Tryz.func212, Tryz.ntmps212
  go_wp2_with fail
  generalize w.alloc (.cells #[.int .i64 r.v, .slice a2 n2 c2, .int .i64 r.t] 63) = W at *
  refine (unhide HS _ hw0).mono ?_
  rintro e w1 ⟨rfl, hb1⟩
  replace b0 := hide (blk_below b0.out hb1)
  replace hw0 := hw0.trans (hb1.mono hw0.size)
  clear hb1
  have x0 := blk_cell b0.out 0 _ rfl
  have x1 := blk_cell b0.out 1 _ rfl
  have x2 := blk_cell b0.out 2 _ rfl
  go_wp2_with fail
  refine (unhide HR _ hw0).mono ?_
  rintro e w2 ⟨rfl, hb2⟩
  replace b0 := hide (blk_below b0.out hb2)
  replace hw0 := hw0.trans (hb2.mono hw0.size)
  clear hb2 x0 x1 x2
  have x1 := blk_cell b0.out 1 _ rfl
  go_wp2_with fail
  go_loopw [12, 31] (fun p i wr => ∃ (k q : Nat), k ≤ n2 ∧ q ≤ k ∧ p = .int .i64 (q : Int) ∧ i = .int .i64 k ∧ Below w.heap.size w wr ∧ Hid (q = cntN l (r.ks.take k) sigs name)) (fun _ i _ => n2 - (intOf i).toNat)
  case atStart => exact ⟨0, 0, Nat.zero_le _, Nat.le_refl _, rfl, rfl, hw0, by show _ = _; simp [cntN]⟩
  case round =>
    clear x1 b0 hw0
    obtain ⟨wq, rfl⟩ : ∃ wq : World, wq = wr := ⟨_, rfl⟩
    obtain ⟨k, q, hk, hqk, rfl, rfl, hw, ht⟩ := hrel
    by_cases hlt : k < n2
    {
    have hkx : k < r.ks.length := by rw [HL2.out]; exact hlt
    have i1 := HI.out.below hw
    rcases i1 with h0 | ⟨bb, oo, rfl, hc0⟩
    { rw [h0] at hkx; simp at hkx }
    have e0 := hc0 k hkx
    rw [show r.ks.getD k 0 = r.ks[k] by simp [hkx]] at e0
    have HQ := hide (cntN_step (l := l) (sigs := sigs) (name := name) hkx)
    clear hc0
    generalize r.ks[k] = x at *
    have HCx := hide (fun W hW => unhide HC W x hW)
    have HDx := hide (fun W hW => unhide HD W (x, name) hW)
    cases g1 : has sigs x
    {
    rw [g1] at HCx
    have HQ' := hide (show cntN l (r.ks.take (k + 1)) sigs name = q by rw [HQ.out, ← ht.out]; simp [hit, g1])
    clear g1
    go_wp2_with (go_at_call 221; refine (unhide HCx _ hw).mono ?_; rintro e w' ⟨rfl, rfl⟩)
    go_roundw
    case rel => exact ⟨k + 1, q, by omega, by omega, rfl, by go_num, hw, HQ'.out.symm⟩
    case measure => simp [intOf]; omega
    }
    {
    rw [g1] at HCx
    cases g2 : has l (x, name)
    {
    rw [g2] at HDx
    have HQ' := hide (show cntN l (r.ks.take (k + 1)) sigs name = q by rw [HQ.out, ← ht.out]; simp [hit, g2])
    clear g1 g2
    go_wp2_with (first | (go_at_call 221; refine (unhide HCx _ hw).mono ?_; rintro e w' ⟨rfl, rfl⟩) | (go_at_call 222; refine (unhide HDx _ hw).mono ?_; rintro e w5 ⟨rfl, hb5⟩))
    replace hw := hw.trans (hb5.mono hw.size)
    go_roundw
    case rel => exact ⟨k + 1, q, by omega, by omega, rfl, by go_num, hw, HQ'.out.symm⟩
    case measure => simp [intOf]; omega
    }
    {
    rw [g2] at HDx
    have HQ' := hide (show cntN l (r.ks.take (k + 1)) sigs name = q + 1 by rw [HQ.out, ← ht.out]; simp only [hit, g1, g2]; rfl)
    clear g1 g2
    go_wp2_with (first | (go_at_call 221; refine (unhide HCx _ hw).mono ?_; rintro e w' ⟨rfl, rfl⟩) | (go_at_call 222; refine (unhide HDx _ hw).mono ?_; rintro e w5 ⟨rfl, hb5⟩))
    replace hw := hw.trans (hb5.mono hw.size)
    go_roundw
    case rel => exact ⟨k + 1, q + 1, by omega, by omega, by go_num, by go_num, hw, HQ'.out.symm⟩
    case measure => simp [intOf]; omega
    }
    }
    }
    {
    go_wp2_with fail
    go_ret2
    have hx := ht.out
    rw [List.take_of_length_le (by rw [HL2.out]; omega)] at hx
    exact ⟨ret_ints (by rw [HV.out, ← hx]) HE.out.symm, hw⟩
    }
  }
  }
  {
  have HE := hide (cntE_2 (sigs := sigs) z1 z2)
  have HV := hide (cntV_1 (name := name) (sigs := sigs) (by rw [HE.out]; exact z2))
  have hb : (r.e != 0) = true := by simpa using z2
  clear z1 z2
  generalize r.e = q at *
  go_enter Tryz.func212, Tryz.ntmps212
  go_wp2_with fail
  generalize w.alloc (.cells #[.int .i64 r.v, .slice a2 n2 c2, .int .i64 r.t] 63) = W at *
  refine (unhide HS _ hw0).mono ?_
  rintro e w1 ⟨rfl, hb1⟩
  replace b0 := hide (blk_below b0.out hb1)
  replace hw0 := hw0.trans (hb1.mono hw0.size)
  clear hb1
  have x0 := blk_cell b0.out 0 _ rfl
  have x1 := blk_cell b0.out 1 _ rfl
  have x2 := blk_cell b0.out 2 _ rfl
  go_wp2_with fail
  refine (unhide HR _ hw0).mono ?_
  rintro e w2 ⟨rfl, hb2⟩
  replace hw0 := hw0.trans (hb2.mono hw0.size)
  go_wp2_with fail
  go_ret2
  exact ⟨ret_ints HV.out.symm HE.out.symm, hw0⟩
  }
  }
  {
  have HE := hide (cntE_1 (r := r) (sigs := sigs) z1)
  have HV := hide (cntV_1 (name := name) (r := r) (sigs := sigs) (by rw [HE.out]; exact z1))
  have hb : (sigE l != 0) = true := by simpa using z1
  clear z1
  generalize sigE l = q at *
  go_enter Tryz.func212, Tryz.ntmps212
  go_wp2_with fail
  generalize w.alloc (.cells #[.int .i64 r.v, .slice a2 n2 c2, .int .i64 r.t] 63) = W at *
  refine (unhide HS _ hw0).mono ?_
  rintro e w1 ⟨rfl, hb1⟩
  replace hw0 := hw0.trans (hb1.mono hw0.size)
  go_wp2_with fail
  go_ret2
  exact ⟨ret_ints HV.out.symm HE.out.symm, hw0⟩

  }
theorem csE_1 {l : List S2} {r : Rt} {sigs : List Int} {name : Int} (h : cntE l r sigs ≠ 0) : csE l r sigs name = cntE l r sigs := by unfold csE; rw [if_neg h]
theorem csE_2 {l : List S2} {r : Rt} {sigs : List Int} {name : Int} (h : cntE l r sigs = 0) (h2 : (cntN l r.ks sigs name : Int) < r.t) : csE l r sigs name = 9 := by unfold csE; rw [if_pos h, if_pos h2]
theorem csE_0 {l : List S2} {r : Rt} {sigs : List Int} {name : Int} (h : cntE l r sigs = 0) (h2 : ¬ (cntN l r.ks sigs name : Int) < r.t) : csE l r sigs name = 0 := by unfold csE; rw [if_pos h, if_neg h2]

set_option maxHeartbeats 800000 in
set_option maxRecDepth 100000 in
theorem checkSigs_any (a1 : Option Addr) (n1 c1 : Nat) (l : List S2) (r : Rt) (a2 : Option Addr) (n2 c2 : Nat) (a3 : Option Addr) (n3 c3 : Nat) (sigs : List Int) (name : Int) (w : World) (h1 : BG w a1 n1 l) (h2 : BI w a2 n2 r.ks) (h3 : BI w a3 n3 sigs) :
    Calls Tryz.prog 186 #[.slice a1 n1 c1, rv r.v a2 n2 c2 r.t, .slice a3 n3 c3, .int .i64 name] w fun e w' => e = .returned (.int .i64 (csE l r sigs name)) ∧ Below w.heap.size w w' := by
  have hw0 : Below w.heap.size w (w.alloc (.cells #[.int .i64 r.v, .slice a2 n2 c2, .int .i64 r.t] 63)) := (Below.refl _ _).alloc (Nat.le_refl _) _
  have b0 := hide (heap_alloc_last w (.cells #[.int .i64 r.v, .slice a2 n2 c2, .int .i64 r.t] 63))
  have HC := hide (fun W (hW : Below w.heap.size w W) => count_any a1 n1 c1 l r a2 n2 c2 a3 n3 c3 sigs name W (h1.below hW) (h2.below hW) (h3.below hW))
  unfold rv at HC ⊢
  clear h1 h2 h3
  by_cases z1 : cntE l r sigs = 0
  {
  rw [z1, cntV_0 z1] at HC
  have HE2 := hide (csE_2 (name := name) z1)
  have HE0 := hide (csE_0 (name := name) z1)
  clear z1
  generalize (cntN l r.ks sigs name : Int) = q at *
  go_enter Tryz.func186, Tryz.ntmps186
  go_wp2_with fail
  generalize w.alloc (.cells #[.int .i64 r.v, .slice a2 n2 c2, .int .i64 r.t] 63) = W at *
  refine (unhide HC _ hw0).mono ?_
  rintro e w1 ⟨rfl, hb1⟩
  replace b0 := hide (blk_below b0.out hb1)
  replace hw0 := hw0.trans (hb1.mono hw0.size)
  clear hb1
  have x2 := blk_cell b0.out 2 _ rfl
  by_cases z2 : q < r.t
  {
  have HE := hide (HE2.out z2)
  go_wp2_with fail
  go_ret
  exact ⟨ret_int HE.out.symm, hw0⟩
  }
  {
  have HE := hide (HE0.out (by omega))
  have hd : decide (q < r.t) = false := by simpa using z2
  clear z2
  go_wp2_with fail
  go_ret
  exact ⟨ret_int HE.out.symm, hw0⟩
  }
  }
  {
  have HE := hide (csE_1 (name := name) z1)
  have hb : (cntE l r sigs != 0) = true := by simpa using z1
  clear z1
  generalize cntE l r sigs = q at *
  generalize cntV l r sigs name = q2 at *
  go_enter Tryz.func186, Tryz.ntmps186
  go_wp2_with fail
  generalize w.alloc (.cells #[.int .i64 r.v, .slice a2 n2 c2, .int .i64 r.t] 63) = W at *
  refine (unhide HC _ hw0).mono ?_
  rintro e w1 ⟨rfl, hb1⟩
  replace hw0 := hw0.trans (hb1.mono hw0.size)
  go_wp2_with fail
  go_ret
  exact ⟨ret_int HE.out.symm, hw0⟩

  }
end Go.Proofs.YtgngpmgjoifepaaGreatDoor

namespace Go.Proofs.YtgngpmgjoifepaaGreatDoor
open Go.RowKit

set_option maxHeartbeats 800000 in
set_option maxRecDepth 100000 in
theorem tTrusted_any (r : Rt) (a : Option Addr) (n c : Nat) (ver : Int) (w : World) (h : BI w a n r.ks) (hs : n ≤ 1000) :
    Calls Tryz.prog 141 #[rv r.v a n c r.t, .int .i64 ver] w fun e w' => e = .returned (trv r.v (some ⟨w.heap.size + 2, 0, none⟩) n n r.t ver) ∧ BI w' (some ⟨w.heap.size + 2, 0, none⟩) n r.ks ∧ Below w.heap.size w w' := by
  have hw0 : Below w.heap.size w (w.alloc (.cells #[.int .i64 r.v, .slice a n c, .int .i64 r.t] 63)) := (Below.refl _ _).alloc (Nat.le_refl _) _
  have hw1 := hw0.alloc hw0.size (.cells #[.int .i64 0, .slice none 0 0, .int .i64 0, .int .i64 0] 65)
  have i1 := h.at_.below hw1
  have hm := make_ints n ((w.alloc (.cells #[.int .i64 r.v, .slice a n c, .int .i64 r.t] 63)).alloc (.cells #[.int .i64 0, .slice none 0 0, .int .i64 0, .int .i64 0] 65)) (by omega)
  have hc := copy_ints a n c r.ks _ i1 h.len
  have HL := hide h.len
  have HM := hide h.max
  unfold rv trv
  clear h hw0 i1
  simp only [World.size_alloc] at hm hc
  go_enter Tryz.func141, Tryz.ntmps141
  go_wp2_with fail
  refine bodyPost_ret (v := .agg #[.int .i64 r.v, .slice (some ⟨w.heap.size + 2, 0, none⟩) n n, .int .i64 r.t, .int .i64 ver]) (by simp [results, Tryz.results141, go_sem]) rfl ⟨rfl, ?_⟩
  exact ⟨⟨isInts_at _ _ _ _ _ (by simp) rfl, HL.out, HM.out⟩, (((Below.refl _ _).alloc (Nat.le_refl _) _).alloc (by simp) _).alloc (by simp; omega) _⟩

end Go.Proofs.YtgngpmgjoifepaaGreatDoor
