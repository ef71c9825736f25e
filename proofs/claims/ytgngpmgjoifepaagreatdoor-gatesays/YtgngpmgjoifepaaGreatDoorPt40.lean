/- The ref's GateBegins. -/
import Derived.Test.YtgngpmgjoifepaaGreatDoorPt37
import Derived.Test.YtgngpmgjoifepaaGreatDoorPt23
import Derived.Test.YtgngpmgjoifepaaGreatDoorPt39
import Derived.Deep.CutBlock
import Derived.BigRegion
namespace Go.Proofs.YtgngpmgjoifepaaGreatDoor
open Go.RowKit
attribute [local go_sem ↓] Go.wp_at_zero Go.wp_at_succ

theorem note_len (g : Gt) (s : Gs) (r : List Int) : (noteG g s r).1.vo.length = g.vo.length ∧ (noteG g s r).1.di.length = g.di.length := by
  unfold noteG dnG
  split
  { exact ⟨falses_len _, falses_len _⟩ }
  { split <;> exact ⟨rfl, rfl⟩ }
def RBAns (w : World) (r : Gt × Int × Int) (e : Ending) (w' : World) : Prop := (∃ k, e = .returned (.tuple #[gtv r.1 k, .int .i64 r.2.1, .int .i64 r.2.2]) ∧ GIn w' k r.1) ∧ Below w.heap.size w w'
theorem bi_old {v w w' : World} {B : Nat} {a : Option Addr} {n : Nat} {xs : List Int} (h : BI w a n xs) (ho : Old v xs a) (hB : v.heap.size ≤ B) (hg : w.grownBy w' (some B)) : BI w' a n xs := by
  rcases ho with e | ho
  { subst e; exact ⟨.inl rfl, h.len, h.max⟩ }
  { exact h.turns hg (fun ad e => by have := ho ad e; omega) }
theorem beg_in {v w w' w'' : World} {F B R av ad : Nat} {m : GA} {g : Gt} {T : Tr} {a : Option Addr} {n c : Nat} (h : RBox w F B m g) (hg : w.grownBy w' (some B)) (hg2 : w'.grownBy w'' (some R)) (hR : R < F) (hk : BI w' a n T.r.ks) (ho : Old v T.r.ks a) (hv : v.heap.size ≤ R)
    (hV : OwnB w' av (List.replicate m.nv false)) (hD : OwnB w' ad (List.replicate m.nd false)) (h1 : F ≤ av) (h2 : F ≤ ad) :
    GIn w'' ⟨m.a, m.n, m.c, a, n, c, some ⟨av, 0, none⟩, m.nv, m.nv, some ⟨ad, 0, none⟩, m.nd, m.nd⟩ ⟨g.ws, g.fu, g.up, T, falses g.vo, falses g.di⟩ := by
  have e1 := falses_rep h.gin.vo.len
  have e2 := falses_rep h.gin.di.len
  have hq := rin_turns (rin_turns h.gin h.fr h.lt hg) h.fr hR hg2
  refine ⟨hq.ws, bi_old hk ho hv hg2, ⟨?_, ?_, Nat.le_refl _, h.gin.vo.max⟩, ⟨?_, ?_, Nat.le_refl _, h.gin.di.max⟩⟩
  { dsimp only; rw [e1]; exact (hV.turns hg2 (by omega)).bools }
  { dsimp only; rw [e1]; simp }
  { dsimp only; rw [e2]; exact (hD.turns hg2 (by omega)).bools }
  {
  dsimp only; rw [e2]; simp

  }
set_option maxRecDepth 100000 in
set_option maxHeartbeats 12800000 in
theorem refBegins_any (ab : Option Addr) (nb cb : Nat) (ss : List ByteArray) (a1 : Option Addr) (n1 c1 : Nat) (l : List S2) (g : Gt) (k0 : GA) (o : Of) (m : OA) (now : Int) (w : World)
    (h0 : BB w ab nb cb ss) (h1 : BG w a1 n1 l) (h : GIn w k0 g) (h3 : BO w m o) (hwf : ∀ k ∈ o.sigs, WfI k) (hwr : ∀ s ∈ o.rsigs, ∀ k ∈ s, WfI k) (hT : Tab w)
    (r1 : k0.n * 8 ≤ 140737488351232) (r2 : k0.nk * 8 ≤ 140737488351232) (r3 : k0.nv ≤ 140737488351232) (r4 : k0.nd ≤ 140737488351232) (hg : gtE g = 0) :
    Calls Tryz.prog 41 #[bookv ab nb cb, .slice a1 n1 c1, gtv g k0, offv o.v o.u m, .int .i64 now] w (RBAns w (gBeg ss l g o now)) := by
  have hl := (gtE_ok hg).1
  have hv4 := (gtE_ok hg).2.1
  have hdv := (gtE_ok hg).2.2.1
  have hlen := h.vo.len
  have hw : Below w.heap.size w ((((w.alloc (.cells #[.slice ab nb cb] 24)).alloc (.cells #[.slice k0.a k0.n k0.c, .int .i64 g.fu, .bool g.up, .int .i64 g.t.r.v, .slice k0.ak k0.nk k0.ck, .int .i64 g.t.r.t, .int .i64 g.t.ver, .slice k0.av k0.nv k0.cv, .slice k0.ad k0.nd k0.cd] 68)).alloc (.cells #[.slice m.a1 m.n1 m.c1, .slice m.a2 m.n2 m.c2, .int .i64 o.v, .int .i64 o.u, .slice m.a3 m.n3 m.c3, .slice m.a4 m.n4 m.c4, .slice m.a5 m.n5 m.c5] 75)).alloc (.cells #[.slice none 0 0, .int .i64 0, .bool false, .int .i64 0, .slice none 0 0, .int .i64 0, .int .i64 0, .slice none 0 0, .slice none 0 0] 68)) := ((((Below.refl _ _).alloc (Nat.le_refl _) _).alloc (by simp) _).alloc (by simp; omega) _).alloc (by simp; omega) _
  have bb : Hid (((((w.alloc (.cells #[.slice ab nb cb] 24)).alloc (.cells #[.slice k0.a k0.n k0.c, .int .i64 g.fu, .bool g.up, .int .i64 g.t.r.v, .slice k0.ak k0.nk k0.ck, .int .i64 g.t.r.t, .int .i64 g.t.ver, .slice k0.av k0.nv k0.cv, .slice k0.ad k0.nd k0.cd] 68)).alloc (.cells #[.slice m.a1 m.n1 m.c1, .slice m.a2 m.n2 m.c2, .int .i64 o.v, .int .i64 o.u, .slice m.a3 m.n3 m.c3, .slice m.a4 m.n4 m.c4, .slice m.a5 m.n5 m.c5] 75)).alloc (.cells #[.slice none 0 0, .int .i64 0, .bool false, .int .i64 0, .slice none 0 0, .int .i64 0, .int .i64 0, .slice none 0 0, .slice none 0 0] 68)).heap[w.heap.size]? = some (.cells #[.slice ab nb cb] 24 (0, 0))) := blk_alloc (blk_alloc (blk_alloc (heap_alloc_last _ _) _) _) _
  have b0 : Hid (((((w.alloc (.cells #[.slice ab nb cb] 24)).alloc (.cells #[.slice k0.a k0.n k0.c, .int .i64 g.fu, .bool g.up, .int .i64 g.t.r.v, .slice k0.ak k0.nk k0.ck, .int .i64 g.t.r.t, .int .i64 g.t.ver, .slice k0.av k0.nv k0.cv, .slice k0.ad k0.nd k0.cd] 68)).alloc (.cells #[.slice m.a1 m.n1 m.c1, .slice m.a2 m.n2 m.c2, .int .i64 o.v, .int .i64 o.u, .slice m.a3 m.n3 m.c3, .slice m.a4 m.n4 m.c4, .slice m.a5 m.n5 m.c5] 75)).alloc (.cells #[.slice none 0 0, .int .i64 0, .bool false, .int .i64 0, .slice none 0 0, .int .i64 0, .int .i64 0, .slice none 0 0, .slice none 0 0] 68)).heap[w.heap.size + 1]? = some (.cells #[.slice k0.a k0.n k0.c, .int .i64 g.fu, .bool g.up, .int .i64 g.t.r.v, .slice k0.ak k0.nk k0.ck, .int .i64 g.t.r.t, .int .i64 g.t.ver, .slice k0.av k0.nv k0.cv, .slice k0.ad k0.nd k0.cd] 68 (0, 0))) := blk_alloc (blk_alloc (uLast1 _ _ _) _) _
  have bo : Hid (((((w.alloc (.cells #[.slice ab nb cb] 24)).alloc (.cells #[.slice k0.a k0.n k0.c, .int .i64 g.fu, .bool g.up, .int .i64 g.t.r.v, .slice k0.ak k0.nk k0.ck, .int .i64 g.t.r.t, .int .i64 g.t.ver, .slice k0.av k0.nv k0.cv, .slice k0.ad k0.nd k0.cd] 68)).alloc (.cells #[.slice m.a1 m.n1 m.c1, .slice m.a2 m.n2 m.c2, .int .i64 o.v, .int .i64 o.u, .slice m.a3 m.n3 m.c3, .slice m.a4 m.n4 m.c4, .slice m.a5 m.n5 m.c5] 75)).alloc (.cells #[.slice none 0 0, .int .i64 0, .bool false, .int .i64 0, .slice none 0 0, .int .i64 0, .int .i64 0, .slice none 0 0, .slice none 0 0] 68)).heap[w.heap.size + 1 + 1]? = some (.cells #[.slice m.a1 m.n1 m.c1, .slice m.a2 m.n2 m.c2, .int .i64 o.v, .int .i64 o.u, .slice m.a3 m.n3 m.c3, .slice m.a4 m.n4 m.c4, .slice m.a5 m.n5 m.c5] 75 (0, 0))) := blk_alloc (uLast2 _ _ _ _) _
  have b2 : Hid (((((w.alloc (.cells #[.slice ab nb cb] 24)).alloc (.cells #[.slice k0.a k0.n k0.c, .int .i64 g.fu, .bool g.up, .int .i64 g.t.r.v, .slice k0.ak k0.nk k0.ck, .int .i64 g.t.r.t, .int .i64 g.t.ver, .slice k0.av k0.nv k0.cv, .slice k0.ad k0.nd k0.cd] 68)).alloc (.cells #[.slice m.a1 m.n1 m.c1, .slice m.a2 m.n2 m.c2, .int .i64 o.v, .int .i64 o.u, .slice m.a3 m.n3 m.c3, .slice m.a4 m.n4 m.c4, .slice m.a5 m.n5 m.c5] 75)).alloc (.cells #[.slice none 0 0, .int .i64 0, .bool false, .int .i64 0, .slice none 0 0, .int .i64 0, .int .i64 0, .slice none 0 0, .slice none 0 0] 68)).heap[w.heap.size + 1 + 1 + 1]? = some (.cells #[.slice none 0 0, .int .i64 0, .bool false, .int .i64 0, .slice none 0 0, .int .i64 0, .int .i64 0, .slice none 0 0, .slice none 0 0] 68 (0, 0))) := uLast3 _ _ _ _ _
  have HO := hide (fun W (hW : Below w.heap.size w W) => ownGate_any g k0 W (h.below hW) r1 r2 r3 r4)
  have HS := hide (fun W (hW : Below w.heap.size w W) => refState_any g k0 W (h.below hW) hl)
  have HTk := hide (fun W (hW : Below w.heap.size w W) => refTaken_any ab nb cb ss a1 n1 c1 l g.t k0.ak k0.nk k0.ck o m now k0.nv W (h0.below hW) (h1.below hW) (h.ks.below hW) (h3.below hW) hwf hwr (hT.below hW) w hW h.ks h3.roots)
  rw [← hlen] at HTk
  have hx : w.heap.size ≤ w.heap.size + 1 + 1 + 1 := by omega
  have HL := hide hl
  have HGt := hide hg
  clear h h0 h1 h3 hT hwf hwr r1 r2 r3 r4 hl hg
  unfold gtv at HO HS
  unfold gsv at HS
  unfold TAns bookv trv offv at HTk
  unfold gtv bookv offv
  obtain ⟨x0, x1, x2, x3, x4, x5, x6, x7, x8⟩ := cl9 b0.out
  go_enter Tryz.func41, Tryz.ntmps41
  go_wp2_with fail
  generalize ((((w.alloc (.cells #[.slice ab nb cb] 24)).alloc (.cells #[.slice k0.a k0.n k0.c, .int .i64 g.fu, .bool g.up, .int .i64 g.t.r.v, .slice k0.ak k0.nk k0.ck, .int .i64 g.t.r.t, .int .i64 g.t.ver, .slice k0.av k0.nv k0.cv, .slice k0.ad k0.nd k0.cd] 68)).alloc (.cells #[.slice m.a1 m.n1 m.c1, .slice m.a2 m.n2 m.c2, .int .i64 o.v, .int .i64 o.u, .slice m.a3 m.n3 m.c3, .slice m.a4 m.n4 m.c4, .slice m.a5 m.n5 m.c5] 75)).alloc (.cells #[.slice none 0 0, .int .i64 0, .bool false, .int .i64 0, .slice none 0 0, .int .i64 0, .int .i64 0, .slice none 0 0, .slice none 0 0] 68)) = W at *
  refine (unhide HS _ hw).mono ?_
  rintro e w1 ⟨rfl, hb⟩
  replace bb := hide (blk_below bb.out hb)
  replace b0 := hide (blk_below b0.out hb)
  replace bo := hide (blk_below bo.out hb)
  replace b2 := hide (blk_below b2.out hb)
  replace hw := hw.trans (hb.mono hw.size)
  clear hb HS x0 x1 x2 x3 x4 x5 x6 x7 x8
  obtain ⟨s, hs⟩ : ∃ s, s = gOf g.ws := ⟨_, rfl⟩
  rw [← hs]
  have hok : GsOk s := by rw [hs]; exact gsOk_of _
  have hn0 := hok.n.1
  have hn8 := hok.n.2
  have HSs := hide hs
  clear hs hok
  go_upto_block 0 with fail
  have hb2 : Below w1.heap.size w1 (w1.alloc (.cells #[.int .i64 s.n, .int .i64 s.v, .bool s.co, .bool s.ab, .bool s.en] 82)) := below_new (Below.refl _ _) _
  have bS := hide (heap_alloc_last w1 (.cells #[.int .i64 s.n, .int .i64 s.v, .bool s.co, .bool s.ab, .bool s.en] 82))
  replace bb := hide (blk_below bb.out hb2)
  replace b0 := hide (blk_below b0.out hb2)
  replace bo := hide (blk_below bo.out hb2)
  replace b2 := hide (blk_below b2.out hb2)
  replace hw := hw.trans (hb2.mono hw.size)
  clear hb2
  generalize w1.alloc (.cells #[.int .i64 s.n, .int .i64 s.v, .bool s.co, .bool s.ab, .bool s.en] 82) = W1 at *
  generalize w1.heap.size = S at *
  have x2 := blk_cell b0.out 2 _ rfl
  cases zu : g.up
  {
  have HE : Hid (gBeg ss l g o now = (gt0, 0, 7)) := by have q := upE_7 HGt.out zu; show _ = _; rw [gBeg_1 (by rw [q]; decide), q]
  rw [zu] at x2
  clear zu HSs HGt HO HTk
  obtain ⟨y0, y1, y2, y3, y4, y5, y6, y7, y8⟩ := cl9 b2.out
  obtain ⟨f0, f1, f2, f3, f4, f5, f6, f7, f8⟩ := fr9 b2.out
  go_wp2_with fail
  refine bodyPost_ret (v := .tuple #[gtv gt0 ga0, .int .i64 0, .int .i64 7]) (by simp [results, Tryz.results41, go_sem, gtv, gt0, ga0, y0, y1, y2, y3, y4, y5, y6, y7, y8]) rfl ?_
  rw [HE.out]
  exact ⟨⟨ga0, rfl, gin0 _⟩, turns_below hw (turns_set (turns_set (turns_set (turns_set (turns_set (turns_set (turns_set (turns_set (turns_set (World.grownBy.refl W1 (some (w.heap.size + 1 + 1 + 1))) 0 (.slice none 0 0)) 1 (.int .i64 0)) 2 (.bool false)) 3 (.int .i64 0)) 4 (.slice none 0 0)) 5 (.int .i64 0)) 6 (.int .i64 0)) 7 (.slice none 0 0)) 8 (.slice none 0 0)) hx hw.size⟩
  }
  rw [zu] at x2
  have HU := hide (upE_0 HGt.out zu)
  clear zu HGt
  have s0 := blk_cell bS.out 0 _ rfl
  have s4 := blk_cell bS.out 4 _ rfl
  cases zz : decide (s.n ≠ 0) && !s.en
  rotate_left
  {
  obtain ⟨z1, z2⟩ : s.n ≠ 0 ∧ s.en = false := by simpa using zz
  have HE : Hid (gBeg ss l g o now = (gt0, 0, 12)) := gBeg_2 HU.out (by rw [← HSs.out]; exact z1) (by rw [← HSs.out]; exact z2)
  have d : (s.n != 0) = true := by simpa using z1
  rw [z2] at s4
  clear z1 z2 zz HO HTk HSs
  obtain ⟨y0, y1, y2, y3, y4, y5, y6, y7, y8⟩ := cl9 b2.out
  obtain ⟨f0, f1, f2, f3, f4, f5, f6, f7, f8⟩ := fr9 b2.out
  go_wp2_with fail
  refine bodyPost_ret (v := .tuple #[gtv gt0 ga0, .int .i64 0, .int .i64 12]) (by simp [results, Tryz.results41, go_sem, gtv, gt0, ga0, y0, y1, y2, y3, y4, y5, y6, y7, y8]) rfl ?_
  rw [HE.out]
  exact ⟨⟨ga0, rfl, gin0 _⟩, turns_below hw (turns_set (turns_set (turns_set (turns_set (turns_set (turns_set (turns_set (turns_set (turns_set (World.grownBy.refl W1 (some (w.heap.size + 1 + 1 + 1))) 0 (.slice none 0 0)) 1 (.int .i64 0)) 2 (.bool false)) 3 (.int .i64 0)) 4 (.slice none 0 0)) 5 (.int .i64 0)) 6 (.int .i64 0)) 7 (.slice none 0 0)) 8 (.slice none 0 0)) hx hw.size⟩
  }
  have z12 : s.n = 0 ∨ s.en = true := by rcases Decidable.em (s.n = 0) with q | q; exact .inl q; exact .inr (by simpa [q] using zz)
  have Z12 := hide z12
  clear zz
  have NN : Hid (s.n = 8 → s.en = true) := fun e => by rcases z12 with q | q; omega; exact q
  by_cases z8 : s.n = 8
  {
  have HE : Hid (gBeg ss l g o now = (gt0, 0, 8)) := gBeg_3 HU.out (by rw [← HSs.out]; exact Z12.out) (by rw [← HSs.out]; exact z8)
  have d : (s.n != 0) = true := by simp; omega
  have d8 : (s.n == 8) = true := by simpa using z8
  rw [NN.out z8] at s4
  clear z8 z12 NN HO HTk HSs Z12
  obtain ⟨y0, y1, y2, y3, y4, y5, y6, y7, y8⟩ := cl9 b2.out
  obtain ⟨f0, f1, f2, f3, f4, f5, f6, f7, f8⟩ := fr9 b2.out
  go_wp2_with fail
  refine bodyPost_ret (v := .tuple #[gtv gt0 ga0, .int .i64 0, .int .i64 8]) (by simp [results, Tryz.results41, go_sem, gtv, gt0, ga0, y0, y1, y2, y3, y4, y5, y6, y7, y8]) rfl ?_
  rw [HE.out]
  exact ⟨⟨ga0, rfl, gin0 _⟩, turns_below hw (turns_set (turns_set (turns_set (turns_set (turns_set (turns_set (turns_set (turns_set (turns_set (World.grownBy.refl W1 (some (w.heap.size + 1 + 1 + 1))) 0 (.slice none 0 0)) 1 (.int .i64 0)) 2 (.bool false)) 3 (.int .i64 0)) 4 (.slice none 0 0)) 5 (.int .i64 0)) 6 (.int .i64 0)) 7 (.slice none 0 0)) 8 (.slice none 0 0)) hx hw.size⟩
  }
  have N8 := hide z8
  have d8 : (s.n == 8) = false := by simpa using z8
  clear NN z8
  go_cut [14] (fun v wx => v = .int .i64 0 ∧ wx = W1)
  case first =>
    by_cases z0 : s.n = 0
    {
    have d : (s.n != 0) = false := by simpa using z0
    clear z0 z12
    go_wp2_with fail
    go_meet
    case rel => exact ⟨rfl, rfl⟩
    }
    {
    have d : (s.n != 0) = true := by simpa using z0
    have en : s.en = true := by rcases z12 with q | q; exact absurd q z0; exact q
    rw [en] at s4
    clear en z12 z0
    go_wp2_with fail
    go_meet
    case rel => exact ⟨rfl, rfl⟩
    }
  case rest =>
  obtain ⟨rfl, hW⟩ := hcut
  replace hW := hW.symm
  subst hW
  clear z12
  go_upto_region 11 with fail
  clear x2 s0 s4 d8
  have x3 := blk_cell b0.out 3 _ rfl
  have x4 := blk_cell b0.out 4 _ rfl
  have x5 := blk_cell b0.out 5 _ rfl
  have x6 := blk_cell b0.out 6 _ rfl
  have x7 := blk_cell b0.out 7 _ rfl
  have k0b := blk_cell bb.out 0 _ rfl
  obtain ⟨o0, o1, o2, o3, o4, o5, o6⟩ := cl7 bo.out
  go_wp2_with fail
  have HT0 := HTk.out W1 hw
  rw [hlen] at HT0
  refine HT0.mono ?_
  rw [← hlen]
  generalize hQ : takeE ss l g.t o now g.vo.length = q at *
  rintro e w4 ⟨⟨ta, tn, tc, rfl, hki, hko⟩, hb⟩
  obtain ⟨T, hTT⟩ : ∃ T, T = takeT q g.t o := ⟨_, rfl⟩
  rw [← hTT] at hki hko ⊢
  have HQ := hide hQ
  have HTT := hide hTT
  clear HT0 HTk hQ hTT x3 x4 x5 x6 x7 k0b o0 o1 o2 o3 o4 o5 o6
  go_upto_region 12 with fail
  have hb1 : Below W1.heap.size W1 (w4.alloc (.cells #[.int .i64 T.r.v, .slice ta tn tc, .int .i64 T.r.t, .int .i64 T.ver] 65)) := below_new hb _
  have bT := hide (heap_alloc_last w4 (.cells #[.int .i64 T.r.v, .slice ta tn tc, .int .i64 T.r.t, .int .i64 T.ver] 65))
  have HKi := hide (hki.below (below_new (Below.refl w4.heap.size w4) (.cells #[.int .i64 T.r.v, .slice ta tn tc, .int .i64 T.r.t, .int .i64 T.ver] 65)))
  have HKo := hide hko
  have hTw := hb.size
  replace bb := hide (blk_below bb.out hb1)
  replace b0 := hide (blk_below b0.out hb1)
  replace bo := hide (blk_below bo.out hb1)
  replace b2 := hide (blk_below b2.out hb1)
  replace bS := hide (blk_below bS.out hb1)
  replace hw := hw.trans (hb1.mono hw.size)
  clear hb hb1 hki hko
  generalize w4.alloc (.cells #[.int .i64 T.r.v, .slice ta tn tc, .int .i64 T.r.t, .int .i64 T.ver] 65) = W4 at *
  generalize w4.heap.size = TBk at *
  by_cases zq : q = 0
  rotate_left
  {
  have HE : Hid (gBeg ss l g o now = (gt0, 0, q)) := by have e := gBeg_4 (ss := ss) (l := l) (o := o) (now := now) HU.out (by rw [← HSs.out]; exact Z12.out) (by rw [← HSs.out]; exact N8.out) (by rw [HQ.out]; exact zq); rw [HQ.out] at e; exact hide e
  have dq : (q != 0) = true := by simpa using zq
  clear zq HO HSs Z12 N8
  obtain ⟨y0, y1, y2, y3, y4, y5, y6, y7, y8⟩ := cl9 b2.out
  obtain ⟨f0, f1, f2, f3, f4, f5, f6, f7, f8⟩ := fr9 b2.out
  go_wp2_with fail
  refine bodyPost_ret (v := .tuple #[gtv gt0 ga0, .int .i64 0, .int .i64 q]) (by simp [results, Tryz.results41, go_sem, gtv, gt0, ga0, y0, y1, y2, y3, y4, y5, y6, y7, y8]) rfl ?_
  rw [HE.out]
  exact ⟨⟨ga0, rfl, gin0 _⟩, turns_below hw (turns_set (turns_set (turns_set (turns_set (turns_set (turns_set (turns_set (turns_set (turns_set (World.grownBy.refl W4 (some (w.heap.size + 1 + 1 + 1))) 0 (.slice none 0 0)) 1 (.int .i64 0)) 2 (.bool false)) 3 (.int .i64 0)) 4 (.slice none 0 0)) 5 (.int .i64 0)) 6 (.int .i64 0)) 7 (.slice none 0 0)) 8 (.slice none 0 0)) hx hw.size⟩
  }
  subst zq
  have HE0 := gBeg_0 (ss := ss) (l := l) (o := o) (now := now) HU.out (by rw [← HSs.out]; exact Z12.out) (by rw [← HSs.out]; exact N8.out) HQ.out
  rw [← HSs.out, ← HTT.out] at HE0
  have HE1 := hide HE0
  clear HE0 HU Z12 N8 HQ HTT
  go_upto_region 14 with fail
  obtain ⟨x0, x1, x2, x3, x4, x5, x6, x7, x8⟩ := cl9 b0.out
  go_wp2_with fail
  have hF : w.heap.size + 1 + 1 + 1 < W4.heap.size := blk_lt b2.out
  have hTF := blk_lt bT.out
  have hSF := blk_lt bS.out
  refine (unhide HO _ hw).mono ?_
  rintro e w5 ⟨⟨k, bv, bd, rfl, ho⟩, hb⟩
  have hF1 := hb.size
  replace HKi := hide (HKi.out.below hb)
  replace b0 := hide (blk_below b0.out hb)
  replace bo := hide (blk_below bo.out hb)
  replace b2 := hide (blk_below b2.out hb)
  replace bS := hide (blk_below bS.out hb)
  replace bT := hide (blk_below bT.out hb)
  replace hw := hw.trans (hb.mono hw.size)
  clear hb HO x0 x1 x2 x3 x4 x5 x6 x7 x8 bb
  obtain ⟨x0, x1, x2, x3, x4, x5, x6, x7, x8⟩ := cl9 b0.out
  obtain ⟨f0, f1, f2, f3, f4, f5, f6, f7, f8⟩ := fr9 b0.out
  unfold gtv
  go_upto_region 15 with fail
  have hT : w5.grownBy (((((((((w5.setCell ⟨w.heap.size + 1, 0, none⟩ (.slice k.a k.n k.c)).setCell ⟨w.heap.size + 1, 1, none⟩ (.int .i64 g.fu)).setCell ⟨w.heap.size + 1, 2, none⟩ (.bool g.up)).setCell ⟨w.heap.size + 1, 3, none⟩ (.int .i64 g.t.r.v)).setCell ⟨w.heap.size + 1, 4, none⟩ (.slice k.ak k.nk k.ck)).setCell ⟨w.heap.size + 1, 5, none⟩ (.int .i64 g.t.r.t)).setCell ⟨w.heap.size + 1, 6, none⟩ (.int .i64 g.t.ver)).setCell ⟨w.heap.size + 1, 7, none⟩ (.slice k.av k.nv k.cv)).setCell ⟨w.heap.size + 1, 8, none⟩ (.slice k.ad k.nd k.cd)) (some (w.heap.size + 1)) := turns_set (turns_set (turns_set (turns_set (turns_set (turns_set (turns_set (turns_set (turns_set (World.grownBy.refl w5 (some (w.heap.size + 1))) 0 (.slice k.a k.n k.c)) 1 (.int .i64 g.fu)) 2 (.bool g.up)) 3 (.int .i64 g.t.r.v)) 4 (.slice k.ak k.nk k.ck)) 5 (.int .i64 g.t.r.t)) 6 (.int .i64 g.t.ver)) 7 (.slice k.av k.nv k.cv)) 8 (.slice k.ad k.nd k.cd)
  have HG := hide (RG.of ho (by omega) hF1 hT (rt_set9 b0.out))
  replace b2 := hide (blk_turns b2.out hT (by omega))
  replace bo := hide (blk_turns bo.out hT (by omega))
  replace bS := hide (blk_turns bS.out hT (by intro e; subst e; have q := bS.out; rw [b0.out] at q; simp at q))
  replace bT := hide (blk_turns bT.out hT (by intro e; subst e; have q := bT.out; rw [b0.out] at q; simp at q))
  replace HKi := hide (bi_old HKi.out HKo.out (by omega) hT)
  replace hw := turns_below hw hT (by omega) hw.size
  clear hT ho b0 x0 f0 x1 f1 x2 f2 x3 f3 x4 f4 x5 f5 x6 f6 x7 f7 x8 f8
  generalize (((((((((w5.setCell ⟨w.heap.size + 1, 0, none⟩ (.slice k.a k.n k.c)).setCell ⟨w.heap.size + 1, 1, none⟩ (.int .i64 g.fu)).setCell ⟨w.heap.size + 1, 2, none⟩ (.bool g.up)).setCell ⟨w.heap.size + 1, 3, none⟩ (.int .i64 g.t.r.v)).setCell ⟨w.heap.size + 1, 4, none⟩ (.slice k.ak k.nk k.ck)).setCell ⟨w.heap.size + 1, 5, none⟩ (.int .i64 g.t.r.t)).setCell ⟨w.heap.size + 1, 6, none⟩ (.int .i64 g.t.ver)).setCell ⟨w.heap.size + 1, 7, none⟩ (.slice k.av k.nv k.cv)).setCell ⟨w.heap.size + 1, 8, none⟩ (.slice k.ad k.nd k.cd)) = W5 at *
  have hb3 : Below W5.heap.size W5 (W5.alloc (.cells #[.int .i64 1, .int .i64 (s.n + 1), .int .i64 o.v] 3)) := below_new (Below.refl _ _) _
  have s0 := blk_cell bS.out 0 _ rfl
  have o2 := blk_cell bo.out 2 _ rfl
  have HN := hide (noted_any W4.heap.size (w.heap.size + 1) k g (some ⟨W5.heap.size, 0, none⟩) 3 3 [1, s.n + 1, o.v] (W5.alloc (.cells #[.int .i64 1, .int .i64 (s.n + 1), .int .i64 o.v] 3)) (HG.out.bx.below hb3) (gi_made3 W5 1 (s.n + 1) o.v 3) HL.out (by have := HG.out.bx.gin.vo.len; omega) (by have := HG.out.bx.gin.di.len; omega))
  rw [← HSs.out] at HN
  replace b2 := hide (blk_below b2.out hb3)
  replace bS := hide (blk_below bS.out hb3)
  replace bT := hide (blk_below bT.out hb3)
  replace HKi := hide (HKi.out.below hb3)
  replace hw := hw.trans (hb3.mono hw.size)
  go_wp2_with fail
  refine (unhide HN).mono ?_
  rintro e w6 ⟨rfl, ⟨k2, hbx⟩, hg6⟩
  have hNL := note_len g s [1, s.n + 1, o.v]
  generalize noteG g s [1, s.n + 1, o.v] = R2 at *
  have hbxB := hbx.box
  replace b2 := hide (blk_turns b2.out hg6 (by omega))
  have hSB : S ≠ w.heap.size + 1 := by intro e; subst e; have q := bS.out; rw [(HG.out.bx.below hb3).box] at q; unfold gtO at q; simp at q
  have hTB : TBk ≠ w.heap.size + 1 := by intro e; subst e; have q := bT.out; rw [(HG.out.bx.below hb3).box] at q; unfold gtO at q; simp at q
  replace bS := hide (blk_turns bS.out hg6 hSB)
  replace bT := hide (blk_turns bT.out hg6 hTB)
  replace HKi := hide (bi_old HKi.out HKo.out (by omega) hg6)
  replace hw := turns_below hw hg6 (by omega) hw.size
  have HB := hide hbx
  obtain ⟨g2, ok⟩ := R2
  dsimp only at *
  clear hbx hg6 HN s0 o2 hb3 hbxB HG bo
  have bC := hide HB.out.box
  unfold gtO at bC
  cases ok
  {
  have HE : Hid (gBeg ss l g o now = (g2, 0, 0)) := HE1.out
  clear HE1
  obtain ⟨x0, x1, x2, x3, x4, x5, x6, x7, x8⟩ := cl9 bC.out
  obtain ⟨y0, y1, y2, y3, y4, y5, y6, y7, y8⟩ := cl9 b2.out
  obtain ⟨f0, f1, f2, f3, f4, f5, f6, f7, f8⟩ := fr9 b2.out
  go_wp2_with fail
  refine bodyPost_ret (v := .tuple #[gtv g2 k2, .int .i64 0, .int .i64 0]) (by simp [results, Tryz.results41, go_sem, gtv, y0, y1, y2, y3, y4, y5, y6, y7, y8]) rfl ?_
  rw [HE.out]
  have hT := turns_set (turns_set (turns_set (turns_set (turns_set (turns_set (turns_set (turns_set (turns_set (World.grownBy.refl w6 (some (w.heap.size + 1 + 1 + 1))) 0 (.slice k2.a k2.n k2.c)) 1 (.int .i64 g2.fu)) 2 (.bool g2.up)) 3 (.int .i64 g2.t.r.v)) 4 (.slice k2.ak k2.nk k2.ck)) 5 (.int .i64 g2.t.r.t)) 6 (.int .i64 g2.t.ver)) 7 (.slice k2.av k2.nv k2.cv)) 8 (.slice k2.ad k2.nd k2.cd)
  exact ⟨⟨k2, rfl, rin_turns HB.out.gin HB.out.fr hF hT⟩, turns_below hw hT hx hw.size⟩
  }
  have HE : Hid (gBeg ss l g o now = (⟨g2.ws, g2.fu, g2.up, T, falses g2.vo, falses g2.di⟩, s.n + 1, 0)) := HE1.out
  clear HE1
  go_upto_region 17 with fail
  go_cut [13] (fun v wc => v = .pointer (some ⟨S, 0, none⟩) ∧ ∃ av ad, wc.heap[w.heap.size + 1]? = some (.cells #[.slice k2.a k2.n k2.c, .int .i64 g2.fu, .bool g2.up, .int .i64 T.r.v, .slice ta tn tc, .int .i64 T.r.t, .int .i64 T.ver, .slice (some ⟨av, 0, none⟩) k2.nv k2.nv, .slice (some ⟨ad, 0, none⟩) k2.nd k2.nd] 68 (0, 0)) ∧ OwnB wc av (List.replicate k2.nv false) ∧ OwnB wc ad (List.replicate k2.nd false) ∧ w6.heap.size ≤ av ∧ w6.heap.size ≤ ad ∧ w6.grownBy wc (some (w.heap.size + 1)))
  case first =>
    have hmv := fun W => make_bools k2.nv W (by have := HB.out.gin.vo.len; omega)
    have hmd := fun W => make_bools k2.nd W (by have := HB.out.gin.di.len; omega)
    have y3 := blk_cell bC.out 3 _ rfl
    have y4 := blk_cell bC.out 4 _ rfl
    have y5 := blk_cell bC.out 5 _ rfl
    have y6 := blk_cell bC.out 6 _ rfl
    have y7 := blk_cell bC.out 7 _ rfl
    have y8 := blk_cell bC.out 8 _ rfl
    have f3 := blk_free bC.out 3
    have f4 := blk_free bC.out 4
    have f5 := blk_free bC.out 5
    have f6 := blk_free bC.out 6
    have f7 := blk_free bC.out 7
    have f8 := blk_free bC.out 8
    have t0 := blk_cell bT.out 0 _ rfl
    have t1 := blk_cell bT.out 1 _ rfl
    have t2 := blk_cell bT.out 2 _ rfl
    have t3 := blk_cell bT.out 3 _ rfl
    have hTB' := Ne.symm hTB
    have hB6 := blk_lt bC.out
    have hT6 := blk_lt bT.out
    have hB60 : w.heap.size < w6.heap.size := by omega
    have St0 := hide (St.start bC.out (bN := k2.nv) (bD := k2.nd))
    clear HB HE HKi HKo HL HSs hNL
    go_region
    {
    go_wp2_with fail
    go_meet
    case rel => exact ⟨rfl, w6.heap.size, w6.heap.size + 1, St.fin (St.drew (St.makeD (St.makeV (St.store (St.store (St.store (St.store (St.store (St.store St0.out)))))) (by simp)) (by simp))) (by rfl)⟩
    }
    {
    go_wp2_with fail
    go_meet
    case rel => exact ⟨rfl, w6.heap.size + 1, w6.heap.size, St.fin (St.drew (St.makeV (St.makeD (St.store (St.store (St.store (St.store (St.store (St.store St0.out)))))) (by simp)) (by simp))) (by rfl)⟩
    }
  case rest =>
  obtain ⟨rfl, av, ad, hbx, hov, hod, hav, had, hgr⟩ := hcut
  obtain ⟨w8, rfl⟩ : ∃ w8 : World, w8 = wc := ⟨_, rfl⟩
  have bD := hide hbx
  have HOV := hide hov
  have HOD := hide hod
  have HGR := hide hgr
  have hF6 := HB.out.sz
  replace bS := hide (blk_turns bS.out hgr hSB)
  replace b2 := hide (blk_turns b2.out hgr (by omega))
  replace HKi := hide (bi_old HKi.out HKo.out (by omega) hgr)
  replace hw := turns_below hw hgr (by omega) hw.size
  have hRS : S ≠ w.heap.size + 1 + 1 + 1 := by intro e; subst e; have q := bS.out; rw [b2.out] at q; simp at q
  clear hbx hov hod hgr bC bT
  go_upto_region 18 with fail
  refine wp_region_held_drew (S := fun W' => (W'.cell? ⟨w.heap.size + 1, 0, none⟩ = some (.slice k2.a k2.n k2.c) ∧ W'.cell? ⟨w.heap.size + 1, 1, none⟩ = some (.int .i64 g2.fu) ∧ W'.cell? ⟨w.heap.size + 1, 2, none⟩ = some (.bool g2.up) ∧ W'.cell? ⟨w.heap.size + 1, 3, none⟩ = some (.int .i64 T.r.v) ∧ W'.cell? ⟨w.heap.size + 1, 4, none⟩ = some (.slice ta tn tc) ∧ W'.cell? ⟨w.heap.size + 1, 5, none⟩ = some (.int .i64 T.r.t) ∧ W'.cell? ⟨w.heap.size + 1, 6, none⟩ = some (.int .i64 T.ver) ∧ W'.cell? ⟨w.heap.size + 1, 7, none⟩ = some (.slice (some ⟨av, 0, none⟩) k2.nv k2.nv) ∧ W'.cell? ⟨w.heap.size + 1, 8, none⟩ = some (.slice (some ⟨ad, 0, none⟩) k2.nd k2.nd)) ∧ W'.cell? ⟨S, 0, none⟩ = some (.int .i64 s.n) ∧ w8.grownBy W' (some (w.heap.size + 1 + 1 + 1))) (by kernel_rfl) (begS (g := (⟨g2.ws, g2.fu, g2.up, T, falses g2.vo, falses g2.di⟩ : Gt)) (k := (⟨k2.a, k2.n, k2.c, ta, tn, tc, some ⟨av, 0, none⟩, k2.nv, k2.nv, some ⟨ad, 0, none⟩, k2.nd, k2.nd⟩ : GA)) bD.out bS.out (by omega) hRS (turns_of (Below.refl _ _).drew _)) ?_
  intro hHeld
  have b2d : Hid (w8.drew.heap[w.heap.size + 1 + 1 + 1]? = some (.cells #[.slice none 0 0, .int .i64 0, .bool false, .int .i64 0, .slice none 0 0, .int .i64 0, .int .i64 0, .slice none 0 0, .slice none 0 0] 68 (0, 0))) := b2.out
  have hgD : w8.grownBy w8.drew (some (w.heap.size + 1 + 1 + 1)) := turns_of (Below.refl _ _).drew _
  generalize w8.drew = X9 at *
  refine Htake (i := 0) (v := ?_) (by rfl) (by kernel_rfl) (by exact fun _ _ _ h => h) (Or.inl ⟨by rfl, ?_⟩) (by assumption) ?_
  rotate_left
  {
  intro w hSw
  try dsimp only at hSw
  go_simp
  try with_reducible rfl
  }
  try simp only [sq]
  refine Htake (i := 1) (v := ?_) (by rfl) (by kernel_rfl) (by exact fun _ _ _ h => h) (Or.inl ⟨by rfl, ?_⟩) (by assumption) ?_
  rotate_left
  {
  intro w hSw
  try dsimp only at hSw
  go_simp
  try with_reducible rfl
  }
  try simp only [sq]
  refine Htake (i := 2) (v := ?_) (by rfl) (by kernel_rfl) (by exact fun _ _ _ h => h) (Or.inl ⟨by rfl, ?_⟩) (by assumption) ?_
  rotate_left
  {
  intro w hSw
  try dsimp only at hSw
  go_simp
  try with_reducible rfl
  }
  try simp only [sq]
  refine Htake (i := 3) (v := ?_) (by rfl) (by kernel_rfl) (by exact fun _ _ _ h => h) (Or.inl ⟨by rfl, ?_⟩) (by assumption) ?_
  rotate_left
  {
  intro w hSw
  try dsimp only at hSw
  go_simp
  try with_reducible rfl
  }
  try simp only [sq]
  obtain ⟨y0, y1, y2, y3, y4, y5, y6, y7, y8⟩ := cl9 b2d.out
  obtain ⟨f0, f1, f2, f3, f4, f5, f6, f7, f8⟩ := fr9 b2d.out
  have hT := turns_set (turns_set (turns_set (turns_set (turns_set (turns_set (turns_set (turns_set (turns_set (World.grownBy.refl X9 (some (w.heap.size + 1 + 1 + 1))) 0 (.slice k2.a k2.n k2.c)) 1 (.int .i64 g2.fu)) 2 (.bool g2.up)) 3 (.int .i64 T.r.v)) 4 (.slice ta tn tc)) 5 (.int .i64 T.r.t)) 6 (.int .i64 T.ver)) 7 (.slice (some ⟨av, 0, none⟩) k2.nv k2.nv)) 8 (.slice (some ⟨ad, 0, none⟩) k2.nd k2.nd)
  have hgT := hgD.trans hT
  refine wpAnyH_ready (rs := [4]) (by kernel_rfl) (by simp) ?_
  refine AllReadyH.cons (by rfl) (fun K hK => ?_) AllReadyH.nil
  go_simp
  refine hK.out _ _ (begS (g := (⟨g2.ws, g2.fu, g2.up, T, falses g2.vo, falses g2.di⟩ : Gt)) (k := (⟨k2.a, k2.n, k2.c, ta, tn, tc, some ⟨av, 0, none⟩, k2.nv, k2.nv, some ⟨ad, 0, none⟩, k2.nd, k2.nd⟩ : GA)) bD.out bS.out (by omega) hRS hgT) (fun hHeld => ?_)
  clear hK K
  try simp only [sq]
  refine Htake (i := 5) (v := ?_) (by rfl) (by kernel_rfl) (by exact fun _ _ _ h => h) (Or.inl ⟨by rfl, ?_⟩) (by assumption) ?_
  rotate_left
  {
  intro w hSw
  try dsimp only at hSw
  go_simp
  try with_reducible rfl
  }
  try simp only [sq]
  refine Htake (i := 6) (v := ?_) (by rfl) (by kernel_rfl) (by exact fun _ _ _ h => h) (Or.inl ⟨by rfl, ?_⟩) (by assumption) ?_
  rotate_left
  {
  intro w hSw
  try dsimp only at hSw
  go_simp
  try with_reducible rfl
  }
  try simp only [sq]
  refine wpAnyH_done (by kernel_rfl) ?_ _
  go_wp2_with fail
  have hwrp : IntKind.i64.wrap (s.n + 1) = s.n + 1 := by rw [IntKind.wrap_i64]; omega
  refine bodyPost_ret (v := .tuple #[gtv (⟨g2.ws, g2.fu, g2.up, T, falses g2.vo, falses g2.di⟩ : Gt) (⟨k2.a, k2.n, k2.c, ta, tn, tc, some ⟨av, 0, none⟩, k2.nv, k2.nv, some ⟨ad, 0, none⟩, k2.nd, k2.nd⟩ : GA), .int .i64 (s.n + 1), .int .i64 0]) (by simp [results, Tryz.results41, go_sem, gtv, hwrp, y0, y1, y2, y3, y4, y5, y6, y7, y8]) rfl ?_
  rw [HE.out]
  exact ⟨⟨(⟨k2.a, k2.n, k2.c, ta, tn, tc, some ⟨av, 0, none⟩, k2.nv, k2.nv, some ⟨ad, 0, none⟩, k2.nd, k2.nd⟩ : GA), rfl, beg_in HB.out HGR.out hgT hF HKi.out HKo.out (by omega) HOV.out HOD.out (by omega) (by omega)⟩, turns_below hw hgT hx hw.size⟩

end Go.Proofs.YtgngpmgjoifepaaGreatDoor
