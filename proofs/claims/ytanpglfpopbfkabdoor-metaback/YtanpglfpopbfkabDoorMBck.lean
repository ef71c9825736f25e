/- The law MetaBack, walked. -/
import Derived.Test.YtanpglfpopbfkabDoorMWri
import Derived.Test.YtanpglfpopbfkabDoorMParse
import Derived.Test.YtanpglfpopbfkabDoorMSame
import Derived.Test.YtanpglfpopbfkabDoorBase
import Derived.Deep.DeepCutAuto
namespace Go.Proofs.YtanpglfpopbfkabDoor
open Go.RowKit

theorem parse_text {v u : Int} {ts : List T3} (h : relE v u ts = 0) : parseS (relT v u ts) = (v, u, ts, 0) := by
  unfold parseS
  rw [if_neg (by have := relT_len h; omega), (readR_some _ v u ts).2 ⟨rfl, relE_IR h⟩]
  simp [h]

theorem parse_back {l : List UInt8} (h : (parseS l).2.2.2 = 0) : relE (parseS l).1 (parseS l).2.1 (parseS l).2.2.1 = 0 ∧ relT (parseS l).1 (parseS l).2.1 (parseS l).2.2.1 = l := by
  unfold parseS at h ⊢
  split at h
  · cases h
  · rename_i hl
    rw [if_neg hl]
    split at h
    · cases h
    · rename_i v u ts hr
      split at h
      · rename_i h0
        simp only [h0, if_true]
        exact ⟨trivial, ((readR_some _ _ _ _).1 hr).1.symm⟩
      · rename_i h0
        exact absurd h h0

theorem same_text {v u v' u' : Int} {ts ts' : List T3} (h : relE v u ts = 0) (h' : relE v' u' ts' = 0) : ((bs (relT v u ts)).toList == (bs (relT v' u' ts')).toList) = sameB v u ts v' u' ts' := by
  unfold sameB
  by_cases e : v = v' ∧ u = u' ∧ ts = ts'
  · obtain ⟨rfl, rfl, rfl⟩ := e
    simp
  · have : bs (relT v u ts) ≠ bs (relT v' u' ts') := fun he => e (relT_inj (relE_IR h) (relE_IR h') (bs_inj he))
    rw [(Lib.bytes_beq_false_iff _ _).2 this]
    simp only [e, decide_false]

theorem same_img {a b : List Int} (h : imgE a = 0) (h' : imgE b = 0) : ((bs (imgT a)).toList == (bs (imgT b)).toList) = eqL a b := by
  unfold eqL
  by_cases e : a = b
  · subst e
    simp
  · have hne : ∀ {l : List Int}, imgE l = 0 → l ≠ [] := fun hl hn => by
      subst hn
      simp [imgE, inR] at hl
    have : bs (imgT a) ≠ bs (imgT b) := fun he => e (imgT_inj (hne h) (hne h') (img_I64 h) (img_I64 h') (bs_inj he))
    rw [(Lib.bytes_beq_false_iff _ _).2 this]
    simp [e]

theorem same_self (v u : Int) (ts : List T3) : sameB v u ts v u ts = true := by unfold sameB; simp

set_option maxHeartbeats 3200000 in
set_option maxRecDepth 100000 in
theorem metaBack_walk (x y : Int) (a : Option Addr) (n c : Nat) (ts : List T3) (x' y' : Int) (a' : Option Addr) (n' c' : Nat) (ts' : List T3) (s : ByteArray) (a3 : Option Addr) (n3 c3 : Nat) (ws : List Int) (a4 : Option Addr) (n4 c4 : Nat) (vs : List Int) (w : World)
    (h : IsTgts w a ts) (hn : ts.length = n) (hm : n ≤ maxLen) (h' : IsTgts w a' ts') (hn' : ts'.length = n') (hm' : n' ≤ maxLen) (hs : s.size ≤ maxLen)
    (h3 : IsInts w a3 ws) (hn3 : ws.length = n3) (hm3 : n3 ≤ maxLen) (h4 : IsInts w a4 vs) (hn4 : vs.length = n4) (hm4 : n4 ≤ maxLen) (hV : Vars w) :
    Calls Tryd.prog 4 #[relv x y a n c, relv x' y' a' n' c', .string s, .slice a3 n3 c3, .slice a4 n4 c4] w fun e w' => e = .returned (.bool true) ∧ Below w.heap.size w w' := by
  have hw0 : Below w.heap.size w ((w.alloc (.cells #[.int .i64 x, .int .i64 y, .slice a n c] 38)).alloc (.cells #[.int .i64 x', .int .i64 y', .slice a' n' c'] 38)) := ((Below.refl _ _).alloc (Nat.le_refl _) _).alloc (by simp) _
  have b0 := hide (blk_alloc (heap_alloc_last w (.cells #[.int .i64 x, .int .i64 y, .slice a n c] 38)) (.cells #[.int .i64 x', .int .i64 y', .slice a' n' c'] 38))
  have b1 := hide (heap_alloc_last (w.alloc (.cells #[.int .i64 x, .int .i64 y, .slice a n c] 38)) (.cells #[.int .i64 x', .int .i64 y', .slice a' n' c'] 38))
  rw [World.size_alloc] at b1
  have HT1 := hide (fun W (hW : Below w.heap.size w W) => releaseText_any x y a n c ts W (h.below hW) hn hm (hV.tab.below hW))
  have HT2 := hide (fun W (hW : Below w.heap.size w W) => releaseText_any x' y' a' n' c' ts' W (h'.below hW) hn' hm' (hV.tab.below hW))
  have HW := hide (fun W (hW : Below w.heap.size w W) => lawWritten_any W (hV.tab.below hW))
  have HS1 := hide (fun W (hW : Below w.heap.size w W) => sameRelease_any x y a n c ts x' y' a' n' c' ts' W (h.below hW) hn hm (h'.below hW) hn')
  have HI3 := hide (fun W (hW : Below w.heap.size w W) => imageText_any a3 n3 c3 ws W (h3.below hW) hn3 hm3 (hV.tab.below hW))
  have HI4 := hide (fun W (hW : Below w.heap.size w W) => imageText_any a4 n4 c4 vs W (h4.below hW) hn4 hm4 (hV.tab.below hW))
  have HEq := hide (fun W (hW : Below w.heap.size w W) => equal_at a3 a4 n3 n4 c3 c4 ws vs (eqL ws vs) W (h3.below hW) (h4.below hW) hn3 hn4 rfl hm3 hm4)
  have HP := hide (fun W s' (hs' : s'.size ≤ maxLen) (hW : Below w.heap.size w W) => parseRelease_any s' hs' W (hV.below hW))
  have HS2 := hide (fun W a2 n2 c2 (hW : Below w.heap.size w W) (hi : IsTgts W a2 ts) (hn2 : ts.length = n2) (hm2 : n2 ≤ maxLen) => sameRelease_any x y a2 n2 c2 ts x y a n c ts W hi hn2 hm2 (h.below hW) hn)
  have HT3 := hide (fun W v2 u2 a2 n2 c2 ts2 (hW : Below w.heap.size w W) (hi : IsTgts W a2 ts2) (hn2 : ts2.length = n2) (hm2 : n2 ≤ maxLen) => releaseText_any v2 u2 a2 n2 c2 ts2 W hi hn2 hm2 (hV.tab.below hW))
  obtain ⟨g1, hg1⟩ : ∃ g1, g1 = relE x y ts := ⟨_, rfl⟩
  obtain ⟨g2, hg2⟩ : ∃ g2, g2 = relE x' y' ts' := ⟨_, rfl⟩
  obtain ⟨t1, ht1⟩ : ∃ t1, t1 = bs (relTx x y ts) := ⟨_, rfl⟩
  obtain ⟨t2, ht2⟩ : ∃ t2, t2 = bs (relTx x' y' ts') := ⟨_, rfl⟩
  rw [← hg1, ← ht1] at HT1
  rw [← hg2, ← ht2] at HT2
  have HX1 := hide (fun (e : g1 = 0) => show t1 = bs (relT x y ts) ∧ relE x y ts = 0 by rw [hg1] at e; rw [ht1]; unfold relTx; rw [if_pos e]; exact ⟨rfl, e⟩)
  have HX2 := hide (fun (e : g2 = 0) => show t2 = bs (relT x' y' ts') ∧ relE x' y' ts' = 0 by rw [hg2] at e; rw [ht2]; unfold relTx; rw [if_pos e]; exact ⟨rfl, e⟩)
  unfold relv at HT1 HT2 HS1 HS2 HT3 ⊢
  clear hn hn' hn3 hn4 hg1 hg2 ht1 ht2
  go_enter Tryd.func4, Tryd.ntmps4
  go_wp2_with fail
  generalize (w.alloc (.cells #[.int .i64 x, .int .i64 y, .slice a n c] 38)).alloc (.cells #[.int .i64 x', .int .i64 y', .slice a' n' c'] 38) = W at *
  refine (unhide HT1 _ hw0).mono ?_
  rintro e w1 ⟨rfl, hb1⟩
  replace hw0 := hw0.trans (hb1.mono hw0.size)
  replace b0 := hide (blk_below b0.out hb1)
  replace b1 := hide (blk_below b1.out hb1)
  clear hb1 HT1
  have d0 := blk_cell b1.out 0 _ rfl
  have d1 := blk_cell b1.out 1 _ rfl
  have d2 := blk_cell b1.out 2 _ rfl
  go_wp2_with fail
  refine (unhide HT2 _ hw0).mono ?_
  rintro e w2 ⟨rfl, hb2⟩
  replace hw0 := hw0.trans (hb2.mono hw0.size)
  replace b0 := hide (blk_below b0.out hb2)
  replace b1 := hide (blk_below b1.out hb2)
  clear hb2 HT2 d0 d1 d2
  go_upto_region 3 with fail
  go_cut [51] (fun v51 wx => v51 = .bool false ∧ Below w.heap.size w wx ∧ Hid (wx.heap[w.heap.size]? = some (.cells #[.int .i64 x, .int .i64 y, .slice a n c] 38 (0, 0))))
  case first =>
    go_wp2_with fail
    refine (unhide HW _ hw0).mono ?_
    rintro e w3 ⟨rfl, hb3⟩
    replace hw0 := hw0.trans (hb3.mono hw0.size)
    replace b0 := hide (blk_below b0.out hb3)
    replace b1 := hide (blk_below b1.out hb3)
    clear hb3 HW
    have c0 := blk_cell b0.out 0 _ rfl
    have c1 := blk_cell b0.out 1 _ rfl
    have c2 := blk_cell b0.out 2 _ rfl
    have d0 := blk_cell b1.out 0 _ rfl
    have d1 := blk_cell b1.out 1 _ rfl
    have d2 := blk_cell b1.out 2 _ rfl
    by_cases e1 : g1 = 0
    · have q1 : (g1 == 0) = true := by simpa using e1
      by_cases e2 : g2 = 0
      · have q2 : (g2 == 0) = true := by simpa using e2
        have hq := same_text (HX1.out e1).2 (HX2.out e2).2
        rw [← (HX1.out e1).1, ← (HX2.out e2).1] at hq
        clear e1 e2
        generalize sameB x y ts x' y' ts' = q at *
        have hqq : (q != q) = false := by simp
        go_wp2_with (go_at_call 18; refine (unhide HS1 _ hw0).mono ?_; rintro e w4 ⟨rfl, hb4⟩)
        go_meet
        case rel => exact ⟨rfl, hw0.trans (hb4.mono hw0.size), blk_below b0.out hb4⟩
      · have q2 : (g2 == 0) = false := by simpa using e2
        clear e1 e2
        go_wp2_with fail
        go_meet
        case rel => exact ⟨rfl, hw0, b0⟩
    · have q1 : (g1 == 0) = false := by simpa using e1
      clear e1
      go_wp2_with fail
      go_meet
      case rel => exact ⟨rfl, hw0, b0⟩
  case rest =>
  obtain ⟨rfl, hwc, bc⟩ := hcut
  clear hw0 b0 b1 HW HS1 HX2
  obtain ⟨w4, rfl⟩ : ∃ w4 : World, w4 = wc := ⟨_, rfl⟩
  go_upto_if 53 with fail
  go_cut [10] (fun v10 wx => Below w.heap.size w wx)
  case first =>
    by_cases e1 : g1 = 0
    · have q1 : (g1 == 0) = true := by simpa using e1
      have hlen := relT_len (HX1.out e1).2
      have HPt := hide (parse_text (HX1.out e1).2)
      have HP1 := hide (fun W (hW : Below w.heap.size w W) => HP.out W (bs (relT x y ts)) (by rw [bs_size]; unfold maxLen; omega) hW)
      rw [bs_data, HPt.out, ← (HX1.out e1).1] at HP1
      clear e1 hlen HPt
      go_wp2_with fail
      refine (unhide HP1 _ hwc).mono ?_
      rintro e w5 ⟨⟨a2, n2, c2, rfl, hi2, hn2, hm2⟩, hb5⟩
      replace hwc := hwc.trans (hb5.mono hwc.size)
      replace bc := hide (blk_below bc.out hb5)
      clear hb5
      unfold relv
      simp only at hi2 hn2
      have hw6 := hwc.alloc hwc.size (.cells #[.int .i64 x, .int .i64 y, .slice a2 n2 c2] 38)
      have b6 := hide (heap_alloc_last w5 (.cells #[.int .i64 x, .int .i64 y, .slice a2 n2 c2] 38))
      replace bc := hide (blk_alloc bc.out (.cells #[.int .i64 x, .int .i64 y, .slice a2 n2 c2] 38))
      replace hi2 := hi2.alloc (.cells #[.int .i64 x, .int .i64 y, .slice a2 n2 c2] 38)
      have HS3 := hide (HS2.out _ a2 n2 c2 hw6 hi2 hn2 hm2)
      rw [same_self] at HS3
      clear hwc hn2
      go_upto_region 7 with fail
      generalize w5.alloc (.cells #[.int .i64 x, .int .i64 y, .slice a2 n2 c2] 38) = w6 at *
      have c0 := blk_cell bc.out 0 _ rfl
      have c1 := blk_cell bc.out 1 _ rfl
      have c2' := blk_cell bc.out 2 _ rfl
      have d0 := blk_cell b6.out 0 _ rfl
      have d1 := blk_cell b6.out 1 _ rfl
      have d2 := blk_cell b6.out 2 _ rfl
      go_wp2_with (go_at_call 18; refine (unhide HS3).mono ?_; rintro e w7 ⟨rfl, hb7⟩)
      go_meet
      case rel => exact hw6.trans (hb7.mono hw6.size)
    · have q1 : (g1 == 0) = false := by simpa using e1
      clear e1
      go_wp2_with fail
      go_meet
      case rel => exact hwc
  case rest =>
  clear bc hwc HX1 HS2
  obtain ⟨w8, rfl⟩ : ∃ w8 : World, w8 = wc := ⟨_, rfl⟩
  have hw8 : Below w.heap.size w w8 := hcut
  clear hcut
  have HPb := hide (parse_back (l := s.data.toList))
  have HP2 := hide (fun W (hW : Below w.heap.size w W) => HP.out W s hs hW)
  obtain ⟨pr, hpr⟩ : ∃ pr, pr = parseS s.data.toList := ⟨_, rfl⟩
  rw [← hpr] at HPb HP2
  obtain ⟨v2, u2, ts2, g3⟩ := pr
  simp only at HPb HP2
  clear hpr HP
  go_wp2_with fail
  refine (unhide HP2 _ hw8).mono ?_
  rintro e w9 ⟨⟨a2, n2, c2, rfl, hi2, hn2, hm2⟩, hb9⟩
  replace hw8 := hw8.trans (hb9.mono hw8.size)
  clear hb9 HP2
  unfold relv
  simp only at hi2 hn2
  have hw9 := hw8.alloc hw8.size (.cells #[.int .i64 v2, .int .i64 u2, .slice a2 n2 c2] 38)
  have b9 := hide (heap_alloc_last w9 (.cells #[.int .i64 v2, .int .i64 u2, .slice a2 n2 c2] 38))
  replace hi2 := hi2.alloc (.cells #[.int .i64 v2, .int .i64 u2, .slice a2 n2 c2] 38)
  have HT4 := hide (HT3.out _ v2 u2 a2 n2 c2 ts2 hw9 hi2 hn2 hm2)
  clear hn2 HT3
  go_upto_if 73 with fail
  generalize w9.alloc (.cells #[.int .i64 v2, .int .i64 u2, .slice a2 n2 c2] 38) = wA at *
  go_cut [10] (fun v10 wx => Below w.heap.size w wx)
  case first =>
    by_cases e3 : g3 = 0
    · have q1 : (g3 == 0) = true := by simpa using e3
      obtain ⟨p1, p2⟩ := HPb.out e3
      have HY := hide (show relTx v2 u2 ts2 = s.data.toList by unfold relTx; rw [if_pos p1, p2])
      rw [HY.out, p1, bs_of] at HT4
      have q3 : (s.toList != s.toList) = false := by simp
      clear e3 p1 p2
      have c0 := blk_cell b9.out 0 _ rfl
      have c1 := blk_cell b9.out 1 _ rfl
      have c2' := blk_cell b9.out 2 _ rfl
      go_wp2_with (go_at_call 17; refine (unhide HT4).mono ?_; rintro e wB ⟨rfl, hbB⟩)
      go_meet
      case rel => exact hw9.trans (hbB.mono hw9.size)
    · have q1 : (g3 == 0) = false := by simpa using e3
      clear e3
      go_wp2_with fail
      go_meet
      case rel => exact hw9
  case rest =>
  clear b9 hi2 HT4 hw9 hw8 HPb
  obtain ⟨wC, rfl⟩ : ∃ wC : World, wC = wc := ⟨_, rfl⟩
  have hwC : Below w.heap.size w wC := hcut
  clear hcut
  go_wp2_with fail
  refine (unhide HI3 _ hwC).mono ?_
  rintro e wD ⟨rfl, hbD⟩
  replace hwC := hwC.trans (hbD.mono hwC.size)
  clear hbD HI3
  go_wp2_with fail
  refine (unhide HI4 _ hwC).mono ?_
  rintro e wE ⟨rfl, hbE⟩
  replace hwC := hwC.trans (hbE.mono hwC.size)
  clear hbE HI4
  by_cases e4 : imgE ws = 0
  · by_cases e5 : imgE vs = 0
    · have hq := same_img e4 e5
      have HZ1 := hide (show imgTx ws = imgT ws by unfold imgTx; rw [if_pos e4])
      have HZ2 := hide (show imgTx vs = imgT vs by unfold imgTx; rw [if_pos e5])
      rw [HZ1.out, HZ2.out, e4, e5]
      generalize bs (imgT ws) = i1 at *
      generalize bs (imgT vs) = i2 at *
      generalize eqL ws vs = q at *
      have hqq : (q == q) = true := by simp
      clear e4 e5
      go_wp2_with (go_at_call 21; refine (unhide HEq _ hwC).mono ?_; rintro e wF ⟨rfl, nq, rfl⟩)
      go_ret
      exact ⟨rfl, below_drewN hwC nq⟩
    · have q1 : (imgE vs != 0) = true := by simpa using e5
      rw [e4]
      clear e4 e5
      generalize imgE vs = g5 at *
      go_wp2_with fail
      go_ret
      exact ⟨rfl, hwC⟩
  · have q1 : (imgE ws != 0) = true := by simpa using e4
    clear e4
    generalize imgE ws = g4 at *
    go_wp2_with fail
    go_ret
    exact ⟨rfl, hwC⟩

end Go.Proofs.YtanpglfpopbfkabDoor
