/- The walk of wainwrightlaw.FlashSays: it answers true, and nothing that was there has turned. -/
import Derived.Test.YtanpglfpopbfkaaRepeat
import Derived.Test.YtanpglfpopbfkaaErased
import Derived.Test.YtanpglfpopbfkaaParts
namespace Go.Proofs.Ytanpglfpopbfkaa
open Go.RowKit
attribute [local go_sem ↓] Go.wp_at_zero Go.wp_at_succ

theorem FlVar.open0 {B : Nat} {w : World} {b : Nat} {ws : List Int} {fuel : Int} (h : FlVar B w b ws fuel) : ∃ a n c, w.cell? ⟨b, 0, none⟩ = some (.slice a n c) ∧ w.cell? ⟨b, 1, none⟩ = some (.int .i64 fuel) ∧ IsInts w a ws ∧ ws.length = n ∧ n ≤ c ∧ b < w.heap.size := by
  obtain ⟨a, n, c, h1, h2, h3, h4, _⟩ := h
  exact ⟨a, n, c, blk_cell h1 0 _ rfl, blk_cell h1 1 _ rfl, h2, h3, h4, blk_lt h1⟩

set_option maxRecDepth 100000 in
set_option maxHeartbeats 4000000 in
theorem says_any (nn : Int) (a : Option Addr) (n c : Nat) (ws : List Int) (fuel : Int) (s p : Int) (a2 : Option Addr) (n2 c2 : Nat) (words : List Int) (ag : Option Addr) (ng cg : Nat) (gs : List Int) (fg : Int) (w : World)
    (h : IsInts w a ws) (hn : ws.length = n) (hsz : n * 8 ≤ 140737488351232) (hcap : n ≤ c) (h2 : IsInts w a2 words) (hn2 : words.length = n2) (hm2 : n2 ≤ maxLen) (h3 : IsInts w ag gs) (hng : gs.length = ng) (hmg : ng ≤ maxLen)
    (hs : -9223372036854775808 ≤ s ∧ s ≤ 9223372036854775807) (hp : -9223372036854775808 ≤ p ∧ p ≤ 9223372036854775807) :
    Calls Try.prog 4 #[.int .i64 nn, .agg #[.slice a n c, .int .i64 fuel], .int .i64 s, .int .i64 p, .slice a2 n2 c2, .agg #[.slice ag ng cg, .int .i64 fg]] w fun e w' => e = .returned (.bool true) ∧ Below w.heap.size w w' := by
  have hm : n ≤ maxLen := by unfold maxLen; omega
  have HN := hide hn
  have HN2 := hide hn2
  have HNG := hide hng
  clear hn hn2 hng
  have hw : Below w.heap.size w ((w.alloc (.cells #[.slice a n c, .int .i64 fuel] 28)).alloc (.cells #[.slice ag ng cg, .int .i64 fg] 28)) :=
    ((Below.refl _ _).alloc (Nat.le_refl _) _).alloc (by simp) _
  have VF : FBox ((w.alloc (.cells #[.slice a n c, .int .i64 fuel] 28)).alloc (.cells #[.slice ag ng cg, .int .i64 fg] 28)) w.heap.size a n c fuel := blk_alloc (heap_alloc_last _ _) _
  have VG : FBox ((w.alloc (.cells #[.slice a n c, .int .i64 fuel] 28)).alloc (.cells #[.slice ag ng cg, .int .i64 fg] 28)) (w.heap.size + 1) ag ng cg fg := by
    have := heap_alloc_last (w.alloc (.cells #[.slice a n c, .int .i64 fuel] 28)) (.cells #[.slice ag ng cg, .int .i64 fg] 28)
    unfold FBox; simpa using this
  go_enter Try.func4, Try.ntmps4
  go_wp2_with fail
  generalize (w.alloc (.cells #[.slice a n c, .int .i64 fuel] 28)).alloc (.cells #[.slice ag ng cg, .int .i64 fg] 28) = w0 at *
  -- own
  refine (ownFlash_any a n c ws fuel _ (h.below hw) HN.out hsz).mono ?_
  rintro e w1 ⟨g, c', hg, hc', rfl, how, hb1⟩
  have hb2 := hb1.alloc hb1.size (.cells #[.slice (some ⟨g, 0, none⟩) n c', .int .i64 fuel] 28)
  have VO := flVar_new (B := 0) fuel how.isInts HN.out hc' (fun _ _ => Nat.zero_le _)
  replace VF := VF.below hb2
  replace VG := VG.below hb2
  replace hw := hw.trans (hb2.mono hw.size)
  clear hb1 hb2 how hg hc'
  -- New
  obtain ⟨xl, xf, xe, hx⟩ : ∃ xl xf xe, newS nn = (xl, xf, xe) := ⟨_, _, _, rfl⟩
  go_wp2_with fail
  generalize w1.alloc (.cells #[.slice (some ⟨g, 0, none⟩) n c', .int .i64 fuel] 28) = w2 at *
  refine (new_any nn _).mono ?_
  intro e w3 hA
  obtain ⟨ax, nx, cx, rfl, hix, hnx, hcx, -, hb3⟩ := hA.opened hx
  have hb4 := hb3.alloc hb3.size (.cells #[.slice ax nx cx, .int .i64 xf] 28)
  have VX := flVar_new (B := 0) xf hix hnx hcx (fun _ _ => Nat.zero_le _)
  replace VF := VF.below hb4
  replace VG := VG.below hb4
  replace VO := VO.below hb4
  replace hw := hw.trans (hb4.mono hw.size)
  clear hA hb3 hb4 hnx hix hcx
  have HX := hide hx
  clear hx
  -- Erase
  obtain ⟨yl, yf, ye, hy⟩ : ∃ yl yf ye, eraS ws fuel s = (yl, yf, ye) := ⟨_, _, _, rfl⟩
  obtain ⟨ao, no, co, o0, o1, hio, hno, hco, lo⟩ := VO.open0
  obtain rfl : n = no := by rw [← hno, HN.out]
  clear hno
  go_wp2_with fail
  generalize w3.alloc (.cells #[.slice ax nx cx, .int .i64 xf] 28) = w4 at *
  refine (erase_any ao n co ws fuel s _ hio HN.out hm).mono ?_
  intro e w5 hA
  obtain ⟨ay, ny, cy, rfl, hiy, hny, hcy, -, hb5⟩ := hA.opened hy
  have hb6 := hb5.alloc hb5.size (.cells #[.slice ay ny cy, .int .i64 yf] 28)
  have VY := flVar_new (B := 0) yf hiy hny hcy (fun _ _ => Nat.zero_le _)
  replace VF := VF.below hb6
  replace VG := VG.below hb6
  replace VO := VO.below hb6
  replace VX := VX.below hb6
  replace hw := hw.trans (hb6.mono hw.size)
  clear hA hb5 hb6 hny hiy hcy o0 o1 hio hco lo
  have HY := hide hy
  clear hy
  -- Program
  obtain ⟨zl, zf, ze, hz⟩ : ∃ zl zf ze, progS ws fuel p words = (zl, zf, ze) := ⟨_, _, _, rfl⟩
  obtain ⟨ao2, no2, co2, o0, o1, hio, hno, hco, lo⟩ := VO.open0
  obtain rfl : n = no2 := by rw [← hno, HN.out]
  clear hno
  go_wp2_with fail
  generalize w5.alloc (.cells #[.slice ay ny cy, .int .i64 yf] 28) = w6 at *
  refine (program_any ao2 n co2 ws fuel p a2 n2 c2 words _ hio HN.out hm (h2.below hw) HN2.out hm2 hp).mono ?_
  intro e w7 hA
  obtain ⟨az, nz, cz, rfl, hiz, hnz, hcz, -, hb7⟩ := hA.opened hz
  have hb8 := hb7.alloc hb7.size (.cells #[.slice az nz cz, .int .i64 zf] 28)
  have VZ := flVar_new (B := 0) zf hiz hnz hcz (fun _ _ => Nat.zero_le _)
  replace VF := VF.below hb8
  replace VG := VG.below hb8
  replace VO := VO.below hb8
  replace VX := VX.below hb8
  replace VY := VY.below hb8
  replace hw := hw.trans (hb8.mono hw.size)
  clear hA hb7 hb8 hnz hiz hcz o0 o1 hio hco lo
  have HZ := hide hz
  clear hz
  -- Read
  obtain ⟨rl, re, hrd⟩ : ∃ rl re, readS ws fuel p n2 = (rl, re) := ⟨_, _, rfl⟩
  obtain ⟨ao3, no3, co3, o0, o1, hio, hno, hco, lo⟩ := VO.open0
  obtain rfl : n = no3 := by rw [← hno, HN.out]
  clear hno
  go_wp2_with fail
  generalize w7.alloc (.cells #[.slice az nz cz, .int .i64 zf] 28) = w8 at *
  refine (read_any ao3 n co3 ws fuel p n2 _ hio HN.out hm hco (by unfold maxLen at hm2; omega) hp).mono ?_
  intro e w9 hA
  obtain ⟨ar, nr, cr, rfl, hir, hnr, hcr, -, hb9⟩ := hA.opened hrd
  replace VF := VF.below hb9
  replace VG := VG.below hb9
  replace VO := VO.below hb9
  replace VX := VX.below hb9
  replace VY := VY.below hb9
  replace VZ := VZ.below hb9
  replace hw := hw.trans (hb9.mono hw.size)
  clear hA hb9 o0 o1 hio hco lo
  have HRD := hide hrd
  have HNR := hide hnr
  clear hrd hnr
  -- CheckFlash
  have v0 := blk_cell VF 0 _ rfl
  have v1 := blk_cell VF 1 _ rfl
  go_wp2_with fail
  refine (refCheck_any a n c ws fuel _ (h.below hw) HN.out hm).mono ?_
  rintro e wA ⟨rfl, hbA⟩
  replace VF := VF.below hbA
  replace VG := VG.below hbA
  replace VO := VO.below hbA
  replace VX := VX.below hbA
  replace VY := VY.below hbA
  replace VZ := VZ.below hbA
  replace hw := hw.trans (hbA.mono hw.size)
  replace hir := hir.below hbA
  clear hbA v0 v1
  obtain ⟨bad, hbad⟩ : ∃ bad, bad = chk ws fuel := ⟨_, rfl⟩
  rw [← hbad]
  have HBad := hide hbad
  clear hbad
  go_upto_region 7 with fail
  go_cut [79] (fun v79 wx => v79 = .bool false ∧ Below wA.heap.size wA wx)
  case first =>
    obtain ⟨ao4, no4, co4, o0, o1, hio, hno, hco, lo⟩ := VO.open0
    obtain rfl : n = no4 := by rw [← hno, HN.out]
    clear hno
    obtain ⟨q, hq⟩ : ∃ q, q = (decide (fuel = fg) && eqL ws gs) := ⟨_, rfl⟩
    have SC : ∀ W, Below wA.heap.size wA W → W.cell? ⟨w.heap.size, 0, none⟩ = some (.slice a n c) ∧ W.cell? ⟨w.heap.size, 1, none⟩ = some (.int .i64 fuel) ∧ W.cell? ⟨w.heap.size + 1, 0, none⟩ = some (.slice ag ng cg) ∧ W.cell? ⟨w.heap.size + 1, 1, none⟩ = some (.int .i64 fg) ∧ W.cell? ⟨w1.heap.size, 0, none⟩ = some (.slice ao4 n co4) ∧ W.cell? ⟨w1.heap.size, 1, none⟩ = some (.int .i64 fuel) := fun W hb =>
      ⟨blk_cell (VF.below hb) 0 _ rfl, blk_cell (VF.below hb) 1 _ rfl, blk_cell (VG.below hb) 0 _ rfl, blk_cell (VG.below hb) 1 _ rfl, by rw [hb.cell lo]; exact o0, by rw [hb.cell lo]; exact o1⟩
    have HSC := hide SC
    have HBu := hide (fun W (hb : Below wA.heap.size wA W) => (burnt_any W).mono (R' := fun e w' => e = .returned (.bool true) ∧ Below wA.heap.size wA w') (fun e w' hh => ⟨hh.1, hb.trans (hh.2.mono hb.size)⟩))
    have HCk := hide (fun W (hb : Below wA.heap.size wA W) => (check_any a n c ws fuel W ((h.below hw).below hb) HN.out hm).mono (R' := fun e w' => e = .returned (.int .i64 bad) ∧ Below wA.heap.size wA w') (fun e w' hh => ⟨by rw [HBad.out]; exact hh.1, hb.trans (hh.2.mono hb.size)⟩))
    have HS1 := hide (fun W (hb : Below wA.heap.size wA W) => (same_any a n c ws fuel ag ng cg gs fg W ((h.below hw).below hb) HN.out hm ((h3.below hw).below hb) HNG.out hmg).mono (R' := fun e w' => e = .returned (.bool q) ∧ Below wA.heap.size wA w') (fun e w' hh => ⟨by rw [hq]; exact hh.1, hb.trans (hh.2.mono hb.size)⟩))
    have HS2 := hide (fun W (hb : Below wA.heap.size wA W) => (refSame_any a n c ws fuel ag ng cg gs fg W ((h.below hw).below hb) HN.out hm ((h3.below hw).below hb) HNG.out hmg).mono (R' := fun e w' => e = .returned (.bool q) ∧ Below wA.heap.size wA w') (fun e w' hh => ⟨by rw [hq]; exact hh.1, hb.trans (hh.2.mono hb.size)⟩))
    have HS3 := hide (fun W (hb : Below wA.heap.size wA W) => (refSame_any ao4 n co4 ws fuel a n c ws fuel W (hio.below hb) HN.out hm ((h.below hw).below hb) HN.out hm).mono (R' := fun e w' => e = .returned (.bool true) ∧ Below wA.heap.size wA w') (fun e w' hh => ⟨by rw [hh.1]; simp [eqL_self], hb.trans (hh.2.mono hb.size)⟩))
    clear hq SC o0 o1 hio hco
    go_region_held3 (fun W => W.cell? ⟨w.heap.size, 0, none⟩ = some (.slice a n c) ∧ W.cell? ⟨w.heap.size, 1, none⟩ = some (.int .i64 fuel) ∧ W.cell? ⟨w.heap.size + 1, 0, none⟩ = some (.slice ag ng cg) ∧ W.cell? ⟨w.heap.size + 1, 1, none⟩ = some (.int .i64 fg) ∧ W.cell? ⟨w1.heap.size, 0, none⟩ = some (.slice ao4 n co4) ∧ W.cell? ⟨w1.heap.size, 1, none⟩ = some (.int .i64 fuel)) (first | exact HSC.out _ (Below.refl _ _).drew | (refine HSC.out _ ?_; assumption))
      ((first | (go_at_call 22; refine (unhide HBu _ ?_).mono ?_; exact (Below.refl _ _).drew; rintro e wB ⟨rfl, hbB⟩) | (go_at_call 23; refine (unhide HCk _ ?_).mono ?_; exact hbB; rintro e wC ⟨rfl, hbC⟩) | (go_at_call 24; refine (unhide HS1 _ ?_).mono ?_; exact hbC; rintro e wD ⟨rfl, hbD⟩) | (go_at_call_of 25 (Value.agg #[.slice ag ng cg, .int .i64 fg]); refine (unhide HS2 _ ?_).mono ?_; exact hbD; rintro e wE ⟨rfl, hbE⟩) | (go_at_call 25; refine (unhide HS3 _ ?_).mono ?_; exact hbE; rintro e wF ⟨rfl, hbF⟩)))
    go_wp2_with fail
    go_meet
    case rel => exact ⟨rfl, hbF⟩
  case rest =>
    obtain ⟨rfl, hbx⟩ := hcut
    obtain ⟨wB, rfl⟩ : ∃ wB : World, wB = wc := ⟨_, rfl⟩
    replace VF := VF.below hbx
    replace VX := VX.below hbx
    replace VY := VY.below hbx
    replace VZ := VZ.below hbx
    replace hw := hw.trans (hbx.mono hw.size)
    replace hir := hir.below hbx
    clear hbx VO VG
    go_upto_region 9 with fail
    go_cut [85] (fun v85 wx => v85 = .bool (!decide (1 ≤ nn ∧ nn ≤ 6)) ∧ wx = wB)
    case first =>
      by_cases c1 : nn < 1
      · go_wp2_with fail
        go_meet
        case rel => exact ⟨congrArg Value.bool (by simp; omega), rfl⟩
      · have d1 : decide (nn < 1) = false := by simp; omega
        by_cases c2 : 6 < nn
        · go_wp2_with fail
          go_meet
          case rel => exact ⟨congrArg Value.bool (by simp; omega), rfl⟩
        · have d2 : decide (6 < nn) = false := by simp; omega
          go_wp2_with fail
          go_meet
          case rel => exact ⟨congrArg Value.bool (by simp; omega), rfl⟩
    case rest =>
      obtain ⟨rfl, hwc⟩ := hcut
      subst hwc
      obtain ⟨wB, rfl⟩ : ∃ wB : World, wB = wc := ⟨_, rfl⟩
      go_upto_if 85 with fail
      go_cut [12] (fun v12 wx => v12 = .bool false ∧ Below wB.heap.size wB wx)
      case first =>
        obtain ⟨ax1, nx1, cx1, o0, o1, hio, hno, hco, lo⟩ := VX.open0
        by_cases hin : 1 ≤ nn ∧ nn ≤ 6
        · obtain ⟨kk, rfl⟩ := Int.eq_ofNat_of_zero_le (show 0 ≤ nn by omega)
          have e0 : newS kk = (List.replicate (kk * 32) 65535, -1, 0) := by unfold newS; rw [if_neg (by omega), Int.toNat_natCast]
          have e1 := HX.out.symm.trans e0
          cases e1
          have hd : decide (1 ≤ (kk : Int) ∧ (kk : Int) ≤ 6) = true := decide_eq_true hin
          rw [hd]
          have HNO := hide hno
          have hmo : nx1 ≤ maxLen := by rw [← hno, List.length_replicate]; unfold maxLen; omega
          have SC : ∀ W, Below wB.heap.size wB W → W.cell? ⟨w3.heap.size, 0, none⟩ = some (.slice ax1 nx1 cx1) ∧ W.cell? ⟨w3.heap.size, 1, none⟩ = some (.int .i64 (-1)) := fun W hb => ⟨by rw [hb.cell lo]; exact o0, by rw [hb.cell lo]; exact o1⟩
          have HSC := hide SC
          have hkc : ((32 * kk : Nat) : Int) = 32 * (kk : Int) := by omega
          have HRp := hide (fun W (h : IsInts W (some ⟨wB.heap.size, 0, none⟩) [65535]) => repeat_any (some ⟨wB.heap.size, 0, none⟩) 1 (32 * kk) (by omega) W h)
          rw [hkc] at HRp
          have hlen : (List.replicate (32 * kk) (65535 : Int)).length = 32 * kk := by simp
          have HSm := hide (fun W g (hb : Below wB.heap.size wB W) (ho : OwnInts W g (List.replicate (32 * kk) 65535)) => (refSame_any ax1 nx1 cx1 _ (-1) (some ⟨g, 0, none⟩) (32 * kk) (32 * kk) _ (-1) W (hio.below hb) HNO.out hmo ho.isInts hlen (by unfold maxLen; omega)).mono (R' := fun e w' => e = .returned (.bool true) ∧ Below wB.heap.size wB w') (fun e w' hh => ⟨by rw [hh.1, Nat.mul_comm kk 32, eqL_self]; rfl, hb.trans (hh.2.mono hb.size)⟩))
          clear SC o0 o1 hio hco hno hkc hlen e0
          have i3 : IntKind.i64.wrap (32 * (kk : Int)) = 32 * (kk : Int) := by rw [IntKind.wrap_i64]; omega
          go_wp2_with fail
          go_region_held3 (fun W => W.cell? ⟨w3.heap.size, 0, none⟩ = some (.slice ax1 nx1 cx1) ∧ W.cell? ⟨w3.heap.size, 1, none⟩ = some (.int .i64 (-1))) (first | exact HSC.out _ (Below.refl _ _).drew | exact HSC.out _ ((Below.refl _ _).alloc (Nat.le_refl _) _).drew | (refine HSC.out _ ?_; assumption))
            ((first | (go_at_call 26; refine (unhide HRp _ ?_).mono ?_; exact isInts_at wB wB.heap.size [65535] _ 3 rfl rfl; rintro e wC ⟨g5, rfl, hg5, ho5, hb5⟩; have hbC : Below wB.heap.size wB wC := (((Below.refl _ wB).alloc (Nat.le_refl _) _).drew.trans (hb5.mono (by simp)))) | (go_at_call 25; refine (unhide HSm _ g5 ?_ ?_).mono ?_; exact hbC; exact ho5; rintro e wD ⟨rfl, hbD⟩)))
          go_wp2_with fail
          go_meet
          case rel => exact ⟨rfl, hbD⟩
        · have e0 : newS nn = ([], 0, 3) := by unfold newS; rw [if_pos (by omega)]
          have e1 := HX.out.symm.trans e0
          cases e1
          have hd : decide (1 ≤ nn ∧ nn ≤ 6) = false := decide_eq_false hin
          rw [hd]
          obtain rfl : 0 = nx1 := hno
          have HSm := hide (refSame_any ax1 0 cx1 [] 0 none 0 0 [] 0 wB hio rfl (Nat.zero_le _) (.inl rfl) rfl (Nat.zero_le _))
          clear e0 hin hd
          go_wp2_with fail
          refine (unhide HSm).mono ?_
          rintro e wD ⟨rfl, hbD⟩
          go_wp2_with fail
          go_meet
          case rel => exact ⟨rfl, hbD⟩
      case rest =>
        obtain ⟨rfl, hbx⟩ := hcut
        obtain ⟨wC, rfl⟩ : ∃ wC : World, wC = wc := ⟨_, rfl⟩
        replace VF := VF.below hbx
        replace VY := VY.below hbx
        replace VZ := VZ.below hbx
        replace hw := hw.trans (hbx.mono hw.size)
        replace hir := hir.below hbx
        clear hbx VX HX
        by_cases hb0 : bad = 0
        rotate_left
        · have hck : chk ws fuel ≠ 0 := by rw [← HBad.out]; exact hb0
          have e1 : eraS ws fuel s = ([], 0, bad) := by unfold eraS; rw [if_pos hck, HBad.out]
          have e2 : progS ws fuel p words = ([], 0, bad) := by unfold progS; rw [if_pos hck, HBad.out]
          have e3 : readS ws fuel p n2 = ([], bad) := by unfold readS; rw [if_pos hck, HBad.out]
          have g1 := HY.out.symm.trans e1
          have g2 := HZ.out.symm.trans e2
          have g3 := HRD.out.symm.trans e3
          simp only [Prod.mk.injEq] at g1 g2 g3
          obtain ⟨rfl, rfl, rfl⟩ : [] = yl ∧ 0 = yf ∧ bad = ye := ⟨g1.1.symm, g1.2.1.symm, g1.2.2.symm⟩
          obtain ⟨rfl, rfl, rfl⟩ : [] = zl ∧ 0 = zf ∧ bad = ze := ⟨g2.1.symm, g2.2.1.symm, g2.2.2.symm⟩
          obtain ⟨rfl, rfl⟩ : [] = rl ∧ bad = re := ⟨g3.1.symm, g3.2.symm⟩
          clear g1 g2 g3
          obtain rfl : 0 = nr := HNR.out
          obtain ⟨ay1, ny1, cy1, y0, y1, hiy, hny, hcy, ly⟩ := VY.open0
          obtain rfl : 0 = ny1 := hny
          have d1 : (bad != 0) = true := by simpa using hb0
          have HSm := hide (refSame_any ay1 0 cy1 [] 0 none 0 0 [] 0 wC hiy rfl (Nat.zero_le _) (.inl rfl) rfl (Nat.zero_le _))
          clear hb0 hck e1 e2 e3
          go_wp2_with fail
          refine (unhide HSm).mono ?_
          rintro e wD ⟨rfl, hbD⟩
          replace VZ := VZ.below hbD
          replace hw := hw.trans (hbD.mono hw.size)
          obtain ⟨az1, nz1, cz1, z0, z1, hiz, hnz, hcz, lz⟩ := VZ.open0
          obtain rfl : 0 = nz1 := hnz
          have HSn := hide (refSame_any az1 0 cz1 [] 0 none 0 0 [] 0 wD hiz rfl (Nat.zero_le _) (.inl rfl) rfl (Nat.zero_le _))
          clear y0 y1 hbD HSm
          go_wp2_with fail
          refine (unhide HSn).mono ?_
          rintro e wE ⟨rfl, hbE⟩
          go_wp2
          go_ret
          exact ⟨rfl, hw.trans (hbE.mono hw.size)⟩
        subst hb0
        have hck : chk ws fuel = 0 := HBad.out.symm
        have hparts := chk_parts hck
        rw [HN.out] at hparts
        have HK := hide hck
        clear hck
        -- Erased
        have v0 : wC.cell? ⟨w.heap.size, 0, none⟩ = some (.slice a n c) := blk_cell VF 0 _ rfl
        have v1 : wC.cell? ⟨w.heap.size, 1, none⟩ = some (.int .i64 fuel) := blk_cell VF 1 _ rfl
        have HEr := hide (erased_any a n c ws fuel s wC (h.below hw) HN.out HK.out hs)
        go_wp2_with fail
        refine (unhide HEr).mono ?_
        intro e wD hA
        obtain ⟨aY, nY, cY, rfl, hiY, hnY, hcY, -, hb5⟩ := hA.opened HY.out
        have hb6 := hb5.alloc hb5.size (.cells #[.slice aY nY cY, .int .i64 yf] 28)
        have VYY := flVar_new (B := 0) yf hiY hnY hcY (fun _ _ => Nat.zero_le _)
        replace VF := VF.below hb6
        replace VY := VY.below hb6
        replace VZ := VZ.below hb6
        replace hir := hir.below hb6
        replace hw := hw.trans (hb6.mono hw.size)
        clear hA hb5 hb6 hnY hiY hcY v0 v1 HEr
        -- Programmed
        have v0 := blk_cell VF 0 _ rfl
        have v1 := blk_cell VF 1 _ rfl
        have HPr := hide (programmed_any a n c ws fuel p a2 n2 c2 words _ (h.below hw) HN.out HK.out (h2.below hw) HN2.out hm2 hp)
        go_wp2_with fail
        generalize wD.alloc (.cells #[.slice aY nY cY, .int .i64 yf] 28) = wE at *
        refine (unhide HPr).mono ?_
        intro e wF hA
        obtain ⟨aZ, nZ, cZ, rfl, hiZ, hnZ, hcZ, -, hb7⟩ := hA.opened HZ.out
        have hb8 := hb7.alloc hb7.size (.cells #[.slice aZ nZ cZ, .int .i64 zf] 28)
        have VZZ := flVar_new (B := 0) zf hiZ hnZ hcZ (fun _ _ => Nat.zero_le _)
        replace VF := VF.below hb8
        replace VY := VY.below hb8
        replace VZ := VZ.below hb8
        replace VYY := VYY.below hb8
        replace hir := hir.below hb8
        replace hw := hw.trans (hb8.mono hw.size)
        clear hA hb7 hb8 hnZ hiZ hcZ v0 v1 HPr
        -- the test
        have ylm : yl.length ≤ maxLen := by
          have : yl = (eraS ws fuel s).1 := by rw [HY.out]
          rw [this]; unfold eraS; unfold maxLen
          split
          · simp
          · split
            · simp
            · simp only [chg_length, HN.out]; omega
        have zlm : zl.length ≤ maxLen := by
          have : zl = (progS ws fuel p words).1 := by rw [HZ.out]
          rw [this]; unfold progS; unfold maxLen
          split
          · simp
          · split
            · simp
            · split
              · simp
              · simp only [chg_length, HN.out]; omega
        go_upto_region 18 with fail
        generalize wF.alloc (.cells #[.slice aZ nZ cZ, .int .i64 zf] 28) = wG at *
        obtain ⟨ay1, ny1, cy1, y0, y1, hiy, hny, hcy, ly⟩ := VY.open0
        obtain ⟨ay2, ny2, cy2, y2, y3, hiy2, hny2, hcy2, ly2⟩ := VYY.open0
        have HSm := hide ((refSame_any ay1 ny1 cy1 yl yf ay2 ny2 cy2 yl yf wG hiy hny (by omega) hiy2 hny2 (by omega)).mono (R' := fun e w' => e = .returned (.bool true) ∧ Below wG.heap.size wG w') (fun e w' hh => ⟨by rw [hh.1]; simp [eqL_self], hh.2⟩))
        clear hny hny2 hiy hiy2
        go_wp2_with fail
        refine (unhide HSm).mono ?_
        rintro e wH ⟨rfl, hbH⟩
        replace VF := VF.below hbH
        replace VZ := VZ.below hbH
        replace VZZ := VZZ.below hbH
        replace hir := hir.below hbH
        replace hw := hw.trans (hbH.mono hw.size)
        clear hbH HSm y0 y1 y2 y3
        obtain ⟨az1, nz1, cz1, z0, z1, hiz, hnz, hcz, lz⟩ := VZ.open0
        obtain ⟨az2, nz2, cz2, z2, z3, hiz2, hnz2, hcz2, lz2⟩ := VZZ.open0
        have HSm := hide ((refSame_any az1 nz1 cz1 zl zf az2 nz2 cz2 zl zf wH hiz hnz (by omega) hiz2 hnz2 (by omega)).mono (R' := fun e w' => e = .returned (.bool true) ∧ Below wH.heap.size wH w') (fun e w' hh => ⟨by rw [hh.1]; simp [eqL_self], hh.2⟩))
        clear hnz hnz2 hiz hiz2
        go_wp2_with fail
        refine (unhide HSm).mono ?_
        rintro e wI ⟨rfl, hbI⟩
        replace VF := VF.below hbI
        replace hir := hir.below hbI
        replace hw := hw.trans (hbI.mono hw.size)
        clear hbI HSm z0 z1 z2 z3
        have v0 : wI.cell? ⟨w.heap.size, 0, none⟩ = some (.slice a n c) := blk_cell VF 0 _ rfl
        have no : fitB n p n2 = false → ([] = rl ∧ 5 = re) ∧ 0 = nr := by
          intro hf
          have e3 : readS ws fuel p n2 = ([], 5) := by unfold readS; rw [if_neg (by simpa using HK.out), HN.out, if_pos hf]
          have g3 := HRD.out.symm.trans e3
          simp only [Prod.mk.injEq] at g3
          exact ⟨⟨g3.1.symm, g3.2.symm⟩, by have := HNR.out; rw [g3.1] at this; exact this⟩
        have HNo := hide no
        clear no
        go_upto_region 20 with fail
        by_cases p0 : p < 0
        · obtain ⟨⟨rfl, rfl⟩, rfl⟩ := HNo.out (by unfold fitB; simp; omega)
          go_wp2
          go_ret
          exact ⟨rfl, hw⟩
        have p0' : decide (p < 0) = false := by simp; omega
        by_cases p1 : (n : Int) < p
        · obtain ⟨⟨rfl, rfl⟩, rfl⟩ := HNo.out (by unfold fitB; simp; omega)
          go_wp2
          go_ret
          exact ⟨rfl, hw⟩
        have p1' : decide ((n : Int) < p) = false := by simp; omega
        unfold maxLen at hm2
        by_cases p2 : (n : Int) - p < (n2 : Int)
        · obtain ⟨⟨rfl, rfl⟩, rfl⟩ := HNo.out (by unfold fitB; simp; omega)
          go_wp2
          go_ret
          exact ⟨rfl, hw⟩
        have p2' : decide ((n : Int) - p < (n2 : Int)) = false := by simp; omega
        obtain ⟨pn, rfl⟩ := Int.eq_ofNat_of_zero_le (show 0 ≤ p by omega)
        have e3 : readS ws fuel pn n2 = ((ws.drop pn).take n2, 0) := by unfold readS; rw [if_neg (by simpa using HK.out), HN.out, if_neg (by unfold fitB; simp; omega), Int.toNat_natCast, Int.toNat_natCast]
        have g3 := HRD.out.symm.trans e3
        simp only [Prod.mk.injEq] at g3
        obtain rfl : 0 = re := g3.2.symm
        have hrl := g3.1
        have hfI := h.below hw
        rcases hfI with hnil | ⟨bb, off, rfl, hc0⟩
        · have := HN.out; rw [hnil] at this; simp at this; omega
        have hlen : rl.length = n2 := by rw [hrl]; have := HN.out; simp; omega
        have hi : IsInts wI (some ⟨bb, off + pn, none⟩) rl := by
          rw [hrl]
          refine .inr ⟨bb, off + pn, rfl, fun i hi => ?_⟩
          have hi' : i < n2 := by simp at hi; omega
          have := hc0 (pn + i) (by have := HN.out; omega)
          rw [Nat.add_assoc, this]
          simp [hi']
        have hi0 : pn = c → IsInts wI (some ⟨bb, off, none⟩) rl := fun e => .inl (List.eq_nil_of_length_eq_zero (by omega))
        have HI := hide hi
        have HI0 := hide hi0
        have HLn := hide hlen
        clear hi hi0 hlen hrl g3 e3 hc0 HNo HRD
        go_wp2_with fail
        all_goals
          refine (equal_at ar _ nr n2 cr _ rl rl true wI hir (by first | exact HI.out | exact HI0.out (by omega)) HNR.out HLn.out (eqL_self rl) (by rw [← HNR.out, HLn.out]; unfold maxLen; omega) (by unfold maxLen; omega)).mono ?_
          rintro e wJ ⟨rfl, d, rfl⟩
          go_wp2
          go_ret
          exact ⟨rfl, below_drewN hw d⟩

end Go.Proofs.Ytanpglfpopbfkaa
