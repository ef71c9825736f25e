/- The walk of wainwrightlaw.LogSays: it answers true, and nothing that was there has turned. -/
import Derived.Test.YtanpglfpopbfkaaRApp
import Derived.Test.YtanpglfpopbfkaaRFmt
import Derived.Test.YtanpglfpopbfkaaRefs
import Derived.Test.YtanpglfpopbfkaaPower
import Derived.Test.YtanpglfpopbfkaaLogQ
import Derived.Deep.DeepCutAuto
namespace Go.Proofs.Ytanpglfpopbfkaa
open Go.RowKit
attribute [local go_sem ↓] Go.wp_at_zero Go.wp_at_succ

theorem fmtS_len {ws : List Int} {f : Int} : (fmtS ws f).1.length ≤ ws.length := by
  unfold fmtS
  split
  · simp
  · rename_i h
    have hs : secS ws f = 0 := by simpa using h
    have hc : chk ws f = 0 ∧ 64 ≤ ws.length := by
      unfold secS at hs
      split at hs
      · rename_i h1; exact absurd hs h1
      · rename_i h1
        split at hs
        · simp at hs
        · exact ⟨by simpa using h1, by omega⟩
    rw [turn_chg _ _ _ hc.1]
    · show (applyL _ _).length ≤ _
      rw [applyL_length]; exact Nat.le_refl _
    · intro st hst
      simp only [List.mem_cons, List.not_mem_nil, or_false] at hst
      rcases hst with rfl | rfl | rfl
      · simp only [StOk]; omega
      · simp only [StOk]; omega
      · exact ⟨by simp; omega, rfl⟩

theorem appS_len {ws : List Int} {f : Int} {r : List Int} {keep : List (List Int)} : (appS ws f r keep).1.length ≤ ws.length := by
  by_cases h : appErr ws f r keep = 0
  · rw [app_chg h]
    show (applyL _ _).length ≤ _
    rw [applyL_length]; exact Nat.le_refl _
  · rw [app_err h]; simp

theorem fmt_bad {ws : List Int} {f : Int} (h : chk ws f ≠ 0) : fmtS ws f = ([], 0, chk ws f) := by
  have : secS ws f = chk ws f := by unfold secS; rw [if_pos h]
  unfold fmtS; rw [this, if_pos h]
theorem recs_bad {ws : List Int} {f : Int} (h : lchk ws f ≠ 0) : recsS ws f = ([], lchk ws f) := by unfold recsS; rw [if_pos h]
theorem app_bad {ws : List Int} {f : Int} {r : List Int} {keep : List (List Int)} (h : lchk ws f ≠ 0) : appS ws f r keep = ([], 0, lchk ws f) := by
  have : appErr ws f r keep = lchk ws f := by unfold appErr; rw [if_pos h]
  unfold appS; rw [this, if_pos h]

set_option maxRecDepth 100000 in
set_option maxHeartbeats 16000000 in
theorem says2_any (a : Option Addr) (n c : Nat) (ws : List Int) (fuel : Int) (ar : Option Addr) (nr cr : Nat) (r : List Int) (ak : Option Addr) (nk ck : Nat) (keep : List (List Int)) (w : World) (A : AppArgs w a n c ws ar nr r ak nk keep) (hroom : n * 8 ≤ 140737488351232) :
    Calls Try.prog 7 #[.agg #[.slice a n c, .int .i64 fuel], .slice ar nr cr, .slice ak nk ck] w fun e w' => e = .returned (.bool true) ∧ Below w.heap.size w w' := by
  have hw : Below w.heap.size w (w.alloc (.cells #[.slice a n c, .int .i64 fuel] 28)) := (Below.refl _ _).alloc (Nat.le_refl _) _
  have V3 : FBox (w.alloc (.cells #[.slice a n c, .int .i64 fuel] 28)) w.heap.size a n c fuel := heap_alloc_last _ _
  have HA := hide A
  have hmn := A.hm
  have HN := hide A.hn
  clear A
  go_enter Try.func7, Try.ntmps7
  go_wp2_with fail
  generalize w.alloc (.cells #[.slice a n c, .int .i64 fuel] 28) = W at *
  refine (ownFlash_any a n c ws fuel W (HA.out.h.below hw) HN.out hroom).mono ?_
  rintro e w1 ⟨g, c', hg, hc', rfl, how, hb1⟩
  have al1 := (Below.refl w1.heap.size w1).alloc (Nat.le_refl _) (.cells #[.slice (some ⟨g, 0, none⟩) n c', .int .i64 fuel] 28)
  replace V3 := (V3.below hb1).below al1
  replace hw := (hw.trans (hb1.mono hw.size)).alloc (Nat.le_trans hw.size hb1.size) (.cells #[.slice (some ⟨g, 0, none⟩) n c', .int .i64 fuel] 28)
  have V7 : FBox (w1.alloc (.cells #[.slice (some ⟨g, 0, none⟩) n c', .int .i64 fuel] 28)) w1.heap.size (some ⟨g, 0, none⟩) n c' fuel := heap_alloc_last _ _
  have io := how.isInts.below al1
  clear hb1 al1 how
  go_wp2_with fail
  generalize w1.alloc (.cells #[.slice (some ⟨g, 0, none⟩) n c', .int .i64 fuel] 28) = w2 at *
  refine (format_any (some ⟨g, 0, none⟩) n c' ws fuel w2 io HN.out hmn).mono ?_
  rintro e w3 ⟨⟨a3, n3, c3, rfl, hi3, hn3, hc3, hf3⟩, hb3⟩
  obtain ⟨FF, hFF⟩ : ∃ FF, FF = (fmtS ws fuel).2.1 := ⟨_, rfl⟩
  obtain ⟨FE, hFE⟩ : ∃ FE, FE = (fmtS ws fuel).2.2 := ⟨_, rfl⟩
  rw [← hFF, ← hFE]
  have al3 := (Below.refl w3.heap.size w3).alloc (Nat.le_refl _) (.cells #[.slice a3 n3 c3, .int .i64 FF] 28)
  have V8 : FlV (w3.alloc (.cells #[.slice a3 n3 c3, .int .i64 FF] 28)) w3.heap.size (fmtS ws fuel).1 FF := flVar_new FF hi3 hn3 hc3 (freshA0 _)
  replace V3 := (V3.below hb3).below al3
  replace V7 := (V7.below hb3).below al3
  replace io := (io.below hb3).below al3
  replace hw := (hw.trans (hb3.mono hw.size)).alloc (Nat.le_trans hw.size hb3.size) (.cells #[.slice a3 n3 c3, .int .i64 FF] 28)
  have HFm : Hid (fmtS ws fuel = ((fmtS ws fuel).1, FF, FE)) := by show _ = _; rw [hFF, hFE]
  clear hb3 al3 hi3 hn3 hf3 hFF hFE
  have x0 := blk_cell V7 0 _ rfl
  have x1 := blk_cell V7 1 _ rfl
  go_wp2_with fail
  generalize w3.alloc (.cells #[.slice a3 n3 c3, .int .i64 FF] 28) = w4 at *
  refine (records_any (some ⟨g, 0, none⟩) n c' ws fuel w4 io HN.out hc' hmn).mono ?_
  rintro e w5 ⟨⟨al, nl, cl, rfl, hl, hnl, hcl, hml⟩, hb5⟩
  obtain ⟨RE, hRE⟩ : ∃ RE, RE = (recsS ws fuel).2 := ⟨_, rfl⟩
  rw [← hRE]
  have HRc : Hid (recsS ws fuel = ((recsS ws fuel).1, RE)) := by show _ = _; rw [hRE]
  have HNL := hide hnl
  replace V3 := V3.below hb5
  replace V7 := V7.below hb5
  replace V8 := FlVar.below V8 hb5
  replace io := io.below hb5
  replace hw := hw.trans (hb5.mono hw.size)
  clear hb5 x0 x1 hnl hRE
  have x0 := blk_cell V7 0 _ rfl
  have x1 := blk_cell V7 1 _ rfl
  go_wp2_with fail
  refine (append_any (some ⟨g, 0, none⟩) n c' ws fuel ar nr cr r ak nk ck keep w5 io HN.out hc' hmn (HA.out.hr.below hw) HA.out.hnr HA.out.hmr (HA.out.hk.below hw) HA.out.hnk HA.out.hmk).mono ?_
  rintro e w6 ⟨⟨a6, n6, c6, rfl, hi6, hn6, hc6, hf6⟩, hb6⟩
  obtain ⟨AF, hAF⟩ : ∃ AF, AF = (appS ws fuel r keep).2.1 := ⟨_, rfl⟩
  obtain ⟨AE, hAE⟩ : ∃ AE, AE = (appS ws fuel r keep).2.2 := ⟨_, rfl⟩
  rw [← hAF, ← hAE]
  have HAp : Hid (appS ws fuel r keep = ((appS ws fuel r keep).1, AF, AE)) := by show _ = _; rw [hAF, hAE]
  have al6 : Below w6.heap.size w6 ((w6.alloc (.cells #[.slice a6 n6 c6, .int .i64 AF] 28)).alloc (.cells #[.slice none 0 0, .int .i64 0] 28)) := ((Below.refl _ w6).alloc (Nat.le_refl _) _).alloc (by simp) _
  have V12 : FlV ((w6.alloc (.cells #[.slice a6 n6 c6, .int .i64 AF] 28)).alloc (.cells #[.slice none 0 0, .int .i64 0] 28)) w6.heap.size (appS ws fuel r keep).1 AF := FlVar.below (flVar_new AF hi6 hn6 hc6 (freshA0 _)) ((Below.refl _ _).alloc (Nat.le_refl _) _)
  have V14 : FBox ((w6.alloc (.cells #[.slice a6 n6 c6, .int .i64 AF] 28)).alloc (.cells #[.slice none 0 0, .int .i64 0] 28)) (w6.heap.size + 1) none 0 0 0 := by
    have := heap_alloc_last (w6.alloc (.cells #[.slice a6 n6 c6, .int .i64 AF] 28)) (.cells #[.slice none 0 0, .int .i64 0] 28)
    unfold FBox
    simpa using this
  replace V3 := (V3.below hb6).below al6
  replace V7 := (V7.below hb6).below al6
  replace V8 := FlVar.below (FlVar.below V8 hb6) al6
  replace io := (io.below hb6).below al6
  replace hl := (hl.below hb6).below al6
  replace hw := (hw.trans (hb6.mono hw.size)).trans (al6.mono (Nat.le_trans hw.size hb6.size))
  clear hb6 al6 hi6 hn6 hf6 hAF hAE x0 x1
  go_upto_region 6 with fail
  generalize (w6.alloc (.cells #[.slice a6 n6 c6, .int .i64 AF] 28)).alloc (.cells #[.slice none 0 0, .int .i64 0] 28) = w7 at *
  have x0 : w7.cell? ⟨w.heap.size, 0, none⟩ = some (.slice a n c) := blk_cell V3 0 _ rfl
  have x1 : w7.cell? ⟨w.heap.size, 1, none⟩ = some (.int .i64 fuel) := blk_cell V3 1 _ rfl
  have lt0 := blk_lt V3
  have i7 := HA.out.h.below hw
  go_cut [15, 16] (fun v15 v16 wx => v15 = .int .i64 (chk ws fuel) ∧ v16 = .int .i64 (lchk ws fuel) ∧ Below w7.heap.size w7 wx)
  case first =>
    have hW : Below w7.heap.size w7 w7 := Below.refl _ _
    have HC1 := hide (fun W (h : IsInts W a ws) => refCheck_any a n c ws fuel W h HN.out hmn)
    have HC2 := hide (fun W (h : IsInts W a ws) => refCheckLog_any a n c ws fuel W h HN.out hmn)
    go_region_held3 (fun w' => w'.cell? ⟨w.heap.size, 0, none⟩ = some (.slice a n c) ∧ w'.cell? ⟨w.heap.size, 1, none⟩ = some (.int .i64 fuel)) (first | exact ⟨by assumption, by assumption⟩ | go_keep)
      ((first
        | (go_at_call 21; refine (unhide HC1 _ ?_).mono ?_; (first | exact i7.below hW | exact i7.below hW.drew); rintro e wa ⟨rfl, hba⟩; replace hW : Below w7.heap.size w7 wa := (by first | exact hW.drew.trans (hba.mono hW.drew.size) | exact hW.trans (hba.mono hW.size)); have z0 : wa.cell? ⟨w.heap.size, 0, none⟩ = some (.slice a n c) := (by rw [hW.cell lt0]; exact x0); have z1 : wa.cell? ⟨w.heap.size, 1, none⟩ = some (.int .i64 fuel) := (by rw [hW.cell lt0]; exact x1))
        | (go_at_call 33; refine (unhide HC2 _ ?_).mono ?_; (first | exact i7.below hW | exact i7.below hW.drew); rintro e wb ⟨rfl, hbb⟩; replace hW : Below w7.heap.size w7 wb := (by first | exact hW.drew.trans (hbb.mono hW.drew.size) | exact hW.trans (hbb.mono hW.size)); have z0 : wb.cell? ⟨w.heap.size, 0, none⟩ = some (.slice a n c) := (by rw [hW.cell lt0]; exact x0); have z1 : wb.cell? ⟨w.heap.size, 1, none⟩ = some (.int .i64 fuel) := (by rw [hW.cell lt0]; exact x1))))
    all_goals
      go_wp2_with fail
      go_meet
      case rel => exact ⟨rfl, rfl, hW⟩
  case rest =>
    obtain ⟨rfl, rfl, hbc⟩ := hcut
    obtain ⟨w8, rfl⟩ : ∃ w8 : World, w8 = wc := ⟨_, rfl⟩
    replace V3 := V3.below hbc
    replace V7 := V7.below hbc
    replace V8 := FlVar.below V8 hbc
    replace V12 := FlVar.below V12 hbc
    replace V14 := V14.below hbc
    replace io := io.below hbc
    replace hl := hl.below hbc
    replace hw := hw.trans (hbc.mono hw.size)
    clear hbc x0 x1 i7 lt0
    obtain ⟨bad, hbad⟩ : ∃ bad, bad = chk ws fuel := ⟨_, rfl⟩
    obtain ⟨worse, hworse⟩ : ∃ worse, worse = lchk ws fuel := ⟨_, rfl⟩
    rw [← hbad, ← hworse]
    have HBad := hide hbad
    have HWo := hide hworse
    clear hbad hworse
    have HLc := hide (fun W (h : IsInts W a ws) => (logCheck_any a n c ws fuel W h HN.out hmn).mono (R' := fun e w' => e = .returned (.int .i64 worse) ∧ Below W.heap.size W w') (fun e w' hh => ⟨by rw [HWo.out]; exact hh.1, hh.2⟩))
    go_upto_region 7 with fail
    go_cut [60] (fun v60 wx => v60 = .bool false ∧ Below w8.heap.size w8 wx)
    case first =>
      go_wp2_with fail
      refine (logged_any _).mono ?_
      rintro e wa ⟨rfl, hba⟩
      have x0 := blk_cell (V3.below hba) 0 _ rfl
      have x1 := blk_cell (V3.below hba) 1 _ rfl
      go_wp2_with fail
      refine (unhide HLc wa ((HA.out.h.below hw).below hba)).mono ?_
      rintro e wb ⟨rfl, hbb⟩
      have hab := hba.trans (hbb.mono hba.size)
      have hne : (worse != worse) = false := by simp
      have y0 := blk_cell (V3.below hab) 0 _ rfl
      have y1 := blk_cell (V3.below hab) 1 _ rfl
      have o0 := blk_cell (V7.below hab) 0 _ rfl
      have o1 := blk_cell (V7.below hab) 1 _ rfl
      go_wp2_with fail
      refine (refSame_yes _ n c' ws fuel a n c wb (io.below hab) HN.out ((HA.out.h.below hw).below hab) HN.out (by rw [HN.out]; exact hmn)).mono ?_
      rintro e wd ⟨rfl, hbd⟩
      go_wp2
      go_meet
      case rel => exact ⟨rfl, hab.trans (hbd.mono hab.size)⟩
    case rest =>
      obtain ⟨rfl, hbc⟩ := hcut
      obtain ⟨w9, rfl⟩ : ∃ w9 : World, w9 = wc := ⟨_, rfl⟩
      replace V3 := V3.below hbc
      replace V8 := FlVar.below V8 hbc
      replace V12 := FlVar.below V12 hbc
      replace V14 := V14.below hbc
      replace hl := hl.below hbc
      replace hw := hw.trans (hbc.mono hw.size)
      have HIn := hide (HA.out.h.below hw)
      clear hbc io V7 HLc
      obtain ⟨ax, nx, cx, bx, hix, hnx, hcx, -⟩ := V8
      have HIx := hide hix
      have HNx := hide hnx
      have hmx : (fmtS ws fuel).1.length ≤ maxLen := Nat.le_trans fmtS_len (by rw [HN.out]; exact hmn)
      have u0 := blk_cell bx 0 _ rfl
      have u1 := blk_cell bx 1 _ rfl
      have BX := hide bx
      have x0 := blk_cell V3 0 _ rfl
      have x1 := blk_cell V3 1 _ rfl
      have v0 := blk_cell V14 0 _ rfl
      have v1 := blk_cell V14 1 _ rfl
      clear hix hnx bx
      go_upto_if 62 with fail
      go_cut [16] (fun v16 wx => v16 = .int .i64 worse ∧ Below w9.heap.size w9 wx)
      case first =>
        by_cases hb0 : bad = 0
        rotate_left
        · have hb0' : (bad != 0) = true := by simpa using hb0
          have hfm := fmt_bad (f := fuel) (ws := ws) (by rw [← HBad.out]; exact hb0)
          have hF1 := HFm.out
          rw [hfm] at hF1 HIx HNx
          simp only [Prod.mk.injEq, true_and] at hF1
          obtain ⟨rfl, hF2⟩ := hF1
          have hfe : FE = bad := by rw [← hF2, HBad.out]
          subst hfe
          have hne : (FE != FE) = false := by simp
          clear hb0 hF2 hfm
          go_wp2_with fail
          refine (refSame_yes ax nx cx [] 0 none 0 0 w9 HIx.out HNx.out (.inl rfl) rfl (by unfold maxLen; simp)).mono ?_
          rintro e wd ⟨rfl, hbd⟩
          go_wp2
          go_meet
          case rel => exact ⟨rfl, hbd⟩
        · have hb0' : (bad != 0) = false := by simpa using hb0
          have HCk := hide (show chk ws fuel = 0 by rw [← HBad.out]; exact hb0)
          clear hb0
          go_wp2_with fail
          refine (formatted_any a n c ws fuel w9 HIn.out HN.out HCk.out).mono ?_
          intro e wa hAn
          obtain ⟨aa, na, ca, rfl, hia, hna, hca, hfa, hba⟩ := hAn.opened HFm.out
          have ala := (Below.refl wa.heap.size wa).alloc (Nat.le_refl _) (.cells #[.slice aa na ca, .int .i64 FF] 28)
          have hia2 := hia.below ala
          have hix2 := (HIx.out.below hba).below ala
          have N1 : FBox (wa.alloc (.cells #[.slice aa na ca, .int .i64 FF] 28)) wa.heap.size aa na ca FF := heap_alloc_last _ _
          have bx2 := blk_below (blk_below BX.out hba) ala
          have k0 := blk_cell bx2 0 _ rfl
          have k1 := blk_cell bx2 1 _ rfl
          have m0 := blk_cell N1 0 _ rfl
          have m1 := blk_cell N1 1 _ rfl
          have hne : (FE != FE) = false := by simp
          have hwa := hba.alloc hba.size (.cells #[.slice aa na ca, .int .i64 FF] 28)
          have HNa := hide hna
          clear hAn hia hna hfa ala bx2 N1
          go_upto_region 13 with fail
          generalize wa.alloc (.cells #[.slice aa na ca, .int .i64 FF] 28) = wb at *
          go_wp2_with fail
          refine (refSame_yes ax nx cx _ FF aa na ca wb hix2 HNx.out hia2 HNa.out hmx).mono ?_
          rintro e wd ⟨rfl, hbd⟩
          go_wp2
          go_meet
          case rel => exact ⟨rfl, hwa.trans (hbd.mono hwa.size)⟩
      case rest =>
        obtain ⟨rfl, hbc⟩ := hcut
        obtain ⟨wA, rfl⟩ : ∃ wA : World, wA = wc := ⟨_, rfl⟩
        replace V3 := V3.below hbc
        replace V12 := FlVar.below V12 hbc
        replace V14 := V14.below hbc
        replace hl := hl.below hbc
        replace hw := hw.trans (hbc.mono hw.size)
        have HIn := hide (HA.out.h.below hw)
        clear hbc u0 u1 x0 x1 v0 v1 BX HIx HNx
        obtain ⟨ay, ny, cy, by1, hiy, hny, hcy, -⟩ := V12
        have HNy := hide hny
        have hmy : (appS ws fuel r keep).1.length ≤ maxLen := Nat.le_trans appS_len (by rw [HN.out]; exact hmn)
        have BY := hide by1
        clear hny by1
        have x0 := blk_cell V3 0 _ rfl
        have x1 := blk_cell V3 1 _ rfl
        by_cases hw0 : worse = 0
        rotate_left
        · have hw0' : (worse != 0) = true := by simpa using hw0
          have hne0 : lchk ws fuel ≠ 0 := by rw [← HWo.out]; exact hw0
          have h1 := recs_bad (f := fuel) (ws := ws) hne0
          have h2 := app_bad (f := fuel) (ws := ws) (r := r) (keep := keep) hne0
          have g1 := HRc.out
          have g2 := HAp.out
          rw [h1] at g1 HNL hl
          rw [h2] at g2 HNy hiy
          simp only [Prod.mk.injEq, true_and] at g1 g2
          obtain ⟨rfl, g3⟩ := g2
          have e1 : RE = worse := by rw [← g1, HWo.out]
          have e2 : AE = worse := by rw [← g3, HWo.out]
          subst e1 e2
          obtain rfl : 0 = nl := HNL.out
          have y0 := blk_cell BY.out 0 _ rfl
          have y1 := blk_cell BY.out 1 _ rfl
          have v0 := blk_cell V14 0 _ rfl
          have v1 := blk_cell V14 1 _ rfl
          clear hw0 hne0 h1 h2 g1 g3
          go_wp2_with fail
          refine (refSame_yes ay ny cy [] 0 none 0 0 wA hiy HNy.out (.inl rfl) rfl (by unfold maxLen; simp)).mono ?_
          rintro e wd ⟨rfl, hbd⟩
          go_wp2
          go_ret
          exact ⟨rfl, hw.trans (hbd.mono hw.size)⟩
        · have hw0' : (worse != 0) = false := by simpa using hw0
          have HL0 := hide (show lchk ws fuel = 0 by rw [← HWo.out]; exact hw0)
          have g1 := HRc.out
          rw [recs_ok HL0.out] at g1 hl HNL
          simp only [Prod.mk.injEq, true_and] at g1
          subst g1
          clear hw0
          go_wp2_with fail
          refine (recordsOf_any a n c ws fuel wA HIn.out HN.out HA.out.hcap HL0.out).mono ?_
          rintro e wB ⟨⟨ap, np, cp, rfl, hm2, hnp, hcp, hmp⟩, hbB⟩
          have HNP := hide hnp
          have x0 := blk_cell (V3.below hbB) 0 _ rfl
          have x1 := blk_cell (V3.below hbB) 1 _ rfl
          have hwB := hw.trans (hbB.mono hw.size)
          clear hnp
          go_wp2_with fail
          refine (appended_any a n c ws fuel ar nr cr r ak nk ck keep wB (HA.out.h.below hwB) HN.out HA.out.hcap HL0.out (HA.out.hr.below hwB) HA.out.hnr HA.out.hmr (HA.out.hk.below hwB) HA.out.hnk HA.out.hmk).mono ?_
          intro e wC hAn
          obtain ⟨aa, na, ca, rfl, hia, hna, hca, hfa, hbC⟩ := hAn.opened HAp.out
          have alc := (Below.refl wC.heap.size wC).alloc (Nat.le_refl _) (.cells #[.slice aa na ca, .int .i64 AF] 28)
          have hAC := (hbB.trans (hbC.mono hbB.size)).alloc (Nat.le_trans hbB.size hbC.size) (.cells #[.slice aa na ca, .int .i64 AF] 28)
          have N1 : FBox (wC.alloc (.cells #[.slice aa na ca, .int .i64 AF] 28)) wC.heap.size aa na ca AF := heap_alloc_last _ _
          have hia2 := hide (hia.below alc)
          have hiy2 := hide (hiy.below hAC)
          have hl2 := hide (hl.below hAC)
          have hm3 := hide ((hm2.below hbC).below alc)
          have BY2 := blk_below BY.out hAC
          have k0 := blk_cell BY2 0 _ rfl
          have k1 := blk_cell BY2 1 _ rfl
          have m0 := blk_cell N1 0 _ rfl
          have m1 := blk_cell N1 1 _ rfl
          have HNa := hide hna
          have hwC := hw.trans (hAC.mono hw.size)
          clear hAn hia hna hfa alc hAC hiy hl hm2 hbB hbC hwB x0 x1
          go_upto_region 19 with fail
          generalize wC.alloc (.cells #[.slice aa na ca, .int .i64 AF] 28) = wD at *
          go_wp2_with fail
          refine (sameRecs_any al ap nl np cl cp (logR ws) (logR ws) wD hl2.out hm3.out HNL.out HNP.out (Nat.le_trans hcl hml) (Nat.le_trans hcp hmp)).mono ?_
          rintro e wE ⟨rfl, m, rfl⟩
          have hq : eqR (logR ws) (logR ws) = true := by unfold eqR; simp
          rw [hq]
          have heq : (AE == AE) = true := by simp
          go_wp2_with fail
          refine (refSame_yes ay ny cy _ AF aa na ca (wD.drewN m) (hiy2.out.below (below_drewN (Below.refl _ _) m)) HNy.out (hia2.out.below (below_drewN (Below.refl _ _) m)) HNa.out hmy).mono ?_
          rintro e wF ⟨rfl, hbF⟩
          go_wp2
          go_ret
          have hwm := below_drewN hwC m
          exact ⟨rfl, hwm.trans (hbF.mono hwm.size)⟩

end Go.Proofs.Ytanpglfpopbfkaa
