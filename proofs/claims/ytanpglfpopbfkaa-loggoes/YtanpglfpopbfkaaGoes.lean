/- The walk of wainwrightlaw.LogGoes: it answers true, and nothing that was there has turned. -/
import Derived.Test.YtanpglfpopbfkaaLogT
import Derived.Test.YtanpglfpopbfkaaApart
import Derived.Deep.DeepCutAuto
namespace Go.Proofs.Ytanpglfpopbfkaa
open Go.RowKit
attribute [local go_sem ↓] Go.wp_at_zero Go.wp_at_succ

theorem IsRecs.front {w : World} {a : Option Addr} {X : List (List Int)} {r : List Int} (h : IsRecs w a (X ++ [r])) : IsRecs w a X := by
  rcases h with h | ⟨b, off, rfl, hc⟩
  · simp at h
  · refine .inr ⟨b, off, rfl, fun i q hi => hc i q ?_⟩
    have := (List.getElem?_eq_some_iff.1 hi).1
    rw [List.getElem?_append_left this]
    exact hi

theorem err_three {us : List Int} {r : List Int} {keep : List (List Int)} (h : lchk us (-1) = 0) (he : appErr us (-1) r keep ≠ 0) : appErr us (-1) r keep = 2 ∨ appErr us (-1) r keep = 3 ∨ appErr us (-1) r keep = 8 := by
  have := appErr_vals (r := r) (keep := keep) h
  omega

theorem goes_fmt : lchk lw1 (-1) = 0 := by decide +kernel

/-- What a round of LogGoes asks of the records. -/
theorem goes_new {us u2 : List Int} {r : List Int} {keep : List (List Int)} (h : logR u2 = logR us ++ [r] ∨ logR u2 = keep ++ [r]) : ∃ X, logR u2 = X ++ [r] ∧ (X.length ≠ (logR us).length → X = keep) := by
  rcases h with h | h
  · exact ⟨_, h, fun hh => absurd rfl hh⟩
  · exact ⟨_, h, fun _ => rfl⟩

set_option maxRecDepth 100000 in
set_option maxHeartbeats 8000000 in
theorem goes_of (l0 l1 : List Int) (hn0 : newS 2 = (l0, -1, 0)) (hfm : fmtS l0 (-1) = (l1, -1, 0)) (len0 : l0.length = 64) (len1 : l1.length = 64) (hk1 : lchk l1 (-1) = 0)
    (al : Option Addr) (nl cl : Nat) (ls : List (List Int)) (ak : Option Addr) (nk ck : Nat) (keep : List (List Int)) (w : World) (hl : IsRecs w al ls) (hnl : ls.length = nl) (hcl : nl ≤ cl) (hk : IsRecs w ak keep) (hnk : keep.length = nk) (hmk : nk ≤ maxLen) :
    Calls Try.prog 9 #[.slice al nl cl, .slice ak nk ck] w fun e w' => e = .returned (.bool true) ∧ Below w.heap.size w w' := by
  have L0 := hide len0
  have L1 := hide len1
  have N0 := hide hn0
  have FM := hide hfm
  have K1 := hide hk1
  have HNL := hide hnl
  have HNK := hide hnk
  have HL := hide hl
  have HK := hide hk
  clear len0 len1 hn0 hfm hk1 hnl hnk hl hk
  go_enter Try.func9, Try.ntmps9
  go_wp2_with fail
  refine (new_any 2 _).mono ?_
  intro e w1 hA
  obtain ⟨a, n, c, rfl, hi, hn, hc, -, hb⟩ := hA.opened N0.out
  clear hA
  obtain rfl : 64 = n := L0.out.symm.trans hn
  have hw0 : Below w.heap.size w (w1.alloc (.cells #[.slice a 64 c, .int .i64 (-1)] 28)) := hb.alloc hb.size _
  have D0 := hide (heap_alloc_last w1 (.cells #[.slice a 64 c, .int .i64 (-1)] 28))
  have i1 := hi.alloc (.cells #[.slice a 64 c, .int .i64 (-1)] 28)
  have hle := hb.size
  clear hi hb hn
  go_wp2_with fail
  generalize w1.alloc (.cells #[.slice a 64 c, .int .i64 (-1)] 28) = W0 at *
  refine (format_any a 64 c l0 (-1) W0 i1 L0.out (by decide)).mono ?_
  intro e w2 hA
  obtain ⟨a2, n2, c2, rfl, hi2, hn2, hc2, hf2, hb2⟩ := hA.opened FM.out
  clear hA
  obtain rfl : 64 = n2 := L1.out.symm.trans hn2
  have D2 := hide (blk_below D0.out hb2)
  have x0 := blk_cell D2.out 0 _ rfl
  have x1 := blk_cell D2.out 1 _ rfl
  have f0 := blk_free D2.out 0
  have f1 := blk_free D2.out 1
  have hw2 := hw0.trans (hb2.mono hw0.size)
  have lt2 := blk_lt D0.out
  have V := flVar_stored (fuel := -1) (B' := w1.heap.size + 1) D2.out hi2 hf2 lt2 L1.out hc2 lt2
  have hv2 := (hw2.setCell (p := ⟨w1.heap.size, 0, none⟩) hle (.slice a2 64 c2)).setCell (p := ⟨w1.heap.size, 1, none⟩) hle (.int .i64 (-1))
  clear D2 D0 hi2 hf2 hb2 hw0 hw2 i1 lt2 hn2
  go_wp2_with fail
  generalize (w2.setCell ⟨w1.heap.size, 0, none⟩ (.slice a2 64 c2)).setCell ⟨w1.heap.size, 1, none⟩ (.int .i64 (-1)) = w3 at *
  refine (logged_any _).mono ?_
  rintro e w4 ⟨rfl, hb4⟩
  replace V := V.below hb4
  replace hv2 := hv2.trans (hb4.mono hv2.size)
  clear hb4 x0 x1 f0 f1
  go_upto_region 5 with fail
  obtain ⟨m, hm⟩ : ∃ m, m = min nl 40 := ⟨_, rfl⟩
  go_cut [37, 38, 39] (fun v37 v38 v39 wx => v37 = .slice al m cl ∧ v38 = .int .i64 m ∧ v39 = .int .i64 0 ∧ wx = w4)
  case first =>
    by_cases h40 : nl ≤ 40
    · obtain rfl : m = nl := by omega
      have hmin : min (m : Int) 40 = (m : Int) := by omega
      have z1 : (m : Int) ≤ (cl : Int) := by omega
      clear hm
      go_wp2
      go_meet
      case rel => exact ⟨rfl, rfl, rfl, rfl⟩
    · obtain rfl : m = 40 := by omega
      have hmin : min (nl : Int) 40 = 40 := by omega
      have z1 : (40 : Int) ≤ (cl : Int) := by omega
      clear hm
      go_wp2
      go_meet
      case rel => exact ⟨rfl, rfl, rfl, rfl⟩
  case rest =>
    obtain ⟨rfl, rfl, rfl, hwc⟩ := hcut
    subst hwc
    obtain ⟨w4, rfl⟩ : ∃ w4 : World, w4 = wc := ⟨_, rfl⟩
    have hmn : m ≤ nl := by omega
    have hm40 : m ≤ 40 := by omega
    clear hm
    go_wp2_with fail
    go_loopw [39] (fun i wr => ∃ (k : Nat) (us : List Int), k ≤ m ∧ i = .int .i64 k ∧ FlVar (w1.heap.size + 1) wr w1.heap.size us (-1) ∧ Hid (us.length = 64) ∧ Hid (lchk us (-1) = 0) ∧ Below w.heap.size w wr) (fun i _ => m - (intOf i).toNat)
    case atStart => exact ⟨0, l1, Nat.zero_le _, rfl, V, L1, K1, hv2⟩
    case round =>
      obtain ⟨k, us, hkm, rfl, V, HUl, HUk, hw⟩ := hrel
      by_cases hlt : k < m
      rotate_left
      · go_wp2
        go_ret
        exact ⟨rfl, hw⟩
      obtain ⟨af, nf, cf, bf, hif, hnf, hcf, hff⟩ := V
      obtain rfl : nf = 64 := by rw [← hnf]; exact HUl.out
      have x0 := blk_cell bf 0 _ rfl
      have x1 := blk_cell bf 1 _ rfl
      have BF := hide bf
      have ltB := blk_lt bf
      clear bf hnf
      have hkl : k < ls.length := by rw [HNL.out]; omega
      have HLr := HL.out
      rcases HLr with h | ⟨bl, ol, rfl, hcl2⟩
      · rw [h] at hkl; simp at hkl
      obtain ⟨r, hr⟩ : ∃ r, r = ls[k] := ⟨_, rfl⟩
      obtain ⟨ar, cr, q1, q2, q3, q4⟩ := hcl2 k r (by rw [hr]; exact List.getElem?_eq_getElem hkl)
      obtain ⟨nr, hnr⟩ : ∃ nr, nr = r.length := ⟨_, rfl⟩
      rw [← hnr] at q1 q3
      have q1' : wr.cell? ⟨bl, ol + k, none⟩ = some (.slice ar nr cr) := by rw [hw.cell (cell_lt q1)]; exact q1
      have HNR := hide hnr
      have HQ2 := hide q2
      have z0 : (k : Int) < (m : Int) := by omega
      clear hr hcl2 q1 q2 hnr
      go_wp2_with fail
      refine (append_any af 64 cf us (-1) ar nr cr r ak nk ck keep wr hif HUl.out hcf (by decide) (HQ2.out.below hw) HNR.out.symm (Nat.le_trans q3 q4) (HK.out.below hw) HNK.out hmk).mono ?_
      intro e w5 hA
      by_cases e1 : appErr us (-1) r keep = 0
      rotate_left
      · have h3 := err_three HUk.out e1
        obtain ⟨a5, n5, c5, rfl, hi5, hn5, hc5, hf5, hb5⟩ := hA.opened (app_err e1)
        obtain ⟨ee, hee⟩ : ∃ ee, ee = appErr us (-1) r keep := ⟨_, rfl⟩
        rw [← hee] at h3 ⊢
        have hw5 := hw.trans (hb5.mono hw.size)
        clear hA e1 hee hn5
        rcases h3 with rfl | rfl | rfl
        all_goals
          go_wp2
          go_ret
          exact ⟨rfl, hw5.alloc hw5.size _⟩
      obtain ⟨u2, h1, h2, h3, h4⟩ := app_neg_log e1
      obtain ⟨X, hX, hXk⟩ := goes_new h4
      obtain ⟨a5, n5, c5, rfl, hi5, hn5, hc5, hf5, hb5⟩ := hA.opened h1
      have HU2 : Hid (u2.length = 64) := h2.trans HUl.out
      obtain rfl : n5 = 64 := by rw [← hn5]; exact HU2.out
      have HK2 := hide h3
      have HRec := hide ((recs_ok h3).trans (by rw [hX]))
      have HRecW := hide (recs_ok HUk.out)
      have HXk := hide hXk
      clear hA e1 h1 h2 h3 h4 hX hXk hn5
      have BF5 := hide (blk_alloc (blk_below BF.out hb5) (.cells #[.slice a5 64 c5, .int .i64 (-1)] 28))
      have N5 := hide (heap_alloc_last w5 (.cells #[.slice a5 64 c5, .int .i64 (-1)] 28))
      have hi6 := hi5.alloc (.cells #[.slice a5 64 c5, .int .i64 (-1)] 28)
      have hif6 := (hif.below hb5).alloc (.cells #[.slice a5 64 c5, .int .i64 (-1)] 28)
      have hw5 := hw.trans (hb5.mono hw.size)
      have hw6 := hw5.alloc hw5.size (.cells #[.slice a5 64 c5, .int .i64 (-1)] 28)
      have lt5 : w1.heap.size < w5.heap.size := blk_lt (blk_below BF.out hb5)
      have hf6 : FreshA (w1.heap.size + 1) a5 := FreshA.mono hf5 ltB
      clear hb5 hw5 hi5 hif hf5 hw x0 x1 BF q1'
      go_wp2_with fail
      generalize w5.alloc (.cells #[.slice a5 64 c5, .int .i64 (-1)] 28) = w6 at *
      refine (records_any a5 64 c5 u2 (-1) w6 hi6 HU2.out hc5 (by decide)).mono ?_
      intro e w7 hR
      obtain ⟨ap, np, cp, rfl, hm7, hnp, hcp, hmp, hb7⟩ := hR.opened HRec.out
      replace BF5 := hide (blk_below BF5.out hb7)
      replace N5 := hide (blk_below N5.out hb7)
      replace hi6 := hi6.below hb7
      replace hif6 := hif6.below hb7
      replace hw6 := hw6.trans (hb7.mono hw6.size)
      have hnp' : np = X.length + 1 := by rw [← hnp]; simp
      have HM7 := hide hm7
      rcases hm7 with h | ⟨bb, oo, rfl, hc7⟩
      · simp at h
      obtain ⟨ai, ci, k1, k2, k3, k4⟩ := hc7 X.length r (by simp)
      rw [← HNR.out] at k1 k3
      have K2 := hide k2
      obtain ⟨xl, hxl⟩ : ∃ xl, xl = X.length := ⟨_, rfl⟩
      rw [← hxl] at k1 hnp'
      have HXl := hide hxl
      have z1 : (0 : Int) < (np : Int) := by omega
      have z6 : np - 1 = xl := by omega
      have z7 : ((np : Int) - 1).toNat = xl := by omega
      have z8 : (0 : Int) ≤ (np : Int) - 1 := by omega
      have z9 : (np : Int) - 1 < (np : Int) := by omega
      have z10 : (np : Int) ≤ 9223372036854775807 := by unfold maxLen at hmp; omega
      have z11 : IntKind.i64.wrap ((np : Int) - 1) = (np : Int) - 1 := by rw [IntKind.wrap_i64]; omega
      have z12 : ((np : Int) == 0) = false := by simp; omega
      have k1' : w7.cell? ⟨bb, oo + (np - 1), none⟩ = some (.slice ai nr ci) := by rw [z6]; exact k1
      have HNP := hide hnp'
      clear hR hnp hc7 k2 hb7 hxl hnp' z6
      go_upto_region 12 with fail
      go_cut [84] (fun v84 wx => v84 = .bool false ∧ Below w7.heap.size w7 wx)
      case first =>
        go_wp2_with fail
        refine (equalRec_any ai ar nr nr ci cr r r w7 K2.out (HQ2.out.below hw6) HNR.out.symm HNR.out.symm (Nat.le_trans q3 q4) (Nat.le_trans q3 q4)).mono ?_
        rintro e w8 ⟨rfl, mm, rfl⟩
        rw [eqL_self]
        go_wp2
        go_meet
        case rel => exact ⟨rfl, below_drewN (Below.refl _ _) mm⟩
      case rest =>
        obtain ⟨rfl, hbc⟩ := hcut
        obtain ⟨w8, rfl⟩ : ∃ w8 : World, w8 = wc := ⟨_, rfl⟩
        replace BF5 := hide (blk_below BF5.out hbc)
        replace N5 := hide (blk_below N5.out hbc)
        replace hi6 := hi6.below hbc
        replace hif6 := hif6.below hbc
        replace hw6 := hw6.trans (hbc.mono hw6.size)
        replace HM7 := hide (HM7.out.below hbc)
        have y0 := blk_cell BF5.out 0 _ rfl
        have y1 := blk_cell BF5.out 1 _ rfl
        clear hbc k1 k1' K2 k3 k4
        go_wp2_with fail
        refine (records_any af 64 cf us (-1) w8 hif6 HUl.out hcf (by decide)).mono ?_
        intro e w9 hR
        obtain ⟨ag, ng, cg, rfl, hm9, hng, hcg, hmg, hb9⟩ := hR.opened HRecW.out
        replace BF5 := hide (blk_below BF5.out hb9)
        replace N5 := hide (blk_below N5.out hb9)
        replace hi6 := hi6.below hb9
        replace hw6 := hw6.trans (hb9.mono hw6.size)
        replace HM7 := hide (HM7.out.below hb9)
        have HNG := hide hng
        have hng31 : ng ≤ 31 := by rw [← HNG.out]; exact logR_few (by rw [HUl.out]; decide)
        clear hR hng hm9 hb9 hif6 y0 y1
        go_upto_region 17 with fail
        go_cut [107] (fun v107 wx => v107 = .bool false ∧ Below w9.heap.size w9 wx)
        case first =>
          have i5 : IntKind.i64.wrap ((ng : Int) + 1) = (ng : Int) + 1 := by rw [IntKind.wrap_i64]; omega
          by_cases hlen : np = ng + 1
          · have hne : ((np : Int) != (ng : Int) + 1) = false := by simp; omega
            clear hlen
            go_wp2
            go_meet
            case rel => exact ⟨rfl, Below.refl _ _⟩
          · have hne : ((np : Int) != (ng : Int) + 1) = true := by simp; omega
            have hXe := HXk.out (by rw [HNG.out, ← HXl.out]; have := HNP.out; omega)
            have HF := hide (HM7.out.front)
            rw [hXe] at HF
            have HE : Hid (keep.length = xl) := by show _ = _; rw [HXl.out, hXe]
            have z13 : (xl : Int) ≤ (cp : Int) := by have := HNP.out; omega
            have z14 : (np : Int) - 1 = (xl : Int) := by have := HNP.out; omega
            have z15 : IntKind.i64.wrap ((np : Int) - 1) = (xl : Int) := by rw [IntKind.wrap_i64]; omega
            clear hlen hXe z7 z8 z9 z11
            go_wp2_with fail
            refine (sameRecs_any _ ak xl nk cp ck keep keep w9 HF.out (HK.out.below hw6) HE.out HNK.out (by unfold maxLen; have := HNP.out; omega) hmk).mono ?_
            rintro e wA ⟨rfl, mm, rfl⟩
            have hq : eqR keep keep = true := by unfold eqR; simp
            rw [hq]
            go_wp2
            go_meet
            case rel => exact ⟨rfl, below_drewN (Below.refl _ _) mm⟩
        case rest =>
          obtain ⟨rfl, hbc⟩ := hcut
          obtain ⟨wA, rfl⟩ : ∃ wA : World, wA = wc := ⟨_, rfl⟩
          replace BF5 := hide (blk_below BF5.out hbc)
          replace N5 := hide (blk_below N5.out hbc)
          replace hi6 := hi6.below hbc
          replace hw6 := hw6.trans (hbc.mono hw6.size)
          have y0 := blk_cell BF5.out 0 _ rfl
          have y1 := blk_cell BF5.out 1 _ rfl
          have y2 := blk_free BF5.out 0
          have y3 := blk_free BF5.out 1
          have n0 := blk_cell N5.out 0 _ rfl
          have n1 := blk_cell N5.out 1 _ rfl
          clear hbc HM7
          go_wp2
          go_roundw
          case rel =>
            refine ⟨k + 1, u2, by omega, by go_num, flVar_stored BF5.out hi6 hf6 (by omega) HU2.out hc5 (Nat.le_refl _), HU2, HK2, (hw6.setCell hle _).setCell hle _⟩
          case measure => simp [intOf]; omega

theorem goes_any (al : Option Addr) (nl cl : Nat) (ls : List (List Int)) (ak : Option Addr) (nk ck : Nat) (keep : List (List Int)) (w : World) (hl : IsRecs w al ls) (hnl : ls.length = nl) (hcl : nl ≤ cl) (hk : IsRecs w ak keep) (hnk : keep.length = nk) (hmk : nk ≤ maxLen) :
    Calls Try.prog 9 #[.slice al nl cl, .slice ak nk ck] w fun e w' => e = .returned (.bool true) ∧ Below w.heap.size w w' :=
  goes_of (List.replicate 64 65535) lw1 (by decide +kernel) lg_fmt (by decide +kernel) (by decide +kernel) goes_fmt al nl cl ls ak nk ck keep w hl hnl hcl hk hnk hmk

end Go.Proofs.Ytanpglfpopbfkaa
