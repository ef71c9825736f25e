/- The walk of wainwrightlaw.SlotApart: it answers true, and nothing that was there has turned. -/
import Derived.Test.YtanpglfpopbfkaaSlotted
import Derived.Test.YtanpglfpopbfkaaSlotP
namespace Go.Proofs.Ytanpglfpopbfkaa
open Go.RowKit
attribute [local go_sem ↓] Go.wp_at_zero Go.wp_at_succ

def Pick (k : Nat) (rA rB rC r : List Int × Int × Int) : Prop := (k = 0 ∧ r = rA) ∨ (k = 1 ∧ r = rB) ∨ (k = 2 ∧ r = rC)

set_option maxRecDepth 100000 in
set_option maxHeartbeats 2000000 in
theorem slotApart_any (a : Option Addr) (n c : Nat) (ws : List Int) (fuel wh pl : Int) (a2 : Option Addr) (n2 c2 : Nat) (words : List Int) (long name : Int) (w : World)
    (h : IsInts w a ws) (hn : ws.length = n) (hm : n ≤ maxLen) (hcap : n ≤ c) (h2 : IsInts w a2 words) (hn2 : words.length = n2) (hm2 : n2 ≤ maxLen) (hwh : -9223372036854775808 ≤ wh ∧ wh ≤ 9223372036854775807) :
    Calls Try.prog 14 #[.agg #[.slice a n c, .int .i64 fuel], .int .i64 wh, .int .i64 pl, .slice a2 n2 c2, .int .i64 long, .int .i64 name] w fun e w' => e = .returned (.bool true) ∧ Below w.heap.size w w' := by
  have hw : Below w.heap.size w (w.alloc (.cells #[.slice a n c, .int .i64 fuel] 28)) := (Below.refl _ _).alloc (Nat.le_refl _) _
  have V0 : FBox (w.alloc (.cells #[.slice a n c, .int .i64 fuel] 28)) w.heap.size a n c fuel := heap_alloc_last _ _
  have i0 := h.below hw
  have i2 := h2.below hw
  have HN := hide hn
  have HN2 := hide hn2
  clear hn hn2
  go_enter Try.func14, Try.ntmps14
  go_wp2_with fail
  generalize w.alloc (.cells #[.slice a n c, .int .i64 fuel] 28) = W at *
  refine (at_any wh 2 _ (by decide) (by decide) hwh).mono ?_
  rintro e w1 ⟨rfl, rfl⟩
  have s0 := Int.emod_nonneg wh (show (2 : Int) ≠ 0 by decide)
  have s1 := Int.emod_lt_of_pos wh (show (0 : Int) < 2 by decide)
  generalize wh % 2 = s at *
  have p1 : s ≤ 1 := by omega
  clear s1 hwh
  obtain ⟨F, hF⟩ : ∃ F : Nat, (F : Int) = 64 + 64 * s := ⟨(64 + 64 * s).toNat, by omega⟩
  obtain ⟨T, hT⟩ : ∃ T : Nat, (T : Int) = 128 + 64 * s := ⟨(128 + 64 * s).toNat, by omega⟩
  have hF2 : F ≤ 128 := by omega
  have hT2 : T ≤ 192 := by omega
  have HF := hide hF
  have HT := hide hT
  clear hF hT
  go_upto_region 2 with fail
  go_cut [13, 14] (fun v13 v14 wc => v13 = .int .i64 F ∧ v14 = .int .i64 T ∧ wc = w1)
  case first =>
    go_wp2_with fail
    go_meet
    case rel => exact ⟨congrArg (Value.int .i64) HF.out.symm, congrArg (Value.int .i64) HT.out.symm, rfl⟩
  case rest =>
  obtain ⟨rfl, rfl, hwc⟩ := hcut
  subst hwc
  have x0 : wc.cell? ⟨w.heap.size, 0, none⟩ = some (.slice a n c) := blk_cell V0 0 _ rfl
  have x1 : wc.cell? ⟨w.heap.size, 1, none⟩ = some (.int .i64 fuel) := blk_cell V0 1 _ rfl
  go_wp2_with fail
  refine (clear_any a n c ws fuel s wc i0 HN.out hm hcap).mono ?_
  rintro e w2 ⟨⟨ca, cn, cc, rfl, hiA, hnA, hcA, hfA⟩, hbA⟩
  have hba := hbA.alloc hbA.size (.cells #[.slice ca cn cc, .int .i64 (clrS ws fuel s).2.1] 28)
  have VA := flVar_new (clrS ws fuel s).2.1 hiA hnA hcA hfA
  replace V0 := V0.below hba
  replace i0 := i0.below hba
  replace i2 := i2.below hba
  replace hw := hw.trans (hba.mono hw.size)
  clear hba hbA hiA hnA hcA hfA x0 x1
  go_upto_region 4 with fail
  generalize w2.alloc (.cells #[.slice ca cn cc, .int .i64 (clrS ws fuel s).2.1] 28) = w3 at *
  have x0 : w3.cell? ⟨w.heap.size, 0, none⟩ = some (.slice a n c) := blk_cell V0 0 _ rfl
  have x1 : w3.cell? ⟨w.heap.size, 1, none⟩ = some (.int .i64 fuel) := blk_cell V0 1 _ rfl
  go_wp2_with fail
  refine (fill_any a n c ws fuel s pl a2 n2 c2 words w3 i0 HN.out hm i2 HN2.out hm2).mono ?_
  rintro e w4 ⟨⟨ba, bn, bc, rfl, hiA, hnA, hcA, hfA⟩, hbA⟩
  have hba := hbA.alloc hbA.size (.cells #[.slice ba bn bc, .int .i64 (fillS ws fuel s pl words).2.1] 28)
  have VB := flVar_new (fillS ws fuel s pl words).2.1 hiA hnA hcA hfA
  replace V0 := V0.below hba
  replace VA := VA.below hba
  replace i0 := i0.below hba
  replace i2 := i2.below hba
  replace hw := hw.trans (hba.mono hw.size)
  clear hba hbA hiA hnA hcA hfA x0 x1
  go_upto_region 5 with fail
  generalize w4.alloc (.cells #[.slice ba bn bc, .int .i64 (fillS ws fuel s pl words).2.1] 28) = w5 at *
  have x0 : w5.cell? ⟨w.heap.size, 0, none⟩ = some (.slice a n c) := blk_cell V0 0 _ rfl
  have x1 : w5.cell? ⟨w.heap.size, 1, none⟩ = some (.int .i64 fuel) := blk_cell V0 1 _ rfl
  go_wp2_with fail
  refine (seal_any a n c ws fuel s long name w5 i0 HN.out hm).mono ?_
  rintro e w6 ⟨⟨da, dn, dc, rfl, hiA, hnA, hcA, hfA⟩, hbA⟩
  have hba := hbA.alloc hbA.size (.cells #[.slice da dn dc, .int .i64 (sealS ws fuel s long name).2.1] 28)
  have VC := flVar_new (sealS ws fuel s long name).2.1 hiA hnA hcA hfA
  replace V0 := V0.below hba
  replace VA := VA.below hba
  replace VB := VB.below hba
  replace i0 := i0.below hba
  replace i2 := i2.below hba
  replace hw := hw.trans (hba.mono hw.size)
  clear hba hbA hiA hnA hcA hfA x0 x1
  go_upto_region 6 with fail
  generalize w6.alloc (.cells #[.slice da dn dc, .int .i64 (sealS ws fuel s long name).2.1] 28) = w7 at *
  go_wp2_with fail
  refine (slotted_any _).mono ?_
  rintro e w8 ⟨rfl, hb8⟩
  replace V0 := V0.below hb8
  replace VA := VA.below hb8
  replace VB := VB.below hb8
  replace VC := VC.below hb8
  replace i0 := i0.below hb8
  replace i2 := i2.below hb8
  replace hw := hw.trans (hb8.mono hw.size)
  clear hb8
  obtain ⟨ca, cn, cc, bA, hiA, hnA, hcA, -⟩ := VA
  obtain ⟨ba, bn, bc, bB, hiB, hnB, hcB, -⟩ := VB
  obtain ⟨da, dn, dc, bC, hiC, hnC, hcC, -⟩ := VC
  have AA := apt_clear ws fuel s
  have AB := apt_fill ws fuel s pl words
  have AC := apt_seal ws fuel s long name
  generalize clrS ws fuel s = rA at *
  generalize fillS ws fuel s pl words = rB at *
  generalize sealS ws fuel s long name = rC at *
  have y0 := blk_cell bA 0 _ rfl
  have y1 := blk_cell bA 1 _ rfl
  have y2 := blk_cell bB 0 _ rfl
  have y3 := blk_cell bB 1 _ rfl
  have y4 := blk_cell bC 0 _ rfl
  have y5 := blk_cell bC 1 _ rfl
  have HNA := hide hnA
  have HNB := hide hnB
  have HNC := hide hnC
  clear hnA hnB hnC bA bB bC
  go_upto_region 9 with fail
  have b9 := hide (heap_alloc_last w8 (.cells #[.slice ca cn cc, .int .i64 rA.2.1, .slice ba bn bc, .int .i64 rB.2.1, .slice da dn dc, .int .i64 rC.2.1] 28))
  have hb9 : Below w8.heap.size w8 (w8.alloc (.cells #[.slice ca cn cc, .int .i64 rA.2.1, .slice ba bn bc, .int .i64 rB.2.1, .slice da dn dc, .int .i64 rC.2.1] 28)) := (Below.refl _ _).alloc (Nat.le_refl _) _
  replace V0 := V0.below hb9
  replace i0 := i0.below hb9
  replace hiA := hiA.below hb9
  replace hiB := hiB.below hb9
  replace hiC := hiC.below hb9
  replace hw := hw.trans (hb9.mono hw.size)
  clear hb9 y0 y1 y2 y3 y4 y5 i2
  generalize w8.alloc (.cells #[.slice ca cn cc, .int .i64 rA.2.1, .slice ba bn bc, .int .i64 rB.2.1, .slice da dn dc, .int .i64 rC.2.1] 28) = w9 at *
  go_loopw [61] (fun i wr => ∃ k : Nat, k ≤ 3 ∧ i = .int .i64 k ∧ Below w9.heap.size w9 wr) (fun i _ => 3 - (intOf i).toNat)
  case atStart => exact ⟨0, Nat.zero_le _, rfl, Below.refl _ _⟩
  case round =>
    obtain ⟨k, hk, rfl, hbr⟩ := hrel
    by_cases hlt : k < 3
    · go_upto_region 10 with fail
      go_cut [21, 22] (fun v21 v22 wc => ∃ b r, v21 = .int .i64 k ∧ v22 = .pointer (some ⟨b, 0, none⟩) ∧ Pick k rA rB rC r ∧ FlVar 0 wc b r.1 r.2.1 ∧ Below w9.heap.size w9 wc)
      case first =>
        have B9 := blk_below b9.out hbr
        rcases (show k = 0 ∨ k = 1 ∨ k = 2 by omega) with rfl | rfl | rfl
        · have z0 := blk_cell B9 0 _ rfl
          have z1 := blk_cell B9 1 _ rfl
          clear B9
          go_wp2_with fail
          go_meet
          case rel => exact ⟨wr.heap.size, rA, rfl, rfl, .inl ⟨rfl, rfl⟩, flVar_new rA.2.1 (hiA.below hbr) HNA.out hcA (fun _ _ => Nat.zero_le _), hbr.alloc hbr.size _⟩
        · have z0 := blk_cell B9 2 _ rfl
          have z1 := blk_cell B9 3 _ rfl
          clear B9
          go_wp2_with fail
          go_meet
          case rel => exact ⟨wr.heap.size, rB, rfl, rfl, .inr (.inl ⟨rfl, rfl⟩), flVar_new rB.2.1 (hiB.below hbr) HNB.out hcB (fun _ _ => Nat.zero_le _), hbr.alloc hbr.size _⟩
        · have z0 := blk_cell B9 4 _ rfl
          have z1 := blk_cell B9 5 _ rfl
          clear B9
          go_wp2_with fail
          go_meet
          case rel => exact ⟨wr.heap.size, rC, rfl, rfl, .inr (.inr ⟨rfl, rfl⟩), flVar_new rC.2.1 (hiC.below hbr) HNC.out hcC (fun _ _ => Nat.zero_le _), hbr.alloc hbr.size _⟩
      case rest =>
        obtain ⟨eb, r, rfl, rfl, hpick, VE, hbe⟩ := hcut
        obtain ⟨wB, rfl⟩ : ∃ wB : World, wB = wc := ⟨_, rfl⟩
        go_upto_region 11 with fail
        go_cut [23] (fun v23 wd => v23 = .int .i64 r.2.2 ∧ Below wB.heap.size wB wd)
        case first =>
          rcases hpick with ⟨rfl, rfl⟩ | ⟨rfl, rfl⟩ | ⟨rfl, rfl⟩
          all_goals
            go_wp2_with fail
            go_meet
            case rel => exact ⟨rfl, (Below.refl _ _).alloc (Nat.le_refl _) _⟩
        case rest =>
          obtain ⟨rfl, hbd⟩ := hcut
          obtain ⟨wD, rfl⟩ : ∃ wD : World, wD = wc := ⟨_, rfl⟩
          have AE : Apt ws s r := by
            rcases hpick with ⟨_, rfl⟩ | ⟨_, rfl⟩ | ⟨_, rfl⟩
            · exact AA
            · exact AB
            · exact AC
          replace VE := VE.below hbd
          have hbw : Below w9.heap.size w9 wD := hbe.trans (hbd.mono hbe.size)
          clear hpick hbe hbd
          by_cases hgo : r.2.2 = 0 ∨ r.2.2 = 7
          · obtain ⟨q1, q2, q3, q4⟩ := AE hgo
            rw [← HF.out, Int.toNat_natCast] at q3
            rw [← HT.out, Int.toNat_natCast] at q4
            obtain rfl : n = 192 := by rw [← HN.out, q1]
            obtain ⟨ea, en, ec, be, hiE, hnE, hcE, -⟩ := VE
            obtain rfl : en = 192 := by rw [← hnE, q2]
            have V0D := V0.below hbw
            have i0D := i0.below hbw
            obtain ⟨ab, ao, rfl⟩ : ∃ b off, a = some ⟨b, off, none⟩ := by
              rcases h with rfl | ⟨b, off, rfl, _⟩
              · simp at q1
              · exact ⟨b, off, rfl⟩
            obtain ⟨eb', eo, rfl⟩ : ∃ b off, ea = some ⟨b, off, none⟩ := by
              rcases hiE with e | ⟨b, off, rfl, _⟩
              · rw [e] at q2; simp at q2
              · exact ⟨b, off, rfl⟩
            have g0 : wD.cell? ⟨eb, 0, none⟩ = some (.slice (some ⟨eb', eo, none⟩) 192 ec) := blk_cell be 0 _ rfl
            have g1 : wD.cell? ⟨w.heap.size, 0, none⟩ = some (.slice (some ⟨ab, ao, none⟩) 192 c) := blk_cell V0D 0 _ rfl
            have lF1 : (r.1.take F).length = F := by simp; omega
            have lF2 : (ws.take F).length = F := by simp; omega
            have lT1 : (r.1.drop T).length = 192 - T := by simp; omega
            have lT2 : (ws.drop T).length = 192 - T := by simp; omega
            have HE1 := hide (fun m => equal_at (some ⟨eb', eo, none⟩) (some ⟨ab, ao, none⟩) F F ec c (r.1.take F) (ws.take F) true (wD.drewN m) ((hiE.take F).drewN m) ((i0D.take F).drewN m) lF1 lF2 (by rw [q3]; exact eqL_self _) (Nat.le_trans hF2 (by decide)) (Nat.le_trans hF2 (by decide)))
            have HE2 := hide (fun m o1 o2 c1 c2 (h1 : IsInts wD (some ⟨eb', o1, none⟩) (r.1.drop T)) (h2 : IsInts wD (some ⟨ab, o2, none⟩) (ws.drop T)) => equal_at (some ⟨eb', o1, none⟩) (some ⟨ab, o2, none⟩) (192 - T) (192 - T) c1 c2 (r.1.drop T) (ws.drop T) true (wD.drewN m) (h1.drewN m) (h2.drewN m) lT1 lT2 (by rw [q4]; exact eqL_self _) (Nat.le_trans (Nat.sub_le _ _) (by decide)) (Nat.le_trans (Nat.sub_le _ _) (by decide)))
            have k1 : T = 192 → IsInts wD (some ⟨eb', eo, none⟩) (r.1.drop T) := fun e => .inl (List.drop_eq_nil_of_le (by omega))
            have k2 : T = 192 → IsInts wD (some ⟨ab, ao, none⟩) (ws.drop T) := fun e => .inl (List.drop_eq_nil_of_le (by omega))
            have k3 := hiE.drop T
            have k4 := i0D.drop T
            clear q1 q2 q3 q4 hnE be lF1 lF2 lT1 lT2 AE hiE i0D V0D
            go_upto_region 12 with fail
            go_cut [78] (fun v78 wx => v78 = .bool false ∧ wx = wD)
            case first =>
              rcases hgo with e | e
              · have g0 : (r.2.2 != 0) = false := by simpa using e
                clear e
                go_wp2_with fail
                go_meet
                case rel => exact ⟨rfl, rfl⟩
              · have g0 : (r.2.2 != 0) = true := by simp; omega
                have g7 : (r.2.2 != 7) = false := by simpa using e
                clear e
                go_wp2_with fail
                go_meet
                case rel => exact ⟨rfl, rfl⟩
            case rest =>
              obtain ⟨rfl, hwx⟩ := hcut
              subst hwx
              have j1 : (F : Int) ≤ (ec : Int) := by omega
              have j2 : (F : Int) ≤ (c : Int) := by omega
              have j3 : (T : Int) ≤ 192 := by omega
              have j4 : (192 : Int) ≤ (ec : Int) := by omega
              have j5 : (192 : Int) ≤ (c : Int) := by omega
              clear hgo
              go_upto_region 13 with fail
              by_cases hT3 : T = 192
              · have HE3 := hide (fun m a1 a2 c1 c2 => equal_at a1 a2 0 0 c1 c2 [] [] true (wc.drewN m) (.inl rfl) (.inl rfl) rfl rfl (eqL_self _) (by decide) (by decide))
                clear HE2 k1 k2 k3 k4 HT
                subst hT3
                by_cases t1 : ec = 192
                all_goals
                  (try subst t1)
                  by_cases t2 : c = 192
                  all_goals
                    (try subst t2)
                    go_quiet (first | (go_at_call_of 15 F; refine Calls.quiet_of (unhide HE1 _)) | (go_at_call 15; refine Calls.quiet_of (unhide HE3 _ _ _ _ _)))
                    go_wp2
                    go_roundw
                    case rel => exact ⟨k + 1, by omega, by go_num, below_drewN hbw _⟩
                    case measure => simp [intOf]; omega
              · have t1 : ¬ ec = T := by omega
                have t2 : ¬ c = T := by omega
                clear k1 k2
                go_quiet (first | (go_at_call_of 15 F; refine Calls.quiet_of (unhide HE1 _)) | (go_at_call_of 15 T; refine Calls.quiet_of (unhide HE2 _ _ _ _ _ ?_ ?_); exact k3; exact k4))
                go_wp2
                go_roundw
                case rel => exact ⟨k + 1, by omega, by go_num, below_drewN hbw _⟩
                case measure => simp [intOf]; omega
          · have g0 : (r.2.2 != 0) = true := by simp; omega
            have g7 : (r.2.2 != 7) = true := by simp; omega
            clear hgo AE
            go_wp2
            go_roundw
            case rel => exact ⟨k + 1, by omega, by go_num, hbw⟩
            case measure => simp [intOf]; omega
    · go_wp2
      go_ret
      exact ⟨rfl, hw.trans (hbr.mono hw.size)⟩

end Go.Proofs.Ytanpglfpopbfkaa
