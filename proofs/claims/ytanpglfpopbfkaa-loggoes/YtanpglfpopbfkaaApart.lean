/- The walk of wainwrightlaw.LogApart: it answers true, and nothing that was there has turned. -/
import Derived.Test.YtanpglfpopbfkaaApart0
import Derived.Test.YtanpglfpopbfkaaPower
import Derived.Deep.DeepCutAuto
namespace Go.Proofs.Ytanpglfpopbfkaa
open Go.RowKit
attribute [local go_sem ↓] Go.wp_at_zero Go.wp_at_succ

set_option maxRecDepth 100000 in
set_option maxHeartbeats 4000000 in
theorem apart_any (a : Option Addr) (n c : Nat) (ws : List Int) (fuel p : Int) (a2 : Option Addr) (n2 c2 : Nat) (words : List Int) (ar : Option Addr) (nr cr : Nat) (r : List Int) (ak : Option Addr) (nk ck : Nat) (keep : List (List Int)) (w : World) (A : AppArgs w a n c ws ar nr r ak nk keep)
    (h2 : IsInts w a2 words) (hn2 : words.length = n2) (hm2 : n2 ≤ maxLen) (hp : -9223372036854775808 ≤ p ∧ p ≤ 9223372036854775807) :
    Calls Try.prog 10 #[.agg #[.slice a n c, .int .i64 fuel], .int .i64 p, .slice a2 n2 c2, .slice ar nr cr, .slice ak nk ck] w fun e w' => e = .returned (.bool true) ∧ Below w.heap.size w w' := by
  have hw : Below w.heap.size w (w.alloc (.cells #[.slice a n c, .int .i64 fuel] 28)) := (Below.refl _ _).alloc (Nat.le_refl _) _
  have V0 : FBox (w.alloc (.cells #[.slice a n c, .int .i64 fuel] 28)) w.heap.size a n c fuel := heap_alloc_last _ _
  have HA := hide A
  have HN2 := hide hn2
  have H2 := hide h2
  clear A hn2 h2
  go_enter Try.func10, Try.ntmps10
  go_wp2_with fail
  generalize w.alloc (.cells #[.slice a n c, .int .i64 fuel] 28) = W at *
  refine (records_any a n c ws fuel W (HA.out.h.below hw) HA.out.hn HA.out.hcap HA.out.hm).mono ?_
  rintro e w1 ⟨⟨al, nl, cl, rfl, hl, hnl, hcl, hml⟩, hb1⟩
  replace V0 := V0.below hb1
  replace hw := hw.trans (hb1.mono hw.size)
  have HNL := hide hnl
  clear hb1 hnl
  by_cases e1 : lchk ws fuel = 0
  rotate_left
  · have e1' : ((recsS ws fuel).2 != 0) = true := by unfold recsS; rw [if_pos e1]; simpa using e1
    clear e1
    go_wp2_with fail
    refine (logged_any _).mono ?_
    rintro e w2 ⟨rfl, hb2⟩
    go_wp2_with fail
    refine (logged_any _).mono ?_
    rintro e w3 ⟨rfl, hb3⟩
    go_wp2
    go_ret
    exact ⟨rfl, (hw.trans (hb2.mono hw.size)).trans (hb3.mono (Nat.le_trans hw.size hb2.size))⟩
  have E1 := hide e1
  have hrec := recs_ok e1
  rw [hrec] at hl HNL ⊢
  simp only at hl HNL
  have q := lchk_parts e1
  rw [HA.out.hn] at q
  have q64 := q.2.1
  have q192 := q.2.2.1
  clear hrec e1 q
  go_wp2_with fail
  refine (logged_any _).mono ?_
  rintro e w2 ⟨rfl, hb2⟩
  replace V0 := V0.below hb2
  replace hw := hw.trans (hb2.mono hw.size)
  replace hl := hl.below hb2
  clear hb2
  have j1 := Int.emod_nonneg p (show (32 : Int) ≠ 0 by omega)
  have j2 := Int.emod_lt_of_pos p (show 0 < (32 : Int) by omega)
  have HAt := hide (fun W => at_any p 32 W (by omega) (by omega) hp)
  obtain ⟨pp, hpp⟩ : ∃ pp, pp = p % 32 := ⟨_, rfl⟩
  rw [← hpp] at j1 j2 HAt
  have i3 : IntKind.i64.wrap (64 + pp) = 64 + pp := by rw [IntKind.wrap_i64]; omega
  have HP := hide (program_from w2 a n c ws fuel (64 + pp) a2 n2 c2 words _ _ _ (show progS ws fuel (64 + pp) words = ((progS ws fuel (64 + pp) words).1, (progS ws fuel (64 + pp) words).2.1, (progS ws fuel (64 + pp) words).2.2) from rfl) (HA.out.h.below hw) HA.out.hn HA.out.hm (H2.out.below hw) HN2.out hm2 (by omega))
  have hap : Hid ((progS ws fuel (64 + pp) words).2.2 = 0 ∨ (progS ws fuel (64 + pp) words).2.2 = 7 → recsS (progS ws fuel (64 + pp) words).1 (progS ws fuel (64 + pp) words).2.1 = (logR ws, 0)) := fun h => prog_apart E1.out (by omega) h
  have hplen : Hid ((progS ws fuel (64 + pp) words).1.length ≤ maxLen) := by
    have hmx := HA.out.hm
    show _ ≤ _
    unfold progS
    split
    · unfold maxLen; simp
    · split
      · unfold maxLen; simp
      · split
        · unfold maxLen; simp
        · simp only; rw [chg_length, HA.out.hn]; exact hmx
  clear hpp
  have ltf := blk_lt V0
  have x0 : w2.cell? ⟨w.heap.size, 0, none⟩ = some (.slice a n c) := blk_cell V0 0 _ rfl
  have x1 : w2.cell? ⟨w.heap.size, 1, none⟩ = some (.int .i64 fuel) := blk_cell V0 1 _ rfl
  obtain ⟨P, hP⟩ : ∃ P, P = progS ws fuel (64 + pp) words := ⟨_, rfl⟩
  rw [← hP] at HP hap hplen
  clear hP
  go_upto_region 4 with fail
  go_cut [13, 14] (fun v13 v14 wc => ∃ b, v13 = .pointer (some ⟨b, 0, none⟩) ∧ v14 = .int .i64 P.2.2 ∧ FlVar (w.heap.size + 1) wc b P.1 P.2.1 ∧ Below w2.heap.size w2 wc)
  case first =>
    have nn := World.new_ne w2 ⟨w.heap.size, 0, none⟩ x0
    go_region_held3 (fun w' => w'.cell? ⟨w.heap.size, 0, none⟩ = some (.slice a n c) ∧ w'.cell? ⟨w.heap.size, 1, none⟩ = some (.int .i64 fuel)) (first | exact ⟨by assumption, by assumption⟩ | go_keep)
      ((first
        | (go_at_call 29; refine (unhide HAt _).mono ?_; rintro e w4 ⟨rfl, rfl⟩)
        | (go_at_call 19; refine (unhide HP _ ?_).mono ?_; (first | exact (Below.refl _ _).drew | exact ((Below.refl _ _).alloc (Nat.le_refl _) _).drew); rintro e w5 ⟨a5, n5, c5, rfl, hi5, hn5, hc5, hf5, hb5, hq5⟩; have z0 : w5.cell? ⟨w.heap.size, 0, none⟩ = some (.slice a n c) := (by rw [hq5.cell ltf]; exact x0); have z1 : w5.cell? ⟨w.heap.size, 1, none⟩ = some (.int .i64 fuel) := (by rw [hq5.cell ltf]; exact x1); have nn5 := World.new_ne w5 ⟨w.heap.size, 0, none⟩ z0; try (refine keepNew hb5 (heap_alloc_last w2 _) (fun u0 u1 u2 u3 => ?_)))))
    · go_wp2_with fail
      go_meet
      case rel => exact ⟨w5.heap.size, rfl, rfl, flVar_new P.2.1 hi5 hn5 hc5 (hf5.mono (by simp; omega)), hq5.alloc hq5.size _⟩
    all_goals
      go_wp2_with fail
      go_meet
      case rel =>
        refine ⟨w2.heap.size, rfl, rfl, ?_, (hq5.setCell (Nat.le_refl _) _).setCell (Nat.le_refl _) _⟩
        exact flVar_stored (blk_below (k := w2.heap.size) (o := .cells #[.slice none 0 0, .int .i64 0] 28) (by exact heap_alloc_last w2 _) hb5) hi5 hf5 (by simp) hn5 hc5 (by simp; omega)
  case rest =>
    obtain ⟨b13, rfl, rfl, VG, hbc⟩ := hcut
    obtain ⟨w3, rfl⟩ : ∃ w3 : World, w3 = wc := ⟨_, rfl⟩
    replace V0 := V0.below hbc
    replace hw := hw.trans (hbc.mono hw.size)
    replace hl := hl.below hbc
    clear hbc HP x0 x1 ltf HAt
    obtain ⟨e9, he9⟩ : ∃ e9, e9 = P.2.2 := ⟨_, rfl⟩
    rw [← he9] at hap ⊢
    clear he9
    go_upto_region 5 with fail
    go_cut [44] (fun v44 wx => v44 = .bool (decide (e9 = 0 ∨ e9 = 7)) ∧ wx = w3)
    case first =>
      by_cases c0 : e9 = 0
      · subst c0
        go_wp2
        go_meet
        case rel => exact ⟨rfl, rfl⟩
      · have c0' : (e9 == 0) = false := by simpa using c0
        by_cases c7 : e9 = 7
        · subst c7
          go_wp2
          go_meet
          case rel => exact ⟨rfl, rfl⟩
        · have c7' : (e9 == 7) = false := by simpa using c7
          go_wp2
          go_meet
          case rel => exact ⟨congrArg Value.bool (by simp [c0, c7]), rfl⟩
    case rest =>
      obtain ⟨rfl, hwc⟩ := hcut
      subst hwc
      obtain ⟨w3, rfl⟩ : ∃ w3 : World, w3 = wc := ⟨_, rfl⟩
      obtain ⟨bq, hbq⟩ : ∃ bq : Bool, bq = decide (e9 = 0 ∨ e9 = 7) := ⟨_, rfl⟩
      rw [← hbq]
      have HBQ := hide hbq
      clear hbq
      obtain ⟨af, nf, cf, bf, hif, hnf, hcf, -⟩ := VG
      have HNF := hide hnf
      have HIF := hide hif
      have g0 := blk_cell bf 0 _ rfl
      have g1 := blk_cell bf 1 _ rfl
      have HL := hide hl
      clear bf hnf hif hl
      go_upto_if 44 with fail
      go_cut [12] (fun v12 wx => v12 = .int .i64 0 ∧ Below w3.heap.size w3 wx)
      case first =>
        cases bq
        rotate_left
        · have eP : e9 = 0 ∨ e9 = 7 := of_decide_eq_true HBQ.out.symm
          have hrec := hap.out eP
          have HRec := hide hrec
          clear eP hrec
          go_wp2_with fail
          refine (records_any af nf cf P.1 P.2.1 w3 HIF.out HNF.out hcf (by rw [← HNF.out]; exact hplen.out)).mono ?_
          intro e w4 hR
          obtain ⟨am, nm, cm, rfl, hm3, hnm, hcm, hmm, hb4⟩ := hR.opened HRec.out
          have HNM := hide hnm
          clear hR hnm
          go_wp2_with fail
          refine (sameRecs_any al am nl nm cl cm (logR ws) (logR ws) w4 (HL.out.below hb4) hm3 HNL.out HNM.out (Nat.le_trans hcl hml) (Nat.le_trans hcm hmm)).mono ?_
          rintro e w5 ⟨rfl, m, rfl⟩
          have hq : eqR (logR ws) (logR ws) = true := by unfold eqR; simp
          rw [hq]
          go_wp2
          go_meet
          case rel => exact ⟨rfl, below_drewN hb4 m⟩
        · go_wp2
          go_meet
          case rel => exact ⟨rfl, Below.refl _ _⟩
      case rest =>
        obtain ⟨rfl, hbc⟩ := hcut
        obtain ⟨w4, rfl⟩ : ∃ w4 : World, w4 = wc := ⟨_, rfl⟩
        replace V0 := V0.below hbc
        replace hw := hw.trans (hbc.mono hw.size)
        clear hbc g0 g1 HIF HNF HL hap
        have y0 := blk_cell V0 0 _ rfl
        have y1 := blk_cell V0 1 _ rfl
        go_wp2_with fail
        refine (append_from HA.out cr ck fuel _ _ _ (show appS ws fuel r keep = ((appS ws fuel r keep).1, (appS ws fuel r keep).2.1, (appS ws fuel r keep).2.2) from rfl) w4 hw).mono ?_
        rintro e w5 ⟨a6, n6, c6, rfl, hi6, hn6, hc6, hf6, hb6, hw6⟩
        have V6 := (V0.below hb6).below ((Below.refl _ _).alloc (Nat.le_refl _) (.cells #[.slice a6 n6 c6, .int .i64 (appS ws fuel r keep).2.1] 28))
        have G6 : FBox (w5.alloc (.cells #[.slice a6 n6 c6, .int .i64 (appS ws fuel r keep).2.1] 28)) w5.heap.size a6 n6 c6 (appS ws fuel r keep).2.1 := heap_alloc_last _ _
        have hi7 := hi6.alloc (.cells #[.slice a6 n6 c6, .int .i64 (appS ws fuel r keep).2.1] 28)
        have hw7 := hw6.alloc hw6.size (.cells #[.slice a6 n6 c6, .int .i64 (appS ws fuel r keep).2.1] 28)
        have HN6 := hide hn6
        clear hb6 hw6 hi6 hf6 V0 y0 y1 hn6
        have hdone : Hid ((appS ws fuel r keep).2.2 = 0 ∨ (appS ws fuel r keep).2.2 = 7 → (appS ws fuel r keep).1.length = n ∧ (appS ws fuel r keep).1.drop 64 = ws.drop 64) := fun he => by
          have := app_behind (app_done E1.out he)
          exact ⟨by rw [this.1]; exact HA.out.hn, drop_same this.1 this.2⟩
        obtain ⟨U, hU⟩ : ∃ U, U = (appS ws fuel r keep).1 := ⟨_, rfl⟩
        obtain ⟨F, hF⟩ : ∃ F, F = (appS ws fuel r keep).2.1 := ⟨_, rfl⟩
        obtain ⟨e8, he8⟩ : ∃ e8, e8 = (appS ws fuel r keep).2.2 := ⟨_, rfl⟩
        rw [← hU] at hi7 HN6 hdone
        rw [← he8] at hdone ⊢
        rw [← hF] at V6 G6 hi7 hw7 ⊢
        clear hU hF he8
        by_cases eA : e8 = 0 ∨ e8 = 7
        rotate_left
        · have c0 : (e8 != 0) = true := by simp; omega
          have c7 : (e8 != 7) = true := by simp; omega
          clear eA
          go_wp2
          go_ret
          exact ⟨rfl, hw7⟩
        · obtain ⟨d1, d2⟩ := hdone.out eA
          obtain rfl : n = n6 := by rw [← HN6.out, d1]
          have hif := HA.out.h.below hw7
          obtain ⟨bF, oF, rfl⟩ := hif.nonempty (by rw [HA.out.hn]; omega)
          obtain ⟨bG, oG, rfl⟩ := hi7.nonempty (by rw [HN6.out]; omega)
          obtain ⟨D, hD⟩ : ∃ D, D = ws.drop 64 := ⟨_, rfl⟩
          have hDl : D.length = n - 64 := by rw [hD, List.length_drop, HA.out.hn]
          have IF1 := hide (hif.drop 64)
          have IG1 := hide (hi7.drop 64)
          rw [d2] at IG1
          rw [← hD] at IF1 IG1
          have HDl := hide hDl
          have hcF := HA.out.hcap
          have hmn := HA.out.hm
          have IF2 : Hid (c = 64 → IsInts (w5.alloc (.cells #[.slice (some ⟨bG, oG, none⟩) n c6, .int .i64 F] 28)) (some ⟨bF, oF, none⟩) D) := fun e => .inl (List.eq_nil_of_length_eq_zero (by rw [HDl.out]; omega))
          have IG2 : Hid (c6 = 64 → IsInts (w5.alloc (.cells #[.slice (some ⟨bG, oG, none⟩) n c6, .int .i64 F] 28)) (some ⟨bG, oG, none⟩) D) := fun e => .inl (List.eq_nil_of_length_eq_zero (by rw [HDl.out]; omega))
          clear d1 d2 hD hDl hif hi7 hdone
          have x0 : (w5.alloc (.cells #[.slice (some ⟨bG, oG, none⟩) n c6, .int .i64 F] 28)).cell? ⟨w.heap.size, 0, none⟩ = some (.slice (some ⟨bF, oF, none⟩) n c) := blk_cell V6 0 _ rfl
          have g0 : (w5.alloc (.cells #[.slice (some ⟨bG, oG, none⟩) n c6, .int .i64 F] 28)).cell? ⟨w5.heap.size, 0, none⟩ = some (.slice (some ⟨bG, oG, none⟩) n c6) := blk_cell G6 0 _ rfl
          have i64a : (64 : Int) ≤ (n : Int) := by omega
          have i64b : (n : Int) ≤ (c : Int) := by omega
          have i64c : (n : Int) ≤ (c6 : Int) := by omega
          have i64d : (64 : Int) ≤ (c : Int) := by omega
          have i64e : (64 : Int) ≤ (c6 : Int) := by omega
          have HQ := hide (fun W x y cx cy (hb : Below (w5.alloc (.cells #[.slice (some ⟨bG, oG, none⟩) n c6, .int .i64 F] 28)).heap.size (w5.alloc (.cells #[.slice (some ⟨bG, oG, none⟩) n c6, .int .i64 F] 28)) W) (hx : IsInts (w5.alloc (.cells #[.slice (some ⟨bG, oG, none⟩) n c6, .int .i64 F] 28)) x D) (hy : IsInts (w5.alloc (.cells #[.slice (some ⟨bG, oG, none⟩) n c6, .int .i64 F] 28)) y D) =>
            equal_at x y (n - 64) (n - 64) cx cy D D true W (hx.below hb) (hy.below hb) HDl.out HDl.out (eqL_self D) (by unfold maxLen at *; omega) (by unfold maxLen at *; omega))
          clear V6 G6
          rcases eA with rfl | rfl
          all_goals
            go_upto_region 12 with fail
            generalize w5.alloc (.cells #[.slice (some ⟨bG, oG, none⟩) n c6, .int .i64 F] 28) = w6 at *
            by_cases k1 : c = 64
            all_goals
              by_cases k2 : c6 = 64
              all_goals
                go_region_held3 (fun W => W.cell? ⟨w.heap.size, 0, none⟩ = some (.slice (some ⟨bF, oF, none⟩) n c) ∧ W.cell? ⟨w5.heap.size, 0, none⟩ = some (.slice (some ⟨bG, oG, none⟩) n c6)) (first | exact ⟨by assumption, by assumption⟩ | go_keep)
                  ((go_at_call 15; refine (unhide HQ _ _ _ _ _ ?_ ?_ ?_).mono ?_; exact (Below.refl _ _).drew; (first | exact IG1.out | exact IG2.out (by omega)); (first | exact IF1.out | exact IF2.out (by omega)); rintro e w7 ⟨rfl, m, rfl⟩))
                go_wp2
                go_ret
                exact ⟨rfl, below_drewN hw7 (1 + m)⟩

end Go.Proofs.Ytanpglfpopbfkaa
