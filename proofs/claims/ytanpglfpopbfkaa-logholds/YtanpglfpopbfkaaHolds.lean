/- The walk of wainwrightlaw.LogHolds: it answers true, and nothing that was there has turned. -/
import Derived.Test.YtanpglfpopbfkaaLogT
import Derived.Test.YtanpglfpopbfkaaApart
import Derived.Test.YtanpglfpopbfkaaClone
import Derived.Deep.DeepCutAuto
namespace Go.Proofs.Ytanpglfpopbfkaa
open Go.RowKit
attribute [local go_sem ↓] Go.wp_at_zero Go.wp_at_succ

theorem MakingR.nil0 {w0 w : World} {a : Option Addr} {n c : Nat} {rs : List (List Int)} (h : MakingR w0 w (.slice a n c) rs) (ha : a = none) : c = 0 := by
  obtain ⟨vs, hown, _⟩ := h.own
  obtain ⟨_, ⟨hv, _⟩ | ⟨g, cap, cur, hv, _⟩⟩ := hown
  · cases hv; rfl
  · cases hv; cases ha

/-- What Records hands back, and that an empty list without a place has no room. -/
def RecsAns2 (w : World) (r : List (List Int) × Int) (e : Ending) (w' : World) : Prop :=
  (∃ a n c, e = .returned (.tuple #[.slice a n c, .int .i64 r.2]) ∧ IsRecs w' a r.1 ∧ r.1.length = n ∧ n ≤ c ∧ c ≤ maxLen ∧ (a = none → c = 0)) ∧ Below w.heap.size w w'

set_option maxRecDepth 100000 in
set_option maxHeartbeats 1000000 in
theorem records2_any (a : Option Addr) (n c : Nat) (ws : List Int) (fuel : Int) (w : World) (h : IsInts w a ws) (hn : ws.length = n) (hcap : n ≤ c) (hm : n ≤ maxLen) :
    Calls Try.prog 31 #[.agg #[.slice a n c, .int .i64 fuel]] w (RecsAns2 w (recsS ws fuel)) := by
  have hw : Below w.heap.size w (w.alloc (.cells #[.slice a n c, .int .i64 fuel] 28)) := (Below.refl _ _).alloc (Nat.le_refl _) _
  have i0 := h.below hw
  have HS := hide (fun W (h : IsInts W a ws) => logCheck_any a n c ws fuel W h hn hm)
  have HG := hide (fun W (h : IsInts W a ws) (h64 : 64 ≤ n) => counting_any a n c ws fuel W h hn hm h64)
  have HP := hide (fun W (h : IsInts W a ws) (hm : n ≤ 192) (hok : okL ws = true) (h64 : 64 ≤ n) => parse_any a n c ws fuel (secN ws) W h hn hcap hm hok (secN_01 ws) h64)
  have B0 := hide (heap_alloc_last w (.cells #[.slice a n c, .int .i64 fuel] 28))
  have HN := hide hn
  clear hn
  go_enter Try.func31, Try.ntmps31
  go_wp2_with fail
  generalize w.alloc (.cells #[.slice a n c, .int .i64 fuel] 28) = W at *
  refine (unhide HS _ i0).mono ?_
  rintro e w1 ⟨rfl, hb1⟩
  have hw1 := hw.trans (hb1.mono hw.size)
  by_cases e1 : lchk ws fuel = 0
  rotate_left
  · have e1' : (lchk ws fuel != 0) = true := by simpa using e1
    have hr : Hid (recsS ws fuel = ([], lchk ws fuel)) := by show _ = _; unfold recsS; rw [if_pos e1]
    go_wp2
    go_ret2
    rw [hr.out]
    exact ⟨⟨none, 0, 0, rfl, .inl rfl, rfl, Nat.le_refl _, by unfold maxLen; omega, fun _ => rfl⟩, hw1⟩
  have e1' : (lchk ws fuel != 0) = false := by simpa using e1
  have hr : Hid (recsS ws fuel = (logR ws, 0)) := by show _ = _; unfold recsS; rw [if_neg (by simpa using e1)]
  have parts := lchk_parts e1
  rw [HN.out] at parts
  clear e1
  have c00 := blk_cell (blk_below B0.out hb1) 0 _ rfl
  have c01 := blk_cell (blk_below B0.out hb1) 1 _ rfl
  go_wp2_with fail
  refine (unhide HG _ (i0.below hb1) parts.2.1).mono ?_
  rintro e w2 ⟨rfl, hb2⟩
  have hw2 := hw1.trans (hb2.mono hw1.size)
  have c10 := blk_cell (blk_below (blk_below B0.out hb1) hb2) 0 _ rfl
  have c11 := blk_cell (blk_below (blk_below B0.out hb1) hb2) 1 _ rfl
  go_wp2_with fail
  refine (unhide HP _ ((i0.below hb1).below hb2) parts.2.2.1 parts.2.2.2.1 parts.2.1).mono ?_
  rintro e w3 ⟨⟨v, a3, m3, cc3, rfl, hmk, hi3, hn3, hm3, hok3⟩, hb3⟩
  obtain ⟨av, cv, rfl, q1, q2, q3⟩ := hmk.isRecs
  have q4 : av = none → cv = 0 := fun e => hmk.nil0 e
  have HQ := hide q3
  have HQ4 := hide q4
  clear hmk hn3 q4
  have hw3 := hw2.trans (hb3.mono hw2.size)
  go_wp2
  go_ret2
  rw [hr.out]
  exact ⟨⟨av, _, cv, rfl, HQ.out, rfl, q1, q2, HQ4.out⟩, hw3⟩

theorem RecsAns2.opened {w : World} {r : List (List Int) × Int} {e : Ending} {w' : World} {rs : List (List Int)} {err : Int} (h : RecsAns2 w r e w') (hr : r = (rs, err)) :
    ∃ a n c, e = .returned (.tuple #[.slice a n c, .int .i64 err]) ∧ IsRecs w' a rs ∧ rs.length = n ∧ n ≤ c ∧ c ≤ maxLen ∧ (a = none → c = 0) ∧ Below w.heap.size w w' := by
  subst hr
  obtain ⟨⟨a, n, c, h1, h2, h3, h4, h5, h7⟩, h6⟩ := h
  exact ⟨a, n, c, h1, h2, h3, h4, h5, h7, h6⟩

set_option maxRecDepth 100000 in
set_option maxHeartbeats 8000000 in
theorem holds_any (a : Option Addr) (n c : Nat) (ws : List Int) (fuel : Int) (ar : Option Addr) (nr cr : Nat) (r : List Int) (ak : Option Addr) (nk ck : Nat) (keep : List (List Int)) (ft : Int) (w : World) (A : AppArgs w a n c ws ar nr r ak nk keep)
    (hcr : nr ≤ cr) (hcrm : cr ≤ maxLen) (hnil : ak = none → ck = 0) (hft : -9223372036854775808 ≤ ft ∧ ft ≤ 9223372036854775807) :
    Calls Try.prog 8 #[.agg #[.slice a n c, .int .i64 fuel], .slice ar nr cr, .slice ak nk ck, .int .i64 ft] w fun e w' => e = .returned (.bool true) ∧ Below w.heap.size w w' := by
  obtain ⟨irr, hir, rz0, rz1, rz2⟩ := info_parts info_record
  have HA := hide A
  have HNil := hide hnil
  clear A hnil
  have j1 := Int.emod_nonneg ft (show (80 : Int) ≠ 0 by omega)
  have j2 := Int.emod_lt_of_pos ft (show 0 < (80 : Int) by omega)
  have HAt := hide (fun W => at_any ft 80 W (by omega) (by omega) hft)
  obtain ⟨F, hF⟩ : ∃ F, F = ft % 80 := ⟨_, rfl⟩
  rw [← hF] at j1 j2 HAt
  clear hF
  go_enter Try.func8, Try.ntmps8
  go_wp2_with fail
  refine (unhide HAt _).mono ?_
  rintro e w0 ⟨rfl, rfl⟩
  have hw : Below w.heap.size w (w.alloc (.cells #[.slice a n c, .int .i64 F] 28)) := (Below.refl _ _).alloc (Nat.le_refl _) _
  have V0 : FBox (w.alloc (.cells #[.slice a n c, .int .i64 F] 28)) w.heap.size a n c F := heap_alloc_last _ _
  go_wp2_with fail
  generalize w.alloc (.cells #[.slice a n c, .int .i64 F] 28) = W at *
  refine (records2_any a n c ws F W (HA.out.h.below hw) HA.out.hn HA.out.hcap HA.out.hm).mono ?_
  rintro e w1 ⟨⟨al, nl, cl, rfl, hl, hnl, hcl, hml, hnl0⟩, hb1⟩
  replace V0 := V0.below hb1
  replace hw := hw.trans (hb1.mono hw.size)
  have HNL := hide hnl
  have HNL0 := hide hnl0
  clear hb1 hnl hnl0
  have x0 := blk_cell V0 0 _ rfl
  have x1 := blk_cell V0 1 _ rfl
  go_wp2_with fail
  refine (append_from HA.out cr ck F _ _ _ (show appS ws F r keep = ((appS ws F r keep).1, (appS ws F r keep).2.1, (appS ws F r keep).2.2) from rfl) w1 hw).mono ?_
  rintro e w2 ⟨a2, n2, c2, rfl, hi2, hn2, hc2, hf2, hb2, hw2⟩
  replace V0 := V0.below hb2
  have hl2 := hl.below hb2
  clear hb2 hw hl V0 x0 x1
  have hlog : Hid (lchk ws F = 0 → ((appS ws F r keep).2.2 = 0 ∨ (appS ws F r keep).2.2 = 7) → appErr ws F r keep = 0) := fun h1 h2 => app_done h1 h2
  have hall : Hid (appErr ws F r keep = 0 → (appS ws F r keep).1.length = ws.length ∧ (-1 ≤ (appS ws F r keep).2.1 ∧ (appS ws F r keep).2.1 ≤ 100000) ∧ (∀ f', -1 ≤ f' → f' ≤ 100000 → lchk (appS ws F r keep).1 f' = 0) ∧
    ((appS ws F r keep).2.2 = 0 ∧ (logR (appS ws F r keep).1 = logR ws ++ [r] ∨ logR (appS ws F r keep).1 = keep ++ [r]) ∨ (appS ws F r keep).2.2 = 7 ∧ logR (appS ws F r keep).1 = logR ws)) := fun h => app_log h
  obtain ⟨U, hU⟩ : ∃ U, U = (appS ws F r keep).1 := ⟨_, rfl⟩
  obtain ⟨F2, hF2⟩ : ∃ F2, F2 = (appS ws F r keep).2.1 := ⟨_, rfl⟩
  obtain ⟨b, hb⟩ : ∃ b, b = (appS ws F r keep).2.2 := ⟨_, rfl⟩
  rw [← hU] at hi2 hn2 hall
  rw [← hF2, ← hb] at hall ⊢
  rw [← hb] at hlog
  clear hU hF2 hb
  have hw3 := hw2.alloc hw2.size (.cells #[.slice a2 n2 c2, .int .i64 F2] 28)
  have V3 : FBox (w2.alloc (.cells #[.slice a2 n2 c2, .int .i64 F2] 28)) w2.heap.size a2 n2 c2 F2 := heap_alloc_last _ _
  have hi3 := hi2.alloc (.cells #[.slice a2 n2 c2, .int .i64 F2] 28)
  have hl3 := hl2.below ((Below.refl _ _).alloc (Nat.le_refl _) (.cells #[.slice a2 n2 c2, .int .i64 F2] 28))
  have hz : Below w2.heap.size w2 (w2.alloc (.cells #[.slice a2 n2 c2, .int .i64 F2] 28)) := (Below.refl _ _).alloc (Nat.le_refl _) _
  have hle2 := hw2.size
  have HI2 := hide hi2
  have HN2 := hide hn2
  clear hn2 hi2 hl2 hw2
  by_cases good : lchk ws F = 0 ∧ (b = 0 ∨ b = 7)
  rotate_left
  · have hbad : ((recsS ws F).2 != 0) = true ∨ (((recsS ws F).2 != 0) = false ∧ (b != 0) = true ∧ (b != 7) = true) := by
      by_cases e1 : lchk ws F = 0
      · right
        rw [recs_ok e1]
        refine ⟨rfl, ?_, ?_⟩ <;> (simp; omega)
      · left
        unfold recsS; rw [if_pos e1]; simpa using e1
    clear good
    obtain ⟨e0, he0⟩ : ∃ e0, e0 = (recsS ws F).2 := ⟨_, rfl⟩
    rw [← he0] at hbad ⊢
    clear he0
    rcases hbad with k1 | ⟨k1, k2, k3⟩
    all_goals
      go_wp2_with fail
      refine (logged_any _).mono ?_
      rintro e w4 ⟨rfl, hb4⟩
      go_wp2_with fail
      refine (logged_any _).mono ?_
      rintro e w5 ⟨rfl, hb5⟩
      go_wp2
      go_ret
      exact ⟨rfl, (hw3.trans (hb4.mono hw3.size)).trans (hb5.mono (Nat.le_trans hw3.size hb4.size))⟩
  have EA := hide (hlog.out good.1 good.2)
  have hL := hall.out EA.out
  have hrec := recs_ok good.1
  have hlw := lchk_parts good.1
  have hk31 := keep_few (appErr_ok EA.out).2.2.1
  have hr31 := logR_few hlw.2.1
  have hk67 : (b != 0 && b != 7) = false := by rcases good.2 with rfl | rfl <;> rfl
  have hb2 := good.2
  rw [hrec] at hl3 HNL ⊢
  simp only at hl3 HNL
  have HRU := hide (recs_ok (hL.2.2.1 F2 hL.2.1.1 hL.2.1.2))
  have HLU := hide (hL.2.2.1 (-1) (by decide) (by decide))
  have HDis := hide hL.2.2.2
  have hUl : U.length = n := by rw [hL.1]; exact HA.out.hn
  obtain rfl : n2 = n := by rw [← HN2.out]; exact hUl
  have hnm := HA.out.hm
  clear good hlog hall hL hrec hlw hUl
  go_upto_region 4 with fail
  generalize w2.alloc (.cells #[.slice a2 n2 c2, .int .i64 F2] 28) = w3 at *
  go_cut [47] (fun v47 wx => v47 = .bool false ∧ Below w3.heap.size w3 wx)
  case first =>
    rcases hb2 with rfl | rfl
    all_goals
      go_wp2_with fail
      refine (logged_any _).mono ?_
      rintro e w4 ⟨rfl, hb4⟩
      go_wp2
      go_meet
      case rel => exact ⟨rfl, hb4⟩
  case rest =>
    obtain ⟨rfl, hbc⟩ := hcut
    obtain ⟨w4, rfl⟩ : ∃ w4 : World, w4 = wc := ⟨_, rfl⟩
    replace V3 := V3.below hbc
    replace hi3 := hi3.below hbc
    replace hl3 := hl3.below hbc
    replace hw3 := hw3.trans (hbc.mono hw3.size)
    replace hz := hz.trans (hbc.mono hz.size)
    clear hbc
    have x0 := blk_cell V3 0 _ rfl
    have x1 := blk_cell V3 1 _ rfl
    go_wp2_with fail
    refine (records_any a2 n2 c2 U F2 w4 hi3 HN2.out hc2 hnm).mono ?_
    intro e w5 hR
    obtain ⟨am, nm, cm, rfl, hm5, hnm5, hcm, hmm, hb5⟩ := hR.opened HRU.out
    replace V3 := V3.below hb5
    replace hi3 := hi3.below hb5
    replace hl3 := hl3.below hb5
    replace hw3 := hw3.trans (hb5.mono hw3.size)
    replace hz := hz.trans (hb5.mono hz.size)
    have HNM := hide hnm5
    clear hb5 hR hnm5 x0 x1
    go_wp2_with fail
    refine (clone_any al nl cl (logR ws) w5 hl3 HNL.out (by rw [← HNL.out]; omega) HNL0.out).mono ?_
    rintro e w6 ⟨v6, rfl, ⟨vs6, own6, hv6⟩, hb6⟩
    have HV6 := hide hv6
    have hB6 : Below w5.heap.size w5 (w6.alloc (.cells #[.slice ar nr cr] 43)) := hb6.alloc hb6.size _
    clear hv6
    go_wp2_with (at_builtin; refine wpList_append_lies _ rfl _ _ 44 rfl w5.heap.size 43 irr _ 1 24 Try.underlying44 hir rz0 rz1 rz2 rfl (by omega) v6 (logR ws).length vs6 rfl (ownsRow_below own6 ((Below.refl _ _).alloc (Nat.le_refl _) _)) ⟨w6.heap.size, 0, none⟩ 1 1 [.slice ar nr cr] rfl rfl (news_one _ _ _) (one_one _ _ _) (by omega) (by unfold maxLen; omega) (by omega) hB6.size (w6.heap.size + 1) (by simp) ?_)
    intro g7 cap7 w7 own7 grow7 at7 lt7
    have R7 := hide (RowRecs.step hb6 own6 HV6.out ((Below.refl _ _).alloc (Nat.le_refl _) _) (HA.out.hr.below hw3) (by rw [HA.out.hnr]; exact hcr) hcrm (by rw [HA.out.hnr]; exact own7) grow7)
    have hb7 := R7.out.2
    have hw7 := hw3.trans (hb7.mono hw3.size)
    clear own6 own7 grow7 HV6 hb6 hB6
    go_wp2_with fail
    refine (clone_any ak nk ck keep w7 (HA.out.hk.below hw7) HA.out.hnk (by rw [← HA.out.hnk]; omega) HNil.out).mono ?_
    rintro e w8 ⟨v8, rfl, ⟨vs8, own8, hv8⟩, hb8⟩
    have HV8 := hide hv8
    have hB8 : Below w7.heap.size w7 (w8.alloc (.cells #[.slice ar nr cr] 43)) := hb8.alloc hb8.size _
    clear hv8
    go_wp2_with (at_builtin; refine wpList_append_lies _ rfl _ _ 44 rfl w7.heap.size 43 irr _ 1 24 Try.underlying44 hir rz0 rz1 rz2 rfl (by omega) v8 keep.length vs8 rfl (ownsRow_below own8 ((Below.refl _ _).alloc (Nat.le_refl _) _)) ⟨w8.heap.size, 0, none⟩ 1 1 [.slice ar nr cr] rfl rfl (news_one _ _ _) (one_one _ _ _) (by omega) (by unfold maxLen; omega) (by omega) hB8.size (w8.heap.size + 1) (by simp) ?_)
    intro g9 cap9 w9 own9 grow9 at9 lt9
    have R9 := hide (RowRecs.step hb8 own8 HV8.out ((Below.refl _ _).alloc (Nat.le_refl _) _) (HA.out.hr.below hw7) (by rw [HA.out.hnr]; exact hcr) hcrm (by rw [HA.out.hnr]; exact own9) grow9)
    have hb9 := R9.out.2
    have hw9 := hw7.trans (hb9.mono hw7.size)
    clear own8 own9 grow9 HV8 hb8 hB8
    obtain ⟨a7', c7', e7, _, m7, i7⟩ := R7.out.isRecs
    simp only [Value.slice.injEq] at e7
    obtain ⟨rfl, hlen7, rfl⟩ := e7
    obtain ⟨a9', c9', e9, _, m9, i9⟩ := R9.out.isRecs
    simp only [Value.slice.injEq] at e9
    obtain ⟨rfl, hlen9, rfl⟩ := e9
    have I7 := hide (i7.below hb9)
    have I9 := hide i9
    have IM := hide ((hm5.below hb7).below hb9)
    have IL := hide ((hl3.below hb7).below hb9)
    have HL7 := hide hlen7
    have HL9 := hide hlen9
    replace V3 := (V3.below hb7).below hb9
    replace hz := hz.trans ((hb7.trans (hb9.mono hb7.size)).mono hz.size)
    clear R7 R9 i7 i9 hm5 hl3 hlen7 hlen9 hi3 hb7 hb9 hw3 hw7
    go_upto_region 11 with fail
    go_cut [16] (fun v16 wx => v16 = .bool (eqR (logR U) (logR ws ++ [r]) || eqR (logR U) (keep ++ [r])) ∧ Below w9.heap.size w9 wx)
    case first =>
      go_wp2_with fail
      refine (sameRecs_any am _ nm _ cm cap7 (logR U) (logR ws ++ [r]) w9 IM.out I7.out HNM.out HL7.out.symm (Nat.le_trans hcm hmm) (by unfold maxLen; omega)).mono ?_
      rintro e wA ⟨rfl, m, rfl⟩
      cases hq1 : eqR (logR U) (logR ws ++ [r])
      · have HQ1 := hide hq1
        clear hq1
        go_wp2_with fail
        refine (sameRecs_any am _ nm _ cm cap9 (logR U) (keep ++ [r]) (w9.drewN m) (IM.out.below (below_drewN (Below.refl _ _) m)) (I9.out.below (below_drewN (Below.refl _ _) m)) HNM.out HL9.out.symm (Nat.le_trans hcm hmm) (by unfold maxLen; omega)).mono ?_
        rintro e wA ⟨rfl, m2, rfl⟩
        go_wp2
        go_meet
        case rel => exact ⟨congrArg Value.bool (by simp [HQ1.out]), below_drewN (Below.refl _ _) (m + m2)⟩
      · have HQ1 := hide hq1
        clear hq1
        go_wp2
        go_meet
        case rel => exact ⟨congrArg Value.bool (by simp [HQ1.out]), below_drewN (Below.refl _ _) m⟩
    case rest =>
      obtain ⟨rfl, hbc⟩ := hcut
      obtain ⟨wA, rfl⟩ : ∃ wA : World, wA = wc := ⟨_, rfl⟩
      replace V3 := V3.below hbc
      replace hz := hz.trans (hbc.mono hz.size)
      replace hw9 := hw9.trans (hbc.mono hw9.size)
      have IM2 := hide (IM.out.below hbc)
      have IL2 := hide (IL.out.below hbc)
      have HQN : Hid ((b = 0 → (eqR (logR U) (logR ws ++ [r]) || eqR (logR U) (keep ++ [r])) = true) ∧ ((eqR (logR U) (logR ws ++ [r]) || eqR (logR U) (keep ++ [r])) = false → b = 7 ∧ eqR (logR U) (logR ws) = true)) := by
        rcases HDis.out with ⟨h1, h2⟩ | ⟨h1, h2⟩
        · have : (eqR (logR U) (logR ws ++ [r]) || eqR (logR U) (keep ++ [r])) = true := by
            rcases h2 with h2 | h2
            · rw [h2]; simp [eqR]
            · rw [h2]; simp [eqR]
          exact ⟨fun _ => this, fun h => by rw [this] at h; cases h⟩
        · exact ⟨fun h => by omega, fun _ => ⟨h1, by rw [h2]; simp [eqR]⟩⟩
      obtain ⟨qn, hqn⟩ : ∃ qn, qn = (eqR (logR U) (logR ws ++ [r]) || eqR (logR U) (keep ++ [r])) := ⟨_, rfl⟩
      rw [← hqn] at HQN ⊢
      clear hbc IM IL I7 I9 HL7 HL9 HDis hqn
      go_upto_region 12 with fail
      go_cut [89] (fun v89 wx => v89 = .bool false ∧ Below wA.heap.size wA wx)
      case first =>
        cases qn
        · obtain ⟨rfl, hq⟩ := HQN.out.2 rfl
          have HQ := hide hq
          clear hq
          go_wp2_with fail
          refine (sameRecs_any am al nm nl cm cl (logR U) (logR ws) wA IM2.out IL2.out HNM.out HNL.out (Nat.le_trans hcm hmm) (Nat.le_trans hcl hml)).mono ?_
          rintro e wB ⟨rfl, m, rfl⟩
          rw [HQ.out]
          go_wp2
          go_meet
          case rel => exact ⟨rfl, below_drewN (Below.refl _ _) m⟩
        · rcases hb2 with rfl | rfl
          all_goals
            go_wp2
            go_meet
            case rel => exact ⟨rfl, Below.refl _ _⟩
      case rest =>
        obtain ⟨rfl, hbc⟩ := hcut
        obtain ⟨wB, rfl⟩ : ∃ wB : World, wB = wc := ⟨_, rfl⟩
        replace V3 := V3.below hbc
        replace hz := hz.trans (hbc.mono hz.size)
        replace hw9 := hw9.trans (hbc.mono hw9.size)
        clear hbc IM2 IL2 HQN hb2
        have x0 := blk_cell V3 0 _ rfl
        have x1 := blk_cell V3 1 _ rfl
        have f1 := blk_free V3 1
        have hzX := hz.setCell (p := ⟨w2.heap.size, 1, none⟩) (Nat.le_refl _) (.int .i64 (-1))
        have hwX := hw9.setCell (p := ⟨w2.heap.size, 1, none⟩) (by show w.heap.size ≤ w2.heap.size; exact hle2) (.int .i64 (-1))
        clear hz hw9 V3
        go_wp2_with fail
        generalize wB.setCell ⟨w2.heap.size, 1, none⟩ (.int .i64 (-1)) = wX at *
        refine (append_any a2 n2 c2 U (-1) ar nr cr r ak nk ck keep wX (HI2.out.below hzX) HN2.out hc2 hnm (HA.out.hr.below hwX) HA.out.hnr HA.out.hmr (HA.out.hk.below hwX) HA.out.hnk HA.out.hmk).mono ?_
        intro e wY hY
        rcases app_again EA.out HLU.out with h8 | ⟨h0, _⟩
        · obtain ⟨⟨a10, n10, c10, rfl, hi10, hn10, hc10, hf10⟩, hb10⟩ := hY
          rw [h8]
          clear hn10 h8
          go_wp2
          go_ret
          have hwY := hwX.trans (hb10.mono hwX.size)
          exact ⟨rfl, hwY.alloc hwY.size _⟩
        · obtain ⟨us, h1, h2, h3, h4⟩ := app_neg_log h0
          obtain ⟨X, hX⟩ := logR_last h4
          obtain ⟨a10, n10, c10, rfl, hi10, hn10, hc10, hf10, hb10⟩ := hY.opened h1
          have hwY := hwX.trans (hb10.mono hwX.size)
          have HRec := hide ((recs_ok h3).trans (by rw [hX]))
          have hn10' : n10 ≤ maxLen := by rw [← hn10, h2, HN2.out]; exact hnm
          have HN10 := hide hn10
          have hi11 := hi10.alloc (.cells #[.slice a10 n10 c10, .int .i64 (-1)] 28)
          have hw11 := hwY.alloc hwY.size (.cells #[.slice a10 n10 c10, .int .i64 (-1)] 28)
          clear hY h0 h1 h2 h3 h4 hX hn10 hi10 hf10 hb10 hwY hwX hzX
          go_wp2_with fail
          generalize wY.alloc (.cells #[.slice a10 n10 c10, .int .i64 (-1)] 28) = wZ at *
          refine (records_any a10 n10 c10 us (-1) wZ hi11 HN10.out hc10 hn10').mono ?_
          intro e w12 hR
          obtain ⟨ap, np, cp, rfl, hm12, hnp, hcp, hmp, hb12⟩ := hR.opened HRec.out
          have hw12 := hw11.trans (hb12.mono hw11.size)
          have hnp' : np = X.length + 1 := by rw [← hnp]; simp
          rcases hm12 with h | ⟨bb, oo, rfl, hc12⟩
          · simp at h
          obtain ⟨ai, ci, k1, k2, k3, k4⟩ := hc12 X.length r (by simp)
          rw [HA.out.hnr] at k1 k3
          have K2 := hide k2
          obtain ⟨xl, hxl⟩ : ∃ xl, xl = X.length := ⟨_, rfl⟩
          rw [← hxl] at k1 hnp'
          have z1 : (0 : Int) < (np : Int) := by omega
          have z6 : np - 1 = xl := by omega
          have z7 : ((np : Int) - 1).toNat = xl := by omega
          have z10 : (np : Int) ≤ 9223372036854775807 := by unfold maxLen at hmp; omega
          have z11 : IntKind.i64.wrap ((np : Int) - 1) = (np : Int) - 1 := by rw [IntKind.wrap_i64]; omega
          have z8 : (0 : Int) ≤ (np : Int) - 1 := by omega
          have z9 : (np : Int) - 1 < (np : Int) := by omega
          have k1' : w12.cell? ⟨bb, oo + (np - 1), none⟩ = some (.slice ai nr ci) := by rw [z6]; exact k1
          clear hR hnp hnp' hc12 k2 hb12 hw11 hi11 HRec hxl z6
          go_wp2_with fail
          refine (equalRec_any ai ar nr nr ci cr r r w12 K2.out (HA.out.hr.below hw12) HA.out.hnr HA.out.hnr HA.out.hmr HA.out.hmr).mono ?_
          rintro e w13 ⟨rfl, m, rfl⟩
          rw [eqL_self]
          go_wp2
          go_ret
          exact ⟨rfl, below_drewN hw12 m⟩

end Go.Proofs.Ytanpglfpopbfkaa
