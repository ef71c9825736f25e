/- The walk of the law UnitHolds: wherever the power goes, what a unit runs stays a whole image. The closed fact is its premise. -/
import Derived.Test.YtanpglfpopbfkabGreatDoorPk40
import Derived.Test.YtanpglfpopbfkabGreatDoorPk41
import Derived.Test.YtanpglfpopbfkabGreatDoorPk4
namespace Go.Proofs.YtanpglfpopbfkabGreatDoor
open Go.RowKit
attribute [local go_sem ↓] Go.wp_at_zero Go.wp_at_succ

theorem img_len (ws : List Int) (f s : Int) : (imgS ws f s).1.length ≤ ws.length := by
  unfold imgS
  split
  · simp
  · split
    · simp
    · simp; omega
theorem runs_len (u : Un) : (runsS u).1.length ≤ u.ws.length := by
  unfold runsS
  split
  · simp
  · exact img_len _ _ _

set_option maxRecDepth 100000 in
set_option maxHeartbeats 25600000 in
theorem unitHolds_walk (HUn : ∀ W : World, Tab W → Calls Tryz.prog 28 #[] W fun e w' => e = .returned (.bool true) ∧ Below W.heap.size W w')
    (ab : Option Addr) (nb cb : Nat) (ss : List ByteArray) (u : Un) (a : Option Addr) (n c : Nat) (m : Ms) (am : Option Addr) (nm cm : Nat) (fl : Int) (w : World) (hB : BB w ab nb cb ss) (hT : Tab w) (hU : BW w a n c u.ws) (hM : BI w am nm m.ws) (hfl : -9223372036854775808 ≤ fl ∧ fl ≤ 9223372036854775807) :
    Calls Tryz.prog 4 #[bookv ab nb cb, unv u a n c, msv m am nm cm, .int .i64 fl] w fun e w' => e = .returned (.bool true) ∧ Below w.heap.size w w' := by
  have HA := hide (fun W => at_any fl 120 W (by decide) (by decide) hfl)
  generalize fl % 120 = f at HA
  obtain ⟨v, hv⟩ : ∃ v, v = fuU u f := ⟨_, rfl⟩
  have hw : Below w.heap.size w (((w.alloc (.cells #[.slice ab nb cb] 46)).alloc (.cells #[.slice a n c, .int .i64 f, .bool u.up, .int .i64 u.n, .int .i64 u.hv] 50)).alloc (.cells #[.int .i64 m.k, .int .i64 m.u, .int .i64 m.n, .int .i64 m.at', .int .i64 m.im, .slice am nm cm, .bool m.y] 52)) := below_3 _ _ _ _
  have hV : BW w a n c v.ws := by rw [hv]; exact hU
  have HV := hide hV
  have HR := hide (fun W (hW : Below w.heap.size w W) => unitRuns_any v a n c W (hV.below hW))
  have HD := hide (fun W (hW : Below w.heap.size w W) => unitRead_any v a n c W (hV.below hW))
  have HH := hide (fun W (hW : Below w.heap.size w W) => unitHear_any ab nb cb ss v a n c m am nm cm W (hB.below hW) (hT.below hW) (hV.below hW) (hM.below hW))
  have HUn' := hide (fun W (hW : Below w.heap.size w W) => HUn W (hT.below hW))
  have HI := hide (fun s W (hW : Below w.heap.size w W) => image_any a n c v.ws v.fu s W (hV.below hW).at_ hV.len hV.max hV.cap)
  have b0 : Hid ((((w.alloc (.cells #[.slice ab nb cb] 46)).alloc (.cells #[.slice a n c, .int .i64 f, .bool u.up, .int .i64 u.n, .int .i64 u.hv] 50)).alloc (.cells #[.int .i64 m.k, .int .i64 m.u, .int .i64 m.n, .int .i64 m.at', .int .i64 m.im, .slice am nm cm, .bool m.y] 52)).heap[w.heap.size]? = some (.cells #[.slice ab nb cb] 46 (0, 0))) := bk3.1
  have b1 : Hid ((((w.alloc (.cells #[.slice ab nb cb] 46)).alloc (.cells #[.slice a n c, .int .i64 f, .bool u.up, .int .i64 u.n, .int .i64 u.hv] 50)).alloc (.cells #[.int .i64 m.k, .int .i64 m.u, .int .i64 m.n, .int .i64 m.at', .int .i64 m.im, .slice am nm cm, .bool m.y] 52)).heap[w.heap.size + 1]? = some (.cells #[.slice a n c, .int .i64 v.fu, .bool v.up, .int .i64 v.n, .int .i64 v.hv] 50 (0, 0))) := by rw [hv]; exact bk3.2.1
  have b2 : Hid ((((w.alloc (.cells #[.slice ab nb cb] 46)).alloc (.cells #[.slice a n c, .int .i64 f, .bool u.up, .int .i64 u.n, .int .i64 u.hv] 50)).alloc (.cells #[.int .i64 m.k, .int .i64 m.u, .int .i64 m.n, .int .i64 m.at', .int .i64 m.im, .slice am nm cm, .bool m.y] 52)).heap[w.heap.size + 1 + 1]? = some (.cells #[.int .i64 m.k, .int .i64 m.u, .int .i64 m.n, .int .i64 m.at', .int .i64 m.im, .slice am nm cm, .bool m.y] 52 (0, 0))) := bk3.2.2
  clear hV hB hT hU hM HUn hv hfl
  unfold bookv unv msv at *
  have E1 := hide (fun h => uReadS_e (u := v) h)
  have E2 := hide (fun h => uReadS_0 (u := v) h)
  obtain ⟨R, hR⟩ : ∃ R, R = runsS v := ⟨_, rfl⟩
  obtain ⟨D, hD⟩ : ∃ D, D = uReadS v := ⟨_, rfl⟩
  obtain ⟨A, hA⟩ : ∃ A, A = hearA ss v m := ⟨_, rfl⟩
  rw [← hR] at HR
  rw [← hD] at HD E1 E2
  rw [← hA] at HH
  replace hR := hide hR
  replace hA := hide hA
  clear hD
  go_enter Tryz.func4, Tryz.ntmps4
  go_wp2_with fail
  refine (unhide HA _).mono ?_
  rintro e w1 ⟨rfl, rfl⟩
  go_upto_region 2 with fail
  generalize ((w.alloc (.cells #[.slice ab nb cb] 46)).alloc (.cells #[.slice a n c, .int .i64 f, .bool u.up, .int .i64 u.n, .int .i64 u.hv] 50)).alloc (.cells #[.int .i64 m.k, .int .i64 m.u, .int .i64 m.n, .int .i64 m.at', .int .i64 m.im, .slice am nm cm, .bool m.y] 52) = W at *
  clear HA
  have b1_0 := blk_cell b1.out 0 _ rfl
  have b1_1 := blk_cell b1.out 1 _ rfl
  have b1_2 := blk_cell b1.out 2 _ rfl
  have b1_3 := blk_cell b1.out 3 _ rfl
  have b1_4 := blk_cell b1.out 4 _ rfl
  go_wp2_with fail
  refine (unhide HR _ hw).mono ?_
  rintro e w1 ⟨⟨aw, nw, cw, rfl, hiw, hlw, hcw, -⟩, hb⟩
  have IW := hide hiw
  have LW := hide hlw
  clear b1_0 b1_1 b1_2 b1_3 b1_4
  replace b0 := hide (blk_below b0.out hb)
  replace b1 := hide (blk_below b1.out hb)
  replace b2 := hide (blk_below b2.out hb)
  replace hw := hw.trans (hb.mono hw.size)
  clear hb hiw hlw HR
  have b1_0 := blk_cell b1.out 0 _ rfl
  have b1_1 := blk_cell b1.out 1 _ rfl
  have b1_2 := blk_cell b1.out 2 _ rfl
  have b1_3 := blk_cell b1.out 3 _ rfl
  have b1_4 := blk_cell b1.out 4 _ rfl
  go_wp2_with fail
  refine (unhide HD _ hw).mono ?_
  rintro e w2 ⟨rfl, hb⟩
  clear b1_0 b1_1 b1_2 b1_3 b1_4
  replace b0 := hide (blk_below b0.out hb)
  replace b1 := hide (blk_below b1.out hb)
  replace b2 := hide (blk_below b2.out hb)
  replace IW := hide (IW.out.below hb)
  replace hw := hw.trans (hb.mono hw.size)
  clear hb HD
  unfold usv
  have hbA : Below w2.heap.size w2 (w2.alloc (.cells #[.int .i64 D.1.slot, .int .i64 D.1.by', .int .i64 D.1.rdy] 57)) := (Below.refl _ _).alloc (Nat.le_refl _) _
  have bS := hide (heap_alloc_last w2 (.cells #[.int .i64 D.1.slot, .int .i64 D.1.by', .int .i64 D.1.rdy] 57))
  replace b0 := hide (blk_below b0.out hbA)
  replace b1 := hide (blk_below b1.out hbA)
  replace b2 := hide (blk_below b2.out hbA)
  replace IW := hide (IW.out.below hbA)
  replace hw := hw.trans (hbA.mono hw.size)
  clear hbA
  go_wp2_with fail
  refine (unhide HUn' _ hw).mono ?_
  rintro e w3 ⟨rfl, hb⟩
  have hS3 : w2.heap.size < w3.heap.size := by have := hb.size; simp at this; omega
  replace b0 := hide (blk_below b0.out hb)
  replace b1 := hide (blk_below b1.out hb)
  replace b2 := hide (blk_below b2.out hb)
  replace bS := hide (blk_below bS.out hb)
  replace IW := hide (IW.out.below hb)
  replace hw := hw.trans (hb.mono hw.size)
  clear hb
  generalize w2.heap.size = S at *
  by_cases z1 : R.2.2 = 0
  rotate_left
  · have d1 : (R.2.2 != 0) = true := by simpa using z1
    clear z1
    go_wp2_with fail
    refine (unhide HUn' _ hw).mono ?_
    rintro e w4 ⟨rfl, hb⟩
    go_wp2_with fail
    go_ret
    exact ⟨rfl, hw.trans (hb.mono hw.size)⟩
  have d1 : (R.2.2 != 0) = false := by simpa using z1
  by_cases z2 : D.2 = 0
  rotate_left
  · have d2 : (D.2 != 0) = true := by simpa using z2
    clear z1 z2
    go_wp2_with fail
    refine (unhide HUn' _ hw).mono ?_
    rintro e w4 ⟨rfl, hb⟩
    go_wp2_with fail
    go_ret
    exact ⟨rfl, hw.trans (hb.mono hw.size)⟩
  have d2 : (D.2 != 0) = false := by simpa using z2
  have hE : unE v = 0 := by
    rcases Decidable.em (unE v = 0) with h | h
    · exact h
    · have := E1.out h; rw [this] at z2; exact absurd z2 h
  have hDs := hide (E2.out hE)
  have HE := hide hE
  have Z1 := hide z1
  clear z1 z2 hE E1 E2
  have b0_0 := blk_cell b0.out 0 _ rfl
  have b1_0 := blk_cell b1.out 0 _ rfl
  have b1_1 := blk_cell b1.out 1 _ rfl
  have b1_2 := blk_cell b1.out 2 _ rfl
  have b1_3 := blk_cell b1.out 3 _ rfl
  have b1_4 := blk_cell b1.out 4 _ rfl
  have b2_0 := blk_cell b2.out 0 _ rfl
  have b2_1 := blk_cell b2.out 1 _ rfl
  have b2_2 := blk_cell b2.out 2 _ rfl
  have b2_3 := blk_cell b2.out 3 _ rfl
  have b2_4 := blk_cell b2.out 4 _ rfl
  have b2_5 := blk_cell b2.out 5 _ rfl
  have b2_6 := blk_cell b2.out 6 _ rfl
  go_wp2_with fail
  refine (unhide HH _ hw).mono ?_
  rintro e w4 ⟨⟨ax, nx, cx, al, nl, cl, rfl, hbx, -, -, -, -⟩, hb⟩
  have BX := hide hbx
  clear b0_0 b1_0 b1_1 b1_2 b1_3 b1_4 b2_0 b2_1 b2_2 b2_3 b2_4 b2_5 b2_6
  replace b1 := hide (blk_below b1.out hb)
  replace b2 := hide (blk_below b2.out hb)
  replace bS := hide (blk_below bS.out hb)
  replace IW := hide (IW.out.below hb)
  replace hw := hw.trans (hb.mono hw.size)
  clear hb hbx HH b0
  unfold unv
  have hbA : Below w4.heap.size w4 (w4.alloc (.cells #[.slice ax nx cx, .int .i64 A.1.fu, .bool A.1.up, .int .i64 A.1.n, .int .i64 A.1.hv] 50)) := (Below.refl _ _).alloc (Nat.le_refl _) _
  have bX := hide (heap_alloc_last w4 (.cells #[.slice ax nx cx, .int .i64 A.1.fu, .bool A.1.up, .int .i64 A.1.n, .int .i64 A.1.hv] 50))
  have b2x := hide b2.out
  have bSx := hide bS.out
  have IWx := hide IW.out
  replace b1 := hide (blk_below b1.out hbA)
  replace b2 := hide (blk_below b2.out hbA)
  replace bS := hide (blk_below bS.out hbA)
  replace IW := hide (IW.out.below hbA)
  replace BX := hide (BX.out.below hbA)
  replace hw := hw.trans (hbA.mono hw.size)
  clear hbA
  go_upto_region 7 with fail
  by_cases z3 : A.2.2 = 0
  rotate_left
  · have d3 : (A.2.2 != 0) = true := by simpa using z3
    clear z3
    go_wp2_with fail
    go_ret
    exact ⟨rfl, hw⟩
  have d3 : (A.2.2 != 0) = false := by simpa using z3
  have HP : Hid (HoldP v m A.1) := by
    show HoldP v m A.1
    rw [hA.out] at z3 ⊢
    rcases Decidable.em (heE ss v m = 0) with h | h
    · have e : hearA ss v m = ((hearS ss v m).1, (hearS ss v m).2, 0) := by unfold hearA; rw [if_neg (by simpa using h)]
      rw [e]
      exact hold_plain HE.out (heE_ok h).2.2
    · rw [hearA_e h] at z3; exact absurd z3 h
  clear z3 hA
  have HBt := hide (fun W (hx : BW W ax nx cx A.1.ws) => unitBoot_any A.1 ax nx cx W hx)
  rw [bootS_0 HP.out.ok] at HBt
  obtain ⟨T, hT⟩ : ∃ T, T = btd A.1 := ⟨_, rfl⟩
  rw [show (⟨A.1.ws, -1, true, 0, 0⟩ : Un) = T from hT.symm] at HBt
  unfold unv at HBt
  have hX2 := blk_lt b2x.out
  have hXS := blk_lt bSx.out
  have hXw := ints_off IWx.out w4.heap.size (Nat.le_refl _)
  generalize w4.heap.size = X at *
  have HT := hide hT
  clear hT b2x bSx IWx
  have bX_0 := blk_cell bX.out 0 _ rfl
  have bX_1 := blk_cell bX.out 1 _ rfl
  have bX_2 := blk_cell bX.out 2 _ rfl
  have bX_3 := blk_cell bX.out 3 _ rfl
  have bX_4 := blk_cell bX.out 4 _ rfl
  go_wp2_with fail
  refine (unhide HBt _ BX.out).mono ?_
  rintro e w5 ⟨⟨a2, n2, c2, rfl, hb2⟩, hb⟩
  have B2 := hide hb2
  clear bX_0 bX_1 bX_2 bX_3 bX_4
  replace b1 := hide (blk_below b1.out hb)
  replace b2 := hide (blk_below b2.out hb)
  replace bS := hide (blk_below bS.out hb)
  replace bX := hide (blk_below bX.out hb)
  replace IW := hide (IW.out.below hb)
  replace hw := hw.trans (hb.mono hw.size)
  clear hb hb2 HBt BX
  unfold unv
  have bX_0 := blk_cell bX.out 0 _ rfl
  have bX_1 := blk_cell bX.out 1 _ rfl
  have bX_2 := blk_cell bX.out 2 _ rfl
  have bX_3 := blk_cell bX.out 3 _ rfl
  have bX_4 := blk_cell bX.out 4 _ rfl
  have fX_0 := blk_free bX.out 0
  have fX_1 := blk_free bX.out 1
  have fX_2 := blk_free bX.out 2
  have fX_3 := blk_free bX.out 3
  have fX_4 := blk_free bX.out 4
  go_upto_region 10 with fail
  clear bX_0 bX_1 bX_2 bX_3 bX_4 fX_0 fX_1 fX_2 fX_3 fX_4
  have hTn : w5.grownBy (((((w5.setCell ⟨X, 0, none⟩ (.slice a2 n2 c2)).setCell ⟨X, 1, none⟩ (.int .i64 T.fu)).setCell ⟨X, 2, none⟩ (.bool T.up)).setCell ⟨X, 3, none⟩ (.int .i64 T.n)).setCell ⟨X, 4, none⟩ (.int .i64 T.hv)) (some X) := turns_set (turns_set (turns_set (turns_set (turns_set (World.grownBy.refl _ _) _ _) _ _) _ _) _ _) _ _
  have bX' : Hid ((((((w5.setCell ⟨X, 0, none⟩ (.slice a2 n2 c2)).setCell ⟨X, 1, none⟩ (.int .i64 T.fu)).setCell ⟨X, 2, none⟩ (.bool T.up)).setCell ⟨X, 3, none⟩ (.int .i64 T.n)).setCell ⟨X, 4, none⟩ (.int .i64 T.hv)).heap[X]? = some (.cells #[.slice a2 n2 c2, .int .i64 T.fu, .bool T.up, .int .i64 T.n, .int .i64 T.hv] 50 (0, 0))) := un_set5 (u := A.1) (a := ax) (n := nx) (c := cx) bX.out
  have hTl : T.ws.length = 192 := by rw [HT.out]; exact (unE_ok HP.out.ok).2.1
  have hoff : Off X a2 := by
    rcases ints_unit B2.out.at_ (.inr (by rw [hTl]; decide)) bX.out rfl with h | h
    · rw [h] at hTl; cases hTl
    · exact h
  replace B2 := hide (B2.out.turns hTn hoff)
  replace b1 := hide (blk_turns b1.out hTn (by omega))
  replace b2 := hide (blk_turns b2.out hTn (by omega))
  replace bS := hide (blk_turns bS.out hTn (by omega))
  have IW' : Hid (IsInts (((((w5.setCell ⟨X, 0, none⟩ (.slice a2 n2 c2)).setCell ⟨X, 1, none⟩ (.int .i64 T.fu)).setCell ⟨X, 2, none⟩ (.bool T.up)).setCell ⟨X, 3, none⟩ (.int .i64 T.n)).setCell ⟨X, 4, none⟩ (.int .i64 T.hv)) aw R.1) := by
    rcases hXw with h | h
    · exact .inl h
    · exact ints_turns IW.out hTn h
  replace hw := turns_below hw hTn (by omega) hw.size
  clear IW bX hTn hoff hXw hTl
  generalize ((((w5.setCell ⟨X, 0, none⟩ (.slice a2 n2 c2)).setCell ⟨X, 1, none⟩ (.int .i64 T.fu)).setCell ⟨X, 2, none⟩ (.bool T.up)).setCell ⟨X, 3, none⟩ (.int .i64 T.n)).setCell ⟨X, 4, none⟩ (.int .i64 T.hv) = W8 at *
  have HR2 := hide (fun W (hW : Below W8.heap.size W8 W) => unitRuns_any T a2 n2 c2 W (B2.out.below hW))
  have HD2 := hide (fun W (hW : Below W8.heap.size W8 W) => unitRead_any T a2 n2 c2 W (B2.out.below hW))
  have HC2 := hide (fun W (hW : Below W8.heap.size W8 W) => unitCheck_any T a2 n2 c2 W (B2.out.below hW))
  have hTE : unE T = 0 := by rw [HT.out]; exact HP.out.okb
  rw [uReadS_0 hTE] at HD2
  rw [hTE] at HC2
  obtain ⟨V, hV⟩ : ∃ V, V = runsS T := ⟨_, rfl⟩
  rw [← hV] at HR2
  obtain ⟨t, ht⟩ : ∃ t, t = stOf T.ws := ⟨_, rfl⟩
  rw [← ht] at HD2
  have HVT : Hid (V = runsS (btd A.1) ∧ t = stOf A.1.ws ∧ V.1.length ≤ T.ws.length ∧ T.ws.length = n2 ∧ n2 ≤ maxLen) := ⟨by rw [hV, HT.out], by rw [ht, HT.out]; rfl, by rw [hV]; exact runs_len T, B2.out.len, B2.out.max⟩
  have hq8 : Below W8.heap.size W8 W8 := Below.refl _ _
  unfold unv usv at *
  clear hV ht hTE B2 HT
  have bX'_0 := blk_cell bX'.out 0 _ rfl
  have bX'_1 := blk_cell bX'.out 1 _ rfl
  have bX'_2 := blk_cell bX'.out 2 _ rfl
  have bX'_3 := blk_cell bX'.out 3 _ rfl
  have bX'_4 := blk_cell bX'.out 4 _ rfl
  go_wp2_with fail
  refine (unhide HR2 _ hq8).mono ?_
  rintro e w6 ⟨⟨av, nv, cv, rfl, hiv, hlv, hcv, -⟩, hb⟩
  have IV := hide hiv
  have LV := hide hlv
  clear bX'_0 bX'_1 bX'_2 bX'_3 bX'_4
  replace b1 := hide (blk_below b1.out hb)
  replace b2 := hide (blk_below b2.out hb)
  replace bS := hide (blk_below bS.out hb)
  replace bX' := hide (blk_below bX'.out hb)
  replace IW' := hide (IW'.out.below hb)
  replace hw := hw.trans (hb.mono hw.size)
  replace hq8 := hq8.trans (hb.mono hq8.size)
  clear hb hiv hlv HR2
  have bX'_0 := blk_cell bX'.out 0 _ rfl
  have bX'_1 := blk_cell bX'.out 1 _ rfl
  have bX'_2 := blk_cell bX'.out 2 _ rfl
  have bX'_3 := blk_cell bX'.out 3 _ rfl
  have bX'_4 := blk_cell bX'.out 4 _ rfl
  go_wp2_with fail
  refine (unhide HD2 _ hq8).mono ?_
  rintro e w7 ⟨rfl, hb⟩
  clear bX'_0 bX'_1 bX'_2 bX'_3 bX'_4
  replace b1 := hide (blk_below b1.out hb)
  replace b2 := hide (blk_below b2.out hb)
  replace bS := hide (blk_below bS.out hb)
  replace bX' := hide (blk_below bX'.out hb)
  replace IW' := hide (IW'.out.below hb)
  replace IV := hide (IV.out.below hb)
  replace hw := hw.trans (hb.mono hw.size)
  replace hq8 := hq8.trans (hb.mono hq8.size)
  clear hb HD2
  have hbA : Below w7.heap.size w7 (w7.alloc (.cells #[.int .i64 t.slot, .int .i64 t.by', .int .i64 t.rdy] 57)) := (Below.refl _ _).alloc (Nat.le_refl _) _
  have bT := hide (heap_alloc_last w7 (.cells #[.int .i64 t.slot, .int .i64 t.by', .int .i64 t.rdy] 57))
  replace b1 := hide (blk_below b1.out hbA)
  replace b2 := hide (blk_below b2.out hbA)
  replace bS := hide (blk_below bS.out hbA)
  replace bX' := hide (blk_below bX'.out hbA)
  replace IW' := hide (IW'.out.below hbA)
  replace IV := hide (IV.out.below hbA)
  replace hw := hw.trans (hbA.mono hw.size)
  replace hq8 := hq8.trans (hbA.mono hq8.size)
  clear hbA
  have bX'_0 := blk_cell bX'.out 0 _ rfl
  have bX'_1 := blk_cell bX'.out 1 _ rfl
  have bX'_2 := blk_cell bX'.out 2 _ rfl
  have bX'_3 := blk_cell bX'.out 3 _ rfl
  have bX'_4 := blk_cell bX'.out 4 _ rfl
  go_wp2_with fail
  refine (unhide HC2 _ hq8).mono ?_
  rintro e w9 ⟨rfl, hb⟩
  clear bX'_0 bX'_1 bX'_2 bX'_3 bX'_4
  replace b1 := hide (blk_below b1.out hb)
  replace b2 := hide (blk_below b2.out hb)
  replace bS := hide (blk_below bS.out hb)
  replace bT := hide (blk_below bT.out hb)
  replace IW' := hide (IW'.out.below hb)
  replace IV := hide (IV.out.below hb)
  replace hw := hw.trans (hb.mono hw.size)
  clear hb HC2 hq8 bX'
  generalize w7.heap.size = Y at *
  have hs : D.1 = stOf v.ws := by rw [hDs.out]
  have hsl := stOf_slot (unE_ok HE.out).1
  rw [← hs] at hsl
  have hRl : Hid (nw ≤ maxLen ∧ nv ≤ maxLen) := by
    refine ⟨?_, ?_⟩
    · have := runs_len v; rw [← hR.out, LW.out, HV.out.len] at this; exact Nat.le_trans this HV.out.max
    · have := HVT.out; rw [LV.out] at this; omega
  rcases HP.out.or' with ⟨p1, p2, p3⟩ | ⟨p1, p2, p3, p4⟩
  · have e1 : (t.slot == D.1.slot) = true := by rw [HVT.out.2.1, hs, p1]; simp
    have e2 : (t.by' == D.1.by') = true := by rw [HVT.out.2.1, hs, p2]; simp
    have hVR : V = R := by rw [HVT.out.1, p3, ← hR.out]
    have e3 : (V.2.2 == 0) = true := by rw [hVR]; simpa using Z1.out
    have e4 : (V.2.1 == R.2.1) = true := by rw [hVR]; simp
    have hEq := hide (fun W h0 h1 => equal_at av aw nv nw cv cw V.1 R.1 true W h0 h1 LV.out LW.out (by rw [hVR]; unfold eqL; simp) hRl.out.2 hRl.out.1)
    clear p1 p2 p3 hVR hs hsl
    have bT_0 := blk_cell bT.out 0 _ rfl
    have bT_1 := blk_cell bT.out 1 _ rfl
    have bT_2 := blk_cell bT.out 2 _ rfl
    have bS_0 := blk_cell bS.out 0 _ rfl
    have bS_1 := blk_cell bS.out 1 _ rfl
    have bS_2 := blk_cell bS.out 2 _ rfl
    go_wp2_with fail
    refine (unhide hEq _ IV.out IW'.out).mono ?_
    rintro e wz ⟨rfl, nz, rfl⟩
    go_wp2_with fail
    go_ret
    exact ⟨rfl, below_drewN hw nz⟩
  obtain ⟨I, hI⟩ : ∃ I, I = imgS v.ws v.fu (1 - D.1.slot) := ⟨_, rfl⟩
  have e1 : (t.slot == D.1.slot) = false := by rw [HVT.out.2.1, p3, hs]; simp; rw [hs] at hsl; omega
  have hVI : V = I := by rw [HVT.out.1, p4, hI, hs]
  have f1 : (m.k == 4) = true := by simpa using p1
  have f2 : (D.1.rdy == m.n) = true := by rw [hs]; simpa using p2
  have f3 : (t.by' == m.n) = true := by rw [HVT.out.2.1, p3]; simp
  have f4 : (t.slot == 1 - D.1.slot) = true := by rw [HVT.out.2.1, p3, hs]; simp
  have f5 : (t.rdy == 0) = true := by rw [HVT.out.2.1, p3]; rfl
  have f6 : (V.2.2 == I.2.2) = true := by rw [hVI]; simp
  have f7 : (V.2.1 == I.2.1) = true := by rw [hVI]; simp
  have HI1 := hide (fun W (hW : Below w.heap.size w W) => unhide HI (1 - D.1.slot) W hW)
  rw [← hI] at HI1
  have hEq := hide (fun ao no co (hl : I.1.length = no) W h0 h1 => equal_at av ao nv no cv co V.1 I.1 true W h0 h1 LV.out hl (by rw [hVI]; unfold eqL; simp) hRl.out.2 (by rw [← hl, ← hVI, LV.out]; exact hRl.out.2))
  have hs0 := hsl.1
  have hs1 := hsl.2
  clear p1 p2 p3 p4 hVI hs hsl hI HI
  have bT_0 := blk_cell bT.out 0 _ rfl
  have bT_1 := blk_cell bT.out 1 _ rfl
  have bT_2 := blk_cell bT.out 2 _ rfl
  have bS_0 := blk_cell bS.out 0 _ rfl
  have bS_1 := blk_cell bS.out 1 _ rfl
  have bS_2 := blk_cell bS.out 2 _ rfl
  have b1_0 := blk_cell b1.out 0 _ rfl
  have b1_1 := blk_cell b1.out 1 _ rfl
  go_wp2_with fail
  refine (unhide HI1 _ hw).mono ?_
  rintro e wi ⟨⟨ao, no, co, rfl, hio, hlo, hco, -⟩, hb⟩
  have IOo := hide hio
  have LO := hide hlo
  clear bT_0 bT_1 bT_2 bS_0 bS_1 bS_2 b1_0 b1_1
  replace b2 := hide (blk_below b2.out hb)
  replace bS := hide (blk_below bS.out hb)
  replace bT := hide (blk_below bT.out hb)
  replace IV := hide (IV.out.below hb)
  replace hw := hw.trans (hb.mono hw.size)
  clear hb hio hlo HI1
  have bT_0 := blk_cell bT.out 0 _ rfl
  have bT_1 := blk_cell bT.out 1 _ rfl
  have bT_2 := blk_cell bT.out 2 _ rfl
  have bS_0 := blk_cell bS.out 0 _ rfl
  have bS_1 := blk_cell bS.out 1 _ rfl
  have bS_2 := blk_cell bS.out 2 _ rfl
  have b2_0 := blk_cell b2.out 0 _ rfl
  have b2_2 := blk_cell b2.out 2 _ rfl
  go_wp2_with fail
  refine (unhide hEq ao no co LO.out _ IV.out IOo.out).mono ?_
  rintro e wz ⟨rfl, nz, rfl⟩
  go_wp2_with fail
  go_ret
  exact ⟨rfl, below_drewN hw nz⟩

end Go.Proofs.YtanpglfpopbfkabGreatDoor
