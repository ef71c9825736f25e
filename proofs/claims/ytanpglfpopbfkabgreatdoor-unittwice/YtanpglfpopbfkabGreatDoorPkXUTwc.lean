/- The walk of the law UnitTwice: what a unit, with power, hears a second time, and has answered, it answers again, and is as it was. The closed fact is its premise. -/
import Derived.Test.YtanpglfpopbfkabGreatDoorPk40
import Derived.Test.YtanpglfpopbfkabGreatDoorPk41
namespace Go.Proofs.YtanpglfpopbfkabGreatDoor
open Go.RowKit
attribute [local go_sem ↓] Go.wp_at_zero Go.wp_at_succ

theorem eqL_refl2 (xs : List Int) : eqL xs xs = true := by unfold eqL; simp
theorem sameU_refl2 (u : Un) : sameU u u = true := by unfold sameU; rw [eqL_refl2]; simp
theorem hearA_z {ss : List ByteArray} {u : Un} {m : Ms} (h : (hearA ss u m).2.2 = 0) : heE ss u m = 0 ∧ hearA ss u m = ((hearS ss u m).1, (hearS ss u m).2, 0) := by
  rcases Decidable.em (heE ss u m = 0) with g | g
  · exact ⟨g, by unfold hearA; rw [if_neg (by simpa using g)]⟩
  · rw [hearA_e g] at h; exact absurd h g

set_option maxRecDepth 100000 in
set_option maxHeartbeats 25600000 in
theorem unitTwice_walk (HUn : ∀ W : World, Tab W → Calls Tryz.prog 28 #[] W fun e w' => e = .returned (.bool true) ∧ Below W.heap.size W w')
    (ab : Option Addr) (nb cb : Nat) (ss : List ByteArray) (u : Un) (a : Option Addr) (n c : Nat) (m : Ms) (am : Option Addr) (nm cm : Nat) (w : World) (hB : BB w ab nb cb ss) (hT : Tab w) (hU : BW w a n c u.ws) (hM : BI w am nm m.ws) :
    Calls Tryz.prog 6 #[bookv ab nb cb, unv u a n c, msv m am nm cm] w fun e w' => e = .returned (.bool true) ∧ Below w.heap.size w w' := by
  obtain ⟨v, hv⟩ : ∃ v, v = fuU u (-1) := ⟨_, rfl⟩
  have hw : Below w.heap.size w (((w.alloc (.cells #[.slice ab nb cb] 46)).alloc (.cells #[.slice a n c, .int .i64 (-1), .bool u.up, .int .i64 u.n, .int .i64 u.hv] 50)).alloc (.cells #[.int .i64 m.k, .int .i64 m.u, .int .i64 m.n, .int .i64 m.at', .int .i64 m.im, .slice am nm cm, .bool m.y] 52)) := below_3 _ _ _ _
  have hV : BW w a n c v.ws := by rw [hv]; exact hU
  have hF : Hid (v.fu = -1) := by rw [hv]; exact hide rfl
  have HH := hide (fun W (hW : Below w.heap.size w W) => unitHear_any ab nb cb ss v a n c m am nm cm W (hB.below hW) (hT.below hW) (hV.below hW) (hM.below hW))
  have HG := hide (fun x ax nx cx W (hW : Below w.heap.size w W) (hx : BW W ax nx cx x.ws) => unitHear_any ab nb cb ss x ax nx cx m am nm cm W (hB.below hW) (hT.below hW) hx (hM.below hW))
  have HUn' := hide (fun W (hW : Below w.heap.size w W) => HUn W (hT.below hW))
  have b0 : Hid ((((w.alloc (.cells #[.slice ab nb cb] 46)).alloc (.cells #[.slice a n c, .int .i64 (-1), .bool u.up, .int .i64 u.n, .int .i64 u.hv] 50)).alloc (.cells #[.int .i64 m.k, .int .i64 m.u, .int .i64 m.n, .int .i64 m.at', .int .i64 m.im, .slice am nm cm, .bool m.y] 52)).heap[w.heap.size]? = some (.cells #[.slice ab nb cb] 46 (0, 0))) := bk3.1
  have b1 : Hid ((((w.alloc (.cells #[.slice ab nb cb] 46)).alloc (.cells #[.slice a n c, .int .i64 (-1), .bool u.up, .int .i64 u.n, .int .i64 u.hv] 50)).alloc (.cells #[.int .i64 m.k, .int .i64 m.u, .int .i64 m.n, .int .i64 m.at', .int .i64 m.im, .slice am nm cm, .bool m.y] 52)).heap[w.heap.size + 1]? = some (.cells #[.slice a n c, .int .i64 v.fu, .bool v.up, .int .i64 v.n, .int .i64 v.hv] 50 (0, 0))) := by rw [hv]; exact bk3.2.1
  have b2 : Hid ((((w.alloc (.cells #[.slice ab nb cb] 46)).alloc (.cells #[.slice a n c, .int .i64 (-1), .bool u.up, .int .i64 u.n, .int .i64 u.hv] 50)).alloc (.cells #[.int .i64 m.k, .int .i64 m.u, .int .i64 m.n, .int .i64 m.at', .int .i64 m.im, .slice am nm cm, .bool m.y] 52)).heap[w.heap.size + 1 + 1]? = some (.cells #[.int .i64 m.k, .int .i64 m.u, .int .i64 m.n, .int .i64 m.at', .int .i64 m.im, .slice am nm cm, .bool m.y] 52 (0, 0))) := bk3.2.2
  clear hV hB hT hU hM HUn hv
  unfold bookv unv msv at *
  obtain ⟨A, hA⟩ : ∃ A, A = hearA ss v m := ⟨_, rfl⟩
  rw [← hA] at HH
  replace hA := hide hA
  go_enter Tryz.func6, Tryz.ntmps6
  go_upto_region 2 with fail
  generalize ((w.alloc (.cells #[.slice ab nb cb] 46)).alloc (.cells #[.slice a n c, .int .i64 (-1), .bool u.up, .int .i64 u.n, .int .i64 u.hv] 50)).alloc (.cells #[.int .i64 m.k, .int .i64 m.u, .int .i64 m.n, .int .i64 m.at', .int .i64 m.im, .slice am nm cm, .bool m.y] 52) = W at *
  have b0_0 := blk_cell b0.out 0 _ rfl
  have b1_0 := blk_cell b1.out 0 _ rfl
  have b1_1 := blk_cell b1.out 1 _ rfl
  have b1_2 := blk_cell b1.out 2 _ rfl
  have b1_3 := blk_cell b1.out 3 _ rfl
  have b1_4 := blk_cell b1.out 4 _ rfl
  have b2_0 := blk_cell b2.out 0 _ rfl
  have b2_1 := blk_cell b2.out 1 _ rfl
  have b2_2 := blk_cell b2.out 2 _ rfl
  have b2_3 := blk_cell b2.out 3 _ rfl
  have b2_4 := blk_cell b2.out 4 _ rfl
  have b2_5 := blk_cell b2.out 5 _ rfl
  have b2_6 := blk_cell b2.out 6 _ rfl
  go_wp2_with fail
  refine (unhide HH _ hw).mono ?_
  rintro e w4 ⟨⟨ax, nx, cx, al, nl, cl, rfl, hbx, hms, hl, hcl, hc1⟩, hb⟩
  have BX := hide hbx
  have MSL := hide hms
  have HL := hide hl
  clear b0_0 b1_0 b1_1 b1_2 b1_3 b1_4 b2_0 b2_1 b2_2 b2_3 b2_4 b2_5 b2_6
  replace b0 := hide (blk_below b0.out hb)
  replace b1 := hide (blk_below b1.out hb)
  replace b2 := hide (blk_below b2.out hb)
  replace hw := hw.trans (hb.mono hw.size)
  clear hb hbx hms hl HH
  unfold unv
  have hbA : Below w4.heap.size w4 (w4.alloc (.cells #[.slice ax nx cx, .int .i64 A.1.fu, .bool A.1.up, .int .i64 A.1.n, .int .i64 A.1.hv] 50)) := (Below.refl _ _).alloc (Nat.le_refl _) _
  have bX := hide (heap_alloc_last w4 (.cells #[.slice ax nx cx, .int .i64 A.1.fu, .bool A.1.up, .int .i64 A.1.n, .int .i64 A.1.hv] 50))
  replace b0 := hide (blk_below b0.out hbA)
  replace b1 := hide (blk_below b1.out hbA)
  replace b2 := hide (blk_below b2.out hbA)
  replace BX := hide (BX.out.below hbA)
  replace MSL := hide (MSL.out.below hbA)
  replace hw := hw.trans (hbA.mono hw.size)
  clear hbA
  go_wp2_with fail
  refine (unhide HUn' _ hw).mono ?_
  rintro e w5 ⟨rfl, hb⟩
  replace b0 := hide (blk_below b0.out hb)
  replace b1 := hide (blk_below b1.out hb)
  replace b2 := hide (blk_below b2.out hb)
  replace bX := hide (blk_below bX.out hb)
  replace BX := hide (BX.out.below hb)
  replace MSL := hide (MSL.out.below hb)
  replace hw := hw.trans (hb.mono hw.size)
  clear hb
  generalize w4.heap.size = X at *
  by_cases z3 : A.2.2 = 0
  rotate_left
  · have d3 : (A.2.2 != 0) = true := by simpa using z3
    clear z3
    go_wp2_with fail
    refine (unhide HUn' _ hw).mono ?_
    rintro e w6 ⟨rfl, hb⟩
    go_wp2_with fail
    go_ret
    exact ⟨rfl, hw.trans (hb.mono hw.size)⟩
  have d3 : (A.2.2 != 0) = false := by simpa using z3
  by_cases z4 : nl = 0
  · subst z4
    clear z3
    go_wp2_with fail
    refine (unhide HUn' _ hw).mono ?_
    rintro e w6 ⟨rfl, hb⟩
    go_wp2_with fail
    go_ret
    exact ⟨rfl, hw.trans (hb.mono hw.size)⟩
  have hP : (∃ q, A.2.1 = [q] ∧ q.ws = []) ∧ Twc m A.1 A.2.1 (hearA ss A.1 m) := by
    rw [hA.out] at z3
    obtain ⟨z5, z6⟩ := hearA_z z3
    have hne : (hearS ss v m).2 ≠ [] := by
      intro h0
      have := HL.out
      rw [hA.out, z6, h0] at this
      exact z4 this.symm
    have := twice_plain hF.out z5 hne
    rw [hA.out, z6]
    exact this
  obtain ⟨⟨q, hq, hqw⟩, htw⟩ := hP
  obtain rfl : nl = 1 := by rw [← HL.out, hq]; rfl
  have HTw := hide htw
  have HQ := hide hq
  have HG1 := hide (fun W hW hx => unhide HG A.1 ax nx cx W hW hx)
  obtain ⟨C, hC⟩ : ∃ C, C = hearA ss A.1 m := ⟨_, rfl⟩
  rw [← hC] at HG1 HTw
  obtain ⟨bl, rfl, hcs⟩ : ∃ bl, al = some ⟨bl, 0, none⟩ ∧ _ := MSL.out.resolve_left (by rw [hq]; simp)
  have CS := hide (hcs 0 q (by rw [hq]; rfl)).2
  have hqk : Hid (A.2.1 = [q]) := hq
  clear z3 z4 hq htw hC HG hcs hqw hA
  have b0_0 := blk_cell b0.out 0 _ rfl
  have bX_0 := blk_cell bX.out 0 _ rfl
  have bX_1 := blk_cell bX.out 1 _ rfl
  have bX_2 := blk_cell bX.out 2 _ rfl
  have bX_3 := blk_cell bX.out 3 _ rfl
  have bX_4 := blk_cell bX.out 4 _ rfl
  have b2_0 := blk_cell b2.out 0 _ rfl
  have b2_1 := blk_cell b2.out 1 _ rfl
  have b2_2 := blk_cell b2.out 2 _ rfl
  have b2_3 := blk_cell b2.out 3 _ rfl
  have b2_4 := blk_cell b2.out 4 _ rfl
  have b2_5 := blk_cell b2.out 5 _ rfl
  have b2_6 := blk_cell b2.out 6 _ rfl
  go_wp2_with fail
  refine (unhide HG1 _ hw BX.out).mono ?_
  rintro e w6 ⟨⟨ay, ny, cy, ak, nk, ck, rfl, hby, hmk, hlk, hck, hck1⟩, hb⟩
  have BY := hide hby
  have MSK := hide hmk
  have HLK := hide hlk
  have q0 := (hb.cell (cell_lt CS.out.1)).trans CS.out.1
  have q6 := (hb.cell (cell_lt CS.out.2.2.2.2.2.2)).trans CS.out.2.2.2.2.2.2
  have Q0 := hide q0
  have Q6 := hide q6
  clear q0 q6 CS
  clear b0_0 bX_0 bX_1 bX_2 bX_3 bX_4 b2_0 b2_1 b2_2 b2_3 b2_4 b2_5 b2_6
  replace b2 := hide (blk_below b2.out hb)
  replace bX := hide (blk_below bX.out hb)
  replace BX := hide (BX.out.below hb)
  replace MSL := hide (MSL.out.below hb)
  replace hw := hw.trans (hb.mono hw.size)
  clear hb hby hmk hlk HG1 b0 b1
  unfold unv
  have hbA : Below w6.heap.size w6 (w6.alloc (.cells #[.slice ay ny cy, .int .i64 C.1.fu, .bool C.1.up, .int .i64 C.1.n, .int .i64 C.1.hv] 50)) := (Below.refl _ _).alloc (Nat.le_refl _) _
  have bY := hide (heap_alloc_last w6 (.cells #[.slice ay ny cy, .int .i64 C.1.fu, .bool C.1.up, .int .i64 C.1.n, .int .i64 C.1.hv] 50))
  replace Q0 := hide ((hbA.cell (cell_lt Q0.out)).trans Q0.out)
  replace Q6 := hide ((hbA.cell (cell_lt Q6.out)).trans Q6.out)
  replace b2 := hide (blk_below b2.out hbA)
  replace bX := hide (blk_below bX.out hbA)
  replace BX := hide (BX.out.below hbA)
  replace MSL := hide (MSL.out.below hbA)
  replace BY := hide (BY.out.below hbA)
  replace MSK := hide (MSK.out.below hbA)
  replace hw := hw.trans (hbA.mono hw.size)
  clear hbA
  have hC0 : C.2.2 = 0 := by
    rcases HTw.out with h | h
    · rw [h]
    · rw [h.2.2]
  have d4 : (C.2.2 != 0) = false := by simpa using hC0
  clear hC0
  go_upto_region 6 with fail
  obtain ⟨W6, hW6⟩ : ∃ W6, W6 = w6.alloc (.cells #[.slice ay ny cy, .int .i64 C.1.fu, .bool C.1.up, .int .i64 C.1.n, .int .i64 C.1.hv] 50) := ⟨_, rfl⟩
  rw [← hW6] at hw b2 bX bY BX MSL BY MSK Q0 Q6 ⊢
  generalize w6.heap.size = Y at *
  clear hW6
  have N9 : Hid (∀ p : Ms, C.2.1 = [p] → p.k = 3 → p.y = false → nk = 1 ∧ ∃ bk', ak = some ⟨bk', 0, none⟩ ∧ W6.cell? ⟨bk', 0, none⟩ = some (.int .i64 3) ∧ W6.cell? ⟨bk', 6, none⟩ = some (.bool false)) := by
    intro p hp hk hy
    refine ⟨by rw [← HLK.out, hp]; rfl, ?_⟩
    obtain ⟨b, e, hc⟩ := MSK.out.resolve_left (by rw [hp]; simp)
    have h := (hc 0 p (by rw [hp]; rfl)).2
    refine ⟨b, e, ?_, ?_⟩
    · have := h.1; rw [hk] at this; exact this
    · have := h.2.2.2.2.2.2; rw [hy] at this; exact this
  have q0 : W6.cell? ⟨bl, 0, none⟩ = some (.int .i64 q.k) := Q0.out
  have q6 : W6.cell? ⟨bl, 6, none⟩ = some (.bool q.y) := Q6.out
  clear Q0 Q6
  rcases HTw.out with htw | ⟨hk2, hl2, hr2⟩
  rotate_left
  · -- it may have been cleared of what it had in mind
    obtain ⟨rfl, bk', rfl, k0, k6⟩ := N9.out (voteM m false) (by rw [hr2]) rfl rfl
    have hq' : q = voteM m false := by have := hqk.out; rw [hl2] at this; cases this; rfl
    have e0 : q.k = 3 := by rw [hq']; rfl
    have e6 : q.y = false := by rw [hq']; rfl
    rw [e0] at q0
    rw [e6] at q6
    have dk : (m.k == 2) = true := by simpa using hk2
    clear e0 e6 hq' hk2 hl2 hr2 HTw N9 hqk
  
    have b2_0 := blk_cell b2.out 0 _ rfl
    go_wp2_with fail
    go_ret
    exact ⟨rfl, hw⟩
  have hsame : C.1 = A.1 ∧ C.2.1 = A.2.1 := by rw [htw]; exact ⟨rfl, rfl⟩
  have hnk : nk = 1 := by rw [← HLK.out, hsame.2, hqk.out]; rfl
  subst hnk
  have hmq : eqM A.2.1 C.2.1 = true := by rw [hsame.2]; exact eqM_refl _
  have huq : sameU A.1 C.1 = true := by rw [hsame.1]; exact sameU_refl2 _
  have HSM := hide (fun W h0 h1 => sameMessages_any (some ⟨bl, 0, none⟩) ak 1 1 cl ck A.2.1 C.2.1 W h0 h1 (by rw [hqk.out]; rfl) (by rw [hsame.2, hqk.out]; rfl) (by decide) (by decide))
  rw [hmq] at HSM
  have HSU := hide (fun W h0 h1 => sameUnit_any A.1 ax nx cx C.1 ay ny cy W h0 h1)
  rw [huq] at HSU
  unfold unv at HSU
  have hCq : Hid (C.2.1 = [q]) := hsame.2.trans hqk.out
  clear htw HTw hsame hmq huq
  by_cases zk : m.k = 2
  rotate_left
  · have dk : (m.k == 2) = false := by simpa using zk
    clear zk
    have b2_0 := blk_cell b2.out 0 _ rfl
    go_wp2_with fail
    refine (unhide HSM _ MSL.out.msw MSK.out.msw).mono ?_
    rintro e w7 ⟨rfl, hb⟩
    replace bX := hide (blk_below bX.out hb)
    replace bY := hide (blk_below bY.out hb)
    replace BX := hide (BX.out.below hb)
    replace BY := hide (BY.out.below hb)
    replace hw := hw.trans (hb.mono hw.size)
    clear hb HSM
    have bX_0 := blk_cell bX.out 0 _ rfl
    have bX_1 := blk_cell bX.out 1 _ rfl
    have bX_2 := blk_cell bX.out 2 _ rfl
    have bX_3 := blk_cell bX.out 3 _ rfl
    have bX_4 := blk_cell bX.out 4 _ rfl
    have bY_0 := blk_cell bY.out 0 _ rfl
    have bY_1 := blk_cell bY.out 1 _ rfl
    have bY_2 := blk_cell bY.out 2 _ rfl
    have bY_3 := blk_cell bY.out 3 _ rfl
    have bY_4 := blk_cell bY.out 4 _ rfl
    go_wp2_with fail
    refine (unhide HSU _ BX.out BY.out).mono ?_
    rintro e w8 ⟨rfl, hb⟩
    go_wp2_with fail
    go_ret
    exact ⟨rfl, hw.trans (hb.mono hw.size)⟩
  have dk : (m.k == 2) = true := by simpa using zk
  cases zy : q.y
  rotate_left
  · rw [zy] at q6
    clear zk zy
    have b2_0 := blk_cell b2.out 0 _ rfl
    go_wp2_with fail
    refine (unhide HSM _ MSL.out.msw MSK.out.msw).mono ?_
    rintro e w7 ⟨rfl, hb⟩
    replace bX := hide (blk_below bX.out hb)
    replace bY := hide (blk_below bY.out hb)
    replace BX := hide (BX.out.below hb)
    replace BY := hide (BY.out.below hb)
    replace hw := hw.trans (hb.mono hw.size)
    clear hb HSM
    have bX_0 := blk_cell bX.out 0 _ rfl
    have bX_1 := blk_cell bX.out 1 _ rfl
    have bX_2 := blk_cell bX.out 2 _ rfl
    have bX_3 := blk_cell bX.out 3 _ rfl
    have bX_4 := blk_cell bX.out 4 _ rfl
    have bY_0 := blk_cell bY.out 0 _ rfl
    have bY_1 := blk_cell bY.out 1 _ rfl
    have bY_2 := blk_cell bY.out 2 _ rfl
    have bY_3 := blk_cell bY.out 3 _ rfl
    have bY_4 := blk_cell bY.out 4 _ rfl
    go_wp2_with fail
    refine (unhide HSU _ BX.out BY.out).mono ?_
    rintro e w8 ⟨rfl, hb⟩
    go_wp2_with fail
    go_ret
    exact ⟨rfl, hw.trans (hb.mono hw.size)⟩
  rw [zy] at q6
  by_cases z3 : q.k = 3
  rotate_left
  · have dq : (q.k == 3) = false := by simpa using z3
    clear zk zy z3
    have b2_0 := blk_cell b2.out 0 _ rfl
    go_wp2_with fail
    refine (unhide HSM _ MSL.out.msw MSK.out.msw).mono ?_
    rintro e w7 ⟨rfl, hb⟩
    replace bX := hide (blk_below bX.out hb)
    replace bY := hide (blk_below bY.out hb)
    replace BX := hide (BX.out.below hb)
    replace BY := hide (BY.out.below hb)
    replace hw := hw.trans (hb.mono hw.size)
    clear hb HSM
    have bX_0 := blk_cell bX.out 0 _ rfl
    have bX_1 := blk_cell bX.out 1 _ rfl
    have bX_2 := blk_cell bX.out 2 _ rfl
    have bX_3 := blk_cell bX.out 3 _ rfl
    have bX_4 := blk_cell bX.out 4 _ rfl
    have bY_0 := blk_cell bY.out 0 _ rfl
    have bY_1 := blk_cell bY.out 1 _ rfl
    have bY_2 := blk_cell bY.out 2 _ rfl
    have bY_3 := blk_cell bY.out 3 _ rfl
    have bY_4 := blk_cell bY.out 4 _ rfl
    go_wp2_with fail
    refine (unhide HSU _ BX.out BY.out).mono ?_
    rintro e w8 ⟨rfl, hb⟩
    go_wp2_with fail
    go_ret
    exact ⟨rfl, hw.trans (hb.mono hw.size)⟩
  obtain ⟨-, bk', rfl, k0, k6⟩ := N9.out q hCq.out z3 zy
  rw [z3] at q0
  clear zk zy z3 N9
  have b2_0 := blk_cell b2.out 0 _ rfl
  go_wp2_with fail
  go_ret
  exact ⟨rfl, hw⟩

end Go.Proofs.YtanpglfpopbfkabGreatDoor
