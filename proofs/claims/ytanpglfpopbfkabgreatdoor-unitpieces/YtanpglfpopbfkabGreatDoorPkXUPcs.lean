/- The walk of the law UnitPieces: an image that comes in pieces, of whatever length, one behind the other, each perhaps twice, is all there. The closed fact is its premise. -/
import Derived.Test.YtanpglfpopbfkabGreatDoorPkXUPl4
import Derived.Test.YtanpglfpopbfkabGreatDoorPk41
import Derived.Test.YtanpglfpopbfkabGreatDoorPk4
import Derived.Test.YtanpglfpopbfkabGreatDoorPk17
namespace Go.Proofs.YtanpglfpopbfkabGreatDoor
open Go.RowKit
attribute [local go_sem ↓] Go.wp_at_zero Go.wp_at_succ

/-- What stands while pieces come. -/
structure PBx (w : World) (S : Nat) (ab : Option Addr) (nb cb : Nat) (D : Us) (x : Un) (wr : World) : Prop where
  bel : Below w.heap.size w wr
  bk : wr.heap[w.heap.size]? = some (.cells #[.slice ab nb cb] 46 (0, 0))
  bs : wr.heap[S]? = some (.cells #[.int .i64 D.slot, .int .i64 D.by', .int .i64 D.rdy] 57 (0, 0))
  own : ∃ a n c, wr.heap[w.heap.size + 1]? = some (.cells #[.slice a n c, .int .i64 x.fu, .bool x.up, .int .i64 x.n, .int .i64 x.hv] 50 (0, 0)) ∧ BW wr a n c x.ws
/-- The unit behind p words. -/
def PSt (ws image : List Int) (t : Nat) (N : Int) (p : Nat) (x : Un) : Prop := (p = 0 ∧ x = ⟨ws, -1, true, 0, 0⟩) ∨ (0 < p ∧ Has ws image t N p x)
theorem piece_any {ss : List ByteArray} {ws image : List Int} {t : Nat} {n name : Int} (hA : Ahead ss ws image t n name) {p q : Nat} {x : Un} (hx : PSt ws image t n p x) (hp : p < q) (hq : q ≤ image.length) (h8 : q ≤ p + 8) : ∃ y, hearA ss x (pieM n image p q) = (y, [], 0) ∧ Has ws image t n q y := by
  rcases hx with ⟨rfl, rfl⟩ | ⟨h0, h⟩
  · exact piece_first hA hp hq (by omega)
  · exact piece_next hA h h0 (by omega) hq h8
theorem ints_big4 {w : World} {a : Option Addr} {xs : List Int} {b : Nat} {cs : Array Value} {t : TypeId} (h : IsInts w a xs) (hb : w.heap[b]? = some (.cells cs t (0, 0))) (hs : cs.size < xs.length) : Off b a := by
  rcases h with h | ⟨g, off, rfl, hi⟩
  · subst h; simp at hs
  · intro ad e
    cases e
    intro hgb
    have hgb : g = b := hgb
    subst hgb
    have hc := hi (xs.length - 1) (by omega)
    rw [cell_of_row w g (off + (xs.length - 1)) cs t (0, 0) hb, Array.getElem?_eq_none (by omega)] at hc
    cases hc
/-- Stored. -/
theorem PBx.next {w : World} {S : Nat} {ab : Option Addr} {nb cb : Nat} {D : Us} {x y : Un} {wr w5 : World} {a5 : Option Addr} {n5 c5 : Nat} (h : PBx w S ab nb cb D x wr) (hS : S ≠ w.heap.size + 1)
    (hb : Below wr.heap.size wr w5) (hbw : BW w5 a5 n5 c5 y.ws) (hl : y.ws.length = 192) :
    PBx w S ab nb cb D y (((((w5.setCell ⟨w.heap.size + 1, 0, none⟩ (.slice a5 n5 c5)).setCell ⟨w.heap.size + 1, 1, none⟩ (.int .i64 y.fu)).setCell ⟨w.heap.size + 1, 2, none⟩ (.bool y.up)).setCell ⟨w.heap.size + 1, 3, none⟩ (.int .i64 y.n)).setCell ⟨w.heap.size + 1, 4, none⟩ (.int .i64 y.hv)) := by
  obtain ⟨a, n, c, hub, _⟩ := h.own
  have hub5 := blk_below hub hb
  have hT := turns_set (turns_set (turns_set (turns_set (turns_set (World.grownBy.refl w5 (some (w.heap.size + 1))) 0 (.slice a5 n5 c5)) 1 (.int .i64 y.fu)) 2 (.bool y.up)) 3 (.int .i64 y.n)) 4 (.int .i64 y.hv)
  have hoff : Off (w.heap.size + 1) a5 := ints_big4 hbw.at_ hub5 (by rw [hl]; show (5 : Nat) < 192; decide)
  have hb5 := h.bel.trans (hb.mono h.bel.size)
  exact ⟨turns_below hb5 hT (by omega) hb5.size, blk_turns (blk_below h.bk hb) hT (by omega), blk_turns (blk_below h.bs hb) hT hS, ⟨a5, n5, c5, un_set5 (u := x) (t := y) hub5, hbw.turns hT hoff⟩⟩
theorem PBx.below {w : World} {S : Nat} {ab : Option Addr} {nb cb : Nat} {D : Us} {x : Un} {wr w5 : World} (h : PBx w S ab nb cb D x wr) (hb : Below wr.heap.size wr w5) : PBx w S ab nb cb D x w5 := by
  obtain ⟨a, n, c, hub, hbw⟩ := h.own
  exact ⟨h.bel.trans (hb.mono h.bel.size), blk_below h.bk hb, blk_below h.bs hb, ⟨a, n, c, blk_below hub hb, hbw.below hb⟩⟩

set_option maxRecDepth 100000 in
set_option maxHeartbeats 51200000 in
theorem unitPieces_walk (HUn : ∀ W : World, Tab W → Calls Tryz.prog 28 #[] W fun e w' => e = .returned (.bool true) ∧ Below W.heap.size W w')
    (ab : Option Addr) (nb cb : Nat) (ss : List ByteArray) (u : Un) (a : Option Addr) (n c : Nat) (nn : Int) (ai : Option Addr) (ni ci : Nat) (image : List Int) (ac : Option Addr) (nc cc : Nat) (cuts : List Int) (w : World) (hB : BB w ab nb cb ss) (hT : Tab w) (hU : BW w a n c u.ws) (hnn : -9223372036854775808 ≤ nn ∧ nn ≤ 9223372036854775807)
    (hI : BI w ai ni image) (hci : ni ≤ ci) (hC : BI w ac nc cuts) (hcw : ∀ x ∈ cuts, -9223372036854775808 ≤ x ∧ x ≤ 9223372036854775807) :
    Calls Tryz.prog 8 #[bookv ab nb cb, unv u a n c, .int .i64 nn, .slice ai ni ci, .slice ac nc cc] w fun e w' => e = .returned (.bool true) ∧ Below w.heap.size w w' := by
  obtain ⟨v, hv⟩ : ∃ v, v = fuU u (-1) := ⟨_, rfl⟩
  have hw : Below w.heap.size w ((w.alloc (.cells #[.slice ab nb cb] 46)).alloc (.cells #[.slice a n c, .int .i64 (-1), .bool u.up, .int .i64 u.n, .int .i64 u.hv] 50)) := ((Below.refl w.heap.size w).alloc (Nat.le_refl _) _).alloc (by simp) _
  have hV : BW w a n c v.ws := by rw [hv]; exact hU
  have hF : Hid (v.fu = -1) := by rw [hv]; exact hide rfl
  have HD := hide (fun W (hW : Below w.heap.size w W) => unitRead_any v a n c W (hV.below hW))
  have HBt := hide (fun W (hW : Below w.heap.size w W) => unitBoot_any v a n c W (hV.below hW))
  have HG := hide (fun x ax nx cx m am nm cm W (hW : Below w.heap.size w W) (hx : BW W ax nx cx x.ws) (hm : BI W am nm m.ws) => unitHear_any ab nb cb ss x ax nx cx m am nm cm W (hB.below hW) (hT.below hW) hx hm)
  have HN := hide (fun W (hW : Below w.heap.size w W) => imageName_any ab nb cb ss ai ni ci image W (hB.below hW).at_ hB.len hB.cap hB.max hB.short (hI.below hW).at_ hI.len hI.max (hT.below hW))
  have HUn' := hide (fun W (hW : Below w.heap.size w W) => HUn W (hT.below hW))
  have HIm := hide (fun W (hW : Below w.heap.size w W) => (hI.below hW))
  have HCu := hide (fun W (hW : Below w.heap.size w W) => (hC.below hW))
  have b0 : Hid (((w.alloc (.cells #[.slice ab nb cb] 46)).alloc (.cells #[.slice a n c, .int .i64 (-1), .bool u.up, .int .i64 u.n, .int .i64 u.hv] 50)).heap[w.heap.size]? = some (.cells #[.slice ab nb cb] 46 (0, 0))) := blk_alloc (heap_alloc_last _ _) _
  have b1 : Hid (((w.alloc (.cells #[.slice ab nb cb] 46)).alloc (.cells #[.slice a n c, .int .i64 (-1), .bool u.up, .int .i64 u.n, .int .i64 u.hv] 50)).heap[w.heap.size + 1]? = some (.cells #[.slice a n c, .int .i64 v.fu, .bool v.up, .int .i64 v.n, .int .i64 v.hv] 50 (0, 0))) := by rw [hv]; exact uLast1 _ _ _
  have hIl := hide hI.len
  have hImx := hI.max
  have hCl := hide hC.len
  have hCmx := hC.max
  have HCW := hide hcw
  have HVW := hide hV
  clear hV hB hT hU hI hC HUn hv hcw
  unfold bookv unv at *
  have E1 := hide (fun h => uReadS_e (u := v) h)
  have E2 := hide (fun h => uReadS_0 (u := v) h)
  obtain ⟨D, hD⟩ : ∃ D, D = uReadS v := ⟨_, rfl⟩
  rw [← hD] at HD E1 E2
  clear hD
  unfold usv at *
  obtain ⟨en, hen⟩ : ∃ en, en = inE ss image := ⟨_, rfl⟩
  obtain ⟨nm, hnm⟩ : ∃ nm, nm = inN ss image := ⟨_, rfl⟩
  rw [← hen, ← hnm] at HN
  have HEN := hide hen
  have HNM := hide hnm
  clear hen hnm
  go_enter Tryz.func8, Tryz.ntmps8
  go_upto_region 2 with fail
  generalize (w.alloc (.cells #[.slice ab nb cb] 46)).alloc (.cells #[.slice a n c, .int .i64 (-1), .bool u.up, .int .i64 u.n, .int .i64 u.hv] 50) = W at *
  have b1_0 := blk_cell b1.out 0 _ rfl
  have b1_1 := blk_cell b1.out 1 _ rfl
  have b1_2 := blk_cell b1.out 2 _ rfl
  have b1_3 := blk_cell b1.out 3 _ rfl
  have b1_4 := blk_cell b1.out 4 _ rfl
  go_wp2_with fail
  refine (unhide HD _ hw).mono ?_
  rintro e w1 ⟨rfl, hb⟩
  clear b1_0 b1_1 b1_2 b1_3 b1_4
  replace b0 := hide (blk_below b0.out hb)
  replace b1 := hide (blk_below b1.out hb)
  replace hw := hw.trans (hb.mono hw.size)
  clear hb HD
  have hbA : Below w1.heap.size w1 (w1.alloc (.cells #[.int .i64 D.1.slot, .int .i64 D.1.by', .int .i64 D.1.rdy] 57)) := (Below.refl _ _).alloc (Nat.le_refl _) _
  have bS := hide (heap_alloc_last w1 (.cells #[.int .i64 D.1.slot, .int .i64 D.1.by', .int .i64 D.1.rdy] 57))
  have hSX : w1.heap.size ≠ w.heap.size + 1 := Nat.ne_of_gt (blk_lt b1.out)
  replace b0 := hide (blk_below b0.out hbA)
  replace b1 := hide (blk_below b1.out hbA)
  replace hw := hw.trans (hbA.mono hw.size)
  clear hbA
  go_upto_region 3 with fail
  generalize w1.heap.size = S at *
  generalize w1.alloc (.cells #[.int .i64 D.1.slot, .int .i64 D.1.by', .int .i64 D.1.rdy] 57) = W1 at *
  have b0_0 := blk_cell b0.out 0 _ rfl
  go_wp2_with fail
  refine (unhide HN _ hw).mono ?_
  rintro e w2 ⟨rfl, hb⟩
  clear b0_0
  replace b0 := hide (blk_below b0.out hb)
  replace b1 := hide (blk_below b1.out hb)
  replace bS := hide (blk_below bS.out hb)
  replace hw := hw.trans (hb.mono hw.size)
  clear hb HN
  go_wp2_with fail
  refine (unhide HUn' _ hw).mono ?_
  rintro e w3 ⟨rfl, hb⟩
  replace b0 := hide (blk_below b0.out hb)
  replace b1 := hide (blk_below b1.out hb)
  replace bS := hide (blk_below bS.out hb)
  replace hw := hw.trans (hb.mono hw.size)
  clear hb
  by_cases z1 : D.2 = 0
  rotate_left
  · have d1 : (D.2 != 0) = true := by simpa using z1
    clear z1
    go_wp2_with fail
    refine (unhide HUn' _ hw).mono ?_
    rintro e w6 ⟨rfl, hb⟩
    go_wp2_with fail
    go_ret
    exact ⟨rfl, hw.trans (hb.mono hw.size)⟩
  have d1 : (D.2 != 0) = false := by simpa using z1
  by_cases z2 : en = 0
  rotate_left
  · have d2 : (en != 0) = true := by simpa using z2
    clear z1 z2
    go_wp2_with fail
    refine (unhide HUn' _ hw).mono ?_
    rintro e w6 ⟨rfl, hb⟩
    go_wp2_with fail
    go_ret
    exact ⟨rfl, hw.trans (hb.mono hw.size)⟩
  have d2 : (en != 0) = false := by simpa using z2
  by_cases z3 : nm = 0
  · have d3 : (nm == 0) = true := by simpa using z3
    clear z1 z2 z3
    go_wp2_with fail
    refine (unhide HUn' _ hw).mono ?_
    rintro e w6 ⟨rfl, hb⟩
    go_wp2_with fail
    go_ret
    exact ⟨rfl, hw.trans (hb.mono hw.size)⟩
  have d3 : (nm == 0) = false := by simpa using z3
  have bS_1 := blk_cell bS.out 1 _ rfl
  have bS_2 := blk_cell bS.out 2 _ rfl
  have b1_2 := blk_cell b1.out 2 _ rfl
  by_cases z4 : D.1.rdy = 0
  rotate_left
  · have d4 : (D.1.rdy != 0) = true := by simpa using z4
    clear z1 z2 z3 z4
    go_wp2_with fail
    refine (unhide HUn' _ hw).mono ?_
    rintro e w6 ⟨rfl, hb⟩
    go_wp2_with fail
    go_ret
    exact ⟨rfl, hw.trans (hb.mono hw.size)⟩
  have d4 : (D.1.rdy != 0) = false := by simpa using z4
  by_cases z5 : D.1.by' < 8
  rotate_left
  · have d5 : (8 : Int) ≤ D.1.by' := by omega
    clear z1 z2 z3 z4 z5
    go_wp2_with fail
    refine (unhide HUn' _ hw).mono ?_
    rintro e w6 ⟨rfl, hb⟩
    go_wp2_with fail
    go_ret
    exact ⟨rfl, hw.trans (hb.mono hw.size)⟩
  cases z6 : v.up
  · rw [z6] at b1_2
    have z5' : ¬ (8 : Int) ≤ D.1.by' := by omega
    clear z1 z2 z3 z4 z6
    go_wp2_with fail
    refine (unhide HUn' _ hw).mono ?_
    rintro e w6 ⟨rfl, hb⟩
    go_wp2_with fail
    go_ret
    exact ⟨rfl, hw.trans (hb.mono hw.size)⟩
  rw [z6] at b1_2
  have hE : unE v = 0 := by
    rcases Decidable.em (unE v = 0) with h | h
    · exact h
    · have := E1.out h; rw [this] at z1; exact absurd z1 h
  have hs : D.1 = stOf v.ws := by rw [E2.out hE]
  obtain ⟨vk, vl, -⟩ := unE_ok hE
  rw [hF.out] at vk
  have hby : 0 ≤ D.1.by' := by rw [hs]; exact stOf_by vk
  have hsl := stOf_slot vk
  rw [← hs] at hsl
  have HAt := hide (fun W => at_any nn (8 - D.1.by') W (by omega) (by omega) hnn)
  have r0 := Int.emod_nonneg nn (show 8 - D.1.by' ≠ 0 by omega)
  have r1 := Int.emod_lt_of_pos nn (show 0 < 8 - D.1.by' by omega)
  generalize nn % (8 - D.1.by') = r at *
  obtain ⟨N, hN⟩ : ∃ N, N = D.1.by' + 1 + r := ⟨_, rfl⟩
  obtain ⟨t, ht⟩ : ∃ t : Nat, (t : Int) = 1 - D.1.slot := ⟨(1 - D.1.slot).toNat, by omega⟩
  have himg : imgE image = 0 ∧ bookE ss = 0 := by
    have := HEN.out
    rw [z2] at this
    unfold inE at this
    split at this
    · rename_i h; exact ⟨h, this.symm⟩
    · rename_i h; exact absurd this.symm h
  have hA : Ahead ss v.ws image t N nm := ⟨himg.2, vk, vl, by rw [ht, hs]; rfl, himg.1, by rw [← hs]; exact z4, by rw [← hs]; omega, by omega, by omega, HNM.out.symm, z3⟩
  have HA := hide hA
  have HSD := hide hs
  have hIw := hA.words
  rw [hIl.out] at hIw
  have hI1 : 1 ≤ ni := hIw.1.1
  have hI40 : ni ≤ 40 := hIw.1.2
  have hN1 : 1 ≤ N := hA.lo1
  have hN8 : N ≤ 8 := hA.hi
  have hT1 : Hid ((t : Int) = 1 - D.1.slot) := ht
  rw [bootS_0 hE] at HBt
  have z5' : ¬ (8 : Int) ≤ D.1.by' := by omega
  clear z1 z2 z3 z4 z6 hE hs vk himg hA hIw hnn E1 E2 ht HEN
  go_upto_region 6 with fail
  have hNw : D.1.by' + 1 + r = N := hN.symm
  clear hN
  go_quiet ((go_at_call 25; refine Calls.quiet_of_same (unhide HAt _)))
  go_upto_region 7 with fail
  have hbq : Below w3.heap.size w3 (w3.drewN nq) := below_drewN (Below.refl _ _) nq
  clear z5' HAt bS_1 bS_2 b1_2 r0 r1 z5
  replace b0 := hide (blk_below b0.out hbq)
  replace b1 := hide (blk_below b1.out hbq)
  replace bS := hide (blk_below bS.out hbq)
  replace hw := hw.trans (hbq.mono hw.size)
  clear hbq
  generalize w3.drewN nq = W3 at *
  have b1_0 := blk_cell b1.out 0 _ rfl
  have b1_1 := blk_cell b1.out 1 _ rfl
  have b1_2 := blk_cell b1.out 2 _ rfl
  have b1_3 := blk_cell b1.out 3 _ rfl
  have b1_4 := blk_cell b1.out 4 _ rfl
  have P0 := hide (show PBx w S ab nb cb D.1 v W3 from ⟨hw, b0.out, bS.out, ⟨a, n, c, b1.out, HVW.out.below hw⟩⟩)
  go_wp2_with fail
  refine (unhide HBt _ hw).mono ?_
  rintro e w4 ⟨⟨a4, n4, c4, rfl, hb4⟩, hb⟩
  clear b1_0 b1_1 b1_2 b1_3 b1_4
  have NX := hide (P0.out.next (y := ⟨v.ws, -1, true, 0, 0⟩) hSX hb hb4 vl)
  replace b1 := hide (blk_below b1.out hb)
  clear hb hb4 HBt b0 bS P0 hw
  unfold unv
  dsimp only
  have b1_0 := blk_cell b1.out 0 _ rfl
  have b1_1 := blk_cell b1.out 1 _ rfl
  have b1_2 := blk_cell b1.out 2 _ rfl
  have b1_3 := blk_cell b1.out 3 _ rfl
  have b1_4 := blk_cell b1.out 4 _ rfl
  have f1_0 := blk_free b1.out 0
  have f1_1 := blk_free b1.out 1
  have f1_2 := blk_free b1.out 2
  have f1_3 := blk_free b1.out 3
  have f1_4 := blk_free b1.out 4
  go_upto_region 8 with fail
  clear b1_0 b1_1 b1_2 b1_3 b1_4 f1_0 f1_1 f1_2 f1_3 f1_4
  generalize ((((w4.setCell ⟨w.heap.size + 1, 0, none⟩ (.slice a4 n4 c4)).setCell ⟨w.heap.size + 1, 1, none⟩ (.int .i64 (-1))).setCell ⟨w.heap.size + 1, 2, none⟩ (.bool true)).setCell ⟨w.heap.size + 1, 3, none⟩ (.int .i64 0)).setCell ⟨w.heap.size + 1, 4, none⟩ (.int .i64 0) = W5 at *
  clear b1
  go_wp2_with fail
  obtain ⟨bi, oi, rfl⟩ : ∃ b off, ai = some ⟨b, off, none⟩ := by
    rcases (unhide HIm _ (Below.refl _ _)).at_ with e | ⟨b, off, e, _⟩
    · have := hIl.out; rw [e] at this; simp at this; omega
    · exact ⟨b, off, e⟩
  go_loopw [15, 16] (fun v15 v16 wr => ∃ (p k : Nat) (x : Un), p ≤ ni ∧ k ≤ p ∧ v15 = .int .i64 p ∧ v16 = .int .i64 k ∧ Hid (PBx w S ab nb cb D.1 x wr) ∧ Hid (PSt v.ws image t N p x)) (fun v15 _ _ => ni - (intOf v15).toNat)
  case atStart => exact ⟨0, 0, _, Nat.zero_le _, Nat.le_refl _, rfl, rfl, NX, .inl ⟨rfl, rfl⟩⟩
  case round =>
    clear NX
    obtain ⟨wq, rfl⟩ : ∃ wq : World, wq = wr := ⟨_, rfl⟩
    obtain ⟨p, k, x, hp, hk, rfl, rfl, hP, hSt⟩ := hrel
    by_cases hlt : p < ni
  
    rotate_left
    · have hpn : p = ni := by omega
      have hge : ¬ ((p : Int) < (ni : Int)) := by omega
      have hx : Has v.ws image t N image.length x := by
        rw [hIl.out, ← hpn]
        rcases hSt.out with ⟨h0, -⟩ | ⟨-, h⟩
        · omega
        · exact h
      obtain ⟨y, hyE, hor⟩ := prepare_all HA.out hx
      obtain ⟨ax, nx, cx, hub, hbw⟩ := hP.out.own
      have HH := hide (unhide HG x ax nx cx (preM N image nm) none 0 0 wq hP.out.bel hbw ⟨.inl rfl, rfl, by decide⟩)
      have hw := hP.out.bel
      have b0 := hide hP.out.bk
      have bS := hide hP.out.bs
      have bU := hide hub
      clear hP hSt hx hub hbw hpn
      rcases hor with hh | ⟨hh, hr, him⟩
      · rw [hh] at HH
        clear hh
        unfold msv preM at HH
        rw [hIl.out] at HH
        dsimp only at HH
        have b0_0 := blk_cell b0.out 0 _ rfl
        have bU_0 := blk_cell bU.out 0 _ rfl
        have bU_1 := blk_cell bU.out 1 _ rfl
        have bU_2 := blk_cell bU.out 2 _ rfl
        have bU_3 := blk_cell bU.out 3 _ rfl
        have bU_4 := blk_cell bU.out 4 _ rfl
        go_wp2_with fail
        refine (unhide HH).mono ?_
        rintro e w5 ⟨⟨a5, n5, c5, al, nl, cl, rfl, hbw5, hms, hl, hcl, hcl1⟩, hb⟩
        have B5 := hide hbw5
        have ML := hide hms
        clear b0_0 bU_0 bU_1 bU_2 bU_3 bU_4
        replace bS := hide (blk_below bS.out hb)
        replace hw := hw.trans (hb.mono hw.size)
        clear hb hbw5 hms HH b0 bU
        unfold unv
        dsimp only
        obtain rfl : nl = 0 := hl.symm
        go_wp2_with fail
        go_ret
        exact ⟨rfl, hw.alloc hw.size _⟩
      rw [hh] at HH
      have HRr := hide hr
      have HIM := hide him
      clear hh hr him
      unfold msv preM at HH
      rw [hIl.out] at HH
      dsimp only at HH
      have b0_0 := blk_cell b0.out 0 _ rfl
      have bU_0 := blk_cell bU.out 0 _ rfl
      have bU_1 := blk_cell bU.out 1 _ rfl
      have bU_2 := blk_cell bU.out 2 _ rfl
      have bU_3 := blk_cell bU.out 3 _ rfl
      have bU_4 := blk_cell bU.out 4 _ rfl
      go_wp2_with fail
      refine (unhide HH).mono ?_
      rintro e w5 ⟨⟨a5, n5, c5, al, nl, cl, rfl, hbw5, hms, hl, hcl, hcl1⟩, hb⟩
      have B5 := hide hbw5
      have ML := hide hms
      clear b0_0 bU_0 bU_1 bU_2 bU_3 bU_4
      replace bS := hide (blk_below bS.out hb)
      replace hw := hw.trans (hb.mono hw.size)
      clear hb hbw5 hms HH b0 bU
      unfold unv
      dsimp only
      obtain rfl : nl = 1 := hl.symm
      obtain ⟨bl, rfl, hcs⟩ : ∃ bl, al = some ⟨bl, 0, none⟩ ∧ _ := ML.out.resolve_left (by simp)
      have q6 : w5.cell? ⟨bl, 6, none⟩ = some (.bool true) := (hcs 0 _ rfl).2.2.2.2.2.2.2
      have Q6 := hide q6
      clear q6 hcs ML
      have hbA : Below w5.heap.size w5 (w5.alloc (.cells #[.slice a5 n5 c5, .int .i64 y.fu, .bool y.up, .int .i64 y.n, .int .i64 y.hv] 50)) := (Below.refl _ _).alloc (Nat.le_refl _) _
      have bY := hide (heap_alloc_last w5 (.cells #[.slice a5 n5 c5, .int .i64 y.fu, .bool y.up, .int .i64 y.n, .int .i64 y.hv] 50))
      replace Q6 := hide ((hbA.cell (cell_lt Q6.out)).trans Q6.out)
      replace bS := hide (blk_below bS.out hbA)
      replace B5 := hide (B5.out.below hbA)
      replace hw := hw.trans (hbA.mono hw.size)
      clear hbA
      go_upto_region 26 with fail
      generalize w5.heap.size = Y at *
      generalize w5.alloc (.cells #[.slice a5 n5 c5, .int .i64 y.fu, .bool y.up, .int .i64 y.n, .int .i64 y.hv] 50) = W6 at *
      have HDy := hide (fun W (hW : BW W a5 n5 c5 y.ws) => unitRead_any y a5 n5 c5 W hW)
      rw [uReadS_0 hyE] at HDy
      obtain ⟨r2, hr2⟩ : ∃ r2, r2 = stOf y.ws := ⟨_, rfl⟩
      rw [← hr2] at HDy HRr
      unfold unv usv at HDy
      have g1 : (r2.rdy == N) = true := by simpa using HRr.out
      clear hr2 HRr
      have bY_0 := blk_cell bY.out 0 _ rfl
      have bY_1 := blk_cell bY.out 1 _ rfl
      have bY_2 := blk_cell bY.out 2 _ rfl
      have bY_3 := blk_cell bY.out 3 _ rfl
      have bY_4 := blk_cell bY.out 4 _ rfl
      go_wp2_with fail
      refine (unhide HDy _ B5.out).mono ?_
      rintro e w7 ⟨rfl, hb⟩
      replace Q6 := hide ((hb.cell (cell_lt Q6.out)).trans Q6.out)
      clear bY_0 bY_1 bY_2 bY_3 bY_4
      replace bS := hide (blk_below bS.out hb)
      replace bY := hide (blk_below bY.out hb)
      replace B5 := hide (B5.out.below hb)
      replace hw := hw.trans (hb.mono hw.size)
      clear hb HDy
      have hbA : Below w7.heap.size w7 (w7.alloc (.cells #[.int .i64 r2.slot, .int .i64 r2.by', .int .i64 r2.rdy] 57)) := (Below.refl _ _).alloc (Nat.le_refl _) _
      have bR := hide (heap_alloc_last w7 (.cells #[.int .i64 r2.slot, .int .i64 r2.by', .int .i64 r2.rdy] 57))
      replace Q6 := hide ((hbA.cell (cell_lt Q6.out)).trans Q6.out)
      replace bS := hide (blk_below bS.out hbA)
      replace bY := hide (blk_below bY.out hbA)
      replace B5 := hide (B5.out.below hbA)
      replace hw := hw.trans (hbA.mono hw.size)
      clear hbA
      go_upto_region 31 with fail
      generalize w7.heap.size = R at *
      generalize w7.alloc (.cells #[.int .i64 r2.slot, .int .i64 r2.by', .int .i64 r2.rdy] 57) = W8 at *
      have HIy := hide (image_any a5 n5 c5 y.ws y.fu (1 - D.1.slot) W8 B5.out.at_ B5.out.len B5.out.max B5.out.cap)
      rw [← hT1.out, HIM.out, hT1.out] at HIy
      have hs0 := hsl.1
      have hs1 := hsl.2
      have bY_0 := blk_cell bY.out 0 _ rfl
      have bY_1 := blk_cell bY.out 1 _ rfl
      have bS_0 := blk_cell bS.out 0 _ rfl
      go_wp2_with fail
      refine (unhide HIy).mono ?_
      rintro e w9 ⟨⟨ao, no, co, rfl, hio, hlo, hco, -⟩, hb⟩
      have IOo := hide hio
      replace Q6 := hide ((hb.cell (cell_lt Q6.out)).trans Q6.out)
      have hno : Hid (image.length = no) := hlo
      clear bY_0 bY_1 bS_0
      replace bR := hide (blk_below bR.out hb)
      replace hw := hw.trans (hb.mono hw.size)
      clear hb hio hlo HIy
      dsimp only
      have hEq := hide (equal_at ao (some ⟨bi, oi, none⟩) no ni co ci image image true w9 IOo.out (unhide HIm _ hw).at_ hno.out hIl.out (by unfold eqL; simp) (by rw [← hno.out, hIl.out]; exact hImx) hImx)
      have q6 := Q6.out
      have bR_2 := blk_cell bR.out 2 _ rfl
      go_wp2_with fail
      refine (unhide hEq).mono ?_
      rintro e wz ⟨rfl, nz, rfl⟩
      go_wp2_with fail
      go_ret
      exact ⟨rfl, below_drewN hw nz⟩
    by_cases hc0 : nc = 0
    · subst hc0
      obtain ⟨s8, hs8⟩ : ∃ s8, s8 = p + 8 := ⟨_, rfl⟩
      have hwrap : IntKind.i64.wrap ((p : Int) + 8) = (s8 : Int) := by rw [IntKind.wrap_i64]; omega
      by_cases c8 : s8 ≤ ni
      · have hmin : min (s8 : Int) (ni : Int) = (s8 : Int) := by omega
        have hq1 : p < s8 := by omega
        have hq2 : s8 ≤ ni := c8
        have hq3 : s8 ≤ p + 8 := by omega
        clear hs8
        have z1 : (p : Int) ≤ (s8 : Int) := by omega
        have z2 : (s8 : Int) ≤ (ci : Int) := by omega
        have z3 : ¬ ci = p := by omega
        go_upto_region 18 with fail
        have hbM : Below wq.heap.size wq (wq.alloc (.cells #[.int .i64 1, .int .i64 0, .int .i64 N, .int .i64 (p : Int), .int .i64 0, .slice (some ⟨bi, oi + p, none⟩) (s8 - p) (ci - p), .bool false] 52)) := (Below.refl _ _).alloc (Nat.le_refl _) _
        have bM := hide (heap_alloc_last wq (.cells #[.int .i64 1, .int .i64 0, .int .i64 N, .int .i64 (p : Int), .int .i64 0, .slice (some ⟨bi, oi + p, none⟩) (s8 - p) (ci - p), .bool false] 52))
        have PM := hide (hP.out.below hbM)
        have hMX : wq.heap.size ≠ w.heap.size + 1 := by obtain ⟨a', n', c', h', _⟩ := hP.out.own; exact Nat.ne_of_gt (blk_lt h')
        clear hbM hP
        generalize hMe : wq.heap.size = M at *
        generalize wq.alloc (.cells #[.int .i64 1, .int .i64 0, .int .i64 N, .int .i64 (p : Int), .int .i64 0, .slice (some ⟨bi, oi + p, none⟩) (s8 - p) (ci - p), .bool false] 52) = WM at *
        clear hMe
        obtain ⟨kr, hkr⟩ : ∃ kr, kr = k % 2 := ⟨_, rfl⟩
        have hkr1 : kr ≤ 1 := by omega
        have ht2 : (k : Int).tmod 2 = (kr : Int) := by rw [Int.tmod_eq_emod_of_nonneg (by omega)]; omega
        obtain ⟨B2, hB2⟩ : ∃ B2, B2 = 1 + kr := ⟨_, rfl⟩
        have hb2 : (1 : Int) + (kr : Int) = (B2 : Int) := by omega
        have hB22 : B2 ≤ 2 := by omega
        have HB2 : Hid (1 ≤ B2) := by show 1 ≤ B2; omega
        clear hkr hB2
        go_wp2_with fail
        go_loopw [118] (fun v118 wi => ∃ (i : Nat) (y : Un), i ≤ B2 ∧ v118 = .int .i64 i ∧ Hid (PBx w S ab nb cb D.1 y wi) ∧ Hid (wi.heap[M]? = some (.cells #[.int .i64 1, .int .i64 0, .int .i64 N, .int .i64 (p : Int), .int .i64 0, .slice (some ⟨bi, oi + p, none⟩) (s8 - p) (ci - p), .bool false] 52 (0, 0))) ∧ Hid ((i = 0 ∧ y = x) ∨ (0 < i ∧ Has v.ws image t N s8 y))) (fun v118 _ => B2 - (intOf v118).toNat)
        case atStart => exact ⟨0, x, Nat.zero_le _, rfl, PM, bM, .inl ⟨rfl, rfl⟩⟩
        case round =>
          clear PM bM ht2
          obtain ⟨wj, rfl⟩ : ∃ wj : World, wj = wr := ⟨_, rfl⟩
          obtain ⟨i, y, hi, rfl, hPy, bMy, hsy⟩ := hrel
          by_cases hli : i < B2
          · obtain ⟨y', hy1, hy2⟩ : ∃ y', hearA ss y (pieM N image p s8) = (y', [], 0) ∧ Has v.ws image t N s8 y' := by
              rcases hsy.out with ⟨-, rfl⟩ | ⟨-, h⟩
              · exact piece_any HA.out hSt.out hq1 (by rw [hIl.out]; exact hq2) hq3
              · exact ⟨y, piece_again HA.out h hq1 (by rw [hIl.out]; exact hq2) hq3, h⟩
            obtain ⟨ay, ny, cy, hub, hbw⟩ := hPy.out.own
            have HH := hide (unhide HG y ay ny cy (pieM N image p s8) (some ⟨bi, oi + p, none⟩) (s8 - p) (ci - p) wj hPy.out.bel hbw ⟨((unhide HIm _ hPy.out.bel).at_.drop p).take (s8 - p), by show ((image.drop p).take (s8 - p)).length = s8 - p; simp; rw [hIl.out]; omega, by omega⟩)
            rw [hy1] at HH
            unfold msv pieM at HH
            dsimp only at HH
            have HY2 := hide hy2
            have UB := hide hub
            have k0 := blk_cell hPy.out.bk 0 _ rfl
            have u0 := blk_cell hub 0 _ rfl
            have u1 := blk_cell hub 1 _ rfl
            have u2 := blk_cell hub 2 _ rfl
            have u3 := blk_cell hub 3 _ rfl
            have u4 := blk_cell hub 4 _ rfl
            have m0 := blk_cell bMy.out 0 _ rfl
            have m1 := blk_cell bMy.out 1 _ rfl
            have m2 := blk_cell bMy.out 2 _ rfl
            have m3 := blk_cell bMy.out 3 _ rfl
            have m4 := blk_cell bMy.out 4 _ rfl
            have m5 := blk_cell bMy.out 5 _ rfl
            have m6 := blk_cell bMy.out 6 _ rfl
            clear hy1 hy2 hub hbw hsy
            go_wp2_with fail
            refine (unhide HH).mono ?_
            rintro e w5 ⟨⟨a5, n5, c5, am5, nm5, cm5, rfl, hbw5, -, -, -, -⟩, hb5⟩
            have NX := hide (hPy.out.next hSX hb5 hbw5 HY2.out.fld.len)
            have bM5 := hide (blk_turns (blk_below bMy.out hb5) (turns_set (turns_set (turns_set (turns_set (turns_set (World.grownBy.refl w5 (some (w.heap.size + 1))) 0 (.slice a5 n5 c5)) 1 (.int .i64 y'.fu)) 2 (.bool y'.up)) 3 (.int .i64 y'.n)) 4 (.int .i64 y'.hv)) hMX)
            have UB5 := hide (blk_below UB.out hb5)
            clear HH k0 u0 u1 u2 u3 u4 m0 m1 m2 m3 m4 m5 m6 hbw5 hb5 hPy bMy UB
            have u0 := blk_cell UB5.out 0 _ rfl
            have u1 := blk_cell UB5.out 1 _ rfl
            have u2 := blk_cell UB5.out 2 _ rfl
            have u3 := blk_cell UB5.out 3 _ rfl
            have u4 := blk_cell UB5.out 4 _ rfl
            have v0 := blk_free UB5.out 0
            have v1 := blk_free UB5.out 1
            have v2 := blk_free UB5.out 2
            have v3 := blk_free UB5.out 3
            have v4 := blk_free UB5.out 4
            unfold unv
            dsimp only
            go_wp2_with fail
            go_roundw
            case rel => exact ⟨i + 1, y', by omega, by go_num, NX, bM5, .inr ⟨by omega, HY2.out⟩⟩
            case measure => simp [intOf]; omega
          · have hyq : Hid (Has v.ws image t N s8 y) := by
              rcases hsy.out with ⟨h0, -⟩ | ⟨-, h⟩
              · have := HB2.out; omega
              · exact h
            have hge : ¬ ((i : Int) < (B2 : Int)) := by omega
            clear hsy
            go_wp2_with fail
            go_roundw
            case rel => exact ⟨s8, k + 1, y, hq2, by omega, rfl, by go_num, hPy, .inr ⟨by omega, hyq.out⟩⟩
            case measure => simp [intOf]; omega
      · have hmin : min (s8 : Int) (ni : Int) = (ni : Int) := by omega
        have hq1 : p < ni := hlt
        have hq2 : ni ≤ ni := Nat.le_refl _
        have hq3 : ni ≤ p + 8 := by omega
        clear hs8
        have z1 : (p : Int) ≤ (ni : Int) := by omega
        have z2 : (ni : Int) ≤ (ci : Int) := by omega
        have z3 : ¬ ci = p := by omega
        go_upto_region 18 with fail
        have hbM : Below wq.heap.size wq (wq.alloc (.cells #[.int .i64 1, .int .i64 0, .int .i64 N, .int .i64 (p : Int), .int .i64 0, .slice (some ⟨bi, oi + p, none⟩) (ni - p) (ci - p), .bool false] 52)) := (Below.refl _ _).alloc (Nat.le_refl _) _
        have bM := hide (heap_alloc_last wq (.cells #[.int .i64 1, .int .i64 0, .int .i64 N, .int .i64 (p : Int), .int .i64 0, .slice (some ⟨bi, oi + p, none⟩) (ni - p) (ci - p), .bool false] 52))
        have PM := hide (hP.out.below hbM)
        have hMX : wq.heap.size ≠ w.heap.size + 1 := by obtain ⟨a', n', c', h', _⟩ := hP.out.own; exact Nat.ne_of_gt (blk_lt h')
        clear hbM hP
        generalize hMe : wq.heap.size = M at *
        generalize wq.alloc (.cells #[.int .i64 1, .int .i64 0, .int .i64 N, .int .i64 (p : Int), .int .i64 0, .slice (some ⟨bi, oi + p, none⟩) (ni - p) (ci - p), .bool false] 52) = WM at *
        clear hMe
        obtain ⟨kr, hkr⟩ : ∃ kr, kr = k % 2 := ⟨_, rfl⟩
        have hkr1 : kr ≤ 1 := by omega
        have ht2 : (k : Int).tmod 2 = (kr : Int) := by rw [Int.tmod_eq_emod_of_nonneg (by omega)]; omega
        obtain ⟨B2, hB2⟩ : ∃ B2, B2 = 1 + kr := ⟨_, rfl⟩
        have hb2 : (1 : Int) + (kr : Int) = (B2 : Int) := by omega
        have hB22 : B2 ≤ 2 := by omega
        have HB2 : Hid (1 ≤ B2) := by show 1 ≤ B2; omega
        clear hkr hB2
        go_wp2_with fail
        go_loopw [118] (fun v118 wi => ∃ (i : Nat) (y : Un), i ≤ B2 ∧ v118 = .int .i64 i ∧ Hid (PBx w S ab nb cb D.1 y wi) ∧ Hid (wi.heap[M]? = some (.cells #[.int .i64 1, .int .i64 0, .int .i64 N, .int .i64 (p : Int), .int .i64 0, .slice (some ⟨bi, oi + p, none⟩) (ni - p) (ci - p), .bool false] 52 (0, 0))) ∧ Hid ((i = 0 ∧ y = x) ∨ (0 < i ∧ Has v.ws image t N ni y))) (fun v118 _ => B2 - (intOf v118).toNat)
        case atStart => exact ⟨0, x, Nat.zero_le _, rfl, PM, bM, .inl ⟨rfl, rfl⟩⟩
        case round =>
          clear PM bM ht2
          obtain ⟨wj, rfl⟩ : ∃ wj : World, wj = wr := ⟨_, rfl⟩
          obtain ⟨i, y, hi, rfl, hPy, bMy, hsy⟩ := hrel
          by_cases hli : i < B2
          · obtain ⟨y', hy1, hy2⟩ : ∃ y', hearA ss y (pieM N image p ni) = (y', [], 0) ∧ Has v.ws image t N ni y' := by
              rcases hsy.out with ⟨-, rfl⟩ | ⟨-, h⟩
              · exact piece_any HA.out hSt.out hq1 (by rw [hIl.out]; exact hq2) hq3
              · exact ⟨y, piece_again HA.out h hq1 (by rw [hIl.out]; exact hq2) hq3, h⟩
            obtain ⟨ay, ny, cy, hub, hbw⟩ := hPy.out.own
            have HH := hide (unhide HG y ay ny cy (pieM N image p ni) (some ⟨bi, oi + p, none⟩) (ni - p) (ci - p) wj hPy.out.bel hbw ⟨((unhide HIm _ hPy.out.bel).at_.drop p).take (ni - p), by show ((image.drop p).take (ni - p)).length = ni - p; simp; rw [hIl.out]; omega, by omega⟩)
            rw [hy1] at HH
            unfold msv pieM at HH
            dsimp only at HH
            have HY2 := hide hy2
            have UB := hide hub
            have k0 := blk_cell hPy.out.bk 0 _ rfl
            have u0 := blk_cell hub 0 _ rfl
            have u1 := blk_cell hub 1 _ rfl
            have u2 := blk_cell hub 2 _ rfl
            have u3 := blk_cell hub 3 _ rfl
            have u4 := blk_cell hub 4 _ rfl
            have m0 := blk_cell bMy.out 0 _ rfl
            have m1 := blk_cell bMy.out 1 _ rfl
            have m2 := blk_cell bMy.out 2 _ rfl
            have m3 := blk_cell bMy.out 3 _ rfl
            have m4 := blk_cell bMy.out 4 _ rfl
            have m5 := blk_cell bMy.out 5 _ rfl
            have m6 := blk_cell bMy.out 6 _ rfl
            clear hy1 hy2 hub hbw hsy
            go_wp2_with fail
            refine (unhide HH).mono ?_
            rintro e w5 ⟨⟨a5, n5, c5, am5, nm5, cm5, rfl, hbw5, -, -, -, -⟩, hb5⟩
            have NX := hide (hPy.out.next hSX hb5 hbw5 HY2.out.fld.len)
            have bM5 := hide (blk_turns (blk_below bMy.out hb5) (turns_set (turns_set (turns_set (turns_set (turns_set (World.grownBy.refl w5 (some (w.heap.size + 1))) 0 (.slice a5 n5 c5)) 1 (.int .i64 y'.fu)) 2 (.bool y'.up)) 3 (.int .i64 y'.n)) 4 (.int .i64 y'.hv)) hMX)
            have UB5 := hide (blk_below UB.out hb5)
            clear HH k0 u0 u1 u2 u3 u4 m0 m1 m2 m3 m4 m5 m6 hbw5 hb5 hPy bMy UB
            have u0 := blk_cell UB5.out 0 _ rfl
            have u1 := blk_cell UB5.out 1 _ rfl
            have u2 := blk_cell UB5.out 2 _ rfl
            have u3 := blk_cell UB5.out 3 _ rfl
            have u4 := blk_cell UB5.out 4 _ rfl
            have v0 := blk_free UB5.out 0
            have v1 := blk_free UB5.out 1
            have v2 := blk_free UB5.out 2
            have v3 := blk_free UB5.out 3
            have v4 := blk_free UB5.out 4
            unfold unv
            dsimp only
            go_wp2_with fail
            go_roundw
            case rel => exact ⟨i + 1, y', by omega, by go_num, NX, bM5, .inr ⟨by omega, HY2.out⟩⟩
            case measure => simp [intOf]; omega
          · have hyq : Hid (Has v.ws image t N ni y) := by
              rcases hsy.out with ⟨h0, -⟩ | ⟨-, h⟩
              · have := HB2.out; omega
              · exact h
            have hge : ¬ ((i : Int) < (B2 : Int)) := by omega
            clear hsy
            go_wp2_with fail
            go_roundw
            case rel => exact ⟨ni, k + 1, y, hq2, by omega, rfl, by go_num, hPy, .inr ⟨by omega, hyq.out⟩⟩
            case measure => simp [intOf]; omega
    obtain ⟨bc, oc, rfl, hcc⟩ : ∃ b off, ac = some ⟨b, off, none⟩ ∧ ∀ i, i < cuts.length → wq.cell? ⟨b, off + i, none⟩ = some (.int .i64 (cuts.getD i 0)) := by
      rcases (unhide HCu _ hP.out.bel).at_ with e | ⟨b, off, e, h⟩
      · exact absurd (by rw [← hCl.out, e]; rfl) hc0
      · exact ⟨b, off, e, h⟩
    obtain ⟨kk, hkk⟩ : ∃ kk, kk = k % nc := ⟨_, rfl⟩
    have hkk1 : kk < nc := by rw [hkk]; exact Nat.mod_lt _ (by omega)
    have htk : (k : Int).tmod (nc : Int) = (kk : Int) := by rw [Int.tmod_eq_emod_of_nonneg (by omega), hkk]; first | exact (Int.natCast_emod k nc).symm | exact (Int.ofNat_emod k nc).symm | simp
    have hcell := hcc kk (by rw [hCl.out]; exact hkk1)
    have hyb := HCW.out (cuts.getD kk 0) (by rw [List.getD_eq_getElem?_getD, List.getElem?_eq_getElem (by rw [hCl.out]; exact hkk1)]; exact List.getElem_mem _)
    generalize cuts.getD kk 0 = y8 at *
    have HAc := hide (fun W => at_any y8 8 W (by decide) (by decide) hyb)
    have e0 := Int.emod_nonneg y8 (show (8 : Int) ≠ 0 by decide)
    have e1 := Int.emod_lt_of_pos y8 (show (0 : Int) < 8 by decide)
    generalize y8 % 8 = r8 at *
    obtain ⟨l, hl⟩ : ∃ l : Nat, (1 : Int) + r8 = (l : Int) := ⟨(1 + r8).toNat, by omega⟩
    obtain ⟨s8, hs8⟩ : ∃ s8, s8 = p + l := ⟨_, rfl⟩
    have hwrap : IntKind.i64.wrap ((p : Int) + (l : Int)) = (s8 : Int) := by rw [IntKind.wrap_i64]; omega
    have hl8 : 1 ≤ l ∧ l ≤ 8 := by omega
    have hnz : ¬ (nc : Int) = 0 := by omega
    clear hkk hcc hyb
    go_wp2_with fail
    refine (unhide HAc _).mono ?_
    rintro e wx ⟨rfl, hwx⟩
    replace hwx := hwx.symm
    subst hwx
    clear HAc htk hcell
    by_cases c8 : s8 ≤ ni
    · have hmin : min (s8 : Int) (ni : Int) = (s8 : Int) := by omega
      have hq1 : p < s8 := by omega
      have hq2 : s8 ≤ ni := c8
      have hq3 : s8 ≤ p + 8 := by omega
      clear hs8
      have z1 : (p : Int) ≤ (s8 : Int) := by omega
      have z2 : (s8 : Int) ≤ (ci : Int) := by omega
      have z3 : ¬ ci = p := by omega
      go_upto_region 18 with fail
      have hbM : Below wq.heap.size wq (wq.alloc (.cells #[.int .i64 1, .int .i64 0, .int .i64 N, .int .i64 (p : Int), .int .i64 0, .slice (some ⟨bi, oi + p, none⟩) (s8 - p) (ci - p), .bool false] 52)) := (Below.refl _ _).alloc (Nat.le_refl _) _
      have bM := hide (heap_alloc_last wq (.cells #[.int .i64 1, .int .i64 0, .int .i64 N, .int .i64 (p : Int), .int .i64 0, .slice (some ⟨bi, oi + p, none⟩) (s8 - p) (ci - p), .bool false] 52))
      have PM := hide (hP.out.below hbM)
      have hMX : wq.heap.size ≠ w.heap.size + 1 := by obtain ⟨a', n', c', h', _⟩ := hP.out.own; exact Nat.ne_of_gt (blk_lt h')
      clear hbM hP
      generalize hMe : wq.heap.size = M at *
      generalize wq.alloc (.cells #[.int .i64 1, .int .i64 0, .int .i64 N, .int .i64 (p : Int), .int .i64 0, .slice (some ⟨bi, oi + p, none⟩) (s8 - p) (ci - p), .bool false] 52) = WM at *
      clear hMe
      obtain ⟨kr, hkr⟩ : ∃ kr, kr = k % 2 := ⟨_, rfl⟩
      have hkr1 : kr ≤ 1 := by omega
      have ht2 : (k : Int).tmod 2 = (kr : Int) := by rw [Int.tmod_eq_emod_of_nonneg (by omega)]; omega
      obtain ⟨B2, hB2⟩ : ∃ B2, B2 = 1 + kr := ⟨_, rfl⟩
      have hb2 : (1 : Int) + (kr : Int) = (B2 : Int) := by omega
      have hB22 : B2 ≤ 2 := by omega
      have HB2 : Hid (1 ≤ B2) := by show 1 ≤ B2; omega
      clear hkr hB2
      go_wp2_with fail
      go_loopw [118] (fun v118 wi => ∃ (i : Nat) (y : Un), i ≤ B2 ∧ v118 = .int .i64 i ∧ Hid (PBx w S ab nb cb D.1 y wi) ∧ Hid (wi.heap[M]? = some (.cells #[.int .i64 1, .int .i64 0, .int .i64 N, .int .i64 (p : Int), .int .i64 0, .slice (some ⟨bi, oi + p, none⟩) (s8 - p) (ci - p), .bool false] 52 (0, 0))) ∧ Hid ((i = 0 ∧ y = x) ∨ (0 < i ∧ Has v.ws image t N s8 y))) (fun v118 _ => B2 - (intOf v118).toNat)
      case atStart => exact ⟨0, x, Nat.zero_le _, rfl, PM, bM, .inl ⟨rfl, rfl⟩⟩
      case round =>
        clear PM bM ht2
        obtain ⟨wj, rfl⟩ : ∃ wj : World, wj = wr := ⟨_, rfl⟩
        obtain ⟨i, y, hi, rfl, hPy, bMy, hsy⟩ := hrel
        by_cases hli : i < B2
        · obtain ⟨y', hy1, hy2⟩ : ∃ y', hearA ss y (pieM N image p s8) = (y', [], 0) ∧ Has v.ws image t N s8 y' := by
            rcases hsy.out with ⟨-, rfl⟩ | ⟨-, h⟩
            · exact piece_any HA.out hSt.out hq1 (by rw [hIl.out]; exact hq2) hq3
            · exact ⟨y, piece_again HA.out h hq1 (by rw [hIl.out]; exact hq2) hq3, h⟩
          obtain ⟨ay, ny, cy, hub, hbw⟩ := hPy.out.own
          have HH := hide (unhide HG y ay ny cy (pieM N image p s8) (some ⟨bi, oi + p, none⟩) (s8 - p) (ci - p) wj hPy.out.bel hbw ⟨((unhide HIm _ hPy.out.bel).at_.drop p).take (s8 - p), by show ((image.drop p).take (s8 - p)).length = s8 - p; simp; rw [hIl.out]; omega, by omega⟩)
          rw [hy1] at HH
          unfold msv pieM at HH
          dsimp only at HH
          have HY2 := hide hy2
          have UB := hide hub
          have k0 := blk_cell hPy.out.bk 0 _ rfl
          have u0 := blk_cell hub 0 _ rfl
          have u1 := blk_cell hub 1 _ rfl
          have u2 := blk_cell hub 2 _ rfl
          have u3 := blk_cell hub 3 _ rfl
          have u4 := blk_cell hub 4 _ rfl
          have m0 := blk_cell bMy.out 0 _ rfl
          have m1 := blk_cell bMy.out 1 _ rfl
          have m2 := blk_cell bMy.out 2 _ rfl
          have m3 := blk_cell bMy.out 3 _ rfl
          have m4 := blk_cell bMy.out 4 _ rfl
          have m5 := blk_cell bMy.out 5 _ rfl
          have m6 := blk_cell bMy.out 6 _ rfl
          clear hy1 hy2 hub hbw hsy
          go_wp2_with fail
          refine (unhide HH).mono ?_
          rintro e w5 ⟨⟨a5, n5, c5, am5, nm5, cm5, rfl, hbw5, -, -, -, -⟩, hb5⟩
          have NX := hide (hPy.out.next hSX hb5 hbw5 HY2.out.fld.len)
          have bM5 := hide (blk_turns (blk_below bMy.out hb5) (turns_set (turns_set (turns_set (turns_set (turns_set (World.grownBy.refl w5 (some (w.heap.size + 1))) 0 (.slice a5 n5 c5)) 1 (.int .i64 y'.fu)) 2 (.bool y'.up)) 3 (.int .i64 y'.n)) 4 (.int .i64 y'.hv)) hMX)
          have UB5 := hide (blk_below UB.out hb5)
          clear HH k0 u0 u1 u2 u3 u4 m0 m1 m2 m3 m4 m5 m6 hbw5 hb5 hPy bMy UB
          have u0 := blk_cell UB5.out 0 _ rfl
          have u1 := blk_cell UB5.out 1 _ rfl
          have u2 := blk_cell UB5.out 2 _ rfl
          have u3 := blk_cell UB5.out 3 _ rfl
          have u4 := blk_cell UB5.out 4 _ rfl
          have v0 := blk_free UB5.out 0
          have v1 := blk_free UB5.out 1
          have v2 := blk_free UB5.out 2
          have v3 := blk_free UB5.out 3
          have v4 := blk_free UB5.out 4
          unfold unv
          dsimp only
          go_wp2_with fail
          go_roundw
          case rel => exact ⟨i + 1, y', by omega, by go_num, NX, bM5, .inr ⟨by omega, HY2.out⟩⟩
          case measure => simp [intOf]; omega
        · have hyq : Hid (Has v.ws image t N s8 y) := by
            rcases hsy.out with ⟨h0, -⟩ | ⟨-, h⟩
            · have := HB2.out; omega
            · exact h
          have hge : ¬ ((i : Int) < (B2 : Int)) := by omega
          clear hsy
          go_wp2_with fail
          go_roundw
          case rel => exact ⟨s8, k + 1, y, hq2, by omega, rfl, by go_num, hPy, .inr ⟨by omega, hyq.out⟩⟩
          case measure => simp [intOf]; omega
    · have hmin : min (s8 : Int) (ni : Int) = (ni : Int) := by omega
      have hq1 : p < ni := hlt
      have hq2 : ni ≤ ni := Nat.le_refl _
      have hq3 : ni ≤ p + 8 := by omega
      clear hs8
      have z1 : (p : Int) ≤ (ni : Int) := by omega
      have z2 : (ni : Int) ≤ (ci : Int) := by omega
      have z3 : ¬ ci = p := by omega
      go_upto_region 18 with fail
      have hbM : Below wq.heap.size wq (wq.alloc (.cells #[.int .i64 1, .int .i64 0, .int .i64 N, .int .i64 (p : Int), .int .i64 0, .slice (some ⟨bi, oi + p, none⟩) (ni - p) (ci - p), .bool false] 52)) := (Below.refl _ _).alloc (Nat.le_refl _) _
      have bM := hide (heap_alloc_last wq (.cells #[.int .i64 1, .int .i64 0, .int .i64 N, .int .i64 (p : Int), .int .i64 0, .slice (some ⟨bi, oi + p, none⟩) (ni - p) (ci - p), .bool false] 52))
      have PM := hide (hP.out.below hbM)
      have hMX : wq.heap.size ≠ w.heap.size + 1 := by obtain ⟨a', n', c', h', _⟩ := hP.out.own; exact Nat.ne_of_gt (blk_lt h')
      clear hbM hP
      generalize hMe : wq.heap.size = M at *
      generalize wq.alloc (.cells #[.int .i64 1, .int .i64 0, .int .i64 N, .int .i64 (p : Int), .int .i64 0, .slice (some ⟨bi, oi + p, none⟩) (ni - p) (ci - p), .bool false] 52) = WM at *
      clear hMe
      obtain ⟨kr, hkr⟩ : ∃ kr, kr = k % 2 := ⟨_, rfl⟩
      have hkr1 : kr ≤ 1 := by omega
      have ht2 : (k : Int).tmod 2 = (kr : Int) := by rw [Int.tmod_eq_emod_of_nonneg (by omega)]; omega
      obtain ⟨B2, hB2⟩ : ∃ B2, B2 = 1 + kr := ⟨_, rfl⟩
      have hb2 : (1 : Int) + (kr : Int) = (B2 : Int) := by omega
      have hB22 : B2 ≤ 2 := by omega
      have HB2 : Hid (1 ≤ B2) := by show 1 ≤ B2; omega
      clear hkr hB2
      go_wp2_with fail
      go_loopw [118] (fun v118 wi => ∃ (i : Nat) (y : Un), i ≤ B2 ∧ v118 = .int .i64 i ∧ Hid (PBx w S ab nb cb D.1 y wi) ∧ Hid (wi.heap[M]? = some (.cells #[.int .i64 1, .int .i64 0, .int .i64 N, .int .i64 (p : Int), .int .i64 0, .slice (some ⟨bi, oi + p, none⟩) (ni - p) (ci - p), .bool false] 52 (0, 0))) ∧ Hid ((i = 0 ∧ y = x) ∨ (0 < i ∧ Has v.ws image t N ni y))) (fun v118 _ => B2 - (intOf v118).toNat)
      case atStart => exact ⟨0, x, Nat.zero_le _, rfl, PM, bM, .inl ⟨rfl, rfl⟩⟩
      case round =>
        clear PM bM ht2
        obtain ⟨wj, rfl⟩ : ∃ wj : World, wj = wr := ⟨_, rfl⟩
        obtain ⟨i, y, hi, rfl, hPy, bMy, hsy⟩ := hrel
        by_cases hli : i < B2
        · obtain ⟨y', hy1, hy2⟩ : ∃ y', hearA ss y (pieM N image p ni) = (y', [], 0) ∧ Has v.ws image t N ni y' := by
            rcases hsy.out with ⟨-, rfl⟩ | ⟨-, h⟩
            · exact piece_any HA.out hSt.out hq1 (by rw [hIl.out]; exact hq2) hq3
            · exact ⟨y, piece_again HA.out h hq1 (by rw [hIl.out]; exact hq2) hq3, h⟩
          obtain ⟨ay, ny, cy, hub, hbw⟩ := hPy.out.own
          have HH := hide (unhide HG y ay ny cy (pieM N image p ni) (some ⟨bi, oi + p, none⟩) (ni - p) (ci - p) wj hPy.out.bel hbw ⟨((unhide HIm _ hPy.out.bel).at_.drop p).take (ni - p), by show ((image.drop p).take (ni - p)).length = ni - p; simp; rw [hIl.out]; omega, by omega⟩)
          rw [hy1] at HH
          unfold msv pieM at HH
          dsimp only at HH
          have HY2 := hide hy2
          have UB := hide hub
          have k0 := blk_cell hPy.out.bk 0 _ rfl
          have u0 := blk_cell hub 0 _ rfl
          have u1 := blk_cell hub 1 _ rfl
          have u2 := blk_cell hub 2 _ rfl
          have u3 := blk_cell hub 3 _ rfl
          have u4 := blk_cell hub 4 _ rfl
          have m0 := blk_cell bMy.out 0 _ rfl
          have m1 := blk_cell bMy.out 1 _ rfl
          have m2 := blk_cell bMy.out 2 _ rfl
          have m3 := blk_cell bMy.out 3 _ rfl
          have m4 := blk_cell bMy.out 4 _ rfl
          have m5 := blk_cell bMy.out 5 _ rfl
          have m6 := blk_cell bMy.out 6 _ rfl
          clear hy1 hy2 hub hbw hsy
          go_wp2_with fail
          refine (unhide HH).mono ?_
          rintro e w5 ⟨⟨a5, n5, c5, am5, nm5, cm5, rfl, hbw5, -, -, -, -⟩, hb5⟩
          have NX := hide (hPy.out.next hSX hb5 hbw5 HY2.out.fld.len)
          have bM5 := hide (blk_turns (blk_below bMy.out hb5) (turns_set (turns_set (turns_set (turns_set (turns_set (World.grownBy.refl w5 (some (w.heap.size + 1))) 0 (.slice a5 n5 c5)) 1 (.int .i64 y'.fu)) 2 (.bool y'.up)) 3 (.int .i64 y'.n)) 4 (.int .i64 y'.hv)) hMX)
          have UB5 := hide (blk_below UB.out hb5)
          clear HH k0 u0 u1 u2 u3 u4 m0 m1 m2 m3 m4 m5 m6 hbw5 hb5 hPy bMy UB
          have u0 := blk_cell UB5.out 0 _ rfl
          have u1 := blk_cell UB5.out 1 _ rfl
          have u2 := blk_cell UB5.out 2 _ rfl
          have u3 := blk_cell UB5.out 3 _ rfl
          have u4 := blk_cell UB5.out 4 _ rfl
          have v0 := blk_free UB5.out 0
          have v1 := blk_free UB5.out 1
          have v2 := blk_free UB5.out 2
          have v3 := blk_free UB5.out 3
          have v4 := blk_free UB5.out 4
          unfold unv
          dsimp only
          go_wp2_with fail
          go_roundw
          case rel => exact ⟨i + 1, y', by omega, by go_num, NX, bM5, .inr ⟨by omega, HY2.out⟩⟩
          case measure => simp [intOf]; omega
        · have hyq : Hid (Has v.ws image t N ni y) := by
            rcases hsy.out with ⟨h0, -⟩ | ⟨-, h⟩
            · have := HB2.out; omega
            · exact h
          have hge : ¬ ((i : Int) < (B2 : Int)) := by omega
          clear hsy
          go_wp2_with fail
          go_roundw
          case rel => exact ⟨ni, k + 1, y, hq2, by omega, rfl, by go_num, hPy, .inr ⟨by omega, hyq.out⟩⟩
          case measure => simp [intOf]; omega

end Go.Proofs.YtanpglfpopbfkabGreatDoor
