/- The reference's UnitHears: a Commit. The reference's UnitHears: what is not for a unit. -/
import Derived.Test.YtgngpmgjoifepaaGreatDoorPv32
import Derived.Deep.DeepCutAuto
import Derived.BigRegion
namespace Go.Proofs.YtgngpmgjoifepaaGreatDoor
open Go.RowKit
attribute [local go_sem ↓] Go.wp_at_zero Go.wp_at_succ

set_option maxRecDepth 100000 in
set_option maxHeartbeats 12800000 in
theorem refHears_4 (ab : Option Addr) (nb cb : Nat) (ss : List ByteArray) (u : Un) (a : Option Addr) (c : Nat) (m : Ms) (am : Option Addr) (nm cm : Nat) (w : World) (hB : BB w ab nb cb ss) (hT : Tab w) (hU : BW w a 192 c u.ws) (hM : BI w am nm m.ws) (hb0 : bookE ss = 0) (hu0 : unE u = 0) (hm0 : msE m = 0) (hup : u.up = true) (hk : m.k = 4) :
    Calls Tryz.prog 27 #[bookv ab nb cb, unv u a 192 c, msv m am nm cm] w (RefAns w (comS u (stOf u.ws) m)) := by
  have hzz := And.intro hB (And.intro hT (And.intro hU (And.intro hM (And.intro hb0 (And.intro hu0 hm0)))))
  clear hzz
  have HUP := hide hup
  clear hup
  have HK := hide hk
  clear hk
  obtain ⟨s, hs⟩ : ∃ s, s = stOf u.ws := ⟨_, rfl⟩
  have hlk := (unE_ok hu0).1
  have HSt := hide (fun W (hW : Below w.heap.size w W) => unitStateOf_any u a 192 c W (hU.below hW) hlk)
  have HOw := hide (fun W (hW : Below w.heap.size w W) => ownFlash_any a 192 c u.ws u.fu W (hU.below hW).at_ hU.len (by decide))
  have hsl := oth_0 hu0
  rw [← hs] at HSt hsl
  obtain ⟨sn, hsn0⟩ : ∃ sn : Nat, oth s = (sn : Int) := ⟨(oth s).toNat, by omega⟩
  have hsn : sn ≤ 1 := by omega
  have ko : IntKind.i64.wrap (1 - s.slot) = (sn : Int) := by have e : 1 - s.slot = (sn : Int) := hsn0; rw [e]; rw [IntKind.wrap_i64]; omega
  have HS := hide hs
  have HN := hide hsn0
  have hu3 : Hid (u.ws = [] ∨ 3 ≤ u.ws.length) := .inr (by rw [hU.len]; decide)
  clear hs hsn0 hsl hlk
  obtain ⟨hw, b0, b1, b2, b3, b4, b5⟩ := al6 w (.cells #[.slice ab nb cb] 24) (.cells #[.slice a 192 c, .int .i64 u.fu, .bool u.up, .int .i64 u.n, .int .i64 u.hv] 29) (.cells #[.int .i64 m.k, .int .i64 m.u, .int .i64 m.n, .int .i64 m.at', .int .i64 m.im, .slice am nm cm, .bool m.y] 31) (.cells #[.slice none 0 0, .int .i64 0, .bool false, .int .i64 0, .int .i64 0] 29) (.cells #[.slice a 192 c, .int .i64 u.fu, .bool u.up, .int .i64 u.n, .int .i64 u.hv, .bool false] 137) (.cells #[.pointer (some ⟨w.heap.size + 1 + 1 + 1 + 1, 0, none⟩)] 135)
  unfold usv unv at HSt
  unfold bookv unv msv
  have u0 := blk_cell b1 0 _ rfl
  have u1 := blk_cell b1 1 _ rfl
  have u2 := blk_cell b1 2 _ rfl
  have u3 := blk_cell b1 3 _ rfl
  have u4 := blk_cell b1 4 _ rfl
  go_enter Tryz.func27, Tryz.ntmps27
  go_upto_region 2 with fail
  generalize ((((((w.alloc (.cells #[.slice ab nb cb] 24)).alloc (.cells #[.slice a 192 c, .int .i64 u.fu, .bool u.up, .int .i64 u.n, .int .i64 u.hv] 29)).alloc (.cells #[.int .i64 m.k, .int .i64 m.u, .int .i64 m.n, .int .i64 m.at', .int .i64 m.im, .slice am nm cm, .bool m.y] 31)).alloc (.cells #[.slice none 0 0, .int .i64 0, .bool false, .int .i64 0, .int .i64 0] 29)).alloc (.cells #[.slice a 192 c, .int .i64 u.fu, .bool u.up, .int .i64 u.n, .int .i64 u.hv, .bool false] 137)).alloc (.cells #[.pointer (some ⟨w.heap.size + 1 + 1 + 1 + 1, 0, none⟩)] 135)) = W at *
  clear u2 u3 u4
  have p0 := blk_cell b5 0 _ rfl
  have hG0 : W.grownBy W.drew (some (w.heap.size + 1 + 1 + 1 + 1)) := turns_of (Below.refl _ _).drew _
  refine wp_region_held_drew (S := fun W' => W'.cell? ⟨w.heap.size + 1 + 1 + 1 + 1 + 1, 0, none⟩ = some (.pointer (some ⟨w.heap.size + 1 + 1 + 1 + 1, 0, none⟩)) ∧ W'.cell? ⟨w.heap.size + 1, 0, none⟩ = some (.slice a 192 c) ∧ W'.cell? ⟨w.heap.size + 1, 1, none⟩ = some (.int .i64 u.fu) ∧ W.grownBy W' (some (w.heap.size + 1 + 1 + 1 + 1))) (by kernel_rfl) (st3g p0 u0 u1 (by show w.heap.size + 1 + 1 + 1 + 1 + 1 ≠ w.heap.size + 1 + 1 + 1 + 1; omega) (by show w.heap.size + 1 ≠ w.heap.size + 1 + 1 + 1 + 1; omega) (by show w.heap.size + 1 ≠ w.heap.size + 1 + 1 + 1 + 1; omega) (hG0)) ?_
  intro hHeld
  refine Htake (i := 0) (v := ?_) (by rfl) (by kernel_rfl) (by exact fun _ _ _ h => h) (Or.inl ⟨by rfl, ?_⟩) (by assumption) ?_
  rotate_left
  {
  intro w hSw
  try dsimp only at hSw
  go_simp
  try with_reducible rfl
  }
  try simp only [sq]
  refine Htake (i := 1) (v := ?_) (by rfl) (by kernel_rfl) (by exact fun _ _ _ h => h) (Or.inl ⟨by rfl, ?_⟩) (by assumption) ?_
  rotate_left
  {
  intro w hSw
  try dsimp only at hSw
  go_simp
  try with_reducible rfl
  }
  try simp only [sq]
  refine Htake (i := 2) (v := ?_) (by rfl) (by kernel_rfl) (by exact fun _ _ _ h => h) (Or.inl ⟨by rfl, ?_⟩) (by assumption) ?_
  rotate_left
  {
  intro w hSw
  try dsimp only at hSw
  go_simp
  try with_reducible rfl
  }
  try simp only [sq]
  refine wpAnyH_ready (rs := [3]) (by kernel_rfl) (by simp) ?_
  refine AllReadyH.cons (by rfl) (fun K hK => ?_) AllReadyH.nil
  go_simp
  refine (unhide HOw _ hw.drew).mono ?_
  rintro e w2 ⟨gh, ch, hgh, hch, rfl, hoc, hb2⟩
  have hG2 := hG0.trans (turns_of hb2 (w.heap.size + 1 + 1 + 1 + 1))
  go_wp2_with fail
  refine hK.out _ _ (st3g p0 u0 u1 (by show w.heap.size + 1 + 1 + 1 + 1 + 1 ≠ w.heap.size + 1 + 1 + 1 + 1; omega) (by show w.heap.size + 1 ≠ w.heap.size + 1 + 1 + 1 + 1; omega) (by show w.heap.size + 1 ≠ w.heap.size + 1 + 1 + 1 + 1; omega) (hG2)) (fun hHeld2 => ?_)
  clear hK K hHeld
  try simp only [sq]
  have hHeld := hHeld2
  clear hHeld2
  have bH2 := blk_below (blk_below b4 (Below.refl _ _).drew) hb2
  have h0 := blk_cell bH2 0 _ rfl
  have h1 := blk_cell bH2 1 _ rfl
  have f0 := blk_free bH2 0
  have f1 := blk_free bH2 1
  have hT : w2.grownBy ((w2.setCell ⟨w.heap.size + 1 + 1 + 1 + 1, 0, none⟩ (.slice (some ⟨gh, 0, none⟩) 192 ch)).setCell ⟨w.heap.size + 1 + 1 + 1 + 1, 1, none⟩ (.int .i64 u.fu)) (some (w.heap.size + 1 + 1 + 1 + 1)) := turns_set (turns_set (World.grownBy.refl _ _) _ _) _ _
  refine Htake (i := 4) (v := ?_) (by rfl) (by kernel_rfl) (by exact fun _ _ _ h => h) (Or.inl ⟨by rfl, ?_⟩) (by assumption) ?_
  rotate_left
  {
  intro w hSw
  try dsimp only at hSw
  go_simp
  try with_reducible rfl
  }
  try simp only [sq]
  refine Htake (i := 5) (v := ?_) (by rfl) (by kernel_rfl) (by exact fun _ _ _ h => h) (Or.inl ⟨by rfl, ?_⟩) (by assumption) ?_
  rotate_left
  {
  intro w hSw
  try dsimp only at hSw
  go_simp
  try with_reducible rfl
  }
  try simp only [sq]
  refine Htake (i := 6) (v := ?_) (by rfl) (by kernel_rfl) (by exact fun _ _ _ h => h) (Or.inl ⟨by rfl, ?_⟩) (by assumption) ?_
  rotate_left
  {
  intro w hSw
  try dsimp only at hSw
  go_simp
  try with_reducible rfl
  }
  try simp only [sq]
  refine wpAnyH_ready (rs := [7]) (by kernel_rfl) (by simp) ?_
  refine AllReadyH.cons (by rfl) (fun K hK => ?_) AllReadyH.nil
  go_simp
  refine hK.out _ _ (st3g p0 u0 u1 (by show w.heap.size + 1 + 1 + 1 + 1 + 1 ≠ w.heap.size + 1 + 1 + 1 + 1; omega) (by show w.heap.size + 1 ≠ w.heap.size + 1 + 1 + 1 + 1; omega) (by show w.heap.size + 1 ≠ w.heap.size + 1 + 1 + 1 + 1; omega) (hG2.trans hT)) (fun hHeld => ?_)
  clear hK K
  try simp only [sq]
  refine wpAnyH_done (by kernel_rfl) ?_ _
  have hOw := own_made hoc hU.len hch bH2 hT (by decide) (by have := blk_lt b4; have e : W.heap.size = W.drew.heap.size := rfl; omega)
  have hG := hG2.trans hT
  clear hHeld bH2 h0 h1 f0 f1 hoc hb2 hG2 hT
  generalize ((w2.setCell ⟨w.heap.size + 1 + 1 + 1 + 1, 0, none⟩ (.slice (some ⟨gh, 0, none⟩) 192 ch)).setCell ⟨w.heap.size + 1 + 1 + 1 + 1, 1, none⟩ (.int .i64 u.fu)) = w2 at *
  have hw2 := turns_below hw hG (by omega) hw.size
  have q1 := blk_turns b1 hG (by omega)
  clear u0 u1 p0 hG0 HOw
  have u0 := blk_cell q1 0 _ rfl
  have u1 := blk_cell q1 1 _ rfl
  have u2 := blk_cell q1 2 _ rfl
  have u3 := blk_cell q1 3 _ rfl
  have u4 := blk_cell q1 4 _ rfl
  go_wp2_with fail
  refine (unhide HSt _ hw2).mono ?_
  rintro e w3 ⟨rfl, hb3⟩
  clear u0 u1 u2 u3 u4 HSt q1
  have hb4 : Below w2.heap.size w2 (w3.alloc (.cells #[.int .i64 s.slot, .int .i64 s.by', .int .i64 s.rdy] 40)) := below_new hb3 _
  have hG4 := hG.trans (turns_of hb4 (w.heap.size + 1 + 1 + 1 + 1))
  have bS := heap_alloc_last w3 (.cells #[.int .i64 s.slot, .int .i64 s.by', .int .i64 s.rdy] 40)
  have hwW := hw2.trans (hb4.mono hw2.size)
  have hS2 := hb3.size
  have hSz := Nat.le_trans (blk_lt b5) hG.size
  go_upto_region 6 with fail
  have HB : Hid (HB6 (w3.alloc (.cells #[.int .i64 s.slot, .int .i64 s.by', .int .i64 s.rdy] 40)) w.heap.size w3.heap.size ab nb cb u a c m am nm cm s) := ⟨blk_turns b0 hG4 (by omega), blk_turns b1 hG4 (by omega), blk_turns b2 hG4 (by omega), blk_turns b3 hG4 (by omega), blk_turns b5 hG4 (by omega), bS, by omega⟩
  have HO := hide (hOw.below hb4)
  generalize w3.alloc (.cells #[.int .i64 s.slot, .int .i64 s.by', .int .i64 s.rdy] 40) = W6 at *
  generalize w3.heap.size = S at *
  clear hw hw2 b0 b1 b2 b3 b4 b5 bS hb3 hb4 hG hG4 hOw hS2 hSz
  have hw := hwW
  clear hwW
  have hlk := (unE_ok hu0).1
  have hul := hU.len
  clear hB hT hU hM hb0 hm0
  have x2 := blk_cell HB.out.bU 2 _ rfl
  rw [HUP.out] at x2
  have m0 := blk_cell HB.out.bM 0 _ rfl
  rw [HK.out] at m0
  have m2 := blk_cell HB.out.bM 2 _ rfl
  have s1 := blk_cell HB.out.bS 1 _ rfl
  have s2 := blk_cell HB.out.bS 2 _ rfl
  have p0 := blk_cell HB.out.bP 0 _ rfl
  by_cases z1 : s.by' = m.n
  {
  have d1 : (s.by' != m.n) = false := by simpa using z1
  have HE : Hid (comS u (stOf u.ws) m = (u, [doneM m])) := by show _ = _; rw [← HS.out]; exact comS_1 z1
  clear z1
  have HAn := hide (answer_any (w.heap.size + 1 + 1 + 1 + 1) (w.heap.size + 1 + 1 + 1 + 1 + 1) (w.heap.size + 1 + 1) u false (some ⟨gh, 0, none⟩) 192 ch m am nm cm 6 false W6 HO.out (blk_cell HB.out.bP 0 _ rfl) HB.out.bM)
  unfold RefAns ansU ansM unv at HAn
  go_wp2_with fail
  refine (unhide HAn).mono ?_
  rintro e wA ⟨⟨aa, na, ca, al, nl, cl, rfl, hbw, hms, hll, hcl, hc1⟩, hbA⟩
  clear HAn
  have bZA := blk_below HB.out.bZ hbA
  have hwA := hw.trans (hbA.mono hw.size)
  have z0 := blk_cell bZA 0 _ rfl
  have z1 := blk_cell bZA 1 _ rfl
  have z2 := blk_cell bZA 2 _ rfl
  have z3 := blk_cell bZA 3 _ rfl
  have z4 := blk_cell bZA 4 _ rfl
  have f0 := blk_free bZA 0
  have f1 := blk_free bZA 1
  have f2 := blk_free bZA 2
  have f3 := blk_free bZA 3
  have f4 := blk_free bZA 4
  go_wp2_with fail
  have hT : wA.grownBy (((((wA.setCell ⟨w.heap.size + 1 + 1 + 1, 0, none⟩ (.slice aa na ca)).setCell ⟨w.heap.size + 1 + 1 + 1, 1, none⟩ (.int .i64 u.fu)).setCell ⟨w.heap.size + 1 + 1 + 1, 2, none⟩ (.bool u.up)).setCell ⟨w.heap.size + 1 + 1 + 1, 3, none⟩ (.int .i64 u.n)).setCell ⟨w.heap.size + 1 + 1 + 1, 4, none⟩ (.int .i64 u.hv)) (some (w.heap.size + 1 + 1 + 1)) := turns_set (turns_set (turns_set (turns_set (turns_set (World.grownBy.refl _ _) _ _) _ _) _ _) _ _) _ _
  have bN := unit_set5 (v0 := .slice aa na ca) (v1 := .int .i64 u.fu) (v2 := .bool u.up) (v3 := .int .i64 u.n) (v4 := .int .i64 u.hv) bZA
  have r0 := blk_cell bN 0 _ rfl
  have r1 := blk_cell bN 1 _ rfl
  have r2 := blk_cell bN 2 _ rfl
  have r3 := blk_cell bN 3 _ rfl
  have r4 := blk_cell bN 4 _ rfl
  refine bodyPost_ret (v := .tuple #[unv u aa na ca, .slice al nl cl]) (by simp [results, Tryz.results27, go_sem, unv, r0, r1, r2, r3, r4]) rfl ?_
  obtain ⟨q1, q2⟩ := ref_end bZA hbw (hu3.out) hms hT
  rw [HE.out]
  exact ⟨⟨_, _, _, al, nl, cl, rfl, q1, q2, hll, hcl, hc1⟩, turns_below hwA hT (by omega) hwA.size⟩
  }
  have d1 : (s.by' != m.n) = true := by simpa using z1
  by_cases z2 : s.rdy = m.n
  rotate_left
  {
  have d2 : (s.rdy != m.n) = true := by simpa using z2
  have HE : Hid (comS u (stOf u.ws) m = (u, [])) := by show _ = _; rw [← HS.out]; exact comS_2 z1 z2
  clear z1 z2
  have pz := blk_cell HB.out.bP 0 _ rfl
  have h0 := blk_cell HO.out.box 0 _ rfl
  have h1 := blk_cell HO.out.box 1 _ rfl
  have h2 := blk_cell HO.out.box 2 _ rfl
  have h3 := blk_cell HO.out.box 3 _ rfl
  have h4 := blk_cell HO.out.box 4 _ rfl
  have z0 := blk_cell HB.out.bZ 0 _ rfl
  have z1 := blk_cell HB.out.bZ 1 _ rfl
  have z2 := blk_cell HB.out.bZ 2 _ rfl
  have z3 := blk_cell HB.out.bZ 3 _ rfl
  have z4 := blk_cell HB.out.bZ 4 _ rfl
  have f0 := blk_free HB.out.bZ 0
  have f1 := blk_free HB.out.bZ 1
  have f2 := blk_free HB.out.bZ 2
  have f3 := blk_free HB.out.bZ 3
  have f4 := blk_free HB.out.bZ 4
  go_wp2_with fail
  have hT : W6.grownBy (((((W6.setCell ⟨w.heap.size + 1 + 1 + 1, 0, none⟩ (.slice (some ⟨gh, 0, none⟩) 192 ch)).setCell ⟨w.heap.size + 1 + 1 + 1, 1, none⟩ (.int .i64 u.fu)).setCell ⟨w.heap.size + 1 + 1 + 1, 2, none⟩ (.bool u.up)).setCell ⟨w.heap.size + 1 + 1 + 1, 3, none⟩ (.int .i64 u.n)).setCell ⟨w.heap.size + 1 + 1 + 1, 4, none⟩ (.int .i64 u.hv)) (some (w.heap.size + 1 + 1 + 1)) := turns_set (turns_set (turns_set (turns_set (turns_set (World.grownBy.refl _ _) _ _) _ _) _ _) _ _) _ _
  have bN := unit_set5 (v0 := .slice (some ⟨gh, 0, none⟩) 192 ch) (v1 := .int .i64 u.fu) (v2 := .bool u.up) (v3 := .int .i64 u.n) (v4 := .int .i64 u.hv) HB.out.bZ
  have r0 := blk_cell bN 0 _ rfl
  have r1 := blk_cell bN 1 _ rfl
  have r2 := blk_cell bN 2 _ rfl
  have r3 := blk_cell bN 3 _ rfl
  have r4 := blk_cell bN 4 _ rfl
  refine bodyPost_ret (v := .tuple #[unv u (some ⟨gh, 0, none⟩) 192 ch, .slice none 0 0]) (by simp [results, Tryz.results27, go_sem, unv, r0, r1, r2, r3, r4]) rfl ?_
  obtain ⟨q1, q2⟩ := ref_end HB.out.bZ HO.out.ws (hu3.out) (.inl rfl : IsMsgs W6 none []) hT
  rw [HE.out]
  exact ⟨⟨_, _, _, none, 0, 0, rfl, q1, q2, rfl, Nat.le_refl _, by omega⟩, turns_below hw hT (by omega) hw.size⟩
  }
  have d2 : (s.rdy != m.n) = false := by simpa using z2
  have HC : Hid (∀ R, R = doV u (.not s [1, (sn : Int), m.n]) → comS u (stOf u.ws) m = (R.1, if (!R.2) = true then [] else [doneM m])) := fun R hR => by
    rw [← HS.out, hR, ← HN.out]
    cases hd : (doV u (.not s [1, oth s, m.n])).2
    { rw [comS_4 z1 z2 hd]; rfl }
    { rw [comS_3 z1 z2 hd]; rfl }
  have HLk : Hid (∀ R, R = doV u (.not s [1, (sn : Int), m.n]) → R.1.ws = [] ∨ 3 ≤ R.1.ws.length) := fun R hR => by rw [hR]; exact lk_3 (doV_lk _ _) hul
  clear z1 z2 hul
  have hbR : Below W6.heap.size W6 (W6.alloc (.cells #[.int .i64 1, .int .i64 sn, .int .i64 m.n] 3)) := below_new (Below.refl _ _) _
  have HRc := hide (handsRecord_any (w.heap.size + 1 + 1 + 1 + 1) u (some ⟨gh, 0, none⟩) 192 ch (some ⟨W6.heap.size, 0, none⟩) 3 3 [1, sn, m.n] (W6.alloc (.cells #[.int .i64 1, .int .i64 sn, .int .i64 m.n] 3)) (HO.out.below hbR) ⟨ints_new (heap_alloc_last W6 (.cells #[.int .i64 1, .int .i64 sn, .int .i64 m.n] 3)) rfl, rfl, by decide⟩ (hlk))
  unfold HdOf at HRc
  rw [← HS.out] at HRc
  obtain ⟨R, hR⟩ : ∃ R, R = doV u (.not s [1, sn, m.n]) := ⟨_, rfl⟩
  rw [← hR] at HRc
  have HR := hide hR
  clear hR
  replace hw := hw.trans (hbR.mono hw.size)
  go_wp2_with fail
  refine (unhide HRc).mono ?_
  rintro e w7 ⟨rfl, ⟨a7, n7, c7, hO7⟩, hg7⟩
  have hG7 := (turns_of hbR (w.heap.size + 1 + 1 + 1 + 1)).trans hg7
  replace HB := hide ((HB.out.below hbR).turns hg7)
  have HO7 := hide hO7
  replace hw := turns_below hw hg7 (by omega) hw.size
  clear HRc hbR hO7 hg7 HO x2 m0 m2 s1 s2 p0
  have HE := hide (HC.out R HR.out)
  have HL := hide (HLk.out R HR.out)
  clear HC HLk HR
  have HAn := hide (answer_any (w.heap.size + 1 + 1 + 1 + 1) (w.heap.size + 1 + 1 + 1 + 1 + 1) (w.heap.size + 1 + 1) R.1 (!R.2) a7 n7 c7 m am nm cm 6 false w7 HO7.out (blk_cell HB.out.bP 0 _ rfl) HB.out.bM)
  unfold RefAns ansU ansM unv at HAn
  go_wp2_with fail
  refine (unhide HAn).mono ?_
  rintro e wA ⟨⟨aa, na, ca, al, nl, cl, rfl, hbw, hms, hll, hcl, hc1⟩, hbA⟩
  clear HAn
  have bZA := blk_below HB.out.bZ hbA
  have hwA := hw.trans (hbA.mono hw.size)
  have z0 := blk_cell bZA 0 _ rfl
  have z1 := blk_cell bZA 1 _ rfl
  have z2 := blk_cell bZA 2 _ rfl
  have z3 := blk_cell bZA 3 _ rfl
  have z4 := blk_cell bZA 4 _ rfl
  have f0 := blk_free bZA 0
  have f1 := blk_free bZA 1
  have f2 := blk_free bZA 2
  have f3 := blk_free bZA 3
  have f4 := blk_free bZA 4
  go_wp2_with fail
  have hT : wA.grownBy (((((wA.setCell ⟨w.heap.size + 1 + 1 + 1, 0, none⟩ (.slice aa na ca)).setCell ⟨w.heap.size + 1 + 1 + 1, 1, none⟩ (.int .i64 R.1.fu)).setCell ⟨w.heap.size + 1 + 1 + 1, 2, none⟩ (.bool R.1.up)).setCell ⟨w.heap.size + 1 + 1 + 1, 3, none⟩ (.int .i64 R.1.n)).setCell ⟨w.heap.size + 1 + 1 + 1, 4, none⟩ (.int .i64 R.1.hv)) (some (w.heap.size + 1 + 1 + 1)) := turns_set (turns_set (turns_set (turns_set (turns_set (World.grownBy.refl _ _) _ _) _ _) _ _) _ _) _ _
  have bN := unit_set5 (v0 := .slice aa na ca) (v1 := .int .i64 R.1.fu) (v2 := .bool R.1.up) (v3 := .int .i64 R.1.n) (v4 := .int .i64 R.1.hv) bZA
  have r0 := blk_cell bN 0 _ rfl
  have r1 := blk_cell bN 1 _ rfl
  have r2 := blk_cell bN 2 _ rfl
  have r3 := blk_cell bN 3 _ rfl
  have r4 := blk_cell bN 4 _ rfl
  refine bodyPost_ret (v := .tuple #[unv R.1 aa na ca, .slice al nl cl]) (by simp [results, Tryz.results27, go_sem, unv, r0, r1, r2, r3, r4]) rfl ?_
  obtain ⟨q1, q2⟩ := ref_end bZA hbw (HL.out) hms hT
  rw [HE.out]
  exact ⟨⟨_, _, _, al, nl, cl, rfl, q1, q2, hll, hcl, hc1⟩, turns_below hwA hT (by omega) hwA.size⟩

end Go.Proofs.YtgngpmgjoifepaaGreatDoor

namespace Go.Proofs.YtgngpmgjoifepaaGreatDoor
open Go.RowKit
attribute [local go_sem ↓] Go.wp_at_zero Go.wp_at_succ

set_option maxRecDepth 100000 in
set_option maxHeartbeats 12800000 in
theorem refHears_0 (ab : Option Addr) (nb cb : Nat) (ss : List ByteArray) (u : Un) (a : Option Addr) (c : Nat) (m : Ms) (am : Option Addr) (nm cm : Nat) (w : World) (hB : BB w ab nb cb ss) (hT : Tab w) (hU : BW w a 192 c u.ws) (hM : BI w am nm m.ws) (hb0 : bookE ss = 0) (hu0 : unE u = 0) (hm0 : msE m = 0) (hup : u.up = true) (h1 : m.k ≠ 1) (h2 : m.k ≠ 2) (h4 : m.k ≠ 4) (h5 : m.k ≠ 5) :
    Calls Tryz.prog 27 #[bookv ab nb cb, unv u a 192 c, msv m am nm cm] w (RefAns w (u, [])) := by
  have Hh1 := hide h1
  clear h1
  have Hh2 := hide h2
  clear h2
  have Hh4 := hide h4
  clear h4
  have Hh5 := hide h5
  clear h5
  have hzz := And.intro hB (And.intro hT (And.intro hU (And.intro hM (And.intro hb0 (And.intro hu0 hm0)))))
  clear hzz
  have HUP := hide hup
  clear hup
  obtain ⟨s, hs⟩ : ∃ s, s = stOf u.ws := ⟨_, rfl⟩
  have hlk := (unE_ok hu0).1
  have HSt := hide (fun W (hW : Below w.heap.size w W) => unitStateOf_any u a 192 c W (hU.below hW) hlk)
  have HOw := hide (fun W (hW : Below w.heap.size w W) => ownFlash_any a 192 c u.ws u.fu W (hU.below hW).at_ hU.len (by decide))
  have hsl := oth_0 hu0
  rw [← hs] at HSt hsl
  obtain ⟨sn, hsn0⟩ : ∃ sn : Nat, oth s = (sn : Int) := ⟨(oth s).toNat, by omega⟩
  have hsn : sn ≤ 1 := by omega
  have ko : IntKind.i64.wrap (1 - s.slot) = (sn : Int) := by have e : 1 - s.slot = (sn : Int) := hsn0; rw [e]; rw [IntKind.wrap_i64]; omega
  have HS := hide hs
  have HN := hide hsn0
  have hu3 : Hid (u.ws = [] ∨ 3 ≤ u.ws.length) := .inr (by rw [hU.len]; decide)
  clear hs hsn0 hsl hlk
  obtain ⟨hw, b0, b1, b2, b3, b4, b5⟩ := al6 w (.cells #[.slice ab nb cb] 24) (.cells #[.slice a 192 c, .int .i64 u.fu, .bool u.up, .int .i64 u.n, .int .i64 u.hv] 29) (.cells #[.int .i64 m.k, .int .i64 m.u, .int .i64 m.n, .int .i64 m.at', .int .i64 m.im, .slice am nm cm, .bool m.y] 31) (.cells #[.slice none 0 0, .int .i64 0, .bool false, .int .i64 0, .int .i64 0] 29) (.cells #[.slice a 192 c, .int .i64 u.fu, .bool u.up, .int .i64 u.n, .int .i64 u.hv, .bool false] 137) (.cells #[.pointer (some ⟨w.heap.size + 1 + 1 + 1 + 1, 0, none⟩)] 135)
  unfold usv unv at HSt
  unfold bookv unv msv
  have u0 := blk_cell b1 0 _ rfl
  have u1 := blk_cell b1 1 _ rfl
  have u2 := blk_cell b1 2 _ rfl
  have u3 := blk_cell b1 3 _ rfl
  have u4 := blk_cell b1 4 _ rfl
  go_enter Tryz.func27, Tryz.ntmps27
  go_upto_region 2 with fail
  generalize ((((((w.alloc (.cells #[.slice ab nb cb] 24)).alloc (.cells #[.slice a 192 c, .int .i64 u.fu, .bool u.up, .int .i64 u.n, .int .i64 u.hv] 29)).alloc (.cells #[.int .i64 m.k, .int .i64 m.u, .int .i64 m.n, .int .i64 m.at', .int .i64 m.im, .slice am nm cm, .bool m.y] 31)).alloc (.cells #[.slice none 0 0, .int .i64 0, .bool false, .int .i64 0, .int .i64 0] 29)).alloc (.cells #[.slice a 192 c, .int .i64 u.fu, .bool u.up, .int .i64 u.n, .int .i64 u.hv, .bool false] 137)).alloc (.cells #[.pointer (some ⟨w.heap.size + 1 + 1 + 1 + 1, 0, none⟩)] 135)) = W at *
  clear u2 u3 u4
  have p0 := blk_cell b5 0 _ rfl
  have hG0 : W.grownBy W.drew (some (w.heap.size + 1 + 1 + 1 + 1)) := turns_of (Below.refl _ _).drew _
  refine wp_region_held_drew (S := fun W' => W'.cell? ⟨w.heap.size + 1 + 1 + 1 + 1 + 1, 0, none⟩ = some (.pointer (some ⟨w.heap.size + 1 + 1 + 1 + 1, 0, none⟩)) ∧ W'.cell? ⟨w.heap.size + 1, 0, none⟩ = some (.slice a 192 c) ∧ W'.cell? ⟨w.heap.size + 1, 1, none⟩ = some (.int .i64 u.fu) ∧ W.grownBy W' (some (w.heap.size + 1 + 1 + 1 + 1))) (by kernel_rfl) (st3g p0 u0 u1 (by show w.heap.size + 1 + 1 + 1 + 1 + 1 ≠ w.heap.size + 1 + 1 + 1 + 1; omega) (by show w.heap.size + 1 ≠ w.heap.size + 1 + 1 + 1 + 1; omega) (by show w.heap.size + 1 ≠ w.heap.size + 1 + 1 + 1 + 1; omega) (hG0)) ?_
  intro hHeld
  refine Htake (i := 0) (v := ?_) (by rfl) (by kernel_rfl) (by exact fun _ _ _ h => h) (Or.inl ⟨by rfl, ?_⟩) (by assumption) ?_
  rotate_left
  {
  intro w hSw
  try dsimp only at hSw
  go_simp
  try with_reducible rfl
  }
  try simp only [sq]
  refine Htake (i := 1) (v := ?_) (by rfl) (by kernel_rfl) (by exact fun _ _ _ h => h) (Or.inl ⟨by rfl, ?_⟩) (by assumption) ?_
  rotate_left
  {
  intro w hSw
  try dsimp only at hSw
  go_simp
  try with_reducible rfl
  }
  try simp only [sq]
  refine Htake (i := 2) (v := ?_) (by rfl) (by kernel_rfl) (by exact fun _ _ _ h => h) (Or.inl ⟨by rfl, ?_⟩) (by assumption) ?_
  rotate_left
  {
  intro w hSw
  try dsimp only at hSw
  go_simp
  try with_reducible rfl
  }
  try simp only [sq]
  refine wpAnyH_ready (rs := [3]) (by kernel_rfl) (by simp) ?_
  refine AllReadyH.cons (by rfl) (fun K hK => ?_) AllReadyH.nil
  go_simp
  refine (unhide HOw _ hw.drew).mono ?_
  rintro e w2 ⟨gh, ch, hgh, hch, rfl, hoc, hb2⟩
  have hG2 := hG0.trans (turns_of hb2 (w.heap.size + 1 + 1 + 1 + 1))
  go_wp2_with fail
  refine hK.out _ _ (st3g p0 u0 u1 (by show w.heap.size + 1 + 1 + 1 + 1 + 1 ≠ w.heap.size + 1 + 1 + 1 + 1; omega) (by show w.heap.size + 1 ≠ w.heap.size + 1 + 1 + 1 + 1; omega) (by show w.heap.size + 1 ≠ w.heap.size + 1 + 1 + 1 + 1; omega) (hG2)) (fun hHeld2 => ?_)
  clear hK K hHeld
  try simp only [sq]
  have hHeld := hHeld2
  clear hHeld2
  have bH2 := blk_below (blk_below b4 (Below.refl _ _).drew) hb2
  have h0 := blk_cell bH2 0 _ rfl
  have h1 := blk_cell bH2 1 _ rfl
  have f0 := blk_free bH2 0
  have f1 := blk_free bH2 1
  have hT : w2.grownBy ((w2.setCell ⟨w.heap.size + 1 + 1 + 1 + 1, 0, none⟩ (.slice (some ⟨gh, 0, none⟩) 192 ch)).setCell ⟨w.heap.size + 1 + 1 + 1 + 1, 1, none⟩ (.int .i64 u.fu)) (some (w.heap.size + 1 + 1 + 1 + 1)) := turns_set (turns_set (World.grownBy.refl _ _) _ _) _ _
  refine Htake (i := 4) (v := ?_) (by rfl) (by kernel_rfl) (by exact fun _ _ _ h => h) (Or.inl ⟨by rfl, ?_⟩) (by assumption) ?_
  rotate_left
  {
  intro w hSw
  try dsimp only at hSw
  go_simp
  try with_reducible rfl
  }
  try simp only [sq]
  refine Htake (i := 5) (v := ?_) (by rfl) (by kernel_rfl) (by exact fun _ _ _ h => h) (Or.inl ⟨by rfl, ?_⟩) (by assumption) ?_
  rotate_left
  {
  intro w hSw
  try dsimp only at hSw
  go_simp
  try with_reducible rfl
  }
  try simp only [sq]
  refine Htake (i := 6) (v := ?_) (by rfl) (by kernel_rfl) (by exact fun _ _ _ h => h) (Or.inl ⟨by rfl, ?_⟩) (by assumption) ?_
  rotate_left
  {
  intro w hSw
  try dsimp only at hSw
  go_simp
  try with_reducible rfl
  }
  try simp only [sq]
  refine wpAnyH_ready (rs := [7]) (by kernel_rfl) (by simp) ?_
  refine AllReadyH.cons (by rfl) (fun K hK => ?_) AllReadyH.nil
  go_simp
  refine hK.out _ _ (st3g p0 u0 u1 (by show w.heap.size + 1 + 1 + 1 + 1 + 1 ≠ w.heap.size + 1 + 1 + 1 + 1; omega) (by show w.heap.size + 1 ≠ w.heap.size + 1 + 1 + 1 + 1; omega) (by show w.heap.size + 1 ≠ w.heap.size + 1 + 1 + 1 + 1; omega) (hG2.trans hT)) (fun hHeld => ?_)
  clear hK K
  try simp only [sq]
  refine wpAnyH_done (by kernel_rfl) ?_ _
  have hOw := own_made hoc hU.len hch bH2 hT (by decide) (by have := blk_lt b4; have e : W.heap.size = W.drew.heap.size := rfl; omega)
  have hG := hG2.trans hT
  clear hHeld bH2 h0 h1 f0 f1 hoc hb2 hG2 hT
  generalize ((w2.setCell ⟨w.heap.size + 1 + 1 + 1 + 1, 0, none⟩ (.slice (some ⟨gh, 0, none⟩) 192 ch)).setCell ⟨w.heap.size + 1 + 1 + 1 + 1, 1, none⟩ (.int .i64 u.fu)) = w2 at *
  have hw2 := turns_below hw hG (by omega) hw.size
  have q1 := blk_turns b1 hG (by omega)
  clear u0 u1 p0 hG0 HOw
  have u0 := blk_cell q1 0 _ rfl
  have u1 := blk_cell q1 1 _ rfl
  have u2 := blk_cell q1 2 _ rfl
  have u3 := blk_cell q1 3 _ rfl
  have u4 := blk_cell q1 4 _ rfl
  go_wp2_with fail
  refine (unhide HSt _ hw2).mono ?_
  rintro e w3 ⟨rfl, hb3⟩
  clear u0 u1 u2 u3 u4 HSt q1
  have hb4 : Below w2.heap.size w2 (w3.alloc (.cells #[.int .i64 s.slot, .int .i64 s.by', .int .i64 s.rdy] 40)) := below_new hb3 _
  have hG4 := hG.trans (turns_of hb4 (w.heap.size + 1 + 1 + 1 + 1))
  have bS := heap_alloc_last w3 (.cells #[.int .i64 s.slot, .int .i64 s.by', .int .i64 s.rdy] 40)
  have hwW := hw2.trans (hb4.mono hw2.size)
  have hS2 := hb3.size
  have hSz := Nat.le_trans (blk_lt b5) hG.size
  go_upto_region 6 with fail
  have HB : Hid (HB6 (w3.alloc (.cells #[.int .i64 s.slot, .int .i64 s.by', .int .i64 s.rdy] 40)) w.heap.size w3.heap.size ab nb cb u a c m am nm cm s) := ⟨blk_turns b0 hG4 (by omega), blk_turns b1 hG4 (by omega), blk_turns b2 hG4 (by omega), blk_turns b3 hG4 (by omega), blk_turns b5 hG4 (by omega), bS, by omega⟩
  have HO := hide (hOw.below hb4)
  generalize w3.alloc (.cells #[.int .i64 s.slot, .int .i64 s.by', .int .i64 s.rdy] 40) = W6 at *
  generalize w3.heap.size = S at *
  clear hw hw2 b0 b1 b2 b3 b4 b5 bS hb3 hb4 hG hG4 hOw hS2 hSz
  have hw := hwW
  clear hwW
  have hlk := (unE_ok hu0).1
  have hul := hU.len
  have hmE := msE_0 hm0
  clear hB hT hU hM hb0 hm0 hul hmE hlk
  have x2 := blk_cell HB.out.bU 2 _ rfl
  rw [HUP.out] at x2
  have m0 := blk_cell HB.out.bM 0 _ rfl
  have e1 : (m.k == 1) = false := by simpa using Hh1.out
  have e2 : (m.k == 2) = false := by simpa using Hh2.out
  have e4 : (m.k == 4) = false := by simpa using Hh4.out
  have e5 : (m.k == 5) = false := by simpa using Hh5.out
  clear Hh1 Hh2 Hh4 Hh5
  have pz := blk_cell HB.out.bP 0 _ rfl
  have h0 := blk_cell HO.out.box 0 _ rfl
  have h1 := blk_cell HO.out.box 1 _ rfl
  have h2 := blk_cell HO.out.box 2 _ rfl
  have h3 := blk_cell HO.out.box 3 _ rfl
  have h4 := blk_cell HO.out.box 4 _ rfl
  have z0 := blk_cell HB.out.bZ 0 _ rfl
  have z1 := blk_cell HB.out.bZ 1 _ rfl
  have z2 := blk_cell HB.out.bZ 2 _ rfl
  have z3 := blk_cell HB.out.bZ 3 _ rfl
  have z4 := blk_cell HB.out.bZ 4 _ rfl
  have f0 := blk_free HB.out.bZ 0
  have f1 := blk_free HB.out.bZ 1
  have f2 := blk_free HB.out.bZ 2
  have f3 := blk_free HB.out.bZ 3
  have f4 := blk_free HB.out.bZ 4
  go_wp2_with fail
  have hT : W6.grownBy (((((W6.setCell ⟨w.heap.size + 1 + 1 + 1, 0, none⟩ (.slice (some ⟨gh, 0, none⟩) 192 ch)).setCell ⟨w.heap.size + 1 + 1 + 1, 1, none⟩ (.int .i64 u.fu)).setCell ⟨w.heap.size + 1 + 1 + 1, 2, none⟩ (.bool u.up)).setCell ⟨w.heap.size + 1 + 1 + 1, 3, none⟩ (.int .i64 u.n)).setCell ⟨w.heap.size + 1 + 1 + 1, 4, none⟩ (.int .i64 u.hv)) (some (w.heap.size + 1 + 1 + 1)) := turns_set (turns_set (turns_set (turns_set (turns_set (World.grownBy.refl _ _) _ _) _ _) _ _) _ _) _ _
  have bN := unit_set5 (v0 := .slice (some ⟨gh, 0, none⟩) 192 ch) (v1 := .int .i64 u.fu) (v2 := .bool u.up) (v3 := .int .i64 u.n) (v4 := .int .i64 u.hv) HB.out.bZ
  have r0 := blk_cell bN 0 _ rfl
  have r1 := blk_cell bN 1 _ rfl
  have r2 := blk_cell bN 2 _ rfl
  have r3 := blk_cell bN 3 _ rfl
  have r4 := blk_cell bN 4 _ rfl
  refine bodyPost_ret (v := .tuple #[unv u (some ⟨gh, 0, none⟩) 192 ch, .slice none 0 0]) (by simp [results, Tryz.results27, go_sem, unv, r0, r1, r2, r3, r4]) rfl ?_
  obtain ⟨q1, q2⟩ := ref_end HB.out.bZ HO.out.ws (hu3.out) (.inl rfl : IsMsgs W6 none []) hT
  exact ⟨⟨_, _, _, none, 0, 0, rfl, q1, q2, rfl, Nat.le_refl _, by omega⟩, turns_below hw hT (by omega) hw.size⟩

end Go.Proofs.YtgngpmgjoifepaaGreatDoor
