/- The reference's UnitHears: a Piece. -/
import Derived.Test.YtgngpmgjoifepaaGreatDoorPv32
import Derived.Deep.DeepCutAuto
import Derived.BigRegion
namespace Go.Proofs.YtgngpmgjoifepaaGreatDoor
open Go.RowKit
attribute [local go_sem ↓] Go.wp_at_zero Go.wp_at_succ

set_option maxRecDepth 100000 in
set_option maxHeartbeats 12800000 in
theorem refHears_1 (ab : Option Addr) (nb cb : Nat) (ss : List ByteArray) (u : Un) (a : Option Addr) (c : Nat) (m : Ms) (am : Option Addr) (nm cm : Nat) (w : World) (hB : BB w ab nb cb ss) (hT : Tab w) (hU : BW w a 192 c u.ws) (hM : BI w am nm m.ws) (hb0 : bookE ss = 0) (hu0 : unE u = 0) (hm0 : msE m = 0) (hup : u.up = true) (hk : m.k = 1) :
    Calls Tryz.prog 27 #[bookv ab nb cb, unv u a 192 c, msv m am nm cm] w (RefAns w (pieceS u (stOf u.ws) m, [])) := by
  have hzz := And.intro hB (And.intro hT (And.intro hU (And.intro hM (And.intro hb0 (And.intro hu0 hm0)))))
  clear hzz
  have HUP := hide hup
  clear hup
  have HK := hide hk
  clear hk
  obtain ⟨s, hs⟩ : ∃ s, s = stOf u.ws := ⟨_, rfl⟩
  have hlk := (unE_ok hu0).1
  have HSt := hide (fun W (hW : Below w.heap.size w W) => unitStateOf_any u a 192 c W (hU.below hW) hlk)
  have HOw := hide (fun W (hW : Below w.heap.size w W) => ownFlash_any a 192 c u.ws u.fu W (hU.below hW).at_ hU.len (by decide))
  have hsl := oth_0 hu0
  rw [← hs] at HSt hsl
  obtain ⟨sn, hsn0⟩ : ∃ sn : Nat, oth s = (sn : Int) := ⟨(oth s).toNat, by omega⟩
  have hsn : sn ≤ 1 := by omega
  have ko : IntKind.i64.wrap (1 - s.slot) = (sn : Int) := by have e : 1 - s.slot = (sn : Int) := hsn0; rw [e]; rw [IntKind.wrap_i64]; omega
  have HS := hide hs
  have HN := hide hsn0
  have hu3 : Hid (u.ws = [] ∨ 3 ≤ u.ws.length) := .inr (by rw [hU.len]; decide)
  clear hs hsn0 hsl hlk
  obtain ⟨hw, b0, b1, b2, b3, b4, b5⟩ := al6 w (.cells #[.slice ab nb cb] 24) (.cells #[.slice a 192 c, .int .i64 u.fu, .bool u.up, .int .i64 u.n, .int .i64 u.hv] 29) (.cells #[.int .i64 m.k, .int .i64 m.u, .int .i64 m.n, .int .i64 m.at', .int .i64 m.im, .slice am nm cm, .bool m.y] 31) (.cells #[.slice none 0 0, .int .i64 0, .bool false, .int .i64 0, .int .i64 0] 29) (.cells #[.slice a 192 c, .int .i64 u.fu, .bool u.up, .int .i64 u.n, .int .i64 u.hv, .bool false] 137) (.cells #[.pointer (some ⟨w.heap.size + 1 + 1 + 1 + 1, 0, none⟩)] 135)
  unfold usv unv at HSt
  unfold bookv unv msv
  have u0 := blk_cell b1 0 _ rfl
  have u1 := blk_cell b1 1 _ rfl
  have u2 := blk_cell b1 2 _ rfl
  have u3 := blk_cell b1 3 _ rfl
  have u4 := blk_cell b1 4 _ rfl
  go_enter Tryz.func27, Tryz.ntmps27
  go_upto_region 2 with fail
  generalize ((((((w.alloc (.cells #[.slice ab nb cb] 24)).alloc (.cells #[.slice a 192 c, .int .i64 u.fu, .bool u.up, .int .i64 u.n, .int .i64 u.hv] 29)).alloc (.cells #[.int .i64 m.k, .int .i64 m.u, .int .i64 m.n, .int .i64 m.at', .int .i64 m.im, .slice am nm cm, .bool m.y] 31)).alloc (.cells #[.slice none 0 0, .int .i64 0, .bool false, .int .i64 0, .int .i64 0] 29)).alloc (.cells #[.slice a 192 c, .int .i64 u.fu, .bool u.up, .int .i64 u.n, .int .i64 u.hv, .bool false] 137)).alloc (.cells #[.pointer (some ⟨w.heap.size + 1 + 1 + 1 + 1, 0, none⟩)] 135)) = W at *
  clear u2 u3 u4
  have p0 := blk_cell b5 0 _ rfl
  have hG0 : W.grownBy W.drew (some (w.heap.size + 1 + 1 + 1 + 1)) := turns_of (Below.refl _ _).drew _
  refine wp_region_held_drew (S := fun W' => W'.cell? ⟨w.heap.size + 1 + 1 + 1 + 1 + 1, 0, none⟩ = some (.pointer (some ⟨w.heap.size + 1 + 1 + 1 + 1, 0, none⟩)) ∧ W'.cell? ⟨w.heap.size + 1, 0, none⟩ = some (.slice a 192 c) ∧ W'.cell? ⟨w.heap.size + 1, 1, none⟩ = some (.int .i64 u.fu) ∧ W.grownBy W' (some (w.heap.size + 1 + 1 + 1 + 1))) (by kernel_rfl) (st3g p0 u0 u1 (by show w.heap.size + 1 + 1 + 1 + 1 + 1 ≠ w.heap.size + 1 + 1 + 1 + 1; omega) (by show w.heap.size + 1 ≠ w.heap.size + 1 + 1 + 1 + 1; omega) (by show w.heap.size + 1 ≠ w.heap.size + 1 + 1 + 1 + 1; omega) (hG0)) ?_
  intro hHeld
  refine Htake (i := 0) (v := ?_) (by rfl) (by kernel_rfl) (by exact fun _ _ _ h => h) (Or.inl ⟨by rfl, ?_⟩) (by assumption) ?_
  rotate_left
  {
  intro w hSw
  try dsimp only at hSw
  go_simp
  try with_reducible rfl
  }
  try simp only [sq]
  refine Htake (i := 1) (v := ?_) (by rfl) (by kernel_rfl) (by exact fun _ _ _ h => h) (Or.inl ⟨by rfl, ?_⟩) (by assumption) ?_
  rotate_left
  {
  intro w hSw
  try dsimp only at hSw
  go_simp
  try with_reducible rfl
  }
  try simp only [sq]
  refine Htake (i := 2) (v := ?_) (by rfl) (by kernel_rfl) (by exact fun _ _ _ h => h) (Or.inl ⟨by rfl, ?_⟩) (by assumption) ?_
  rotate_left
  {
  intro w hSw
  try dsimp only at hSw
  go_simp
  try with_reducible rfl
  }
  try simp only [sq]
  refine wpAnyH_ready (rs := [3]) (by kernel_rfl) (by simp) ?_
  refine AllReadyH.cons (by rfl) (fun K hK => ?_) AllReadyH.nil
  go_simp
  refine (unhide HOw _ hw.drew).mono ?_
  rintro e w2 ⟨gh, ch, hgh, hch, rfl, hoc, hb2⟩
  have hG2 := hG0.trans (turns_of hb2 (w.heap.size + 1 + 1 + 1 + 1))
  go_wp2_with fail
  refine hK.out _ _ (st3g p0 u0 u1 (by show w.heap.size + 1 + 1 + 1 + 1 + 1 ≠ w.heap.size + 1 + 1 + 1 + 1; omega) (by show w.heap.size + 1 ≠ w.heap.size + 1 + 1 + 1 + 1; omega) (by show w.heap.size + 1 ≠ w.heap.size + 1 + 1 + 1 + 1; omega) (hG2)) (fun hHeld2 => ?_)
  clear hK K hHeld
  try simp only [sq]
  have hHeld := hHeld2
  clear hHeld2
  have bH2 := blk_below (blk_below b4 (Below.refl _ _).drew) hb2
  have h0 := blk_cell bH2 0 _ rfl
  have h1 := blk_cell bH2 1 _ rfl
  have f0 := blk_free bH2 0
  have f1 := blk_free bH2 1
  have hT : w2.grownBy ((w2.setCell ⟨w.heap.size + 1 + 1 + 1 + 1, 0, none⟩ (.slice (some ⟨gh, 0, none⟩) 192 ch)).setCell ⟨w.heap.size + 1 + 1 + 1 + 1, 1, none⟩ (.int .i64 u.fu)) (some (w.heap.size + 1 + 1 + 1 + 1)) := turns_set (turns_set (World.grownBy.refl _ _) _ _) _ _
  refine Htake (i := 4) (v := ?_) (by rfl) (by kernel_rfl) (by exact fun _ _ _ h => h) (Or.inl ⟨by rfl, ?_⟩) (by assumption) ?_
  rotate_left
  {
  intro w hSw
  try dsimp only at hSw
  go_simp
  try with_reducible rfl
  }
  try simp only [sq]
  refine Htake (i := 5) (v := ?_) (by rfl) (by kernel_rfl) (by exact fun _ _ _ h => h) (Or.inl ⟨by rfl, ?_⟩) (by assumption) ?_
  rotate_left
  {
  intro w hSw
  try dsimp only at hSw
  go_simp
  try with_reducible rfl
  }
  try simp only [sq]
  refine Htake (i := 6) (v := ?_) (by rfl) (by kernel_rfl) (by exact fun _ _ _ h => h) (Or.inl ⟨by rfl, ?_⟩) (by assumption) ?_
  rotate_left
  {
  intro w hSw
  try dsimp only at hSw
  go_simp
  try with_reducible rfl
  }
  try simp only [sq]
  refine wpAnyH_ready (rs := [7]) (by kernel_rfl) (by simp) ?_
  refine AllReadyH.cons (by rfl) (fun K hK => ?_) AllReadyH.nil
  go_simp
  refine hK.out _ _ (st3g p0 u0 u1 (by show w.heap.size + 1 + 1 + 1 + 1 + 1 ≠ w.heap.size + 1 + 1 + 1 + 1; omega) (by show w.heap.size + 1 ≠ w.heap.size + 1 + 1 + 1 + 1; omega) (by show w.heap.size + 1 ≠ w.heap.size + 1 + 1 + 1 + 1; omega) (hG2.trans hT)) (fun hHeld => ?_)
  clear hK K
  try simp only [sq]
  refine wpAnyH_done (by kernel_rfl) ?_ _
  have hOw := own_made hoc hU.len hch bH2 hT (by decide) (by have := blk_lt b4; have e : W.heap.size = W.drew.heap.size := rfl; omega)
  have hG := hG2.trans hT
  clear hHeld bH2 h0 h1 f0 f1 hoc hb2 hG2 hT
  generalize ((w2.setCell ⟨w.heap.size + 1 + 1 + 1 + 1, 0, none⟩ (.slice (some ⟨gh, 0, none⟩) 192 ch)).setCell ⟨w.heap.size + 1 + 1 + 1 + 1, 1, none⟩ (.int .i64 u.fu)) = w2 at *
  have hw2 := turns_below hw hG (by omega) hw.size
  have q1 := blk_turns b1 hG (by omega)
  clear u0 u1 p0 hG0 HOw
  have u0 := blk_cell q1 0 _ rfl
  have u1 := blk_cell q1 1 _ rfl
  have u2 := blk_cell q1 2 _ rfl
  have u3 := blk_cell q1 3 _ rfl
  have u4 := blk_cell q1 4 _ rfl
  go_wp2_with fail
  refine (unhide HSt _ hw2).mono ?_
  rintro e w3 ⟨rfl, hb3⟩
  clear u0 u1 u2 u3 u4 HSt q1
  have hb4 : Below w2.heap.size w2 (w3.alloc (.cells #[.int .i64 s.slot, .int .i64 s.by', .int .i64 s.rdy] 40)) := below_new hb3 _
  have hG4 := hG.trans (turns_of hb4 (w.heap.size + 1 + 1 + 1 + 1))
  have bS := heap_alloc_last w3 (.cells #[.int .i64 s.slot, .int .i64 s.by', .int .i64 s.rdy] 40)
  have hwW := hw2.trans (hb4.mono hw2.size)
  have hS2 := hb3.size
  have hSz := Nat.le_trans (blk_lt b5) hG.size
  go_upto_region 6 with fail
  have HB : Hid (HB6 (w3.alloc (.cells #[.int .i64 s.slot, .int .i64 s.by', .int .i64 s.rdy] 40)) w.heap.size w3.heap.size ab nb cb u a c m am nm cm s) := ⟨blk_turns b0 hG4 (by omega), blk_turns b1 hG4 (by omega), blk_turns b2 hG4 (by omega), blk_turns b3 hG4 (by omega), blk_turns b5 hG4 (by omega), bS, by omega⟩
  have HO := hide (hOw.below hb4)
  generalize w3.alloc (.cells #[.int .i64 s.slot, .int .i64 s.by', .int .i64 s.rdy] 40) = W6 at *
  generalize w3.heap.size = S at *
  clear hw hw2 b0 b1 b2 b3 b4 b5 bS hb3 hb4 hG hG4 hOw hS2 hSz
  have hw := hwW
  clear hwW
  have hlk := (unE_ok hu0).1
  have hul := hU.len
  have hmE := msE_0 hm0
  have HLk : Hid (∀ st, (doV u st).1.ws = [] ∨ 3 ≤ (doV u st).1.ws.length) := fun st => lk_3 (doV_lk _ _) hul
  have ka : IntKind.i64.wrap (m.at' + (nm : Int)) = m.at' + (nm : Int) := by have h1 := hmE.2.2.2.1; have h2 := hmE.2.2.2.2.2.1; have h3 := hM.len; rw [IntKind.wrap_i64]; omega
  have P1 := hide (fun h => pieceS_1 (u := u) (s := s) (m := m) h)
  have P2 := hide (fun h h2 => pieceS_2 (u := u) (s := s) (m := m) h h2)
  have P3 := hide (fun h h2 => pieceS_3 (u := u) (s := s) (m := m) h h2)
  rw [HS.out] at P1 P2 P3
  have HDo := hide (slt_clr (u := u) (t := oth s) hu0 (by rw [HN.out]; omega)).ok
  clear hB hT hU hb0 hm0
  have x2 := blk_cell HB.out.bU 2 _ rfl
  rw [HUP.out] at x2
  have m0 := blk_cell HB.out.bM 0 _ rfl
  rw [HK.out] at m0
  have m2 := blk_cell HB.out.bM 2 _ rfl
  have s1 := blk_cell HB.out.bS 1 _ rfl
  have s2 := blk_cell HB.out.bS 2 _ rfl
  have p0 := blk_cell HB.out.bP 0 _ rfl
  have p00 := p0
  have m20 := m2
  clear p0 m2
  have p0 := p00
  have m2 := m20
  by_cases z : s.rdy ≠ 0 ∨ m.n ≤ s.by'
  {
  have EQ := hide (P1.out (by rw [← HS.out]; exact z))
  clear P1 P2 P3 HDo HLk hM hmE hul hlk
  by_cases z2 : s.rdy = 0
  {
  have d2 : (s.rdy != 0) = false := by simpa using z2
  have z3 : m.n ≤ s.by' := z.resolve_left (fun e => e z2)
  clear z z2
  have HE : Hid ((pieceS u (stOf u.ws) m, ([] : List Ms)) = (u, [])) := by show _ = _; rw [EQ.out]
  clear EQ
  have pz := blk_cell HB.out.bP 0 _ rfl
  have h0 := blk_cell HO.out.box 0 _ rfl
  have h1 := blk_cell HO.out.box 1 _ rfl
  have h2 := blk_cell HO.out.box 2 _ rfl
  have h3 := blk_cell HO.out.box 3 _ rfl
  have h4 := blk_cell HO.out.box 4 _ rfl
  have z0 := blk_cell HB.out.bZ 0 _ rfl
  have z1 := blk_cell HB.out.bZ 1 _ rfl
  have z2 := blk_cell HB.out.bZ 2 _ rfl
  have z3 := blk_cell HB.out.bZ 3 _ rfl
  have z4 := blk_cell HB.out.bZ 4 _ rfl
  have f0 := blk_free HB.out.bZ 0
  have f1 := blk_free HB.out.bZ 1
  have f2 := blk_free HB.out.bZ 2
  have f3 := blk_free HB.out.bZ 3
  have f4 := blk_free HB.out.bZ 4
  go_wp2_with fail
  have hT : W6.grownBy (((((W6.setCell ⟨w.heap.size + 1 + 1 + 1, 0, none⟩ (.slice (some ⟨gh, 0, none⟩) 192 ch)).setCell ⟨w.heap.size + 1 + 1 + 1, 1, none⟩ (.int .i64 u.fu)).setCell ⟨w.heap.size + 1 + 1 + 1, 2, none⟩ (.bool u.up)).setCell ⟨w.heap.size + 1 + 1 + 1, 3, none⟩ (.int .i64 u.n)).setCell ⟨w.heap.size + 1 + 1 + 1, 4, none⟩ (.int .i64 u.hv)) (some (w.heap.size + 1 + 1 + 1)) := turns_set (turns_set (turns_set (turns_set (turns_set (World.grownBy.refl _ _) _ _) _ _) _ _) _ _) _ _
  have bN := unit_set5 (v0 := .slice (some ⟨gh, 0, none⟩) 192 ch) (v1 := .int .i64 u.fu) (v2 := .bool u.up) (v3 := .int .i64 u.n) (v4 := .int .i64 u.hv) HB.out.bZ
  have r0 := blk_cell bN 0 _ rfl
  have r1 := blk_cell bN 1 _ rfl
  have r2 := blk_cell bN 2 _ rfl
  have r3 := blk_cell bN 3 _ rfl
  have r4 := blk_cell bN 4 _ rfl
  refine bodyPost_ret (v := .tuple #[unv u (some ⟨gh, 0, none⟩) 192 ch, .slice none 0 0]) (by simp [results, Tryz.results27, go_sem, unv, r0, r1, r2, r3, r4]) rfl ?_
  obtain ⟨q1, q2⟩ := ref_end HB.out.bZ HO.out.ws (hu3.out) (.inl rfl : IsMsgs W6 none []) hT
  rw [HE.out]
  exact ⟨⟨_, _, _, none, 0, 0, rfl, q1, q2, rfl, Nat.le_refl _, by omega⟩, turns_below hw hT (by omega) hw.size⟩
  }
  have d2 : (s.rdy != 0) = true := by simpa using z2
  clear z z2
  have HE : Hid ((pieceS u (stOf u.ws) m, ([] : List Ms)) = (u, [])) := by show _ = _; rw [EQ.out]
  clear EQ
  have pz := blk_cell HB.out.bP 0 _ rfl
  have h0 := blk_cell HO.out.box 0 _ rfl
  have h1 := blk_cell HO.out.box 1 _ rfl
  have h2 := blk_cell HO.out.box 2 _ rfl
  have h3 := blk_cell HO.out.box 3 _ rfl
  have h4 := blk_cell HO.out.box 4 _ rfl
  have z0 := blk_cell HB.out.bZ 0 _ rfl
  have z1 := blk_cell HB.out.bZ 1 _ rfl
  have z2 := blk_cell HB.out.bZ 2 _ rfl
  have z3 := blk_cell HB.out.bZ 3 _ rfl
  have z4 := blk_cell HB.out.bZ 4 _ rfl
  have f0 := blk_free HB.out.bZ 0
  have f1 := blk_free HB.out.bZ 1
  have f2 := blk_free HB.out.bZ 2
  have f3 := blk_free HB.out.bZ 3
  have f4 := blk_free HB.out.bZ 4
  go_wp2_with fail
  have hT : W6.grownBy (((((W6.setCell ⟨w.heap.size + 1 + 1 + 1, 0, none⟩ (.slice (some ⟨gh, 0, none⟩) 192 ch)).setCell ⟨w.heap.size + 1 + 1 + 1, 1, none⟩ (.int .i64 u.fu)).setCell ⟨w.heap.size + 1 + 1 + 1, 2, none⟩ (.bool u.up)).setCell ⟨w.heap.size + 1 + 1 + 1, 3, none⟩ (.int .i64 u.n)).setCell ⟨w.heap.size + 1 + 1 + 1, 4, none⟩ (.int .i64 u.hv)) (some (w.heap.size + 1 + 1 + 1)) := turns_set (turns_set (turns_set (turns_set (turns_set (World.grownBy.refl _ _) _ _) _ _) _ _) _ _) _ _
  have bN := unit_set5 (v0 := .slice (some ⟨gh, 0, none⟩) 192 ch) (v1 := .int .i64 u.fu) (v2 := .bool u.up) (v3 := .int .i64 u.n) (v4 := .int .i64 u.hv) HB.out.bZ
  have r0 := blk_cell bN 0 _ rfl
  have r1 := blk_cell bN 1 _ rfl
  have r2 := blk_cell bN 2 _ rfl
  have r3 := blk_cell bN 3 _ rfl
  have r4 := blk_cell bN 4 _ rfl
  refine bodyPost_ret (v := .tuple #[unv u (some ⟨gh, 0, none⟩) 192 ch, .slice none 0 0]) (by simp [results, Tryz.results27, go_sem, unv, r0, r1, r2, r3, r4]) rfl ?_
  obtain ⟨q1, q2⟩ := ref_end HB.out.bZ HO.out.ws (hu3.out) (.inl rfl : IsMsgs W6 none []) hT
  rw [HE.out]
  exact ⟨⟨_, _, _, none, 0, 0, rfl, q1, q2, rfl, Nat.le_refl _, by omega⟩, turns_below hw hT (by omega) hw.size⟩
  }
  have zr0 : s.rdy = 0 := Decidable.byContradiction fun e => z (.inl e)
  have zb0 : s.by' < m.n := by have := fun e => z (.inr e); omega
  have z' : ¬ ((stOf u.ws).rdy ≠ 0 ∨ m.n ≤ (stOf u.ws).by') := by rw [← HS.out]; exact z
  replace P2 := hide (P2.out z')
  replace P3 := hide (P3.out z')
  clear P1 z z'
  have Hhrd : Hid ((stOf u.ws).rdy = 0) := by show _ = _; rw [← HS.out]; exact zr0
  have Hhby : Hid ((stOf u.ws).by' < m.n) := by show _ < _; rw [← HS.out]; exact zb0
  clear zr0 zb0
  by_cases ca : m.at' = 0
  {
  by_cases cn : u.n = m.n
  {
  by_cases cv : u.hv = 0
  {
  have cc : m.at' = 0 ∧ (u.n ≠ m.n ∨ u.hv = 0) := ⟨ca, .inr cv⟩
  have HA0 : Hid ((doV u (.clr (oth s))).2 = false → pieceS u (stOf u.ws) m = (doV u (.clr (oth s))).1) := fun e => by
    have e' : (doV u (.clr (oth (stOf u.ws)))).2 = false := by rw [← HS.out]; exact e
    rw [P2.out (by rw [pieceA_bad cc e']), pieceA_bad cc e', ← HS.out]
  have HA1 : Hid ((doV u (.clr (oth s))).2 = true → pieceS u (stOf u.ws) m = pieceB (mind (doV u (.clr (oth s))).1 m.n 0) s m) := fun e => by
    have e' : (doV u (.clr (oth (stOf u.ws)))).2 = true := by rw [← HS.out]; exact e
    rw [P3.out (by rw [pieceA_ok cc e']), pieceA_ok cc e', ← HS.out]
  have Hha := hide ca
  have Hhn := hide cn
  have Hhv := hide cv
  clear cv
  clear cc ca cn P2 P3
  have hck := (lchk_parts hlk).1
  have HCl := hide (fun V (hV : Below W6.heap.size W6 V) => cleared_any (some ⟨gh, 0, none⟩) ch u.ws u.fu sn V (HO.out.ws.below hV).at_ hul hck hsn)
  have HD0 : Hid (doV u (.clr (oth s)) = doU u (clrAt u.ws u.fu sn 2)) := by show _ = _; rw [HN.out, ← clrS_at hck hul hsn]; rfl
  have HRm : Hid (∀ {k : Nat}, (clrAt u.ws u.fu sn 2).1.length = k → k ≤ maxLen) := by rw [← clrS_at hck hul hsn]; exact room_of (doT_le (.clr sn) u.ws u.fu) hul
  clear hck
  have z1 : ¬ m.n ≤ s.by' := by have h := Hhby.out; rw [HS.out]; omega
  clear Hhby
  have d_r : (s.rdy != 0) = false := by have h := Hhrd.out; rw [← HS.out] at h; simpa using h
  clear Hhrd
  have m3 := blk_cell HB.out.bM 3 _ rfl
  have d_a : (m.at' == 0) = true := by simpa using Hha.out
  have u3 := blk_cell HB.out.bU 3 _ rfl
  have u4 := blk_cell HB.out.bU 4 _ rfl
  have d_n : (u.n == m.n) = true := by simpa using Hhn.out
  have d_v : ¬ 0 < u.hv := by have h := Hhv.out; omega
  generalize clrAt u.ws u.fu sn 2 = C at *
  unfold Answers at HCl
  go_upto_region 12 with fail
  have p0 := blk_cell HB.out.bP 0 _ rfl
  have h0 := blk_cell HO.out.box 0 _ rfl
  have h1 := blk_cell HO.out.box 1 _ rfl
  have hG0 : W6.grownBy W6.drew (some (w.heap.size + 1 + 1 + 1 + 1)) := turns_of (Below.refl _ _).drew _
  have hbd : Below W6.heap.size W6 W6.drew := (Below.refl _ _).drew
  refine wp_region_held_drew (S := fun W' => W'.cell? ⟨w.heap.size + 1 + 1 + 1 + 1 + 1, 0, none⟩ = some (.pointer (some ⟨w.heap.size + 1 + 1 + 1 + 1, 0, none⟩)) ∧ W6.grownBy W' (some (w.heap.size + 1 + 1 + 1 + 1))) (by kernel_rfl) (st1g p0 (by show w.heap.size + 1 + 1 + 1 + 1 + 1 ≠ w.heap.size + 1 + 1 + 1 + 1; omega) (hG0)) ?_
  intro hHeld
  refine Htake (i := 0) (v := ?_) (by rfl) (by kernel_rfl) (by exact fun _ _ _ h => h) (Or.inl ⟨by rfl, ?_⟩) (by assumption) ?_
  rotate_left
  {
  intro w hSw
  try dsimp only at hSw
  go_simp
  try with_reducible rfl
  }
  try simp only [sq]
  refine Htake (i := 1) (v := ?_) (by rfl) (by kernel_rfl) (by exact fun _ _ _ h => h) (Or.inl ⟨by rfl, ?_⟩) (by assumption) ?_
  rotate_left
  {
  intro w hSw
  try dsimp only at hSw
  go_simp
  try with_reducible rfl
  }
  try simp only [sq]
  refine Htake (i := 2) (v := ?_) (by rfl) (by kernel_rfl) (by exact fun _ _ _ h => h) (Or.inl ⟨by rfl, ?_⟩) (by assumption) ?_
  rotate_left
  {
  intro w hSw
  try dsimp only at hSw
  go_simp
  try with_reducible rfl
  }
  try simp only [sq]
  refine Htake (i := 3) (v := ?_) (by rfl) (by kernel_rfl) (by exact fun _ _ _ h => h) (Or.inl ⟨by rfl, ?_⟩) (by assumption) ?_
  rotate_left
  {
  intro w hSw
  try dsimp only at hSw
  go_simp
  try with_reducible rfl
  }
  try simp only [sq]
  refine Htake (i := 4) (v := ?_) (by rfl) (by kernel_rfl) (by exact fun _ _ _ h => h) (Or.inl ⟨by rfl, ?_⟩) (by assumption) ?_
  rotate_left
  {
  intro w hSw
  try dsimp only at hSw
  go_simp
  try with_reducible rfl
  }
  try simp only [sq]
  refine Htake (i := 6) (v := ?_) (by rfl) (by kernel_rfl) (by exact fun _ _ _ h => h) (Or.inl ⟨by rfl, ?_⟩) (by assumption) ?_
  rotate_left
  {
  intro w hSw
  try dsimp only at hSw
  go_simp
  try with_reducible rfl
  }
  try simp only [sq]
  refine wpAnyH_ready (rs := [5]) (by kernel_rfl) (by simp) ?_
  refine AllReadyH.cons (by rfl) (fun K hK => ?_) AllReadyH.nil
  go_simp
  refine hK.out _ _ (st1g p0 (by show w.heap.size + 1 + 1 + 1 + 1 + 1 ≠ w.heap.size + 1 + 1 + 1 + 1; omega) (hG0)) (fun hHeld2 => ?_)
  clear hK K hHeld
  try simp only [sq]
  have hHeld := hHeld2
  clear hHeld2
  refine wpAnyH_ready (rs := [7]) (by kernel_rfl) (by simp) ?_
  refine AllReadyH.cons (by rfl) (fun K hK => ?_) AllReadyH.nil
  go_simp
  refine (unhide HCl _ hbd).mono ?_
  rintro e w2 ⟨⟨a5, n5, c5, rfl, hi5, hn5, hc5, hf5⟩, hb2⟩
  have hG2 := hG0.trans (turns_of hb2 (w.heap.size + 1 + 1 + 1 + 1))
  go_wp2_with fail
  refine hK.out _ _ (st1g p0 (by show w.heap.size + 1 + 1 + 1 + 1 + 1 ≠ w.heap.size + 1 + 1 + 1 + 1; omega) (hG2)) (fun hHeld2 => ?_)
  clear hK K hHeld
  try simp only [sq]
  have hHeld := hHeld2
  clear hHeld2
  refine Htake (i := 8) (v := ?_) (by rfl) (by kernel_rfl) (by exact fun _ _ _ h => h) (Or.inl ⟨by rfl, ?_⟩) (by assumption) ?_
  rotate_left
  {
  intro w hSw
  try dsimp only at hSw
  go_simp
  try with_reducible rfl
  }
  try simp only [sq]
  refine Htake (i := 9) (v := ?_) (by rfl) (by kernel_rfl) (by exact fun _ _ _ h => h) (Or.inl ⟨by rfl, ?_⟩) (by assumption) ?_
  rotate_left
  {
  intro w hSw
  try dsimp only at hSw
  go_simp
  try with_reducible rfl
  }
  try simp only [sq]
  refine wpAnyH_ready (rs := [10]) (by kernel_rfl) (by simp) ?_
  refine AllReadyH.cons (by rfl) (fun K hK => ?_) AllReadyH.nil
  have HF := hide (handsFlash_any (w.heap.size + 1 + 1 + 1 + 1) u (some ⟨gh, 0, none⟩) 192 ch C a5 n5 c5 w2 ((HO.out.below hbd).below hb2) ⟨hi5, hn5, hc5, HRm.out hn5⟩ (off_fresh hf5 (Nat.lt_of_lt_of_le (blk_lt HO.out.box) hbd.size)))
  unfold HdOf at HF
  clear hi5 hc5 hf5 hn5
  go_simp
  refine (unhide HF).mono ?_
  rintro e w9 ⟨rfl, ⟨a9, n9, c9, hO9⟩, hg9⟩
  have hG9 := hG2.trans hg9
  go_wp2_with fail
  refine hK.out _ _ (st1g p0 (by show w.heap.size + 1 + 1 + 1 + 1 + 1 ≠ w.heap.size + 1 + 1 + 1 + 1; omega) (hG9)) (fun hHeld2 => ?_)
  clear hK K hHeld hHeld2
  try simp only [sq]
  refine wpAnyH_done (by kernel_rfl) ?_ _
  have HO9 := hide hO9
  replace HB := hide (HB.out.turns hG9)
  replace hw := turns_below hw hG9 (by omega) hw.size
  clear hO9 hG9 hg9 hG2 hb2 HF p0 h0 h1 hG0 hbd  HO
  rw [← HD0.out] at HO9
  obtain ⟨D, hD⟩ : ∃ D, D = doV u (.clr (oth s)) := ⟨_, rfl⟩
  rw [← hD] at HO9
  have HD := hide hD
  clear hD HD0 HRm HCl x2 m0 s1 s2 p00 m20 m3 d_a d_r d_n z1 u3 u4 d_v
  rw [← HD.out] at HA0 HA1 HDo
  have HLD : Hid (D.1.ws = [] ∨ 3 ≤ D.1.ws.length) := by show _ ∨ _; rw [HD.out]; exact HLk.out _
  clear HLk HD
  obtain ⟨x, dn⟩ := D
  dsimp only at *
  have h5 := blk_cell HO9.out.box 5 _ rfl
  have p0 := blk_cell HB.out.bP 0 _ rfl
  cases dn
  {
  have EQ := hide (HA0.out rfl)
  clear HA0 HA1 HDo hM hmE ka
  go_upto_region 15 with fail
  go_quiet (fail)
  have hbz : Below w9.heap.size w9 (w9.drewN nq) := below_drewN (Below.refl _ _) nq
  replace HB := hide (HB.out.below hbz)
  replace HO9 := hide (HO9.out.below hbz)
  replace hw := hw.trans (hbz.mono hw.size)
  clear h5 p0
  generalize w9.drewN nq = w8 at *
  have HE : Hid ((pieceS u (stOf u.ws) m, ([] : List Ms)) = (x, [])) := by show _ = _; rw [EQ.out]
  clear EQ
  have pz := blk_cell HB.out.bP 0 _ rfl
  have h0 := blk_cell HO9.out.box 0 _ rfl
  have h1 := blk_cell HO9.out.box 1 _ rfl
  have h2 := blk_cell HO9.out.box 2 _ rfl
  have h3 := blk_cell HO9.out.box 3 _ rfl
  have h4 := blk_cell HO9.out.box 4 _ rfl
  have z0 := blk_cell HB.out.bZ 0 _ rfl
  have z1 := blk_cell HB.out.bZ 1 _ rfl
  have z2 := blk_cell HB.out.bZ 2 _ rfl
  have z3 := blk_cell HB.out.bZ 3 _ rfl
  have z4 := blk_cell HB.out.bZ 4 _ rfl
  have f0 := blk_free HB.out.bZ 0
  have f1 := blk_free HB.out.bZ 1
  have f2 := blk_free HB.out.bZ 2
  have f3 := blk_free HB.out.bZ 3
  have f4 := blk_free HB.out.bZ 4
  go_wp2_with fail
  have hT : w8.grownBy (((((w8.setCell ⟨w.heap.size + 1 + 1 + 1, 0, none⟩ (.slice a9 n9 c9)).setCell ⟨w.heap.size + 1 + 1 + 1, 1, none⟩ (.int .i64 x.fu)).setCell ⟨w.heap.size + 1 + 1 + 1, 2, none⟩ (.bool x.up)).setCell ⟨w.heap.size + 1 + 1 + 1, 3, none⟩ (.int .i64 x.n)).setCell ⟨w.heap.size + 1 + 1 + 1, 4, none⟩ (.int .i64 x.hv)) (some (w.heap.size + 1 + 1 + 1)) := turns_set (turns_set (turns_set (turns_set (turns_set (World.grownBy.refl _ _) _ _) _ _) _ _) _ _) _ _
  have bN := unit_set5 (v0 := .slice a9 n9 c9) (v1 := .int .i64 x.fu) (v2 := .bool x.up) (v3 := .int .i64 x.n) (v4 := .int .i64 x.hv) HB.out.bZ
  have r0 := blk_cell bN 0 _ rfl
  have r1 := blk_cell bN 1 _ rfl
  have r2 := blk_cell bN 2 _ rfl
  have r3 := blk_cell bN 3 _ rfl
  have r4 := blk_cell bN 4 _ rfl
  refine bodyPost_ret (v := .tuple #[unv x a9 n9 c9, .slice none 0 0]) (by simp [results, Tryz.results27, go_sem, unv, r0, r1, r2, r3, r4]) rfl ?_
  obtain ⟨q1, q2⟩ := ref_end HB.out.bZ HO9.out.ws (HLD.out) (.inl rfl : IsMsgs w8 none []) hT
  rw [HE.out]
  exact ⟨⟨_, _, _, none, 0, 0, rfl, q1, q2, rfl, Nat.le_refl _, by omega⟩, turns_below hw hT (by omega) hw.size⟩
  }
  replace HA1 := hide (HA1.out rfl)
  clear HA0 HLD
  obtain ⟨hx1, hx2, hx3⟩ := unE_ok HDo.out
  obtain rfl : n9 = 192 := HO9.out.ws.len.symm.trans hx2
  have hxc := (lchk_parts hx1).1
  clear hx1 hx3 HDo
  go_upto_region 14 with fail
  clear h5 p0
  go_upto_region 14 with fail
  have p0 := blk_cell HB.out.bP 0 _ rfl
  have m2 := blk_cell HB.out.bM 2 _ rfl
  have hG0 : w9.grownBy w9.drew (some (w.heap.size + 1 + 1 + 1 + 1)) := turns_of (Below.refl _ _).drew _
  have h3 := blk_cell HO9.out.box 3 _ rfl
  have h4 := blk_cell HO9.out.box 4 _ rfl
  have f3 := blk_free HO9.out.box 3
  have f4 := blk_free HO9.out.box 4
  have hT1 : w9.grownBy (w9.setCell ⟨w.heap.size + 1 + 1 + 1 + 1, 3, none⟩ (.int .i64 m.n)) (some (w.heap.size + 1 + 1 + 1 + 1)) := turns_set (World.grownBy.refl _ _) _ _
  have hT : w9.grownBy ((w9.setCell ⟨w.heap.size + 1 + 1 + 1 + 1, 3, none⟩ (.int .i64 m.n)).setCell ⟨w.heap.size + 1 + 1 + 1 + 1, 4, none⟩ (.int .i64 0)) (some (w.heap.size + 1 + 1 + 1 + 1)) := turns_set hT1 _ _
  refine wp_region_held_drew (S := fun W' => W'.cell? ⟨w.heap.size + 1 + 1 + 1 + 1 + 1, 0, none⟩ = some (.pointer (some ⟨w.heap.size + 1 + 1 + 1 + 1, 0, none⟩)) ∧ W'.cell? ⟨w.heap.size + 1 + 1, 2, none⟩ = some (.int .i64 m.n) ∧ w9.grownBy W' (some (w.heap.size + 1 + 1 + 1 + 1))) (by kernel_rfl) (st2g p0 m2 (by show w.heap.size + 1 + 1 + 1 + 1 + 1 ≠ w.heap.size + 1 + 1 + 1 + 1; omega) (by show w.heap.size + 1 + 1 ≠ w.heap.size + 1 + 1 + 1 + 1; omega) (hG0)) ?_
  intro hHeld
  refine Htake (i := 0) (v := ?_) (by rfl) (by kernel_rfl) (by exact fun _ _ _ h => h) (Or.inl ⟨by rfl, ?_⟩) (by assumption) ?_
  rotate_left
  {
  intro w hSw
  try dsimp only at hSw
  go_simp
  try with_reducible rfl
  }
  try simp only [sq]
  refine Htake (i := 1) (v := ?_) (by rfl) (by kernel_rfl) (by exact fun _ _ _ h => h) (Or.inl ⟨by rfl, ?_⟩) (by assumption) ?_
  rotate_left
  {
  intro w hSw
  try dsimp only at hSw
  go_simp
  try with_reducible rfl
  }
  try simp only [sq]
  refine Htake (i := 2) (v := ?_) (by rfl) (by kernel_rfl) (by exact fun _ _ _ h => h) (Or.inl ⟨by rfl, ?_⟩) (by assumption) ?_
  rotate_left
  {
  intro w hSw
  try dsimp only at hSw
  go_simp
  try with_reducible rfl
  }
  try simp only [sq]
  refine Htake (i := 3) (v := ?_) (by rfl) (by kernel_rfl) (by exact fun _ _ _ h => h) (Or.inl ⟨by rfl, ?_⟩) (by assumption) ?_
  rotate_left
  {
  intro w hSw
  try dsimp only at hSw
  go_simp
  try with_reducible rfl
  }
  try simp only [sq]
  refine Htake (i := 4) (v := ?_) (by rfl) (by kernel_rfl) (by exact fun _ _ _ h => h) (Or.inl ⟨by rfl, ?_⟩) (by assumption) ?_
  rotate_left
  {
  intro w hSw
  try dsimp only at hSw
  go_simp
  try with_reducible rfl
  }
  try simp only [sq]
  refine Htake (i := 5) (v := ?_) (by rfl) (by kernel_rfl) (by exact fun _ _ _ h => h) (Or.inl ⟨by rfl, ?_⟩) (by assumption) ?_
  rotate_left
  {
  intro w hSw
  try dsimp only at hSw
  go_simp
  try with_reducible rfl
  }
  try simp only [sq]
  refine Htake (i := 6) (v := ?_) (by rfl) (by kernel_rfl) (by exact fun _ _ _ h => h) (Or.inl ⟨by rfl, ?_⟩) (by assumption) ?_
  rotate_left
  {
  intro w hSw
  try dsimp only at hSw
  go_simp
  try with_reducible rfl
  }
  try simp only [sq]
  refine wpAnyH_ready (rs := [7]) (by kernel_rfl) (by simp) ?_
  refine AllReadyH.cons (by rfl) (fun K hK => ?_) AllReadyH.nil
  go_simp
  refine hK.out _ _ (st2g p0 m2 (by show w.heap.size + 1 + 1 + 1 + 1 + 1 ≠ w.heap.size + 1 + 1 + 1 + 1; omega) (by show w.heap.size + 1 + 1 ≠ w.heap.size + 1 + 1 + 1 + 1; omega) (grown_drew2 hT1)) (fun hHeld2 => ?_)
  clear hK K hHeld
  try simp only [sq]
  have hHeld := hHeld2
  clear hHeld2
  refine Htake (i := 8) (v := ?_) (by rfl) (by kernel_rfl) (by exact fun _ _ _ h => h) (Or.inl ⟨by rfl, ?_⟩) (by assumption) ?_
  rotate_left
  {
  intro w hSw
  try dsimp only at hSw
  go_simp
  try with_reducible rfl
  }
  try simp only [sq]
  refine Htake (i := 9) (v := ?_) (by rfl) (by kernel_rfl) (by exact fun _ _ _ h => h) (Or.inl ⟨by rfl, ?_⟩) (by assumption) ?_
  rotate_left
  {
  intro w hSw
  try dsimp only at hSw
  go_simp
  try with_reducible rfl
  }
  try simp only [sq]
  refine Htake (i := 10) (v := ?_) (by rfl) (by kernel_rfl) (by exact fun _ _ _ h => h) (Or.inl ⟨by rfl, ?_⟩) (by assumption) ?_
  rotate_left
  {
  intro w hSw
  try dsimp only at hSw
  go_simp
  try with_reducible rfl
  }
  try simp only [sq]
  refine wpAnyH_ready (rs := [11]) (by kernel_rfl) (by simp) ?_
  refine AllReadyH.cons (by rfl) (fun K hK => ?_) AllReadyH.nil
  go_simp
  refine hK.out _ _ (st2g p0 m2 (by show w.heap.size + 1 + 1 + 1 + 1 + 1 ≠ w.heap.size + 1 + 1 + 1 + 1; omega) (by show w.heap.size + 1 + 1 ≠ w.heap.size + 1 + 1 + 1 + 1; omega) (grown_drew2 hT)) (fun hHeld2 => ?_)
  clear hK K hHeld hHeld2
  try simp only [sq]
  refine wpAnyH_done (by kernel_rfl) ?_ _
  have HOm := hide ((own_mind HO9.out hT).below (Below.refl _ _).drew)
  have hGm := grown_drew2 hT
  clear p0 h3 h4 f3 f4 hT hT1 hG0 m2
  generalize ((w9.setCell ⟨w.heap.size + 1 + 1 + 1 + 1, 3, none⟩ (.int .i64 m.n)).setCell ⟨w.heap.size + 1 + 1 + 1 + 1, 4, none⟩ (.int .i64 0)).drew = wm at *
  replace HB := hide (HB.out.turns hGm)
  replace hw := turns_below hw hGm (by omega) hw.size
  clear hGm HO9
  have hpb : (mind x m.n 0).n = m.n ∧ (mind x m.n 0).hv = m.at' ∧ (m.ws.length : Int) ≤ 40 - m.at' := ⟨rfl, Hha.out.symm, by have h := Hha.out; have h2 := hmE.2.2.2.2.2.1; omega⟩
  have HPB1 : Hid ((doV (mind x m.n 0) (.fil (oth s) m.at' m.ws)).2 = true → pieceS u (stOf u.ws) m = mind (doV (mind x m.n 0) (.fil (oth s) m.at' m.ws)).1 (doV (mind x m.n 0) (.fil (oth s) m.at' m.ws)).1.n ((doV (mind x m.n 0) (.fil (oth s) m.at' m.ws)).1.hv + m.ws.length)) := fun e => HA1.out.trans (pieceB_ok hpb e)
  have HPB0 : Hid ((doV (mind x m.n 0) (.fil (oth s) m.at' m.ws)).2 = false → pieceS u (stOf u.ws) m = (doV (mind x m.n 0) (.fil (oth s) m.at' m.ws)).1) := fun e => HA1.out.trans (pieceB_bad hpb e)
  clear HA1 hpb
  have h3 := blk_cell HOm.out.box 3 (.int .i64 m.n) rfl
  have h4 := blk_cell HOm.out.box 4 (.int .i64 0) rfl
  have h5 := blk_cell HOm.out.box 5 _ rfl
  have p0 := blk_cell HB.out.bP 0 _ rfl
  have m2 := blk_cell HB.out.bM 2 _ rfl
  have m3 := blk_cell HB.out.bM 3 _ rfl
  have m5 := blk_cell HB.out.bM 5 _ rfl
  have d_n2 : (m.n == m.n) = true := by simp
  have d_h : ((0 : Int) == m.at') = true := by have h := Hha.out; simp [h]
  have kb : m.at' + (nm : Int) ≤ 40 := by have h := Hha.out; have h2 := hmE.2.2.2.2.2.1; have h3 := hM.len; omega
  go_upto_region 15 with fail
  go_quiet (fail)
  have hbz : Below wm.heap.size wm (wm.drewN nq) := below_drewN (Below.refl _ _) nq
  replace HB := hide (HB.out.below hbz)
  replace HOm := hide (HOm.out.below hbz)
  replace hw := hw.trans (hbz.mono hw.size)
  clear h3 h4 h5 d_n2 d_h kb m3 m5 p0 m2
  generalize wm.drewN nq = w8 at *
  have hyl : (mind x m.n 0).ws.length = 192 := hx2
  have hyc : chk (mind x m.n 0).ws (mind x m.n 0).fu = 0 := hxc
  have HYh : Hid ((mind x m.n 0).hv = m.at') := Hha.out.symm
  clear hx2 hxc
  generalize mind x m.n 0 = y at *
  have HFi := hide (fun V (hV : Below w8.heap.size w8 V) => filled_any a9 c9 y.ws y.fu sn m.at' am nm cm m.ws V (HOm.out.ws.below hV).at_ hyl hyc hsn (hM.below (hw.trans (hV.mono hw.size))).at_ hM.len hM.max)
  have HF0 : Hid (doV y (.fil (oth s) m.at' m.ws) = doU y (fillS y.ws y.fu sn m.at' m.ws)) := by show _ = _; rw [HN.out]; rfl
  have HRm2 : Hid (∀ {k : Nat}, (fillS y.ws y.fu sn m.at' m.ws).1.length = k → k ≤ maxLen) := room_of (doT_le (.fil sn m.at' m.ws) y.ws y.fu) hyl
  have HLy : Hid (∀ st, (doV y st).1.ws = [] ∨ 3 ≤ (doV y st).1.ws.length) := fun st => lk_3 (doV_lk _ _) hyl
  have HHv : Hid ((doV y (.fil (oth s) m.at' m.ws)).2 = true → (doV y (.fil (oth s) m.at' m.ws)).1.hv = y.hv) := doV_hv
  generalize fillS y.ws y.fu sn m.at' m.ws = C2 at *
  unfold Answers at HFi
  go_upto_region 16 with fail
  have p0 := blk_cell HB.out.bP 0 _ rfl
  have m3 := blk_cell HB.out.bM 3 _ rfl
  have m5 := blk_cell HB.out.bM 5 _ rfl
  have h0 := blk_cell HOm.out.box 0 _ rfl
  have h1 := blk_cell HOm.out.box 1 _ rfl
  have hG0 : w8.grownBy w8.drew (some (w.heap.size + 1 + 1 + 1 + 1)) := turns_of (Below.refl _ _).drew _
  have hbd : Below w8.heap.size w8 w8.drew := (Below.refl _ _).drew
  refine wp_region_held_drew (S := fun W' => W'.cell? ⟨w.heap.size + 1 + 1 + 1 + 1 + 1, 0, none⟩ = some (.pointer (some ⟨w.heap.size + 1 + 1 + 1 + 1, 0, none⟩)) ∧ W'.cell? ⟨w.heap.size + 1 + 1, 3, none⟩ = some (.int .i64 m.at') ∧ W'.cell? ⟨w.heap.size + 1 + 1, 5, none⟩ = some (.slice am nm cm) ∧ w8.grownBy W' (some (w.heap.size + 1 + 1 + 1 + 1))) (by kernel_rfl) (st3g p0 m3 m5 (by show w.heap.size + 1 + 1 + 1 + 1 + 1 ≠ w.heap.size + 1 + 1 + 1 + 1; omega) (by show w.heap.size + 1 + 1 ≠ w.heap.size + 1 + 1 + 1 + 1; omega) (by show w.heap.size + 1 + 1 ≠ w.heap.size + 1 + 1 + 1 + 1; omega) (hG0)) ?_
  intro hHeld
  refine Htake (i := 0) (v := ?_) (by rfl) (by kernel_rfl) (by exact fun _ _ _ h => h) (Or.inl ⟨by rfl, ?_⟩) (by assumption) ?_
  rotate_left
  {
  intro w hSw
  try dsimp only at hSw
  go_simp
  try with_reducible rfl
  }
  try simp only [sq]
  refine Htake (i := 1) (v := ?_) (by rfl) (by kernel_rfl) (by exact fun _ _ _ h => h) (Or.inl ⟨by rfl, ?_⟩) (by assumption) ?_
  rotate_left
  {
  intro w hSw
  try dsimp only at hSw
  go_simp
  try with_reducible rfl
  }
  try simp only [sq]
  refine Htake (i := 2) (v := ?_) (by rfl) (by kernel_rfl) (by exact fun _ _ _ h => h) (Or.inl ⟨by rfl, ?_⟩) (by assumption) ?_
  rotate_left
  {
  intro w hSw
  try dsimp only at hSw
  go_simp
  try with_reducible rfl
  }
  try simp only [sq]
  refine Htake (i := 3) (v := ?_) (by rfl) (by kernel_rfl) (by exact fun _ _ _ h => h) (Or.inl ⟨by rfl, ?_⟩) (by assumption) ?_
  rotate_left
  {
  intro w hSw
  try dsimp only at hSw
  go_simp
  try with_reducible rfl
  }
  try simp only [sq]
  refine Htake (i := 4) (v := ?_) (by rfl) (by kernel_rfl) (by exact fun _ _ _ h => h) (Or.inl ⟨by rfl, ?_⟩) (by assumption) ?_
  rotate_left
  {
  intro w hSw
  try dsimp only at hSw
  go_simp
  try with_reducible rfl
  }
  try simp only [sq]
  refine Htake (i := 6) (v := ?_) (by rfl) (by kernel_rfl) (by exact fun _ _ _ h => h) (Or.inl ⟨by rfl, ?_⟩) (by assumption) ?_
  rotate_left
  {
  intro w hSw
  try dsimp only at hSw
  go_simp
  try with_reducible rfl
  }
  try simp only [sq]
  refine Htake (i := 7) (v := ?_) (by rfl) (by kernel_rfl) (by exact fun _ _ _ h => h) (Or.inl ⟨by rfl, ?_⟩) (by assumption) ?_
  rotate_left
  {
  intro w hSw
  try dsimp only at hSw
  go_simp
  try with_reducible rfl
  }
  try simp only [sq]
  refine Htake (i := 8) (v := ?_) (by rfl) (by kernel_rfl) (by exact fun _ _ _ h => h) (Or.inl ⟨by rfl, ?_⟩) (by assumption) ?_
  rotate_left
  {
  intro w hSw
  try dsimp only at hSw
  go_simp
  try with_reducible rfl
  }
  try simp only [sq]
  refine Htake (i := 9) (v := ?_) (by rfl) (by kernel_rfl) (by exact fun _ _ _ h => h) (Or.inl ⟨by rfl, ?_⟩) (by assumption) ?_
  rotate_left
  {
  intro w hSw
  try dsimp only at hSw
  go_simp
  try with_reducible rfl
  }
  try simp only [sq]
  refine Htake (i := 10) (v := ?_) (by rfl) (by kernel_rfl) (by exact fun _ _ _ h => h) (Or.inl ⟨by rfl, ?_⟩) (by assumption) ?_
  rotate_left
  {
  intro w hSw
  try dsimp only at hSw
  go_simp
  try with_reducible rfl
  }
  try simp only [sq]
  refine wpAnyH_ready (rs := [5]) (by kernel_rfl) (by simp) ?_
  refine AllReadyH.cons (by rfl) (fun K hK => ?_) AllReadyH.nil
  go_simp
  refine hK.out _ _ (st3g p0 m3 m5 (by show w.heap.size + 1 + 1 + 1 + 1 + 1 ≠ w.heap.size + 1 + 1 + 1 + 1; omega) (by show w.heap.size + 1 + 1 ≠ w.heap.size + 1 + 1 + 1 + 1; omega) (by show w.heap.size + 1 + 1 ≠ w.heap.size + 1 + 1 + 1 + 1; omega) (hG0)) (fun hHeld2 => ?_)
  clear hK K hHeld
  try simp only [sq]
  have hHeld := hHeld2
  clear hHeld2
  refine wpAnyH_ready (rs := [11]) (by kernel_rfl) (by simp) ?_
  refine AllReadyH.cons (by rfl) (fun K hK => ?_) AllReadyH.nil
  go_simp
  refine (unhide HFi _ hbd).mono ?_
  rintro e w2 ⟨⟨a5, n5, c5, rfl, hi5, hn5, hc5, hf5⟩, hb2⟩
  have hG2 := hG0.trans (turns_of hb2 (w.heap.size + 1 + 1 + 1 + 1))
  go_wp2_with fail
  refine hK.out _ _ (st3g p0 m3 m5 (by show w.heap.size + 1 + 1 + 1 + 1 + 1 ≠ w.heap.size + 1 + 1 + 1 + 1; omega) (by show w.heap.size + 1 + 1 ≠ w.heap.size + 1 + 1 + 1 + 1; omega) (by show w.heap.size + 1 + 1 ≠ w.heap.size + 1 + 1 + 1 + 1; omega) (hG2)) (fun hHeld2 => ?_)
  clear hK K hHeld
  try simp only [sq]
  have hHeld := hHeld2
  clear hHeld2
  refine Htake (i := 12) (v := ?_) (by rfl) (by kernel_rfl) (by exact fun _ _ _ h => h) (Or.inl ⟨by rfl, ?_⟩) (by assumption) ?_
  rotate_left
  {
  intro w hSw
  try dsimp only at hSw
  go_simp
  try with_reducible rfl
  }
  try simp only [sq]
  refine Htake (i := 13) (v := ?_) (by rfl) (by kernel_rfl) (by exact fun _ _ _ h => h) (Or.inl ⟨by rfl, ?_⟩) (by assumption) ?_
  rotate_left
  {
  intro w hSw
  try dsimp only at hSw
  go_simp
  try with_reducible rfl
  }
  try simp only [sq]
  refine wpAnyH_ready (rs := [14]) (by kernel_rfl) (by simp) ?_
  refine AllReadyH.cons (by rfl) (fun K hK => ?_) AllReadyH.nil
  have HF := hide (handsFlash_any (w.heap.size + 1 + 1 + 1 + 1) y a9 192 c9 C2 a5 n5 c5 w2 ((HOm.out.below hbd).below hb2) ⟨hi5, hn5, hc5, HRm2.out hn5⟩ (off_fresh hf5 (Nat.lt_of_lt_of_le (blk_lt HOm.out.box) hbd.size)))
  unfold HdOf at HF
  clear hi5 hc5 hf5 hn5
  go_simp
  refine (unhide HF).mono ?_
  rintro e w9 ⟨rfl, ⟨a9, n9, c9, hO9⟩, hg9⟩
  have hG9 := hG2.trans hg9
  go_wp2_with fail
  refine hK.out _ _ (st3g p0 m3 m5 (by show w.heap.size + 1 + 1 + 1 + 1 + 1 ≠ w.heap.size + 1 + 1 + 1 + 1; omega) (by show w.heap.size + 1 + 1 ≠ w.heap.size + 1 + 1 + 1 + 1; omega) (by show w.heap.size + 1 + 1 ≠ w.heap.size + 1 + 1 + 1 + 1; omega) (hG9)) (fun hHeld2 => ?_)
  clear hK K hHeld hHeld2
  try simp only [sq]
  refine wpAnyH_done (by kernel_rfl) ?_ _
  have HO9 := hide hO9
  replace HB := hide (HB.out.turns hG9)
  replace hw := turns_below hw hG9 (by omega) hw.size
  clear hO9 hG9 hg9 hG2 hb2 HF p0 h0 h1 hG0 hbd m3 m5 HOm
  rw [← HF0.out] at HO9
  obtain ⟨F, hF⟩ : ∃ F, F = doV y (.fil (oth s) m.at' m.ws) := ⟨_, rfl⟩
  rw [← hF] at HO9 HHv HPB1 HPB0
  have HL : Hid (F.1.ws = [] ∨ 3 ≤ F.1.ws.length) := by show _ ∨ _; rw [hF]; exact HLy.out _
  clear hF HF0 HRm2 HFi HLy
  obtain ⟨z, dn⟩ := F
  dsimp only at *
  have h5 := blk_cell HO9.out.box 5 _ rfl
  have p0 := blk_cell HB.out.bP 0 _ rfl
  cases dn
  {
  have EQ := hide (HPB0.out rfl)
  clear HPB0 HPB1 HHv hM hmE ka
  have HE : Hid ((pieceS u (stOf u.ws) m, ([] : List Ms)) = (z, [])) := by show _ = _; rw [EQ.out]
  clear EQ
  have pz := blk_cell HB.out.bP 0 _ rfl
  have h0 := blk_cell HO9.out.box 0 _ rfl
  have h1 := blk_cell HO9.out.box 1 _ rfl
  have h2 := blk_cell HO9.out.box 2 _ rfl
  have h3 := blk_cell HO9.out.box 3 _ rfl
  have h4 := blk_cell HO9.out.box 4 _ rfl
  have z0 := blk_cell HB.out.bZ 0 _ rfl
  have z1 := blk_cell HB.out.bZ 1 _ rfl
  have z2 := blk_cell HB.out.bZ 2 _ rfl
  have z3 := blk_cell HB.out.bZ 3 _ rfl
  have z4 := blk_cell HB.out.bZ 4 _ rfl
  have f0 := blk_free HB.out.bZ 0
  have f1 := blk_free HB.out.bZ 1
  have f2 := blk_free HB.out.bZ 2
  have f3 := blk_free HB.out.bZ 3
  have f4 := blk_free HB.out.bZ 4
  go_wp2_with fail
  have hT : w9.grownBy (((((w9.setCell ⟨w.heap.size + 1 + 1 + 1, 0, none⟩ (.slice a9 n9 c9)).setCell ⟨w.heap.size + 1 + 1 + 1, 1, none⟩ (.int .i64 z.fu)).setCell ⟨w.heap.size + 1 + 1 + 1, 2, none⟩ (.bool z.up)).setCell ⟨w.heap.size + 1 + 1 + 1, 3, none⟩ (.int .i64 z.n)).setCell ⟨w.heap.size + 1 + 1 + 1, 4, none⟩ (.int .i64 z.hv)) (some (w.heap.size + 1 + 1 + 1)) := turns_set (turns_set (turns_set (turns_set (turns_set (World.grownBy.refl _ _) _ _) _ _) _ _) _ _) _ _
  have bN := unit_set5 (v0 := .slice a9 n9 c9) (v1 := .int .i64 z.fu) (v2 := .bool z.up) (v3 := .int .i64 z.n) (v4 := .int .i64 z.hv) HB.out.bZ
  have r0 := blk_cell bN 0 _ rfl
  have r1 := blk_cell bN 1 _ rfl
  have r2 := blk_cell bN 2 _ rfl
  have r3 := blk_cell bN 3 _ rfl
  have r4 := blk_cell bN 4 _ rfl
  refine bodyPost_ret (v := .tuple #[unv z a9 n9 c9, .slice none 0 0]) (by simp [results, Tryz.results27, go_sem, unv, r0, r1, r2, r3, r4]) rfl ?_
  obtain ⟨q1, q2⟩ := ref_end HB.out.bZ HO9.out.ws (HL.out) (.inl rfl : IsMsgs w9 none []) hT
  rw [HE.out]
  exact ⟨⟨_, _, _, none, 0, 0, rfl, q1, q2, rfl, Nat.le_refl _, by omega⟩, turns_below hw hT (by omega) hw.size⟩
  }
  have EQ := hide (HPB1.out rfl)
  rw [HHv.out rfl, HYh.out, hM.len] at EQ
  clear HPB0 HPB1 HHv hM hmE
  have h4 := blk_cell HO9.out.box 4 _ rfl
  have f4 := blk_free HO9.out.box 4
  have m3 := blk_cell HB.out.bM 3 _ rfl
  have m5 := blk_cell HB.out.bM 5 _ rfl
  go_upto_region 47 with fail
  have hT4 : w9.grownBy (w9.setCell ⟨w.heap.size + 1 + 1 + 1 + 1, 4, none⟩ (.int .i64 (m.at' + (nm : Int)))) (some (w.heap.size + 1 + 1 + 1 + 1)) := turns_set (World.grownBy.refl _ _) _ _
  have HO5 := hide (own_hv HO9.out hT4)
  replace HB := hide (HB.out.turns hT4)
  replace hw := turns_below hw hT4 (by omega) hw.size
  clear h4 h5 f4 p0 m3 m5 ka HO9 hT4
  generalize (w9.setCell ⟨w.heap.size + 1 + 1 + 1 + 1, 4, none⟩ (.int .i64 (m.at' + (nm : Int)))) = w10 at *
  have HLm : Hid ((mind z z.n (m.at' + (nm : Int))).ws = [] ∨ 3 ≤ (mind z z.n (m.at' + (nm : Int))).ws.length) := HL.out
  clear HL
  generalize mind z z.n (m.at' + (nm : Int)) = y2 at *
  have HE : Hid ((pieceS u (stOf u.ws) m, ([] : List Ms)) = (y2, [])) := by show _ = _; rw [EQ.out]
  clear EQ
  have pz := blk_cell HB.out.bP 0 _ rfl
  have h0 := blk_cell HO5.out.box 0 _ rfl
  have h1 := blk_cell HO5.out.box 1 _ rfl
  have h2 := blk_cell HO5.out.box 2 _ rfl
  have h3 := blk_cell HO5.out.box 3 _ rfl
  have h4 := blk_cell HO5.out.box 4 _ rfl
  have z0 := blk_cell HB.out.bZ 0 _ rfl
  have z1 := blk_cell HB.out.bZ 1 _ rfl
  have z2 := blk_cell HB.out.bZ 2 _ rfl
  have z3 := blk_cell HB.out.bZ 3 _ rfl
  have z4 := blk_cell HB.out.bZ 4 _ rfl
  have f0 := blk_free HB.out.bZ 0
  have f1 := blk_free HB.out.bZ 1
  have f2 := blk_free HB.out.bZ 2
  have f3 := blk_free HB.out.bZ 3
  have f4 := blk_free HB.out.bZ 4
  go_wp2_with fail
  have hT : w10.grownBy (((((w10.setCell ⟨w.heap.size + 1 + 1 + 1, 0, none⟩ (.slice a9 n9 c9)).setCell ⟨w.heap.size + 1 + 1 + 1, 1, none⟩ (.int .i64 y2.fu)).setCell ⟨w.heap.size + 1 + 1 + 1, 2, none⟩ (.bool y2.up)).setCell ⟨w.heap.size + 1 + 1 + 1, 3, none⟩ (.int .i64 y2.n)).setCell ⟨w.heap.size + 1 + 1 + 1, 4, none⟩ (.int .i64 y2.hv)) (some (w.heap.size + 1 + 1 + 1)) := turns_set (turns_set (turns_set (turns_set (turns_set (World.grownBy.refl _ _) _ _) _ _) _ _) _ _) _ _
  have bN := unit_set5 (v0 := .slice a9 n9 c9) (v1 := .int .i64 y2.fu) (v2 := .bool y2.up) (v3 := .int .i64 y2.n) (v4 := .int .i64 y2.hv) HB.out.bZ
  have r0 := blk_cell bN 0 _ rfl
  have r1 := blk_cell bN 1 _ rfl
  have r2 := blk_cell bN 2 _ rfl
  have r3 := blk_cell bN 3 _ rfl
  have r4 := blk_cell bN 4 _ rfl
  refine bodyPost_ret (v := .tuple #[unv y2 a9 n9 c9, .slice none 0 0]) (by simp [results, Tryz.results27, go_sem, unv, r0, r1, r2, r3, r4]) rfl ?_
  obtain ⟨q1, q2⟩ := ref_end HB.out.bZ HO5.out.ws (HLm.out) (.inl rfl : IsMsgs w10 none []) hT
  rw [HE.out]
  exact ⟨⟨_, _, _, none, 0, 0, rfl, q1, q2, rfl, Nat.le_refl _, by omega⟩, turns_below hw hT (by omega) hw.size⟩
  }
  have cc : ¬ (m.at' = 0 ∧ (u.n ≠ m.n ∨ u.hv = 0)) := fun e => e.2.elim (fun h => h cn) cv
  have EQ : Hid (pieceS u (stOf u.ws) m = u) := by show _ = _; rw [P3.out (by rw [pieceA_no cc]), pieceA_no cc]; exact pieceB_no (fun e => cv (e.2.1.trans ca))
  have Hha := hide ca
  have Hhn := hide cn
  have Hhv : Hid (0 < u.hv) := by have := (unE_ok hu0).2.2.2; show _ < _; omega
  have Hhwn := hide cn
  have Hhwh : Hid (u.hv ≠ m.at') := fun e => cv (e.trans ca)
  clear cc ca cn cv P2
  have z1 : ¬ m.n ≤ s.by' := by have h := Hhby.out; rw [HS.out]; omega
  clear Hhby
  have d_r : (s.rdy != 0) = false := by have h := Hhrd.out; rw [← HS.out] at h; simpa using h
  clear Hhrd
  have m3 := blk_cell HB.out.bM 3 _ rfl
  have d_a : (m.at' == 0) = true := by simpa using Hha.out
  have u3 := blk_cell HB.out.bU 3 _ rfl
  have u4 := blk_cell HB.out.bU 4 _ rfl
  have d_n : (u.n == m.n) = true := by simpa using Hhn.out
  have d_v : 0 < u.hv := Hhv.out
  have h3 := blk_cell HO.out.box 3 _ rfl
  have h4 := blk_cell HO.out.box 4 _ rfl
  have h5 := blk_cell HO.out.box 5 _ rfl
  have m5 := blk_cell HB.out.bM 5 _ rfl
  have d_n2 : (u.n == m.n) = true := by simpa using Hhwn.out
  have d_h : (u.hv == m.at') = false := by simpa using Hhwh.out
  clear hM hmE hul hlk HLk HDo P3
  go_upto_region 15 with fail
  clear x2 m0 s1 s2 p00 m20 d_a d_r z1
  go_upto_region 15 with fail
  go_quiet (fail)
  have hbz : Below W6.heap.size W6 (W6.drewN nq) := below_drewN (Below.refl _ _) nq
  replace HB := hide (HB.out.below hbz)
  replace HO := hide (HO.out.below hbz)
  replace hw := hw.trans (hbz.mono hw.size)
  clear h3 h4 h5 m3 m5 p0 m2 ka
  generalize W6.drewN nq = w8 at *
  have HE : Hid ((pieceS u (stOf u.ws) m, ([] : List Ms)) = (u, [])) := by show _ = _; rw [EQ.out]
  clear EQ
  have pz := blk_cell HB.out.bP 0 _ rfl
  have h0 := blk_cell HO.out.box 0 _ rfl
  have h1 := blk_cell HO.out.box 1 _ rfl
  have h2 := blk_cell HO.out.box 2 _ rfl
  have h3 := blk_cell HO.out.box 3 _ rfl
  have h4 := blk_cell HO.out.box 4 _ rfl
  have z0 := blk_cell HB.out.bZ 0 _ rfl
  have z1 := blk_cell HB.out.bZ 1 _ rfl
  have z2 := blk_cell HB.out.bZ 2 _ rfl
  have z3 := blk_cell HB.out.bZ 3 _ rfl
  have z4 := blk_cell HB.out.bZ 4 _ rfl
  have f0 := blk_free HB.out.bZ 0
  have f1 := blk_free HB.out.bZ 1
  have f2 := blk_free HB.out.bZ 2
  have f3 := blk_free HB.out.bZ 3
  have f4 := blk_free HB.out.bZ 4
  go_wp2_with fail
  have hT : w8.grownBy (((((w8.setCell ⟨w.heap.size + 1 + 1 + 1, 0, none⟩ (.slice (some ⟨gh, 0, none⟩) 192 ch)).setCell ⟨w.heap.size + 1 + 1 + 1, 1, none⟩ (.int .i64 u.fu)).setCell ⟨w.heap.size + 1 + 1 + 1, 2, none⟩ (.bool u.up)).setCell ⟨w.heap.size + 1 + 1 + 1, 3, none⟩ (.int .i64 u.n)).setCell ⟨w.heap.size + 1 + 1 + 1, 4, none⟩ (.int .i64 u.hv)) (some (w.heap.size + 1 + 1 + 1)) := turns_set (turns_set (turns_set (turns_set (turns_set (World.grownBy.refl _ _) _ _) _ _) _ _) _ _) _ _
  have bN := unit_set5 (v0 := .slice (some ⟨gh, 0, none⟩) 192 ch) (v1 := .int .i64 u.fu) (v2 := .bool u.up) (v3 := .int .i64 u.n) (v4 := .int .i64 u.hv) HB.out.bZ
  have r0 := blk_cell bN 0 _ rfl
  have r1 := blk_cell bN 1 _ rfl
  have r2 := blk_cell bN 2 _ rfl
  have r3 := blk_cell bN 3 _ rfl
  have r4 := blk_cell bN 4 _ rfl
  refine bodyPost_ret (v := .tuple #[unv u (some ⟨gh, 0, none⟩) 192 ch, .slice none 0 0]) (by simp [results, Tryz.results27, go_sem, unv, r0, r1, r2, r3, r4]) rfl ?_
  obtain ⟨q1, q2⟩ := ref_end HB.out.bZ HO.out.ws (hu3.out) (.inl rfl : IsMsgs w8 none []) hT
  rw [HE.out]
  exact ⟨⟨_, _, _, none, 0, 0, rfl, q1, q2, rfl, Nat.le_refl _, by omega⟩, turns_below hw hT (by omega) hw.size⟩
  }
  have cc : m.at' = 0 ∧ (u.n ≠ m.n ∨ u.hv = 0) := ⟨ca, .inl cn⟩
  have HA0 : Hid ((doV u (.clr (oth s))).2 = false → pieceS u (stOf u.ws) m = (doV u (.clr (oth s))).1) := fun e => by
    have e' : (doV u (.clr (oth (stOf u.ws)))).2 = false := by rw [← HS.out]; exact e
    rw [P2.out (by rw [pieceA_bad cc e']), pieceA_bad cc e', ← HS.out]
  have HA1 : Hid ((doV u (.clr (oth s))).2 = true → pieceS u (stOf u.ws) m = pieceB (mind (doV u (.clr (oth s))).1 m.n 0) s m) := fun e => by
    have e' : (doV u (.clr (oth (stOf u.ws)))).2 = true := by rw [← HS.out]; exact e
    rw [P3.out (by rw [pieceA_ok cc e']), pieceA_ok cc e', ← HS.out]
  have Hha := hide ca
  have Hhn := hide cn
  clear cc ca cn P2 P3
  have hck := (lchk_parts hlk).1
  have HCl := hide (fun V (hV : Below W6.heap.size W6 V) => cleared_any (some ⟨gh, 0, none⟩) ch u.ws u.fu sn V (HO.out.ws.below hV).at_ hul hck hsn)
  have HD0 : Hid (doV u (.clr (oth s)) = doU u (clrAt u.ws u.fu sn 2)) := by show _ = _; rw [HN.out, ← clrS_at hck hul hsn]; rfl
  have HRm : Hid (∀ {k : Nat}, (clrAt u.ws u.fu sn 2).1.length = k → k ≤ maxLen) := by rw [← clrS_at hck hul hsn]; exact room_of (doT_le (.clr sn) u.ws u.fu) hul
  clear hck
  have z1 : ¬ m.n ≤ s.by' := by have h := Hhby.out; rw [HS.out]; omega
  clear Hhby
  have d_r : (s.rdy != 0) = false := by have h := Hhrd.out; rw [← HS.out] at h; simpa using h
  clear Hhrd
  have m3 := blk_cell HB.out.bM 3 _ rfl
  have d_a : (m.at' == 0) = true := by simpa using Hha.out
  have u3 := blk_cell HB.out.bU 3 _ rfl
  have u4 := blk_cell HB.out.bU 4 _ rfl
  have d_n : (u.n == m.n) = false := by simpa using Hhn.out
  generalize clrAt u.ws u.fu sn 2 = C at *
  unfold Answers at HCl
  go_upto_region 12 with fail
  have p0 := blk_cell HB.out.bP 0 _ rfl
  have h0 := blk_cell HO.out.box 0 _ rfl
  have h1 := blk_cell HO.out.box 1 _ rfl
  have hG0 : W6.grownBy W6.drew (some (w.heap.size + 1 + 1 + 1 + 1)) := turns_of (Below.refl _ _).drew _
  have hbd : Below W6.heap.size W6 W6.drew := (Below.refl _ _).drew
  refine wp_region_held_drew (S := fun W' => W'.cell? ⟨w.heap.size + 1 + 1 + 1 + 1 + 1, 0, none⟩ = some (.pointer (some ⟨w.heap.size + 1 + 1 + 1 + 1, 0, none⟩)) ∧ W6.grownBy W' (some (w.heap.size + 1 + 1 + 1 + 1))) (by kernel_rfl) (st1g p0 (by show w.heap.size + 1 + 1 + 1 + 1 + 1 ≠ w.heap.size + 1 + 1 + 1 + 1; omega) (hG0)) ?_
  intro hHeld
  refine Htake (i := 0) (v := ?_) (by rfl) (by kernel_rfl) (by exact fun _ _ _ h => h) (Or.inl ⟨by rfl, ?_⟩) (by assumption) ?_
  rotate_left
  {
  intro w hSw
  try dsimp only at hSw
  go_simp
  try with_reducible rfl
  }
  try simp only [sq]
  refine Htake (i := 1) (v := ?_) (by rfl) (by kernel_rfl) (by exact fun _ _ _ h => h) (Or.inl ⟨by rfl, ?_⟩) (by assumption) ?_
  rotate_left
  {
  intro w hSw
  try dsimp only at hSw
  go_simp
  try with_reducible rfl
  }
  try simp only [sq]
  refine Htake (i := 2) (v := ?_) (by rfl) (by kernel_rfl) (by exact fun _ _ _ h => h) (Or.inl ⟨by rfl, ?_⟩) (by assumption) ?_
  rotate_left
  {
  intro w hSw
  try dsimp only at hSw
  go_simp
  try with_reducible rfl
  }
  try simp only [sq]
  refine Htake (i := 3) (v := ?_) (by rfl) (by kernel_rfl) (by exact fun _ _ _ h => h) (Or.inl ⟨by rfl, ?_⟩) (by assumption) ?_
  rotate_left
  {
  intro w hSw
  try dsimp only at hSw
  go_simp
  try with_reducible rfl
  }
  try simp only [sq]
  refine Htake (i := 4) (v := ?_) (by rfl) (by kernel_rfl) (by exact fun _ _ _ h => h) (Or.inl ⟨by rfl, ?_⟩) (by assumption) ?_
  rotate_left
  {
  intro w hSw
  try dsimp only at hSw
  go_simp
  try with_reducible rfl
  }
  try simp only [sq]
  refine Htake (i := 6) (v := ?_) (by rfl) (by kernel_rfl) (by exact fun _ _ _ h => h) (Or.inl ⟨by rfl, ?_⟩) (by assumption) ?_
  rotate_left
  {
  intro w hSw
  try dsimp only at hSw
  go_simp
  try with_reducible rfl
  }
  try simp only [sq]
  refine wpAnyH_ready (rs := [5]) (by kernel_rfl) (by simp) ?_
  refine AllReadyH.cons (by rfl) (fun K hK => ?_) AllReadyH.nil
  go_simp
  refine hK.out _ _ (st1g p0 (by show w.heap.size + 1 + 1 + 1 + 1 + 1 ≠ w.heap.size + 1 + 1 + 1 + 1; omega) (hG0)) (fun hHeld2 => ?_)
  clear hK K hHeld
  try simp only [sq]
  have hHeld := hHeld2
  clear hHeld2
  refine wpAnyH_ready (rs := [7]) (by kernel_rfl) (by simp) ?_
  refine AllReadyH.cons (by rfl) (fun K hK => ?_) AllReadyH.nil
  go_simp
  refine (unhide HCl _ hbd).mono ?_
  rintro e w2 ⟨⟨a5, n5, c5, rfl, hi5, hn5, hc5, hf5⟩, hb2⟩
  have hG2 := hG0.trans (turns_of hb2 (w.heap.size + 1 + 1 + 1 + 1))
  go_wp2_with fail
  refine hK.out _ _ (st1g p0 (by show w.heap.size + 1 + 1 + 1 + 1 + 1 ≠ w.heap.size + 1 + 1 + 1 + 1; omega) (hG2)) (fun hHeld2 => ?_)
  clear hK K hHeld
  try simp only [sq]
  have hHeld := hHeld2
  clear hHeld2
  refine Htake (i := 8) (v := ?_) (by rfl) (by kernel_rfl) (by exact fun _ _ _ h => h) (Or.inl ⟨by rfl, ?_⟩) (by assumption) ?_
  rotate_left
  {
  intro w hSw
  try dsimp only at hSw
  go_simp
  try with_reducible rfl
  }
  try simp only [sq]
  refine Htake (i := 9) (v := ?_) (by rfl) (by kernel_rfl) (by exact fun _ _ _ h => h) (Or.inl ⟨by rfl, ?_⟩) (by assumption) ?_
  rotate_left
  {
  intro w hSw
  try dsimp only at hSw
  go_simp
  try with_reducible rfl
  }
  try simp only [sq]
  refine wpAnyH_ready (rs := [10]) (by kernel_rfl) (by simp) ?_
  refine AllReadyH.cons (by rfl) (fun K hK => ?_) AllReadyH.nil
  have HF := hide (handsFlash_any (w.heap.size + 1 + 1 + 1 + 1) u (some ⟨gh, 0, none⟩) 192 ch C a5 n5 c5 w2 ((HO.out.below hbd).below hb2) ⟨hi5, hn5, hc5, HRm.out hn5⟩ (off_fresh hf5 (Nat.lt_of_lt_of_le (blk_lt HO.out.box) hbd.size)))
  unfold HdOf at HF
  clear hi5 hc5 hf5 hn5
  go_simp
  refine (unhide HF).mono ?_
  rintro e w9 ⟨rfl, ⟨a9, n9, c9, hO9⟩, hg9⟩
  have hG9 := hG2.trans hg9
  go_wp2_with fail
  refine hK.out _ _ (st1g p0 (by show w.heap.size + 1 + 1 + 1 + 1 + 1 ≠ w.heap.size + 1 + 1 + 1 + 1; omega) (hG9)) (fun hHeld2 => ?_)
  clear hK K hHeld hHeld2
  try simp only [sq]
  refine wpAnyH_done (by kernel_rfl) ?_ _
  have HO9 := hide hO9
  replace HB := hide (HB.out.turns hG9)
  replace hw := turns_below hw hG9 (by omega) hw.size
  clear hO9 hG9 hg9 hG2 hb2 HF p0 h0 h1 hG0 hbd  HO
  rw [← HD0.out] at HO9
  obtain ⟨D, hD⟩ : ∃ D, D = doV u (.clr (oth s)) := ⟨_, rfl⟩
  rw [← hD] at HO9
  have HD := hide hD
  clear hD HD0 HRm HCl x2 m0 s1 s2 p00 m20 m3 d_a d_r d_n z1 u3 u4
  rw [← HD.out] at HA0 HA1 HDo
  have HLD : Hid (D.1.ws = [] ∨ 3 ≤ D.1.ws.length) := by show _ ∨ _; rw [HD.out]; exact HLk.out _
  clear HLk HD
  obtain ⟨x, dn⟩ := D
  dsimp only at *
  have h5 := blk_cell HO9.out.box 5 _ rfl
  have p0 := blk_cell HB.out.bP 0 _ rfl
  cases dn
  {
  have EQ := hide (HA0.out rfl)
  clear HA0 HA1 HDo hM hmE ka
  go_upto_region 15 with fail
  go_quiet (fail)
  have hbz : Below w9.heap.size w9 (w9.drewN nq) := below_drewN (Below.refl _ _) nq
  replace HB := hide (HB.out.below hbz)
  replace HO9 := hide (HO9.out.below hbz)
  replace hw := hw.trans (hbz.mono hw.size)
  clear h5 p0
  generalize w9.drewN nq = w8 at *
  have HE : Hid ((pieceS u (stOf u.ws) m, ([] : List Ms)) = (x, [])) := by show _ = _; rw [EQ.out]
  clear EQ
  have pz := blk_cell HB.out.bP 0 _ rfl
  have h0 := blk_cell HO9.out.box 0 _ rfl
  have h1 := blk_cell HO9.out.box 1 _ rfl
  have h2 := blk_cell HO9.out.box 2 _ rfl
  have h3 := blk_cell HO9.out.box 3 _ rfl
  have h4 := blk_cell HO9.out.box 4 _ rfl
  have z0 := blk_cell HB.out.bZ 0 _ rfl
  have z1 := blk_cell HB.out.bZ 1 _ rfl
  have z2 := blk_cell HB.out.bZ 2 _ rfl
  have z3 := blk_cell HB.out.bZ 3 _ rfl
  have z4 := blk_cell HB.out.bZ 4 _ rfl
  have f0 := blk_free HB.out.bZ 0
  have f1 := blk_free HB.out.bZ 1
  have f2 := blk_free HB.out.bZ 2
  have f3 := blk_free HB.out.bZ 3
  have f4 := blk_free HB.out.bZ 4
  go_wp2_with fail
  have hT : w8.grownBy (((((w8.setCell ⟨w.heap.size + 1 + 1 + 1, 0, none⟩ (.slice a9 n9 c9)).setCell ⟨w.heap.size + 1 + 1 + 1, 1, none⟩ (.int .i64 x.fu)).setCell ⟨w.heap.size + 1 + 1 + 1, 2, none⟩ (.bool x.up)).setCell ⟨w.heap.size + 1 + 1 + 1, 3, none⟩ (.int .i64 x.n)).setCell ⟨w.heap.size + 1 + 1 + 1, 4, none⟩ (.int .i64 x.hv)) (some (w.heap.size + 1 + 1 + 1)) := turns_set (turns_set (turns_set (turns_set (turns_set (World.grownBy.refl _ _) _ _) _ _) _ _) _ _) _ _
  have bN := unit_set5 (v0 := .slice a9 n9 c9) (v1 := .int .i64 x.fu) (v2 := .bool x.up) (v3 := .int .i64 x.n) (v4 := .int .i64 x.hv) HB.out.bZ
  have r0 := blk_cell bN 0 _ rfl
  have r1 := blk_cell bN 1 _ rfl
  have r2 := blk_cell bN 2 _ rfl
  have r3 := blk_cell bN 3 _ rfl
  have r4 := blk_cell bN 4 _ rfl
  refine bodyPost_ret (v := .tuple #[unv x a9 n9 c9, .slice none 0 0]) (by simp [results, Tryz.results27, go_sem, unv, r0, r1, r2, r3, r4]) rfl ?_
  obtain ⟨q1, q2⟩ := ref_end HB.out.bZ HO9.out.ws (HLD.out) (.inl rfl : IsMsgs w8 none []) hT
  rw [HE.out]
  exact ⟨⟨_, _, _, none, 0, 0, rfl, q1, q2, rfl, Nat.le_refl _, by omega⟩, turns_below hw hT (by omega) hw.size⟩
  }
  replace HA1 := hide (HA1.out rfl)
  clear HA0 HLD
  obtain ⟨hx1, hx2, hx3⟩ := unE_ok HDo.out
  obtain rfl : n9 = 192 := HO9.out.ws.len.symm.trans hx2
  have hxc := (lchk_parts hx1).1
  clear hx1 hx3 HDo
  go_upto_region 14 with fail
  clear h5 p0
  go_upto_region 14 with fail
  have p0 := blk_cell HB.out.bP 0 _ rfl
  have m2 := blk_cell HB.out.bM 2 _ rfl
  have hG0 : w9.grownBy w9.drew (some (w.heap.size + 1 + 1 + 1 + 1)) := turns_of (Below.refl _ _).drew _
  have h3 := blk_cell HO9.out.box 3 _ rfl
  have h4 := blk_cell HO9.out.box 4 _ rfl
  have f3 := blk_free HO9.out.box 3
  have f4 := blk_free HO9.out.box 4
  have hT1 : w9.grownBy (w9.setCell ⟨w.heap.size + 1 + 1 + 1 + 1, 3, none⟩ (.int .i64 m.n)) (some (w.heap.size + 1 + 1 + 1 + 1)) := turns_set (World.grownBy.refl _ _) _ _
  have hT : w9.grownBy ((w9.setCell ⟨w.heap.size + 1 + 1 + 1 + 1, 3, none⟩ (.int .i64 m.n)).setCell ⟨w.heap.size + 1 + 1 + 1 + 1, 4, none⟩ (.int .i64 0)) (some (w.heap.size + 1 + 1 + 1 + 1)) := turns_set hT1 _ _
  refine wp_region_held_drew (S := fun W' => W'.cell? ⟨w.heap.size + 1 + 1 + 1 + 1 + 1, 0, none⟩ = some (.pointer (some ⟨w.heap.size + 1 + 1 + 1 + 1, 0, none⟩)) ∧ W'.cell? ⟨w.heap.size + 1 + 1, 2, none⟩ = some (.int .i64 m.n) ∧ w9.grownBy W' (some (w.heap.size + 1 + 1 + 1 + 1))) (by kernel_rfl) (st2g p0 m2 (by show w.heap.size + 1 + 1 + 1 + 1 + 1 ≠ w.heap.size + 1 + 1 + 1 + 1; omega) (by show w.heap.size + 1 + 1 ≠ w.heap.size + 1 + 1 + 1 + 1; omega) (hG0)) ?_
  intro hHeld
  refine Htake (i := 0) (v := ?_) (by rfl) (by kernel_rfl) (by exact fun _ _ _ h => h) (Or.inl ⟨by rfl, ?_⟩) (by assumption) ?_
  rotate_left
  {
  intro w hSw
  try dsimp only at hSw
  go_simp
  try with_reducible rfl
  }
  try simp only [sq]
  refine Htake (i := 1) (v := ?_) (by rfl) (by kernel_rfl) (by exact fun _ _ _ h => h) (Or.inl ⟨by rfl, ?_⟩) (by assumption) ?_
  rotate_left
  {
  intro w hSw
  try dsimp only at hSw
  go_simp
  try with_reducible rfl
  }
  try simp only [sq]
  refine Htake (i := 2) (v := ?_) (by rfl) (by kernel_rfl) (by exact fun _ _ _ h => h) (Or.inl ⟨by rfl, ?_⟩) (by assumption) ?_
  rotate_left
  {
  intro w hSw
  try dsimp only at hSw
  go_simp
  try with_reducible rfl
  }
  try simp only [sq]
  refine Htake (i := 3) (v := ?_) (by rfl) (by kernel_rfl) (by exact fun _ _ _ h => h) (Or.inl ⟨by rfl, ?_⟩) (by assumption) ?_
  rotate_left
  {
  intro w hSw
  try dsimp only at hSw
  go_simp
  try with_reducible rfl
  }
  try simp only [sq]
  refine Htake (i := 4) (v := ?_) (by rfl) (by kernel_rfl) (by exact fun _ _ _ h => h) (Or.inl ⟨by rfl, ?_⟩) (by assumption) ?_
  rotate_left
  {
  intro w hSw
  try dsimp only at hSw
  go_simp
  try with_reducible rfl
  }
  try simp only [sq]
  refine Htake (i := 5) (v := ?_) (by rfl) (by kernel_rfl) (by exact fun _ _ _ h => h) (Or.inl ⟨by rfl, ?_⟩) (by assumption) ?_
  rotate_left
  {
  intro w hSw
  try dsimp only at hSw
  go_simp
  try with_reducible rfl
  }
  try simp only [sq]
  refine Htake (i := 6) (v := ?_) (by rfl) (by kernel_rfl) (by exact fun _ _ _ h => h) (Or.inl ⟨by rfl, ?_⟩) (by assumption) ?_
  rotate_left
  {
  intro w hSw
  try dsimp only at hSw
  go_simp
  try with_reducible rfl
  }
  try simp only [sq]
  refine wpAnyH_ready (rs := [7]) (by kernel_rfl) (by simp) ?_
  refine AllReadyH.cons (by rfl) (fun K hK => ?_) AllReadyH.nil
  go_simp
  refine hK.out _ _ (st2g p0 m2 (by show w.heap.size + 1 + 1 + 1 + 1 + 1 ≠ w.heap.size + 1 + 1 + 1 + 1; omega) (by show w.heap.size + 1 + 1 ≠ w.heap.size + 1 + 1 + 1 + 1; omega) (grown_drew2 hT1)) (fun hHeld2 => ?_)
  clear hK K hHeld
  try simp only [sq]
  have hHeld := hHeld2
  clear hHeld2
  refine Htake (i := 8) (v := ?_) (by rfl) (by kernel_rfl) (by exact fun _ _ _ h => h) (Or.inl ⟨by rfl, ?_⟩) (by assumption) ?_
  rotate_left
  {
  intro w hSw
  try dsimp only at hSw
  go_simp
  try with_reducible rfl
  }
  try simp only [sq]
  refine Htake (i := 9) (v := ?_) (by rfl) (by kernel_rfl) (by exact fun _ _ _ h => h) (Or.inl ⟨by rfl, ?_⟩) (by assumption) ?_
  rotate_left
  {
  intro w hSw
  try dsimp only at hSw
  go_simp
  try with_reducible rfl
  }
  try simp only [sq]
  refine Htake (i := 10) (v := ?_) (by rfl) (by kernel_rfl) (by exact fun _ _ _ h => h) (Or.inl ⟨by rfl, ?_⟩) (by assumption) ?_
  rotate_left
  {
  intro w hSw
  try dsimp only at hSw
  go_simp
  try with_reducible rfl
  }
  try simp only [sq]
  refine wpAnyH_ready (rs := [11]) (by kernel_rfl) (by simp) ?_
  refine AllReadyH.cons (by rfl) (fun K hK => ?_) AllReadyH.nil
  go_simp
  refine hK.out _ _ (st2g p0 m2 (by show w.heap.size + 1 + 1 + 1 + 1 + 1 ≠ w.heap.size + 1 + 1 + 1 + 1; omega) (by show w.heap.size + 1 + 1 ≠ w.heap.size + 1 + 1 + 1 + 1; omega) (grown_drew2 hT)) (fun hHeld2 => ?_)
  clear hK K hHeld hHeld2
  try simp only [sq]
  refine wpAnyH_done (by kernel_rfl) ?_ _
  have HOm := hide ((own_mind HO9.out hT).below (Below.refl _ _).drew)
  have hGm := grown_drew2 hT
  clear p0 h3 h4 f3 f4 hT hT1 hG0 m2
  generalize ((w9.setCell ⟨w.heap.size + 1 + 1 + 1 + 1, 3, none⟩ (.int .i64 m.n)).setCell ⟨w.heap.size + 1 + 1 + 1 + 1, 4, none⟩ (.int .i64 0)).drew = wm at *
  replace HB := hide (HB.out.turns hGm)
  replace hw := turns_below hw hGm (by omega) hw.size
  clear hGm HO9
  have hpb : (mind x m.n 0).n = m.n ∧ (mind x m.n 0).hv = m.at' ∧ (m.ws.length : Int) ≤ 40 - m.at' := ⟨rfl, Hha.out.symm, by have h := Hha.out; have h2 := hmE.2.2.2.2.2.1; omega⟩
  have HPB1 : Hid ((doV (mind x m.n 0) (.fil (oth s) m.at' m.ws)).2 = true → pieceS u (stOf u.ws) m = mind (doV (mind x m.n 0) (.fil (oth s) m.at' m.ws)).1 (doV (mind x m.n 0) (.fil (oth s) m.at' m.ws)).1.n ((doV (mind x m.n 0) (.fil (oth s) m.at' m.ws)).1.hv + m.ws.length)) := fun e => HA1.out.trans (pieceB_ok hpb e)
  have HPB0 : Hid ((doV (mind x m.n 0) (.fil (oth s) m.at' m.ws)).2 = false → pieceS u (stOf u.ws) m = (doV (mind x m.n 0) (.fil (oth s) m.at' m.ws)).1) := fun e => HA1.out.trans (pieceB_bad hpb e)
  clear HA1 hpb
  have h3 := blk_cell HOm.out.box 3 (.int .i64 m.n) rfl
  have h4 := blk_cell HOm.out.box 4 (.int .i64 0) rfl
  have h5 := blk_cell HOm.out.box 5 _ rfl
  have p0 := blk_cell HB.out.bP 0 _ rfl
  have m2 := blk_cell HB.out.bM 2 _ rfl
  have m3 := blk_cell HB.out.bM 3 _ rfl
  have m5 := blk_cell HB.out.bM 5 _ rfl
  have d_n2 : (m.n == m.n) = true := by simp
  have d_h : ((0 : Int) == m.at') = true := by have h := Hha.out; simp [h]
  have kb : m.at' + (nm : Int) ≤ 40 := by have h := Hha.out; have h2 := hmE.2.2.2.2.2.1; have h3 := hM.len; omega
  go_upto_region 15 with fail
  go_quiet (fail)
  have hbz : Below wm.heap.size wm (wm.drewN nq) := below_drewN (Below.refl _ _) nq
  replace HB := hide (HB.out.below hbz)
  replace HOm := hide (HOm.out.below hbz)
  replace hw := hw.trans (hbz.mono hw.size)
  clear h3 h4 h5 d_n2 d_h kb m3 m5 p0 m2
  generalize wm.drewN nq = w8 at *
  have hyl : (mind x m.n 0).ws.length = 192 := hx2
  have hyc : chk (mind x m.n 0).ws (mind x m.n 0).fu = 0 := hxc
  have HYh : Hid ((mind x m.n 0).hv = m.at') := Hha.out.symm
  clear hx2 hxc
  generalize mind x m.n 0 = y at *
  have HFi := hide (fun V (hV : Below w8.heap.size w8 V) => filled_any a9 c9 y.ws y.fu sn m.at' am nm cm m.ws V (HOm.out.ws.below hV).at_ hyl hyc hsn (hM.below (hw.trans (hV.mono hw.size))).at_ hM.len hM.max)
  have HF0 : Hid (doV y (.fil (oth s) m.at' m.ws) = doU y (fillS y.ws y.fu sn m.at' m.ws)) := by show _ = _; rw [HN.out]; rfl
  have HRm2 : Hid (∀ {k : Nat}, (fillS y.ws y.fu sn m.at' m.ws).1.length = k → k ≤ maxLen) := room_of (doT_le (.fil sn m.at' m.ws) y.ws y.fu) hyl
  have HLy : Hid (∀ st, (doV y st).1.ws = [] ∨ 3 ≤ (doV y st).1.ws.length) := fun st => lk_3 (doV_lk _ _) hyl
  have HHv : Hid ((doV y (.fil (oth s) m.at' m.ws)).2 = true → (doV y (.fil (oth s) m.at' m.ws)).1.hv = y.hv) := doV_hv
  generalize fillS y.ws y.fu sn m.at' m.ws = C2 at *
  unfold Answers at HFi
  go_upto_region 16 with fail
  have p0 := blk_cell HB.out.bP 0 _ rfl
  have m3 := blk_cell HB.out.bM 3 _ rfl
  have m5 := blk_cell HB.out.bM 5 _ rfl
  have h0 := blk_cell HOm.out.box 0 _ rfl
  have h1 := blk_cell HOm.out.box 1 _ rfl
  have hG0 : w8.grownBy w8.drew (some (w.heap.size + 1 + 1 + 1 + 1)) := turns_of (Below.refl _ _).drew _
  have hbd : Below w8.heap.size w8 w8.drew := (Below.refl _ _).drew
  refine wp_region_held_drew (S := fun W' => W'.cell? ⟨w.heap.size + 1 + 1 + 1 + 1 + 1, 0, none⟩ = some (.pointer (some ⟨w.heap.size + 1 + 1 + 1 + 1, 0, none⟩)) ∧ W'.cell? ⟨w.heap.size + 1 + 1, 3, none⟩ = some (.int .i64 m.at') ∧ W'.cell? ⟨w.heap.size + 1 + 1, 5, none⟩ = some (.slice am nm cm) ∧ w8.grownBy W' (some (w.heap.size + 1 + 1 + 1 + 1))) (by kernel_rfl) (st3g p0 m3 m5 (by show w.heap.size + 1 + 1 + 1 + 1 + 1 ≠ w.heap.size + 1 + 1 + 1 + 1; omega) (by show w.heap.size + 1 + 1 ≠ w.heap.size + 1 + 1 + 1 + 1; omega) (by show w.heap.size + 1 + 1 ≠ w.heap.size + 1 + 1 + 1 + 1; omega) (hG0)) ?_
  intro hHeld
  refine Htake (i := 0) (v := ?_) (by rfl) (by kernel_rfl) (by exact fun _ _ _ h => h) (Or.inl ⟨by rfl, ?_⟩) (by assumption) ?_
  rotate_left
  {
  intro w hSw
  try dsimp only at hSw
  go_simp
  try with_reducible rfl
  }
  try simp only [sq]
  refine Htake (i := 1) (v := ?_) (by rfl) (by kernel_rfl) (by exact fun _ _ _ h => h) (Or.inl ⟨by rfl, ?_⟩) (by assumption) ?_
  rotate_left
  {
  intro w hSw
  try dsimp only at hSw
  go_simp
  try with_reducible rfl
  }
  try simp only [sq]
  refine Htake (i := 2) (v := ?_) (by rfl) (by kernel_rfl) (by exact fun _ _ _ h => h) (Or.inl ⟨by rfl, ?_⟩) (by assumption) ?_
  rotate_left
  {
  intro w hSw
  try dsimp only at hSw
  go_simp
  try with_reducible rfl
  }
  try simp only [sq]
  refine Htake (i := 3) (v := ?_) (by rfl) (by kernel_rfl) (by exact fun _ _ _ h => h) (Or.inl ⟨by rfl, ?_⟩) (by assumption) ?_
  rotate_left
  {
  intro w hSw
  try dsimp only at hSw
  go_simp
  try with_reducible rfl
  }
  try simp only [sq]
  refine Htake (i := 4) (v := ?_) (by rfl) (by kernel_rfl) (by exact fun _ _ _ h => h) (Or.inl ⟨by rfl, ?_⟩) (by assumption) ?_
  rotate_left
  {
  intro w hSw
  try dsimp only at hSw
  go_simp
  try with_reducible rfl
  }
  try simp only [sq]
  refine Htake (i := 6) (v := ?_) (by rfl) (by kernel_rfl) (by exact fun _ _ _ h => h) (Or.inl ⟨by rfl, ?_⟩) (by assumption) ?_
  rotate_left
  {
  intro w hSw
  try dsimp only at hSw
  go_simp
  try with_reducible rfl
  }
  try simp only [sq]
  refine Htake (i := 7) (v := ?_) (by rfl) (by kernel_rfl) (by exact fun _ _ _ h => h) (Or.inl ⟨by rfl, ?_⟩) (by assumption) ?_
  rotate_left
  {
  intro w hSw
  try dsimp only at hSw
  go_simp
  try with_reducible rfl
  }
  try simp only [sq]
  refine Htake (i := 8) (v := ?_) (by rfl) (by kernel_rfl) (by exact fun _ _ _ h => h) (Or.inl ⟨by rfl, ?_⟩) (by assumption) ?_
  rotate_left
  {
  intro w hSw
  try dsimp only at hSw
  go_simp
  try with_reducible rfl
  }
  try simp only [sq]
  refine Htake (i := 9) (v := ?_) (by rfl) (by kernel_rfl) (by exact fun _ _ _ h => h) (Or.inl ⟨by rfl, ?_⟩) (by assumption) ?_
  rotate_left
  {
  intro w hSw
  try dsimp only at hSw
  go_simp
  try with_reducible rfl
  }
  try simp only [sq]
  refine Htake (i := 10) (v := ?_) (by rfl) (by kernel_rfl) (by exact fun _ _ _ h => h) (Or.inl ⟨by rfl, ?_⟩) (by assumption) ?_
  rotate_left
  {
  intro w hSw
  try dsimp only at hSw
  go_simp
  try with_reducible rfl
  }
  try simp only [sq]
  refine wpAnyH_ready (rs := [5]) (by kernel_rfl) (by simp) ?_
  refine AllReadyH.cons (by rfl) (fun K hK => ?_) AllReadyH.nil
  go_simp
  refine hK.out _ _ (st3g p0 m3 m5 (by show w.heap.size + 1 + 1 + 1 + 1 + 1 ≠ w.heap.size + 1 + 1 + 1 + 1; omega) (by show w.heap.size + 1 + 1 ≠ w.heap.size + 1 + 1 + 1 + 1; omega) (by show w.heap.size + 1 + 1 ≠ w.heap.size + 1 + 1 + 1 + 1; omega) (hG0)) (fun hHeld2 => ?_)
  clear hK K hHeld
  try simp only [sq]
  have hHeld := hHeld2
  clear hHeld2
  refine wpAnyH_ready (rs := [11]) (by kernel_rfl) (by simp) ?_
  refine AllReadyH.cons (by rfl) (fun K hK => ?_) AllReadyH.nil
  go_simp
  refine (unhide HFi _ hbd).mono ?_
  rintro e w2 ⟨⟨a5, n5, c5, rfl, hi5, hn5, hc5, hf5⟩, hb2⟩
  have hG2 := hG0.trans (turns_of hb2 (w.heap.size + 1 + 1 + 1 + 1))
  go_wp2_with fail
  refine hK.out _ _ (st3g p0 m3 m5 (by show w.heap.size + 1 + 1 + 1 + 1 + 1 ≠ w.heap.size + 1 + 1 + 1 + 1; omega) (by show w.heap.size + 1 + 1 ≠ w.heap.size + 1 + 1 + 1 + 1; omega) (by show w.heap.size + 1 + 1 ≠ w.heap.size + 1 + 1 + 1 + 1; omega) (hG2)) (fun hHeld2 => ?_)
  clear hK K hHeld
  try simp only [sq]
  have hHeld := hHeld2
  clear hHeld2
  refine Htake (i := 12) (v := ?_) (by rfl) (by kernel_rfl) (by exact fun _ _ _ h => h) (Or.inl ⟨by rfl, ?_⟩) (by assumption) ?_
  rotate_left
  {
  intro w hSw
  try dsimp only at hSw
  go_simp
  try with_reducible rfl
  }
  try simp only [sq]
  refine Htake (i := 13) (v := ?_) (by rfl) (by kernel_rfl) (by exact fun _ _ _ h => h) (Or.inl ⟨by rfl, ?_⟩) (by assumption) ?_
  rotate_left
  {
  intro w hSw
  try dsimp only at hSw
  go_simp
  try with_reducible rfl
  }
  try simp only [sq]
  refine wpAnyH_ready (rs := [14]) (by kernel_rfl) (by simp) ?_
  refine AllReadyH.cons (by rfl) (fun K hK => ?_) AllReadyH.nil
  have HF := hide (handsFlash_any (w.heap.size + 1 + 1 + 1 + 1) y a9 192 c9 C2 a5 n5 c5 w2 ((HOm.out.below hbd).below hb2) ⟨hi5, hn5, hc5, HRm2.out hn5⟩ (off_fresh hf5 (Nat.lt_of_lt_of_le (blk_lt HOm.out.box) hbd.size)))
  unfold HdOf at HF
  clear hi5 hc5 hf5 hn5
  go_simp
  refine (unhide HF).mono ?_
  rintro e w9 ⟨rfl, ⟨a9, n9, c9, hO9⟩, hg9⟩
  have hG9 := hG2.trans hg9
  go_wp2_with fail
  refine hK.out _ _ (st3g p0 m3 m5 (by show w.heap.size + 1 + 1 + 1 + 1 + 1 ≠ w.heap.size + 1 + 1 + 1 + 1; omega) (by show w.heap.size + 1 + 1 ≠ w.heap.size + 1 + 1 + 1 + 1; omega) (by show w.heap.size + 1 + 1 ≠ w.heap.size + 1 + 1 + 1 + 1; omega) (hG9)) (fun hHeld2 => ?_)
  clear hK K hHeld hHeld2
  try simp only [sq]
  refine wpAnyH_done (by kernel_rfl) ?_ _
  have HO9 := hide hO9
  replace HB := hide (HB.out.turns hG9)
  replace hw := turns_below hw hG9 (by omega) hw.size
  clear hO9 hG9 hg9 hG2 hb2 HF p0 h0 h1 hG0 hbd m3 m5 HOm
  rw [← HF0.out] at HO9
  obtain ⟨F, hF⟩ : ∃ F, F = doV y (.fil (oth s) m.at' m.ws) := ⟨_, rfl⟩
  rw [← hF] at HO9 HHv HPB1 HPB0
  have HL : Hid (F.1.ws = [] ∨ 3 ≤ F.1.ws.length) := by show _ ∨ _; rw [hF]; exact HLy.out _
  clear hF HF0 HRm2 HFi HLy
  obtain ⟨z, dn⟩ := F
  dsimp only at *
  have h5 := blk_cell HO9.out.box 5 _ rfl
  have p0 := blk_cell HB.out.bP 0 _ rfl
  cases dn
  {
  have EQ := hide (HPB0.out rfl)
  clear HPB0 HPB1 HHv hM hmE ka
  have HE : Hid ((pieceS u (stOf u.ws) m, ([] : List Ms)) = (z, [])) := by show _ = _; rw [EQ.out]
  clear EQ
  have pz := blk_cell HB.out.bP 0 _ rfl
  have h0 := blk_cell HO9.out.box 0 _ rfl
  have h1 := blk_cell HO9.out.box 1 _ rfl
  have h2 := blk_cell HO9.out.box 2 _ rfl
  have h3 := blk_cell HO9.out.box 3 _ rfl
  have h4 := blk_cell HO9.out.box 4 _ rfl
  have z0 := blk_cell HB.out.bZ 0 _ rfl
  have z1 := blk_cell HB.out.bZ 1 _ rfl
  have z2 := blk_cell HB.out.bZ 2 _ rfl
  have z3 := blk_cell HB.out.bZ 3 _ rfl
  have z4 := blk_cell HB.out.bZ 4 _ rfl
  have f0 := blk_free HB.out.bZ 0
  have f1 := blk_free HB.out.bZ 1
  have f2 := blk_free HB.out.bZ 2
  have f3 := blk_free HB.out.bZ 3
  have f4 := blk_free HB.out.bZ 4
  go_wp2_with fail
  have hT : w9.grownBy (((((w9.setCell ⟨w.heap.size + 1 + 1 + 1, 0, none⟩ (.slice a9 n9 c9)).setCell ⟨w.heap.size + 1 + 1 + 1, 1, none⟩ (.int .i64 z.fu)).setCell ⟨w.heap.size + 1 + 1 + 1, 2, none⟩ (.bool z.up)).setCell ⟨w.heap.size + 1 + 1 + 1, 3, none⟩ (.int .i64 z.n)).setCell ⟨w.heap.size + 1 + 1 + 1, 4, none⟩ (.int .i64 z.hv)) (some (w.heap.size + 1 + 1 + 1)) := turns_set (turns_set (turns_set (turns_set (turns_set (World.grownBy.refl _ _) _ _) _ _) _ _) _ _) _ _
  have bN := unit_set5 (v0 := .slice a9 n9 c9) (v1 := .int .i64 z.fu) (v2 := .bool z.up) (v3 := .int .i64 z.n) (v4 := .int .i64 z.hv) HB.out.bZ
  have r0 := blk_cell bN 0 _ rfl
  have r1 := blk_cell bN 1 _ rfl
  have r2 := blk_cell bN 2 _ rfl
  have r3 := blk_cell bN 3 _ rfl
  have r4 := blk_cell bN 4 _ rfl
  refine bodyPost_ret (v := .tuple #[unv z a9 n9 c9, .slice none 0 0]) (by simp [results, Tryz.results27, go_sem, unv, r0, r1, r2, r3, r4]) rfl ?_
  obtain ⟨q1, q2⟩ := ref_end HB.out.bZ HO9.out.ws (HL.out) (.inl rfl : IsMsgs w9 none []) hT
  rw [HE.out]
  exact ⟨⟨_, _, _, none, 0, 0, rfl, q1, q2, rfl, Nat.le_refl _, by omega⟩, turns_below hw hT (by omega) hw.size⟩
  }
  have EQ := hide (HPB1.out rfl)
  rw [HHv.out rfl, HYh.out, hM.len] at EQ
  clear HPB0 HPB1 HHv hM hmE
  have h4 := blk_cell HO9.out.box 4 _ rfl
  have f4 := blk_free HO9.out.box 4
  have m3 := blk_cell HB.out.bM 3 _ rfl
  have m5 := blk_cell HB.out.bM 5 _ rfl
  go_upto_region 47 with fail
  have hT4 : w9.grownBy (w9.setCell ⟨w.heap.size + 1 + 1 + 1 + 1, 4, none⟩ (.int .i64 (m.at' + (nm : Int)))) (some (w.heap.size + 1 + 1 + 1 + 1)) := turns_set (World.grownBy.refl _ _) _ _
  have HO5 := hide (own_hv HO9.out hT4)
  replace HB := hide (HB.out.turns hT4)
  replace hw := turns_below hw hT4 (by omega) hw.size
  clear h4 h5 f4 p0 m3 m5 ka HO9 hT4
  generalize (w9.setCell ⟨w.heap.size + 1 + 1 + 1 + 1, 4, none⟩ (.int .i64 (m.at' + (nm : Int)))) = w10 at *
  have HLm : Hid ((mind z z.n (m.at' + (nm : Int))).ws = [] ∨ 3 ≤ (mind z z.n (m.at' + (nm : Int))).ws.length) := HL.out
  clear HL
  generalize mind z z.n (m.at' + (nm : Int)) = y2 at *
  have HE : Hid ((pieceS u (stOf u.ws) m, ([] : List Ms)) = (y2, [])) := by show _ = _; rw [EQ.out]
  clear EQ
  have pz := blk_cell HB.out.bP 0 _ rfl
  have h0 := blk_cell HO5.out.box 0 _ rfl
  have h1 := blk_cell HO5.out.box 1 _ rfl
  have h2 := blk_cell HO5.out.box 2 _ rfl
  have h3 := blk_cell HO5.out.box 3 _ rfl
  have h4 := blk_cell HO5.out.box 4 _ rfl
  have z0 := blk_cell HB.out.bZ 0 _ rfl
  have z1 := blk_cell HB.out.bZ 1 _ rfl
  have z2 := blk_cell HB.out.bZ 2 _ rfl
  have z3 := blk_cell HB.out.bZ 3 _ rfl
  have z4 := blk_cell HB.out.bZ 4 _ rfl
  have f0 := blk_free HB.out.bZ 0
  have f1 := blk_free HB.out.bZ 1
  have f2 := blk_free HB.out.bZ 2
  have f3 := blk_free HB.out.bZ 3
  have f4 := blk_free HB.out.bZ 4
  go_wp2_with fail
  have hT : w10.grownBy (((((w10.setCell ⟨w.heap.size + 1 + 1 + 1, 0, none⟩ (.slice a9 n9 c9)).setCell ⟨w.heap.size + 1 + 1 + 1, 1, none⟩ (.int .i64 y2.fu)).setCell ⟨w.heap.size + 1 + 1 + 1, 2, none⟩ (.bool y2.up)).setCell ⟨w.heap.size + 1 + 1 + 1, 3, none⟩ (.int .i64 y2.n)).setCell ⟨w.heap.size + 1 + 1 + 1, 4, none⟩ (.int .i64 y2.hv)) (some (w.heap.size + 1 + 1 + 1)) := turns_set (turns_set (turns_set (turns_set (turns_set (World.grownBy.refl _ _) _ _) _ _) _ _) _ _) _ _
  have bN := unit_set5 (v0 := .slice a9 n9 c9) (v1 := .int .i64 y2.fu) (v2 := .bool y2.up) (v3 := .int .i64 y2.n) (v4 := .int .i64 y2.hv) HB.out.bZ
  have r0 := blk_cell bN 0 _ rfl
  have r1 := blk_cell bN 1 _ rfl
  have r2 := blk_cell bN 2 _ rfl
  have r3 := blk_cell bN 3 _ rfl
  have r4 := blk_cell bN 4 _ rfl
  refine bodyPost_ret (v := .tuple #[unv y2 a9 n9 c9, .slice none 0 0]) (by simp [results, Tryz.results27, go_sem, unv, r0, r1, r2, r3, r4]) rfl ?_
  obtain ⟨q1, q2⟩ := ref_end HB.out.bZ HO5.out.ws (HLm.out) (.inl rfl : IsMsgs w10 none []) hT
  rw [HE.out]
  exact ⟨⟨_, _, _, none, 0, 0, rfl, q1, q2, rfl, Nat.le_refl _, by omega⟩, turns_below hw hT (by omega) hw.size⟩
  }
  have cc : ¬ (m.at' = 0 ∧ (u.n ≠ m.n ∨ u.hv = 0)) := fun e => ca e.1
  have HPn : Hid (pieceS u (stOf u.ws) m = pieceB u s m) := by show _ = _; rw [P3.out (by rw [pieceA_no cc]), pieceA_no cc, ← HS.out]
  have Hha := hide ca
  clear cc P2 ca
  by_cases cn : u.n = m.n
  rotate_left
  {
  have EQ : Hid (pieceS u (stOf u.ws) m = u) := HPn.out.trans (pieceB_no (fun e => cn e.1))
  have Hhwn := hide cn
  clear cn HPn
  have z1 : ¬ m.n ≤ s.by' := by have h := Hhby.out; rw [HS.out]; omega
  clear Hhby
  have d_r : (s.rdy != 0) = false := by have h := Hhrd.out; rw [← HS.out] at h; simpa using h
  clear Hhrd
  have m3 := blk_cell HB.out.bM 3 _ rfl
  have d_a : (m.at' == 0) = false := by simpa using Hha.out
  have h3 := blk_cell HO.out.box 3 _ rfl
  have h4 := blk_cell HO.out.box 4 _ rfl
  have h5 := blk_cell HO.out.box 5 _ rfl
  have m5 := blk_cell HB.out.bM 5 _ rfl
  have d_n2 : (u.n == m.n) = false := by simpa using Hhwn.out
  clear hM hmE hul hlk HLk HDo P3
  go_upto_region 15 with fail
  clear x2 m0 s1 s2 p00 m20 d_a d_r z1
  go_upto_region 15 with fail
  go_quiet (fail)
  have hbz : Below W6.heap.size W6 (W6.drewN nq) := below_drewN (Below.refl _ _) nq
  replace HB := hide (HB.out.below hbz)
  replace HO := hide (HO.out.below hbz)
  replace hw := hw.trans (hbz.mono hw.size)
  clear h3 h4 h5 m3 m5 p0 m2 ka
  generalize W6.drewN nq = w8 at *
  have HE : Hid ((pieceS u (stOf u.ws) m, ([] : List Ms)) = (u, [])) := by show _ = _; rw [EQ.out]
  clear EQ
  have pz := blk_cell HB.out.bP 0 _ rfl
  have h0 := blk_cell HO.out.box 0 _ rfl
  have h1 := blk_cell HO.out.box 1 _ rfl
  have h2 := blk_cell HO.out.box 2 _ rfl
  have h3 := blk_cell HO.out.box 3 _ rfl
  have h4 := blk_cell HO.out.box 4 _ rfl
  have z0 := blk_cell HB.out.bZ 0 _ rfl
  have z1 := blk_cell HB.out.bZ 1 _ rfl
  have z2 := blk_cell HB.out.bZ 2 _ rfl
  have z3 := blk_cell HB.out.bZ 3 _ rfl
  have z4 := blk_cell HB.out.bZ 4 _ rfl
  have f0 := blk_free HB.out.bZ 0
  have f1 := blk_free HB.out.bZ 1
  have f2 := blk_free HB.out.bZ 2
  have f3 := blk_free HB.out.bZ 3
  have f4 := blk_free HB.out.bZ 4
  go_wp2_with fail
  have hT : w8.grownBy (((((w8.setCell ⟨w.heap.size + 1 + 1 + 1, 0, none⟩ (.slice (some ⟨gh, 0, none⟩) 192 ch)).setCell ⟨w.heap.size + 1 + 1 + 1, 1, none⟩ (.int .i64 u.fu)).setCell ⟨w.heap.size + 1 + 1 + 1, 2, none⟩ (.bool u.up)).setCell ⟨w.heap.size + 1 + 1 + 1, 3, none⟩ (.int .i64 u.n)).setCell ⟨w.heap.size + 1 + 1 + 1, 4, none⟩ (.int .i64 u.hv)) (some (w.heap.size + 1 + 1 + 1)) := turns_set (turns_set (turns_set (turns_set (turns_set (World.grownBy.refl _ _) _ _) _ _) _ _) _ _) _ _
  have bN := unit_set5 (v0 := .slice (some ⟨gh, 0, none⟩) 192 ch) (v1 := .int .i64 u.fu) (v2 := .bool u.up) (v3 := .int .i64 u.n) (v4 := .int .i64 u.hv) HB.out.bZ
  have r0 := blk_cell bN 0 _ rfl
  have r1 := blk_cell bN 1 _ rfl
  have r2 := blk_cell bN 2 _ rfl
  have r3 := blk_cell bN 3 _ rfl
  have r4 := blk_cell bN 4 _ rfl
  refine bodyPost_ret (v := .tuple #[unv u (some ⟨gh, 0, none⟩) 192 ch, .slice none 0 0]) (by simp [results, Tryz.results27, go_sem, unv, r0, r1, r2, r3, r4]) rfl ?_
  obtain ⟨q1, q2⟩ := ref_end HB.out.bZ HO.out.ws (hu3.out) (.inl rfl : IsMsgs w8 none []) hT
  rw [HE.out]
  exact ⟨⟨_, _, _, none, 0, 0, rfl, q1, q2, rfl, Nat.le_refl _, by omega⟩, turns_below hw hT (by omega) hw.size⟩
  }
  have Hhwn := hide cn
  by_cases ch' : u.hv = m.at'
  rotate_left
  {
  have EQ : Hid (pieceS u (stOf u.ws) m = u) := HPn.out.trans (pieceB_no (fun e => ch' e.2.1))
  have Hhwh := hide ch'
  clear cn ch' HPn
  have z1 : ¬ m.n ≤ s.by' := by have h := Hhby.out; rw [HS.out]; omega
  clear Hhby
  have d_r : (s.rdy != 0) = false := by have h := Hhrd.out; rw [← HS.out] at h; simpa using h
  clear Hhrd
  have m3 := blk_cell HB.out.bM 3 _ rfl
  have d_a : (m.at' == 0) = false := by simpa using Hha.out
  have h3 := blk_cell HO.out.box 3 _ rfl
  have h4 := blk_cell HO.out.box 4 _ rfl
  have h5 := blk_cell HO.out.box 5 _ rfl
  have m5 := blk_cell HB.out.bM 5 _ rfl
  have d_n2 : (u.n == m.n) = true := by simpa using Hhwn.out
  have d_h : (u.hv == m.at') = false := by simpa using Hhwh.out
  clear hM hmE hul hlk HLk HDo P3
  go_upto_region 15 with fail
  clear x2 m0 s1 s2 p00 m20 d_a d_r z1
  go_upto_region 15 with fail
  go_quiet (fail)
  have hbz : Below W6.heap.size W6 (W6.drewN nq) := below_drewN (Below.refl _ _) nq
  replace HB := hide (HB.out.below hbz)
  replace HO := hide (HO.out.below hbz)
  replace hw := hw.trans (hbz.mono hw.size)
  clear h3 h4 h5 m3 m5 p0 m2 ka
  generalize W6.drewN nq = w8 at *
  have HE : Hid ((pieceS u (stOf u.ws) m, ([] : List Ms)) = (u, [])) := by show _ = _; rw [EQ.out]
  clear EQ
  have pz := blk_cell HB.out.bP 0 _ rfl
  have h0 := blk_cell HO.out.box 0 _ rfl
  have h1 := blk_cell HO.out.box 1 _ rfl
  have h2 := blk_cell HO.out.box 2 _ rfl
  have h3 := blk_cell HO.out.box 3 _ rfl
  have h4 := blk_cell HO.out.box 4 _ rfl
  have z0 := blk_cell HB.out.bZ 0 _ rfl
  have z1 := blk_cell HB.out.bZ 1 _ rfl
  have z2 := blk_cell HB.out.bZ 2 _ rfl
  have z3 := blk_cell HB.out.bZ 3 _ rfl
  have z4 := blk_cell HB.out.bZ 4 _ rfl
  have f0 := blk_free HB.out.bZ 0
  have f1 := blk_free HB.out.bZ 1
  have f2 := blk_free HB.out.bZ 2
  have f3 := blk_free HB.out.bZ 3
  have f4 := blk_free HB.out.bZ 4
  go_wp2_with fail
  have hT : w8.grownBy (((((w8.setCell ⟨w.heap.size + 1 + 1 + 1, 0, none⟩ (.slice (some ⟨gh, 0, none⟩) 192 ch)).setCell ⟨w.heap.size + 1 + 1 + 1, 1, none⟩ (.int .i64 u.fu)).setCell ⟨w.heap.size + 1 + 1 + 1, 2, none⟩ (.bool u.up)).setCell ⟨w.heap.size + 1 + 1 + 1, 3, none⟩ (.int .i64 u.n)).setCell ⟨w.heap.size + 1 + 1 + 1, 4, none⟩ (.int .i64 u.hv)) (some (w.heap.size + 1 + 1 + 1)) := turns_set (turns_set (turns_set (turns_set (turns_set (World.grownBy.refl _ _) _ _) _ _) _ _) _ _) _ _
  have bN := unit_set5 (v0 := .slice (some ⟨gh, 0, none⟩) 192 ch) (v1 := .int .i64 u.fu) (v2 := .bool u.up) (v3 := .int .i64 u.n) (v4 := .int .i64 u.hv) HB.out.bZ
  have r0 := blk_cell bN 0 _ rfl
  have r1 := blk_cell bN 1 _ rfl
  have r2 := blk_cell bN 2 _ rfl
  have r3 := blk_cell bN 3 _ rfl
  have r4 := blk_cell bN 4 _ rfl
  refine bodyPost_ret (v := .tuple #[unv u (some ⟨gh, 0, none⟩) 192 ch, .slice none 0 0]) (by simp [results, Tryz.results27, go_sem, unv, r0, r1, r2, r3, r4]) rfl ?_
  obtain ⟨q1, q2⟩ := ref_end HB.out.bZ HO.out.ws (hu3.out) (.inl rfl : IsMsgs w8 none []) hT
  rw [HE.out]
  exact ⟨⟨_, _, _, none, 0, 0, rfl, q1, q2, rfl, Nat.le_refl _, by omega⟩, turns_below hw hT (by omega) hw.size⟩
  }
  have Hhwh := hide ch'
  by_cases cl : (m.ws.length : Int) ≤ 40 - m.at'
  rotate_left
  {
  have EQ : Hid (pieceS u (stOf u.ws) m = u) := HPn.out.trans (pieceB_no (fun e => cl e.2.2))
  have Hhwl := hide cl
  clear cn ch' cl HPn
  have z1 : ¬ m.n ≤ s.by' := by have h := Hhby.out; rw [HS.out]; omega
  clear Hhby
  have d_r : (s.rdy != 0) = false := by have h := Hhrd.out; rw [← HS.out] at h; simpa using h
  clear Hhrd
  have m3 := blk_cell HB.out.bM 3 _ rfl
  have d_a : (m.at' == 0) = false := by simpa using Hha.out
  have h3 := blk_cell HO.out.box 3 _ rfl
  have h4 := blk_cell HO.out.box 4 _ rfl
  have h5 := blk_cell HO.out.box 5 _ rfl
  have m5 := blk_cell HB.out.bM 5 _ rfl
  have d_n2 : (u.n == m.n) = true := by simpa using Hhwn.out
  have d_h : (u.hv == m.at') = true := by simpa using Hhwh.out
  have kb : ¬ m.at' + (nm : Int) ≤ 40 := by have h := Hhwl.out; have h3 := hM.len; omega
  clear hM hmE hul hlk HLk HDo P3
  go_upto_region 15 with fail
  clear x2 m0 s1 s2 p00 m20 d_a d_r z1
  go_upto_region 15 with fail
  go_quiet (fail)
  have hbz : Below W6.heap.size W6 (W6.drewN nq) := below_drewN (Below.refl _ _) nq
  replace HB := hide (HB.out.below hbz)
  replace HO := hide (HO.out.below hbz)
  replace hw := hw.trans (hbz.mono hw.size)
  clear h3 h4 h5 m3 m5 p0 m2 ka
  generalize W6.drewN nq = w8 at *
  have HE : Hid ((pieceS u (stOf u.ws) m, ([] : List Ms)) = (u, [])) := by show _ = _; rw [EQ.out]
  clear EQ
  have pz := blk_cell HB.out.bP 0 _ rfl
  have h0 := blk_cell HO.out.box 0 _ rfl
  have h1 := blk_cell HO.out.box 1 _ rfl
  have h2 := blk_cell HO.out.box 2 _ rfl
  have h3 := blk_cell HO.out.box 3 _ rfl
  have h4 := blk_cell HO.out.box 4 _ rfl
  have z0 := blk_cell HB.out.bZ 0 _ rfl
  have z1 := blk_cell HB.out.bZ 1 _ rfl
  have z2 := blk_cell HB.out.bZ 2 _ rfl
  have z3 := blk_cell HB.out.bZ 3 _ rfl
  have z4 := blk_cell HB.out.bZ 4 _ rfl
  have f0 := blk_free HB.out.bZ 0
  have f1 := blk_free HB.out.bZ 1
  have f2 := blk_free HB.out.bZ 2
  have f3 := blk_free HB.out.bZ 3
  have f4 := blk_free HB.out.bZ 4
  go_wp2_with fail
  have hT : w8.grownBy (((((w8.setCell ⟨w.heap.size + 1 + 1 + 1, 0, none⟩ (.slice (some ⟨gh, 0, none⟩) 192 ch)).setCell ⟨w.heap.size + 1 + 1 + 1, 1, none⟩ (.int .i64 u.fu)).setCell ⟨w.heap.size + 1 + 1 + 1, 2, none⟩ (.bool u.up)).setCell ⟨w.heap.size + 1 + 1 + 1, 3, none⟩ (.int .i64 u.n)).setCell ⟨w.heap.size + 1 + 1 + 1, 4, none⟩ (.int .i64 u.hv)) (some (w.heap.size + 1 + 1 + 1)) := turns_set (turns_set (turns_set (turns_set (turns_set (World.grownBy.refl _ _) _ _) _ _) _ _) _ _) _ _
  have bN := unit_set5 (v0 := .slice (some ⟨gh, 0, none⟩) 192 ch) (v1 := .int .i64 u.fu) (v2 := .bool u.up) (v3 := .int .i64 u.n) (v4 := .int .i64 u.hv) HB.out.bZ
  have r0 := blk_cell bN 0 _ rfl
  have r1 := blk_cell bN 1 _ rfl
  have r2 := blk_cell bN 2 _ rfl
  have r3 := blk_cell bN 3 _ rfl
  have r4 := blk_cell bN 4 _ rfl
  refine bodyPost_ret (v := .tuple #[unv u (some ⟨gh, 0, none⟩) 192 ch, .slice none 0 0]) (by simp [results, Tryz.results27, go_sem, unv, r0, r1, r2, r3, r4]) rfl ?_
  obtain ⟨q1, q2⟩ := ref_end HB.out.bZ HO.out.ws (hu3.out) (.inl rfl : IsMsgs w8 none []) hT
  rw [HE.out]
  exact ⟨⟨_, _, _, none, 0, 0, rfl, q1, q2, rfl, Nat.le_refl _, by omega⟩, turns_below hw hT (by omega) hw.size⟩
  }
  have Hhwl := hide cl
  have hpb : u.n = m.n ∧ u.hv = m.at' ∧ (m.ws.length : Int) ≤ 40 - m.at' := ⟨cn, ch', cl⟩
  have HPB1 : Hid ((doV u (.fil (oth s) m.at' m.ws)).2 = true → pieceS u (stOf u.ws) m = mind (doV u (.fil (oth s) m.at' m.ws)).1 (doV u (.fil (oth s) m.at' m.ws)).1.n ((doV u (.fil (oth s) m.at' m.ws)).1.hv + m.ws.length)) := fun e => HPn.out.trans (pieceB_ok hpb e)
  have HPB0 : Hid ((doV u (.fil (oth s) m.at' m.ws)).2 = false → pieceS u (stOf u.ws) m = (doV u (.fil (oth s) m.at' m.ws)).1) := fun e => HPn.out.trans (pieceB_bad hpb e)
  clear cn ch' cl hpb HPn P3 HDo HLk
  have hck := (lchk_parts hlk).1
  have z1 : ¬ m.n ≤ s.by' := by have h := Hhby.out; rw [HS.out]; omega
  clear Hhby
  have d_r : (s.rdy != 0) = false := by have h := Hhrd.out; rw [← HS.out] at h; simpa using h
  clear Hhrd
  have m3 := blk_cell HB.out.bM 3 _ rfl
  have d_a : (m.at' == 0) = false := by simpa using Hha.out
  have h3 := blk_cell HO.out.box 3 _ rfl
  have h4 := blk_cell HO.out.box 4 _ rfl
  have h5 := blk_cell HO.out.box 5 _ rfl
  have m5 := blk_cell HB.out.bM 5 _ rfl
  have d_n2 : (u.n == m.n) = true := by simpa using Hhwn.out
  have d_h : (u.hv == m.at') = true := by simpa using Hhwh.out
  have kb : m.at' + (nm : Int) ≤ 40 := by have h := Hhwl.out; have h3 := hM.len; omega
  go_upto_region 15 with fail
  clear x2 m0 s1 s2 p00 m20 d_a d_r z1
  go_upto_region 15 with fail
  go_quiet (fail)
  have hbz : Below W6.heap.size W6 (W6.drewN nq) := below_drewN (Below.refl _ _) nq
  replace HB := hide (HB.out.below hbz)
  replace HO := hide (HO.out.below hbz)
  replace hw := hw.trans (hbz.mono hw.size)
  clear h3 h4 h5 d_n2 d_h kb m3 m5 p0 m2
  generalize W6.drewN nq = w8 at *
  have hyl : u.ws.length = 192 := hul
  have hyc : chk u.ws u.fu = 0 := hck
  have HYh : Hid (u.hv = m.at') := Hhwh.out
  have HPS : Hid (∀ q, pieceS u (stOf u.ws) m = q → pieceS u (stOf u.ws) m = q) := fun _ h => h
  clear hck HPS
  obtain ⟨y, hy⟩ : ∃ y, y = u := ⟨_, rfl⟩
  have HPB1' : Hid ((doV y (.fil (oth s) m.at' m.ws)).2 = true → pieceS u (stOf u.ws) m = mind (doV y (.fil (oth s) m.at' m.ws)).1 (doV y (.fil (oth s) m.at' m.ws)).1.n ((doV y (.fil (oth s) m.at' m.ws)).1.hv + m.ws.length)) := by rw [hy]; exact HPB1
  have HPB0' : Hid ((doV y (.fil (oth s) m.at' m.ws)).2 = false → pieceS u (stOf u.ws) m = (doV y (.fil (oth s) m.at' m.ws)).1) := by rw [hy]; exact HPB0
  clear HPB0 HPB1
  have HPB0 := HPB0'
  have HPB1 := HPB1'
  clear HPB0' HPB1'
  rw [← hy] at HO hyl hyc HYh
  clear hy
  have HFi := hide (fun V (hV : Below w8.heap.size w8 V) => filled_any (some ⟨gh, 0, none⟩) ch y.ws y.fu sn m.at' am nm cm m.ws V (HO.out.ws.below hV).at_ hyl hyc hsn (hM.below (hw.trans (hV.mono hw.size))).at_ hM.len hM.max)
  have HF0 : Hid (doV y (.fil (oth s) m.at' m.ws) = doU y (fillS y.ws y.fu sn m.at' m.ws)) := by show _ = _; rw [HN.out]; rfl
  have HRm2 : Hid (∀ {k : Nat}, (fillS y.ws y.fu sn m.at' m.ws).1.length = k → k ≤ maxLen) := room_of (doT_le (.fil sn m.at' m.ws) y.ws y.fu) hyl
  have HLy : Hid (∀ st, (doV y st).1.ws = [] ∨ 3 ≤ (doV y st).1.ws.length) := fun st => lk_3 (doV_lk _ _) hyl
  have HHv : Hid ((doV y (.fil (oth s) m.at' m.ws)).2 = true → (doV y (.fil (oth s) m.at' m.ws)).1.hv = y.hv) := doV_hv
  generalize fillS y.ws y.fu sn m.at' m.ws = C2 at *
  unfold Answers at HFi
  go_upto_region 16 with fail
  have p0 := blk_cell HB.out.bP 0 _ rfl
  have m3 := blk_cell HB.out.bM 3 _ rfl
  have m5 := blk_cell HB.out.bM 5 _ rfl
  have h0 := blk_cell HO.out.box 0 _ rfl
  have h1 := blk_cell HO.out.box 1 _ rfl
  have hG0 : w8.grownBy w8.drew (some (w.heap.size + 1 + 1 + 1 + 1)) := turns_of (Below.refl _ _).drew _
  have hbd : Below w8.heap.size w8 w8.drew := (Below.refl _ _).drew
  refine wp_region_held_drew (S := fun W' => W'.cell? ⟨w.heap.size + 1 + 1 + 1 + 1 + 1, 0, none⟩ = some (.pointer (some ⟨w.heap.size + 1 + 1 + 1 + 1, 0, none⟩)) ∧ W'.cell? ⟨w.heap.size + 1 + 1, 3, none⟩ = some (.int .i64 m.at') ∧ W'.cell? ⟨w.heap.size + 1 + 1, 5, none⟩ = some (.slice am nm cm) ∧ w8.grownBy W' (some (w.heap.size + 1 + 1 + 1 + 1))) (by kernel_rfl) (st3g p0 m3 m5 (by show w.heap.size + 1 + 1 + 1 + 1 + 1 ≠ w.heap.size + 1 + 1 + 1 + 1; omega) (by show w.heap.size + 1 + 1 ≠ w.heap.size + 1 + 1 + 1 + 1; omega) (by show w.heap.size + 1 + 1 ≠ w.heap.size + 1 + 1 + 1 + 1; omega) (hG0)) ?_
  intro hHeld
  refine Htake (i := 0) (v := ?_) (by rfl) (by kernel_rfl) (by exact fun _ _ _ h => h) (Or.inl ⟨by rfl, ?_⟩) (by assumption) ?_
  rotate_left
  {
  intro w hSw
  try dsimp only at hSw
  go_simp
  try with_reducible rfl
  }
  try simp only [sq]
  refine Htake (i := 1) (v := ?_) (by rfl) (by kernel_rfl) (by exact fun _ _ _ h => h) (Or.inl ⟨by rfl, ?_⟩) (by assumption) ?_
  rotate_left
  {
  intro w hSw
  try dsimp only at hSw
  go_simp
  try with_reducible rfl
  }
  try simp only [sq]
  refine Htake (i := 2) (v := ?_) (by rfl) (by kernel_rfl) (by exact fun _ _ _ h => h) (Or.inl ⟨by rfl, ?_⟩) (by assumption) ?_
  rotate_left
  {
  intro w hSw
  try dsimp only at hSw
  go_simp
  try with_reducible rfl
  }
  try simp only [sq]
  refine Htake (i := 3) (v := ?_) (by rfl) (by kernel_rfl) (by exact fun _ _ _ h => h) (Or.inl ⟨by rfl, ?_⟩) (by assumption) ?_
  rotate_left
  {
  intro w hSw
  try dsimp only at hSw
  go_simp
  try with_reducible rfl
  }
  try simp only [sq]
  refine Htake (i := 4) (v := ?_) (by rfl) (by kernel_rfl) (by exact fun _ _ _ h => h) (Or.inl ⟨by rfl, ?_⟩) (by assumption) ?_
  rotate_left
  {
  intro w hSw
  try dsimp only at hSw
  go_simp
  try with_reducible rfl
  }
  try simp only [sq]
  refine Htake (i := 6) (v := ?_) (by rfl) (by kernel_rfl) (by exact fun _ _ _ h => h) (Or.inl ⟨by rfl, ?_⟩) (by assumption) ?_
  rotate_left
  {
  intro w hSw
  try dsimp only at hSw
  go_simp
  try with_reducible rfl
  }
  try simp only [sq]
  refine Htake (i := 7) (v := ?_) (by rfl) (by kernel_rfl) (by exact fun _ _ _ h => h) (Or.inl ⟨by rfl, ?_⟩) (by assumption) ?_
  rotate_left
  {
  intro w hSw
  try dsimp only at hSw
  go_simp
  try with_reducible rfl
  }
  try simp only [sq]
  refine Htake (i := 8) (v := ?_) (by rfl) (by kernel_rfl) (by exact fun _ _ _ h => h) (Or.inl ⟨by rfl, ?_⟩) (by assumption) ?_
  rotate_left
  {
  intro w hSw
  try dsimp only at hSw
  go_simp
  try with_reducible rfl
  }
  try simp only [sq]
  refine Htake (i := 9) (v := ?_) (by rfl) (by kernel_rfl) (by exact fun _ _ _ h => h) (Or.inl ⟨by rfl, ?_⟩) (by assumption) ?_
  rotate_left
  {
  intro w hSw
  try dsimp only at hSw
  go_simp
  try with_reducible rfl
  }
  try simp only [sq]
  refine Htake (i := 10) (v := ?_) (by rfl) (by kernel_rfl) (by exact fun _ _ _ h => h) (Or.inl ⟨by rfl, ?_⟩) (by assumption) ?_
  rotate_left
  {
  intro w hSw
  try dsimp only at hSw
  go_simp
  try with_reducible rfl
  }
  try simp only [sq]
  refine wpAnyH_ready (rs := [5]) (by kernel_rfl) (by simp) ?_
  refine AllReadyH.cons (by rfl) (fun K hK => ?_) AllReadyH.nil
  go_simp
  refine hK.out _ _ (st3g p0 m3 m5 (by show w.heap.size + 1 + 1 + 1 + 1 + 1 ≠ w.heap.size + 1 + 1 + 1 + 1; omega) (by show w.heap.size + 1 + 1 ≠ w.heap.size + 1 + 1 + 1 + 1; omega) (by show w.heap.size + 1 + 1 ≠ w.heap.size + 1 + 1 + 1 + 1; omega) (hG0)) (fun hHeld2 => ?_)
  clear hK K hHeld
  try simp only [sq]
  have hHeld := hHeld2
  clear hHeld2
  refine wpAnyH_ready (rs := [11]) (by kernel_rfl) (by simp) ?_
  refine AllReadyH.cons (by rfl) (fun K hK => ?_) AllReadyH.nil
  go_simp
  refine (unhide HFi _ hbd).mono ?_
  rintro e w2 ⟨⟨a5, n5, c5, rfl, hi5, hn5, hc5, hf5⟩, hb2⟩
  have hG2 := hG0.trans (turns_of hb2 (w.heap.size + 1 + 1 + 1 + 1))
  go_wp2_with fail
  refine hK.out _ _ (st3g p0 m3 m5 (by show w.heap.size + 1 + 1 + 1 + 1 + 1 ≠ w.heap.size + 1 + 1 + 1 + 1; omega) (by show w.heap.size + 1 + 1 ≠ w.heap.size + 1 + 1 + 1 + 1; omega) (by show w.heap.size + 1 + 1 ≠ w.heap.size + 1 + 1 + 1 + 1; omega) (hG2)) (fun hHeld2 => ?_)
  clear hK K hHeld
  try simp only [sq]
  have hHeld := hHeld2
  clear hHeld2
  refine Htake (i := 12) (v := ?_) (by rfl) (by kernel_rfl) (by exact fun _ _ _ h => h) (Or.inl ⟨by rfl, ?_⟩) (by assumption) ?_
  rotate_left
  {
  intro w hSw
  try dsimp only at hSw
  go_simp
  try with_reducible rfl
  }
  try simp only [sq]
  refine Htake (i := 13) (v := ?_) (by rfl) (by kernel_rfl) (by exact fun _ _ _ h => h) (Or.inl ⟨by rfl, ?_⟩) (by assumption) ?_
  rotate_left
  {
  intro w hSw
  try dsimp only at hSw
  go_simp
  try with_reducible rfl
  }
  try simp only [sq]
  refine wpAnyH_ready (rs := [14]) (by kernel_rfl) (by simp) ?_
  refine AllReadyH.cons (by rfl) (fun K hK => ?_) AllReadyH.nil
  have HF := hide (handsFlash_any (w.heap.size + 1 + 1 + 1 + 1) y (some ⟨gh, 0, none⟩) 192 ch C2 a5 n5 c5 w2 ((HO.out.below hbd).below hb2) ⟨hi5, hn5, hc5, HRm2.out hn5⟩ (off_fresh hf5 (Nat.lt_of_lt_of_le (blk_lt HO.out.box) hbd.size)))
  unfold HdOf at HF
  clear hi5 hc5 hf5 hn5
  go_simp
  refine (unhide HF).mono ?_
  rintro e w9 ⟨rfl, ⟨a9, n9, c9, hO9⟩, hg9⟩
  have hG9 := hG2.trans hg9
  go_wp2_with fail
  refine hK.out _ _ (st3g p0 m3 m5 (by show w.heap.size + 1 + 1 + 1 + 1 + 1 ≠ w.heap.size + 1 + 1 + 1 + 1; omega) (by show w.heap.size + 1 + 1 ≠ w.heap.size + 1 + 1 + 1 + 1; omega) (by show w.heap.size + 1 + 1 ≠ w.heap.size + 1 + 1 + 1 + 1; omega) (hG9)) (fun hHeld2 => ?_)
  clear hK K hHeld hHeld2
  try simp only [sq]
  refine wpAnyH_done (by kernel_rfl) ?_ _
  have HO9 := hide hO9
  replace HB := hide (HB.out.turns hG9)
  replace hw := turns_below hw hG9 (by omega) hw.size
  clear hO9 hG9 hg9 hG2 hb2 HF p0 h0 h1 hG0 hbd m3 m5 HO
  rw [← HF0.out] at HO9
  obtain ⟨F, hF⟩ : ∃ F, F = doV y (.fil (oth s) m.at' m.ws) := ⟨_, rfl⟩
  rw [← hF] at HO9 HHv HPB1 HPB0
  have HL : Hid (F.1.ws = [] ∨ 3 ≤ F.1.ws.length) := by show _ ∨ _; rw [hF]; exact HLy.out _
  clear hF HF0 HRm2 HFi HLy
  obtain ⟨z, dn⟩ := F
  dsimp only at *
  have h5 := blk_cell HO9.out.box 5 _ rfl
  have p0 := blk_cell HB.out.bP 0 _ rfl
  cases dn
  {
  have EQ := hide (HPB0.out rfl)
  clear HPB0 HPB1 HHv hM hmE ka
  have HE : Hid ((pieceS u (stOf u.ws) m, ([] : List Ms)) = (z, [])) := by show _ = _; rw [EQ.out]
  clear EQ
  have pz := blk_cell HB.out.bP 0 _ rfl
  have h0 := blk_cell HO9.out.box 0 _ rfl
  have h1 := blk_cell HO9.out.box 1 _ rfl
  have h2 := blk_cell HO9.out.box 2 _ rfl
  have h3 := blk_cell HO9.out.box 3 _ rfl
  have h4 := blk_cell HO9.out.box 4 _ rfl
  have z0 := blk_cell HB.out.bZ 0 _ rfl
  have z1 := blk_cell HB.out.bZ 1 _ rfl
  have z2 := blk_cell HB.out.bZ 2 _ rfl
  have z3 := blk_cell HB.out.bZ 3 _ rfl
  have z4 := blk_cell HB.out.bZ 4 _ rfl
  have f0 := blk_free HB.out.bZ 0
  have f1 := blk_free HB.out.bZ 1
  have f2 := blk_free HB.out.bZ 2
  have f3 := blk_free HB.out.bZ 3
  have f4 := blk_free HB.out.bZ 4
  go_wp2_with fail
  have hT : w9.grownBy (((((w9.setCell ⟨w.heap.size + 1 + 1 + 1, 0, none⟩ (.slice a9 n9 c9)).setCell ⟨w.heap.size + 1 + 1 + 1, 1, none⟩ (.int .i64 z.fu)).setCell ⟨w.heap.size + 1 + 1 + 1, 2, none⟩ (.bool z.up)).setCell ⟨w.heap.size + 1 + 1 + 1, 3, none⟩ (.int .i64 z.n)).setCell ⟨w.heap.size + 1 + 1 + 1, 4, none⟩ (.int .i64 z.hv)) (some (w.heap.size + 1 + 1 + 1)) := turns_set (turns_set (turns_set (turns_set (turns_set (World.grownBy.refl _ _) _ _) _ _) _ _) _ _) _ _
  have bN := unit_set5 (v0 := .slice a9 n9 c9) (v1 := .int .i64 z.fu) (v2 := .bool z.up) (v3 := .int .i64 z.n) (v4 := .int .i64 z.hv) HB.out.bZ
  have r0 := blk_cell bN 0 _ rfl
  have r1 := blk_cell bN 1 _ rfl
  have r2 := blk_cell bN 2 _ rfl
  have r3 := blk_cell bN 3 _ rfl
  have r4 := blk_cell bN 4 _ rfl
  refine bodyPost_ret (v := .tuple #[unv z a9 n9 c9, .slice none 0 0]) (by simp [results, Tryz.results27, go_sem, unv, r0, r1, r2, r3, r4]) rfl ?_
  obtain ⟨q1, q2⟩ := ref_end HB.out.bZ HO9.out.ws (HL.out) (.inl rfl : IsMsgs w9 none []) hT
  rw [HE.out]
  exact ⟨⟨_, _, _, none, 0, 0, rfl, q1, q2, rfl, Nat.le_refl _, by omega⟩, turns_below hw hT (by omega) hw.size⟩
  }
  have EQ := hide (HPB1.out rfl)
  rw [HHv.out rfl, HYh.out, hM.len] at EQ
  clear HPB0 HPB1 HHv hM hmE
  have h4 := blk_cell HO9.out.box 4 _ rfl
  have f4 := blk_free HO9.out.box 4
  have m3 := blk_cell HB.out.bM 3 _ rfl
  have m5 := blk_cell HB.out.bM 5 _ rfl
  go_upto_region 47 with fail
  have hT4 : w9.grownBy (w9.setCell ⟨w.heap.size + 1 + 1 + 1 + 1, 4, none⟩ (.int .i64 (m.at' + (nm : Int)))) (some (w.heap.size + 1 + 1 + 1 + 1)) := turns_set (World.grownBy.refl _ _) _ _
  have HO5 := hide (own_hv HO9.out hT4)
  replace HB := hide (HB.out.turns hT4)
  replace hw := turns_below hw hT4 (by omega) hw.size
  clear h4 h5 f4 p0 m3 m5 ka HO9 hT4
  generalize (w9.setCell ⟨w.heap.size + 1 + 1 + 1 + 1, 4, none⟩ (.int .i64 (m.at' + (nm : Int)))) = w10 at *
  have HLm : Hid ((mind z z.n (m.at' + (nm : Int))).ws = [] ∨ 3 ≤ (mind z z.n (m.at' + (nm : Int))).ws.length) := HL.out
  clear HL
  generalize mind z z.n (m.at' + (nm : Int)) = y2 at *
  have HE : Hid ((pieceS u (stOf u.ws) m, ([] : List Ms)) = (y2, [])) := by show _ = _; rw [EQ.out]
  clear EQ
  have pz := blk_cell HB.out.bP 0 _ rfl
  have h0 := blk_cell HO5.out.box 0 _ rfl
  have h1 := blk_cell HO5.out.box 1 _ rfl
  have h2 := blk_cell HO5.out.box 2 _ rfl
  have h3 := blk_cell HO5.out.box 3 _ rfl
  have h4 := blk_cell HO5.out.box 4 _ rfl
  have z0 := blk_cell HB.out.bZ 0 _ rfl
  have z1 := blk_cell HB.out.bZ 1 _ rfl
  have z2 := blk_cell HB.out.bZ 2 _ rfl
  have z3 := blk_cell HB.out.bZ 3 _ rfl
  have z4 := blk_cell HB.out.bZ 4 _ rfl
  have f0 := blk_free HB.out.bZ 0
  have f1 := blk_free HB.out.bZ 1
  have f2 := blk_free HB.out.bZ 2
  have f3 := blk_free HB.out.bZ 3
  have f4 := blk_free HB.out.bZ 4
  go_wp2_with fail
  have hT : w10.grownBy (((((w10.setCell ⟨w.heap.size + 1 + 1 + 1, 0, none⟩ (.slice a9 n9 c9)).setCell ⟨w.heap.size + 1 + 1 + 1, 1, none⟩ (.int .i64 y2.fu)).setCell ⟨w.heap.size + 1 + 1 + 1, 2, none⟩ (.bool y2.up)).setCell ⟨w.heap.size + 1 + 1 + 1, 3, none⟩ (.int .i64 y2.n)).setCell ⟨w.heap.size + 1 + 1 + 1, 4, none⟩ (.int .i64 y2.hv)) (some (w.heap.size + 1 + 1 + 1)) := turns_set (turns_set (turns_set (turns_set (turns_set (World.grownBy.refl _ _) _ _) _ _) _ _) _ _) _ _
  have bN := unit_set5 (v0 := .slice a9 n9 c9) (v1 := .int .i64 y2.fu) (v2 := .bool y2.up) (v3 := .int .i64 y2.n) (v4 := .int .i64 y2.hv) HB.out.bZ
  have r0 := blk_cell bN 0 _ rfl
  have r1 := blk_cell bN 1 _ rfl
  have r2 := blk_cell bN 2 _ rfl
  have r3 := blk_cell bN 3 _ rfl
  have r4 := blk_cell bN 4 _ rfl
  refine bodyPost_ret (v := .tuple #[unv y2 a9 n9 c9, .slice none 0 0]) (by simp [results, Tryz.results27, go_sem, unv, r0, r1, r2, r3, r4]) rfl ?_
  obtain ⟨q1, q2⟩ := ref_end HB.out.bZ HO5.out.ws (HLm.out) (.inl rfl : IsMsgs w10 none []) hT
  rw [HE.out]
  exact ⟨⟨_, _, _, none, 0, 0, rfl, q1, q2, rfl, Nat.le_refl _, by omega⟩, turns_below hw hT (by omega) hw.size⟩

end Go.Proofs.YtgngpmgjoifepaaGreatDoor
