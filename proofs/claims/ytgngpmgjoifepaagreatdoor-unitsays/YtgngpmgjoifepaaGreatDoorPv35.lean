/- The reference's UnitHears: a Prepare. -/
import Derived.Test.YtgngpmgjoifepaaGreatDoorPv32
import Derived.Deep.DeepCutAuto
import Derived.BigRegion
namespace Go.Proofs.YtgngpmgjoifepaaGreatDoor
open Go.RowKit
attribute [local go_sem ↓] Go.wp_at_zero Go.wp_at_succ

set_option maxRecDepth 100000 in
set_option maxHeartbeats 12800000 in
theorem refHears_2 (ab : Option Addr) (nb cb : Nat) (ss : List ByteArray) (u : Un) (a : Option Addr) (c : Nat) (m : Ms) (am : Option Addr) (nm cm : Nat) (w : World) (hB : BB w ab nb cb ss) (hT : Tab w) (hU : BW w a 192 c u.ws) (hM : BI w am nm m.ws) (hb0 : bookE ss = 0) (hu0 : unE u = 0) (hm0 : msE m = 0) (hup : u.up = true) (hk : m.k = 2) :
    Calls Tryz.prog 27 #[bookv ab nb cb, unv u a 192 c, msv m am nm cm] w (RefAns w (prepS ss u (stOf u.ws) m)) := by
  have hzz := And.intro hB (And.intro hT (And.intro hU (And.intro hM (And.intro hb0 (And.intro hu0 hm0)))))
  clear hzz
  have HUP := hide hup
  clear hup
  have HK := hide hk
  clear hk
  obtain ⟨s, hs⟩ : ∃ s, s = stOf u.ws := ⟨_, rfl⟩
  have hlk := (unE_ok hu0).1
  have HSt := hide (fun W (hW : Below w.heap.size w W) => unitStateOf_any u a 192 c W (hU.below hW) hlk)
  have HOw := hide (fun W (hW : Below w.heap.size w W) => ownFlash_any a 192 c u.ws u.fu W (hU.below hW).at_ hU.len (by decide))
  have hsl := oth_0 hu0
  rw [← hs] at HSt hsl
  obtain ⟨sn, hsn0⟩ : ∃ sn : Nat, oth s = (sn : Int) := ⟨(oth s).toNat, by omega⟩
  have hsn : sn ≤ 1 := by omega
  have ko : IntKind.i64.wrap (1 - s.slot) = (sn : Int) := by have e : 1 - s.slot = (sn : Int) := hsn0; rw [e]; rw [IntKind.wrap_i64]; omega
  have HS := hide hs
  have HN := hide hsn0
  have hu3 : Hid (u.ws = [] ∨ 3 ≤ u.ws.length) := .inr (by rw [hU.len]; decide)
  clear hs hsn0 hsl hlk
  obtain ⟨hw, b0, b1, b2, b3, b4, b5⟩ := al6 w (.cells #[.slice ab nb cb] 24) (.cells #[.slice a 192 c, .int .i64 u.fu, .bool u.up, .int .i64 u.n, .int .i64 u.hv] 29) (.cells #[.int .i64 m.k, .int .i64 m.u, .int .i64 m.n, .int .i64 m.at', .int .i64 m.im, .slice am nm cm, .bool m.y] 31) (.cells #[.slice none 0 0, .int .i64 0, .bool false, .int .i64 0, .int .i64 0] 29) (.cells #[.slice a 192 c, .int .i64 u.fu, .bool u.up, .int .i64 u.n, .int .i64 u.hv, .bool false] 137) (.cells #[.pointer (some ⟨w.heap.size + 1 + 1 + 1 + 1, 0, none⟩)] 135)
  unfold usv unv at HSt
  unfold bookv unv msv
  have u0 := blk_cell b1 0 _ rfl
  have u1 := blk_cell b1 1 _ rfl
  have u2 := blk_cell b1 2 _ rfl
  have u3 := blk_cell b1 3 _ rfl
  have u4 := blk_cell b1 4 _ rfl
  go_enter Tryz.func27, Tryz.ntmps27
  go_upto_region 2 with fail
  generalize ((((((w.alloc (.cells #[.slice ab nb cb] 24)).alloc (.cells #[.slice a 192 c, .int .i64 u.fu, .bool u.up, .int .i64 u.n, .int .i64 u.hv] 29)).alloc (.cells #[.int .i64 m.k, .int .i64 m.u, .int .i64 m.n, .int .i64 m.at', .int .i64 m.im, .slice am nm cm, .bool m.y] 31)).alloc (.cells #[.slice none 0 0, .int .i64 0, .bool false, .int .i64 0, .int .i64 0] 29)).alloc (.cells #[.slice a 192 c, .int .i64 u.fu, .bool u.up, .int .i64 u.n, .int .i64 u.hv, .bool false] 137)).alloc (.cells #[.pointer (some ⟨w.heap.size + 1 + 1 + 1 + 1, 0, none⟩)] 135)) = W at *
  clear u2 u3 u4
  have p0 := blk_cell b5 0 _ rfl
  have hG0 : W.grownBy W.drew (some (w.heap.size + 1 + 1 + 1 + 1)) := turns_of (Below.refl _ _).drew _
  refine wp_region_held_drew (S := fun W' => W'.cell? ⟨w.heap.size + 1 + 1 + 1 + 1 + 1, 0, none⟩ = some (.pointer (some ⟨w.heap.size + 1 + 1 + 1 + 1, 0, none⟩)) ∧ W'.cell? ⟨w.heap.size + 1, 0, none⟩ = some (.slice a 192 c) ∧ W'.cell? ⟨w.heap.size + 1, 1, none⟩ = some (.int .i64 u.fu) ∧ W.grownBy W' (some (w.heap.size + 1 + 1 + 1 + 1))) (by kernel_rfl) (st3g p0 u0 u1 (by show w.heap.size + 1 + 1 + 1 + 1 + 1 ≠ w.heap.size + 1 + 1 + 1 + 1; omega) (by show w.heap.size + 1 ≠ w.heap.size + 1 + 1 + 1 + 1; omega) (by show w.heap.size + 1 ≠ w.heap.size + 1 + 1 + 1 + 1; omega) (hG0)) ?_
  intro hHeld
  refine wpAnyH_take (i := 0) (v := ?_) (by simp only [List.getElem?_toArray, List.getElem?_cons_zero]; rfl) (by kernel_rfl) (by kernel_rfl) (by kernel_rfl) (by exact fun _ _ _ h => h) (Or.inl ⟨by rfl, ?_⟩) (by assumption) ?_
  rotate_left
  · intro w hSw
    try dsimp only at hSw
    go_simp
    try with_reducible rfl
  try simp only [Act.put, List.setIfInBounds_toArray, List.set_cons_zero, List.set_cons_succ]
  refine wpAnyH_take (i := 1) (v := ?_) (by simp only [List.getElem?_toArray, List.getElem?_cons_zero, List.getElem?_cons_succ]; rfl) (by kernel_rfl) (by kernel_rfl) (by kernel_rfl) (by exact fun _ _ _ h => h) (Or.inl ⟨by rfl, ?_⟩) (by assumption) ?_
  rotate_left
  · intro w hSw
    try dsimp only at hSw
    go_simp
    try with_reducible rfl
  try simp only [Act.put, List.setIfInBounds_toArray, List.set_cons_zero, List.set_cons_succ]
  refine wpAnyH_take (i := 2) (v := ?_) (by simp only [List.getElem?_toArray, List.getElem?_cons_zero, List.getElem?_cons_succ]; rfl) (by kernel_rfl) (by kernel_rfl) (by kernel_rfl) (by exact fun _ _ _ h => h) (Or.inl ⟨by rfl, ?_⟩) (by assumption) ?_
  rotate_left
  · intro w hSw
    try dsimp only at hSw
    go_simp
    try with_reducible rfl
  try simp only [Act.put, List.setIfInBounds_toArray, List.set_cons_zero, List.set_cons_succ]
  refine wpAnyH_ready (rs := [3]) (by kernel_rfl) (by simp) ?_
  refine AllReadyH.cons (by simp only [List.getElem?_toArray, List.getElem?_cons_zero, List.getElem?_cons_succ]; rfl) (fun K hK => ?_) AllReadyH.nil
  go_simp
  refine (unhide HOw _ hw.drew).mono ?_
  rintro e w2 ⟨gh, ch, hgh, hch, rfl, hoc, hb2⟩
  have hG2 := hG0.trans (turns_of hb2 (w.heap.size + 1 + 1 + 1 + 1))
  go_wp2_with fail
  refine hK.out _ _ (st3g p0 u0 u1 (by show w.heap.size + 1 + 1 + 1 + 1 + 1 ≠ w.heap.size + 1 + 1 + 1 + 1; omega) (by show w.heap.size + 1 ≠ w.heap.size + 1 + 1 + 1 + 1; omega) (by show w.heap.size + 1 ≠ w.heap.size + 1 + 1 + 1 + 1; omega) (hG2)) (fun hHeld2 => ?_)
  clear hK K hHeld
  try simp only [Act.put, List.setIfInBounds_toArray, List.set_cons_zero, List.set_cons_succ]
  have hHeld := hHeld2
  clear hHeld2
  have bH2 := blk_below (blk_below b4 (Below.refl _ _).drew) hb2
  have h0 := blk_cell bH2 0 _ rfl
  have h1 := blk_cell bH2 1 _ rfl
  have f0 := blk_free bH2 0
  have f1 := blk_free bH2 1
  have hT : w2.grownBy ((w2.setCell ⟨w.heap.size + 1 + 1 + 1 + 1, 0, none⟩ (.slice (some ⟨gh, 0, none⟩) 192 ch)).setCell ⟨w.heap.size + 1 + 1 + 1 + 1, 1, none⟩ (.int .i64 u.fu)) (some (w.heap.size + 1 + 1 + 1 + 1)) := turns_set (turns_set (World.grownBy.refl _ _) _ _) _ _
  refine wpAnyH_take (i := 4) (v := ?_) (by simp only [List.getElem?_toArray, List.getElem?_cons_zero, List.getElem?_cons_succ]; rfl) (by kernel_rfl) (by kernel_rfl) (by kernel_rfl) (by exact fun _ _ _ h => h) (Or.inl ⟨by rfl, ?_⟩) (by assumption) ?_
  rotate_left
  · intro w hSw
    try dsimp only at hSw
    go_simp
    try with_reducible rfl
  try simp only [Act.put, List.setIfInBounds_toArray, List.set_cons_zero, List.set_cons_succ]
  refine wpAnyH_take (i := 5) (v := ?_) (by simp only [List.getElem?_toArray, List.getElem?_cons_zero, List.getElem?_cons_succ]; rfl) (by kernel_rfl) (by kernel_rfl) (by kernel_rfl) (by exact fun _ _ _ h => h) (Or.inl ⟨by rfl, ?_⟩) (by assumption) ?_
  rotate_left
  · intro w hSw
    try dsimp only at hSw
    go_simp
    try with_reducible rfl
  try simp only [Act.put, List.setIfInBounds_toArray, List.set_cons_zero, List.set_cons_succ]
  refine wpAnyH_take (i := 6) (v := ?_) (by simp only [List.getElem?_toArray, List.getElem?_cons_zero, List.getElem?_cons_succ]; rfl) (by kernel_rfl) (by kernel_rfl) (by kernel_rfl) (by exact fun _ _ _ h => h) (Or.inl ⟨by rfl, ?_⟩) (by assumption) ?_
  rotate_left
  · intro w hSw
    try dsimp only at hSw
    go_simp
    try with_reducible rfl
  try simp only [Act.put, List.setIfInBounds_toArray, List.set_cons_zero, List.set_cons_succ]
  refine wpAnyH_ready (rs := [7]) (by kernel_rfl) (by simp) ?_
  refine AllReadyH.cons (by simp only [List.getElem?_toArray, List.getElem?_cons_zero, List.getElem?_cons_succ]; rfl) (fun K hK => ?_) AllReadyH.nil
  go_simp
  refine hK.out _ _ (st3g p0 u0 u1 (by show w.heap.size + 1 + 1 + 1 + 1 + 1 ≠ w.heap.size + 1 + 1 + 1 + 1; omega) (by show w.heap.size + 1 ≠ w.heap.size + 1 + 1 + 1 + 1; omega) (by show w.heap.size + 1 ≠ w.heap.size + 1 + 1 + 1 + 1; omega) (hG2.trans hT)) (fun hHeld => ?_)
  clear hK K
  try simp only [Act.put, List.setIfInBounds_toArray, List.set_cons_zero, List.set_cons_succ]
  refine wpAnyH_done (by kernel_rfl) ?_ _
  have hOw := own_made hoc hU.len hch bH2 hT (by decide) (by have := blk_lt b4; have e : W.heap.size = W.drew.heap.size := rfl; omega)
  have hG := hG2.trans hT
  clear hHeld bH2 h0 h1 f0 f1 hoc hb2 hG2 hT
  generalize ((w2.setCell ⟨w.heap.size + 1 + 1 + 1 + 1, 0, none⟩ (.slice (some ⟨gh, 0, none⟩) 192 ch)).setCell ⟨w.heap.size + 1 + 1 + 1 + 1, 1, none⟩ (.int .i64 u.fu)) = w2 at *
  have hw2 := turns_below hw hG (by omega) hw.size
  have q1 := blk_turns b1 hG (by omega)
  clear u0 u1 p0 hG0 HOw
  have u0 := blk_cell q1 0 _ rfl
  have u1 := blk_cell q1 1 _ rfl
  have u2 := blk_cell q1 2 _ rfl
  have u3 := blk_cell q1 3 _ rfl
  have u4 := blk_cell q1 4 _ rfl
  go_wp2_with fail
  refine (unhide HSt _ hw2).mono ?_
  rintro e w3 ⟨rfl, hb3⟩
  clear u0 u1 u2 u3 u4 HSt q1
  have hb4 : Below w2.heap.size w2 (w3.alloc (.cells #[.int .i64 s.slot, .int .i64 s.by', .int .i64 s.rdy] 40)) := below_new hb3 _
  have hG4 := hG.trans (turns_of hb4 (w.heap.size + 1 + 1 + 1 + 1))
  have bS := heap_alloc_last w3 (.cells #[.int .i64 s.slot, .int .i64 s.by', .int .i64 s.rdy] 40)
  have hwW := hw2.trans (hb4.mono hw2.size)
  have hS2 := hb3.size
  have hSz := Nat.le_trans (blk_lt b5) hG.size
  go_upto_region 6 with fail
  have HB : Hid (HB6 (w3.alloc (.cells #[.int .i64 s.slot, .int .i64 s.by', .int .i64 s.rdy] 40)) w.heap.size w3.heap.size ab nb cb u a c m am nm cm s) := ⟨blk_turns b0 hG4 (by omega), blk_turns b1 hG4 (by omega), blk_turns b2 hG4 (by omega), blk_turns b3 hG4 (by omega), blk_turns b5 hG4 (by omega), bS, by omega⟩
  have HO := hide (hOw.below hb4)
  generalize w3.alloc (.cells #[.int .i64 s.slot, .int .i64 s.by', .int .i64 s.rdy] 40) = W6 at *
  generalize w3.heap.size = S at *
  clear hw hw2 b0 b1 b2 b3 b4 b5 bS hb3 hb4 hG hG4 hOw hS2 hSz
  have hw := hwW
  clear hwW
  have hlk := (unE_ok hu0).1
  have hul := hU.len
  have hmE := msE_0 hm0
  have HLk : Hid (∀ st, (doV u st).1.ws = [] ∨ 3 ≤ (doV u st).1.ws.length) := fun st => lk_3 (doV_lk _ _) hul
  have P1 := hide (fun h => prepS_1 (ss := ss) (u := u) (s := stOf u.ws) (m := m) h)
  have P2 := hide (fun h h2 => prepS_2 (ss := ss) (u := u) (s := stOf u.ws) (m := m) h h2)
  have P3 := hide (fun h h2 h3 => prepS_3 (ss := ss) (u := u) (s := stOf u.ws) (m := m) h h2 h3)
  have P4 := hide (fun h h2 h3 => prepS_4 (ss := ss) (u := u) (s := stOf u.ws) (m := m) h h2 h3)
  obtain ⟨hwd, hmt⟩ := meant_ref hb0 hu0 hm0
  have HWD := hide hwd
  have HMT := hide hmt
  clear hwd hmt
  have hD1 := slt_sea (u := u) (t := oth s) (l := m.at') (n := m.im) hu0 (by rw [HN.out]; omega)
  have HOk : Hid (unE (doV u (.sea (oth s) m.at' m.im)).1 = 0) := hD1.ok
  have HSy0 : Hid (stOf (doV u (.sea (oth s) m.at' m.im)).1.ws = s) := by show _ = _; rw [hD1.st]; exact HS.out.symm
  clear hD1
  obtain ⟨ba, oa, ha⟩ : ∃ b off, a = some ⟨b, off, none⟩ := by rcases hU.at_ with e | ⟨b, off, e, _⟩; rw [e] at hul; cases hul; exact ⟨b, off, e⟩
  obtain ⟨q, hq⟩ : ∃ q : Nat, m.at' = (q : Int) := ⟨m.at'.toNat, by have := hmE.2.2.2.1; omega⟩
  have hq40 : q ≤ 40 := by have := hmE.2.2.2.1; omega
  have hcap := hU.cap
  clear hM hm0
  have x2 := blk_cell HB.out.bU 2 _ rfl
  rw [HUP.out] at x2
  have m0 := blk_cell HB.out.bM 0 _ rfl
  rw [HK.out] at m0
  have m2 := blk_cell HB.out.bM 2 _ rfl
  have s1 := blk_cell HB.out.bS 1 _ rfl
  have s2 := blk_cell HB.out.bS 2 _ rfl
  have p0 := blk_cell HB.out.bP 0 _ rfl
  have u0 := blk_cell HB.out.bU 0 _ rfl
  rw [ha] at u0
  have m3 := blk_cell HB.out.bM 3 _ rfl
  rw [hq] at m3
  obtain ⟨d, hd⟩ : ∃ d : Int, d = 64 * (sn : Int) := ⟨_, rfl⟩
  obtain ⟨p4, hp4⟩ : ∃ p4 : Nat, p4 = 68 + 64 * sn := ⟨_, rfl⟩
  have k1 : IntKind.i64.wrap (64 * (sn : Int)) = d := by rw [IntKind.wrap_i64]; omega
  have k2 : IntKind.i64.wrap (64 + d) = 64 + d := by rw [IntKind.wrap_i64]; omega
  have k3 : IntKind.i64.wrap (64 + d + 4) = (p4 : Int) := by rw [IntKind.wrap_i64]; omega
  have k4 : IntKind.i64.wrap ((p4 : Int) + (q : Int)) = ((p4 + q : Nat) : Int) := by rw [IntKind.wrap_i64]; omega
  have j1 : (p4 : Int) ≤ ((p4 + q : Nat) : Int) := by omega
  have j2 : ((p4 + q : Nat) : Int) ≤ (c : Int) := by omega
  have j3 : ¬ c = p4 := by omega
  have j4 : (0 : Int) ≤ (p4 : Int) := by omega
  have HP4 := hide hp4
  have HQ := hide hq
  have HA := hide ha
  have hcp : p4 + q ≤ c := by omega
  clear hd hp4 hq ha
  by_cases z : m.n ≤ s.by'
  · have HE := hide (P1.out (by rw [← HS.out]; exact z))
    clear P1 P2 P3 P4 HWD HMT HOk HSy0 HLk hU hB hT hb0 hul hlk hmE k1 k2 k3 k4
    have HAn := hide (answer_any (w.heap.size + 1 + 1 + 1 + 1) (w.heap.size + 1 + 1 + 1 + 1 + 1) (w.heap.size + 1 + 1) u false (some ⟨gh, 0, none⟩) 192 ch m am nm cm 6 false W6 HO.out (blk_cell HB.out.bP 0 _ rfl) HB.out.bM)
    unfold RefAns ansU ansM unv at HAn
    go_wp2_with fail
    refine (unhide HAn).mono ?_
    rintro e wA ⟨⟨aa, na, ca, al, nl, cl, rfl, hbw, hms, hll, hcl, hc1⟩, hbA⟩
    clear HAn
    have bZA := blk_below HB.out.bZ hbA
    have hwA := hw.trans (hbA.mono hw.size)
    have z0 := blk_cell bZA 0 _ rfl
    have z1 := blk_cell bZA 1 _ rfl
    have z2 := blk_cell bZA 2 _ rfl
    have z3 := blk_cell bZA 3 _ rfl
    have z4 := blk_cell bZA 4 _ rfl
    have f0 := blk_free bZA 0
    have f1 := blk_free bZA 1
    have f2 := blk_free bZA 2
    have f3 := blk_free bZA 3
    have f4 := blk_free bZA 4
    go_wp2_with fail
    have hT : wA.grownBy (((((wA.setCell ⟨w.heap.size + 1 + 1 + 1, 0, none⟩ (.slice aa na ca)).setCell ⟨w.heap.size + 1 + 1 + 1, 1, none⟩ (.int .i64 u.fu)).setCell ⟨w.heap.size + 1 + 1 + 1, 2, none⟩ (.bool u.up)).setCell ⟨w.heap.size + 1 + 1 + 1, 3, none⟩ (.int .i64 u.n)).setCell ⟨w.heap.size + 1 + 1 + 1, 4, none⟩ (.int .i64 u.hv)) (some (w.heap.size + 1 + 1 + 1)) := turns_set (turns_set (turns_set (turns_set (turns_set (World.grownBy.refl _ _) _ _) _ _) _ _) _ _) _ _
    have bN := unit_set5 (v0 := .slice aa na ca) (v1 := .int .i64 u.fu) (v2 := .bool u.up) (v3 := .int .i64 u.n) (v4 := .int .i64 u.hv) bZA
    have r0 := blk_cell bN 0 _ rfl
    have r1 := blk_cell bN 1 _ rfl
    have r2 := blk_cell bN 2 _ rfl
    have r3 := blk_cell bN 3 _ rfl
    have r4 := blk_cell bN 4 _ rfl
    refine bodyPost_ret (v := .tuple #[unv u aa na ca, .slice al nl cl]) (by simp [results, Tryz.results27, go_sem, unv, r0, r1, r2, r3, r4]) rfl ?_
    obtain ⟨q1, q2⟩ := ref_end bZA hbw (hu3.out) hms hT
    rw [HE.out]
    exact ⟨⟨_, _, _, al, nl, cl, rfl, q1, q2, hll, hcl, hc1⟩, turns_below hwA hT (by omega) hwA.size⟩
  have z' : ¬ m.n ≤ (stOf u.ws).by' := by rw [← HS.out]; exact z
  clear P1
  by_cases zr : s.rdy = 0
  rotate_left
  · have HE : Hid (prepS ss u (stOf u.ws) m = (u, [voteM m (s.rdy == m.n)])) := by show _ = _; rw [P2.out z' (by rw [← HS.out]; exact zr), ← HS.out]; rfl
    have d2 : (s.rdy != 0) = true := by simpa using zr
    clear P2 P3 P4 zr z' HWD HMT HOk HSy0 HLk hU hB hT hb0 hul hlk hmE k1 k2 k3 k4
    have HAn := hide (answer_any (w.heap.size + 1 + 1 + 1 + 1) (w.heap.size + 1 + 1 + 1 + 1 + 1) (w.heap.size + 1 + 1) u false (some ⟨gh, 0, none⟩) 192 ch m am nm cm 3 (s.rdy == m.n) W6 HO.out (blk_cell HB.out.bP 0 _ rfl) HB.out.bM)
    unfold RefAns ansU ansM unv at HAn
    go_wp2_with fail
    refine (unhide HAn).mono ?_
    rintro e wA ⟨⟨aa, na, ca, al, nl, cl, rfl, hbw, hms, hll, hcl, hc1⟩, hbA⟩
    clear HAn
    have bZA := blk_below HB.out.bZ hbA
    have hwA := hw.trans (hbA.mono hw.size)
    have z0 := blk_cell bZA 0 _ rfl
    have z1 := blk_cell bZA 1 _ rfl
    have z2 := blk_cell bZA 2 _ rfl
    have z3 := blk_cell bZA 3 _ rfl
    have z4 := blk_cell bZA 4 _ rfl
    have f0 := blk_free bZA 0
    have f1 := blk_free bZA 1
    have f2 := blk_free bZA 2
    have f3 := blk_free bZA 3
    have f4 := blk_free bZA 4
    go_wp2_with fail
    have hT : wA.grownBy (((((wA.setCell ⟨w.heap.size + 1 + 1 + 1, 0, none⟩ (.slice aa na ca)).setCell ⟨w.heap.size + 1 + 1 + 1, 1, none⟩ (.int .i64 u.fu)).setCell ⟨w.heap.size + 1 + 1 + 1, 2, none⟩ (.bool u.up)).setCell ⟨w.heap.size + 1 + 1 + 1, 3, none⟩ (.int .i64 u.n)).setCell ⟨w.heap.size + 1 + 1 + 1, 4, none⟩ (.int .i64 u.hv)) (some (w.heap.size + 1 + 1 + 1)) := turns_set (turns_set (turns_set (turns_set (turns_set (World.grownBy.refl _ _) _ _) _ _) _ _) _ _) _ _
    have bN := unit_set5 (v0 := .slice aa na ca) (v1 := .int .i64 u.fu) (v2 := .bool u.up) (v3 := .int .i64 u.n) (v4 := .int .i64 u.hv) bZA
    have r0 := blk_cell bN 0 _ rfl
    have r1 := blk_cell bN 1 _ rfl
    have r2 := blk_cell bN 2 _ rfl
    have r3 := blk_cell bN 3 _ rfl
    have r4 := blk_cell bN 4 _ rfl
    refine bodyPost_ret (v := .tuple #[unv u aa na ca, .slice al nl cl]) (by simp [results, Tryz.results27, go_sem, unv, r0, r1, r2, r3, r4]) rfl ?_
    obtain ⟨q1, q2⟩ := ref_end bZA hbw (hu3.out) hms hT
    rw [HE.out]
    exact ⟨⟨_, _, _, al, nl, cl, rfl, q1, q2, hll, hcl, hc1⟩, turns_below hwA hT (by omega) hwA.size⟩
  have d_r : (s.rdy != 0) = false := by simpa using zr
  have zr' : (stOf u.ws).rdy = 0 := by rw [← HS.out]; exact zr
  replace P3 := hide (P3.out z' zr')
  replace P4 := hide (P4.out z' zr')
  clear P2 z' zr zr'
  go_upto_region 25 with fail
  rw [Nat.add_sub_cancel_left]
  clear x2 m0 s1 s2 z d_r u0 k1 k2 k3 k4 j1 j2 j3 j4 p0
  have u3 := blk_cell HB.out.bU 3 _ rfl
  have u4 := blk_cell HB.out.bU 4 _ rfl
  have m4 := blk_cell HB.out.bM 4 _ rfl
  by_cases cn : u.n = m.n
  rotate_left
  · have HE := hide (P3.out (fun e => cn e.1))
    clear P3 P4 HWD HMT HOk HSy0 HLk hU hB hT hb0 hul hlk hmE
    have d_n : (u.n != m.n) = true := by simpa using cn
    clear cn
    go_upto_region 25 with fail
    go_quiet (fail)
    have hbz : Below W6.heap.size W6 (W6.drewN nq) := below_drewN (Below.refl _ _) nq
    replace HB := hide (HB.out.below hbz)
    replace HO := hide (HO.out.below hbz)
    replace hw := hw.trans (hbz.mono hw.size)
    clear u3 u4 m4 m2 m3
    generalize W6.drewN nq = w8 at *
    have HAn := hide (answer_any (w.heap.size + 1 + 1 + 1 + 1) (w.heap.size + 1 + 1 + 1 + 1 + 1) (w.heap.size + 1 + 1) u false (some ⟨gh, 0, none⟩) 192 ch m am nm cm 3 false w8 HO.out (blk_cell HB.out.bP 0 _ rfl) HB.out.bM)
    unfold RefAns ansU ansM unv at HAn
    go_wp2_with fail
    refine (unhide HAn).mono ?_
    rintro e wA ⟨⟨aa, na, ca, al, nl, cl, rfl, hbw, hms, hll, hcl, hc1⟩, hbA⟩
    clear HAn
    have bZA := blk_below HB.out.bZ hbA
    have hwA := hw.trans (hbA.mono hw.size)
    have z0 := blk_cell bZA 0 _ rfl
    have z1 := blk_cell bZA 1 _ rfl
    have z2 := blk_cell bZA 2 _ rfl
    have z3 := blk_cell bZA 3 _ rfl
    have z4 := blk_cell bZA 4 _ rfl
    have f0 := blk_free bZA 0
    have f1 := blk_free bZA 1
    have f2 := blk_free bZA 2
    have f3 := blk_free bZA 3
    have f4 := blk_free bZA 4
    go_wp2_with fail
    have hT : wA.grownBy (((((wA.setCell ⟨w.heap.size + 1 + 1 + 1, 0, none⟩ (.slice aa na ca)).setCell ⟨w.heap.size + 1 + 1 + 1, 1, none⟩ (.int .i64 u.fu)).setCell ⟨w.heap.size + 1 + 1 + 1, 2, none⟩ (.bool u.up)).setCell ⟨w.heap.size + 1 + 1 + 1, 3, none⟩ (.int .i64 u.n)).setCell ⟨w.heap.size + 1 + 1 + 1, 4, none⟩ (.int .i64 u.hv)) (some (w.heap.size + 1 + 1 + 1)) := turns_set (turns_set (turns_set (turns_set (turns_set (World.grownBy.refl _ _) _ _) _ _) _ _) _ _) _ _
    have bN := unit_set5 (v0 := .slice aa na ca) (v1 := .int .i64 u.fu) (v2 := .bool u.up) (v3 := .int .i64 u.n) (v4 := .int .i64 u.hv) bZA
    have r0 := blk_cell bN 0 _ rfl
    have r1 := blk_cell bN 1 _ rfl
    have r2 := blk_cell bN 2 _ rfl
    have r3 := blk_cell bN 3 _ rfl
    have r4 := blk_cell bN 4 _ rfl
    refine bodyPost_ret (v := .tuple #[unv u aa na ca, .slice al nl cl]) (by simp [results, Tryz.results27, go_sem, unv, r0, r1, r2, r3, r4]) rfl ?_
    obtain ⟨q1, q2⟩ := ref_end bZA hbw (hu3.out) hms hT
    rw [HE.out]
    exact ⟨⟨_, _, _, al, nl, cl, rfl, q1, q2, hll, hcl, hc1⟩, turns_below hwA hT (by omega) hwA.size⟩
  by_cases chh : u.hv = m.at'
  rotate_left
  · have HE := hide (P3.out (fun e => chh e.2.1))
    clear P3 P4 HWD HMT HOk HSy0 HLk hU hB hT hb0 hul hlk hmE
    have d_n : (u.n != m.n) = false := by simpa using cn
    have d_h : (u.hv != (q : Int)) = true := by rw [← HQ.out]; simpa using chh
    clear cn chh
    go_upto_region 25 with fail
    go_quiet (fail)
    have hbz : Below W6.heap.size W6 (W6.drewN nq) := below_drewN (Below.refl _ _) nq
    replace HB := hide (HB.out.below hbz)
    replace HO := hide (HO.out.below hbz)
    replace hw := hw.trans (hbz.mono hw.size)
    clear u3 u4 m4 m2 m3
    generalize W6.drewN nq = w8 at *
    have HAn := hide (answer_any (w.heap.size + 1 + 1 + 1 + 1) (w.heap.size + 1 + 1 + 1 + 1 + 1) (w.heap.size + 1 + 1) u false (some ⟨gh, 0, none⟩) 192 ch m am nm cm 3 false w8 HO.out (blk_cell HB.out.bP 0 _ rfl) HB.out.bM)
    unfold RefAns ansU ansM unv at HAn
    go_wp2_with fail
    refine (unhide HAn).mono ?_
    rintro e wA ⟨⟨aa, na, ca, al, nl, cl, rfl, hbw, hms, hll, hcl, hc1⟩, hbA⟩
    clear HAn
    have bZA := blk_below HB.out.bZ hbA
    have hwA := hw.trans (hbA.mono hw.size)
    have z0 := blk_cell bZA 0 _ rfl
    have z1 := blk_cell bZA 1 _ rfl
    have z2 := blk_cell bZA 2 _ rfl
    have z3 := blk_cell bZA 3 _ rfl
    have z4 := blk_cell bZA 4 _ rfl
    have f0 := blk_free bZA 0
    have f1 := blk_free bZA 1
    have f2 := blk_free bZA 2
    have f3 := blk_free bZA 3
    have f4 := blk_free bZA 4
    go_wp2_with fail
    have hT : wA.grownBy (((((wA.setCell ⟨w.heap.size + 1 + 1 + 1, 0, none⟩ (.slice aa na ca)).setCell ⟨w.heap.size + 1 + 1 + 1, 1, none⟩ (.int .i64 u.fu)).setCell ⟨w.heap.size + 1 + 1 + 1, 2, none⟩ (.bool u.up)).setCell ⟨w.heap.size + 1 + 1 + 1, 3, none⟩ (.int .i64 u.n)).setCell ⟨w.heap.size + 1 + 1 + 1, 4, none⟩ (.int .i64 u.hv)) (some (w.heap.size + 1 + 1 + 1)) := turns_set (turns_set (turns_set (turns_set (turns_set (World.grownBy.refl _ _) _ _) _ _) _ _) _ _) _ _
    have bN := unit_set5 (v0 := .slice aa na ca) (v1 := .int .i64 u.fu) (v2 := .bool u.up) (v3 := .int .i64 u.n) (v4 := .int .i64 u.hv) bZA
    have r0 := blk_cell bN 0 _ rfl
    have r1 := blk_cell bN 1 _ rfl
    have r2 := blk_cell bN 2 _ rfl
    have r3 := blk_cell bN 3 _ rfl
    have r4 := blk_cell bN 4 _ rfl
    refine bodyPost_ret (v := .tuple #[unv u aa na ca, .slice al nl cl]) (by simp [results, Tryz.results27, go_sem, unv, r0, r1, r2, r3, r4]) rfl ?_
    obtain ⟨q1, q2⟩ := ref_end bZA hbw (hu3.out) hms hT
    rw [HE.out]
    exact ⟨⟨_, _, _, al, nl, cl, rfl, q1, q2, hll, hcl, hc1⟩, turns_below hwA hT (by omega) hwA.size⟩
  by_cases ca : m.at' = 0
  · have HE := hide (P3.out (fun e => by have e := e.2.2; rw [HMT.out, decide_eq_false (p := m.at' ≠ 0) (fun h => h ca)] at e; cases e))
    clear P3 P4 HWD HMT HOk HSy0 HLk hU hB hT hb0 hul hlk hmE
    have d_n : (u.n != m.n) = false := by simpa using cn
    have d_h : (u.hv != (q : Int)) = false := by rw [← HQ.out]; simpa using chh
    have d_q : ((q : Int) == 0) = true := by rw [← HQ.out]; simpa using ca
    clear cn chh ca
    go_upto_region 25 with fail
    go_quiet (fail)
    have hbz : Below W6.heap.size W6 (W6.drewN nq) := below_drewN (Below.refl _ _) nq
    replace HB := hide (HB.out.below hbz)
    replace HO := hide (HO.out.below hbz)
    replace hw := hw.trans (hbz.mono hw.size)
    clear u3 u4 m4 m2 m3
    generalize W6.drewN nq = w8 at *
    have HAn := hide (answer_any (w.heap.size + 1 + 1 + 1 + 1) (w.heap.size + 1 + 1 + 1 + 1 + 1) (w.heap.size + 1 + 1) u false (some ⟨gh, 0, none⟩) 192 ch m am nm cm 3 false w8 HO.out (blk_cell HB.out.bP 0 _ rfl) HB.out.bM)
    unfold RefAns ansU ansM unv at HAn
    go_wp2_with fail
    refine (unhide HAn).mono ?_
    rintro e wA ⟨⟨aa, na, ca, al, nl, cl, rfl, hbw, hms, hll, hcl, hc1⟩, hbA⟩
    clear HAn
    have bZA := blk_below HB.out.bZ hbA
    have hwA := hw.trans (hbA.mono hw.size)
    have z0 := blk_cell bZA 0 _ rfl
    have z1 := blk_cell bZA 1 _ rfl
    have z2 := blk_cell bZA 2 _ rfl
    have z3 := blk_cell bZA 3 _ rfl
    have z4 := blk_cell bZA 4 _ rfl
    have f0 := blk_free bZA 0
    have f1 := blk_free bZA 1
    have f2 := blk_free bZA 2
    have f3 := blk_free bZA 3
    have f4 := blk_free bZA 4
    go_wp2_with fail
    have hT : wA.grownBy (((((wA.setCell ⟨w.heap.size + 1 + 1 + 1, 0, none⟩ (.slice aa na ca)).setCell ⟨w.heap.size + 1 + 1 + 1, 1, none⟩ (.int .i64 u.fu)).setCell ⟨w.heap.size + 1 + 1 + 1, 2, none⟩ (.bool u.up)).setCell ⟨w.heap.size + 1 + 1 + 1, 3, none⟩ (.int .i64 u.n)).setCell ⟨w.heap.size + 1 + 1 + 1, 4, none⟩ (.int .i64 u.hv)) (some (w.heap.size + 1 + 1 + 1)) := turns_set (turns_set (turns_set (turns_set (turns_set (World.grownBy.refl _ _) _ _) _ _) _ _) _ _) _ _
    have bN := unit_set5 (v0 := .slice aa na ca) (v1 := .int .i64 u.fu) (v2 := .bool u.up) (v3 := .int .i64 u.n) (v4 := .int .i64 u.hv) bZA
    have r0 := blk_cell bN 0 _ rfl
    have r1 := blk_cell bN 1 _ rfl
    have r2 := blk_cell bN 2 _ rfl
    have r3 := blk_cell bN 3 _ rfl
    have r4 := blk_cell bN 4 _ rfl
    refine bodyPost_ret (v := .tuple #[unv u aa na ca, .slice al nl cl]) (by simp [results, Tryz.results27, go_sem, unv, r0, r1, r2, r3, r4]) rfl ?_
    obtain ⟨q1, q2⟩ := ref_end bZA hbw (hu3.out) hms hT
    rw [HE.out]
    exact ⟨⟨_, _, _, al, nl, cl, rfl, q1, q2, hll, hcl, hc1⟩, turns_below hwA hT (by omega) hwA.size⟩
  by_cases ci' : m.im = 0
  · have HE := hide (P3.out (fun e => by have e := e.2.2; rw [HMT.out, decide_eq_false (p := m.im ≠ 0) (fun h => h ci')] at e; simp at e))
    clear P3 P4 HWD HMT HOk HSy0 HLk hU hB hT hb0 hul hlk hmE
    have d_n : (u.n != m.n) = false := by simpa using cn
    have d_h : (u.hv != (q : Int)) = false := by rw [← HQ.out]; simpa using chh
    have d_q : ((q : Int) == 0) = false := by rw [← HQ.out]; simpa using ca
    have d_i : (m.im == 0) = true := by simpa using ci'
    clear cn chh ca ci'
    go_upto_region 25 with fail
    go_quiet (fail)
    have hbz : Below W6.heap.size W6 (W6.drewN nq) := below_drewN (Below.refl _ _) nq
    replace HB := hide (HB.out.below hbz)
    replace HO := hide (HO.out.below hbz)
    replace hw := hw.trans (hbz.mono hw.size)
    clear u3 u4 m4 m2 m3
    generalize W6.drewN nq = w8 at *
    have HAn := hide (answer_any (w.heap.size + 1 + 1 + 1 + 1) (w.heap.size + 1 + 1 + 1 + 1 + 1) (w.heap.size + 1 + 1) u false (some ⟨gh, 0, none⟩) 192 ch m am nm cm 3 false w8 HO.out (blk_cell HB.out.bP 0 _ rfl) HB.out.bM)
    unfold RefAns ansU ansM unv at HAn
    go_wp2_with fail
    refine (unhide HAn).mono ?_
    rintro e wA ⟨⟨aa, na, ca, al, nl, cl, rfl, hbw, hms, hll, hcl, hc1⟩, hbA⟩
    clear HAn
    have bZA := blk_below HB.out.bZ hbA
    have hwA := hw.trans (hbA.mono hw.size)
    have z0 := blk_cell bZA 0 _ rfl
    have z1 := blk_cell bZA 1 _ rfl
    have z2 := blk_cell bZA 2 _ rfl
    have z3 := blk_cell bZA 3 _ rfl
    have z4 := blk_cell bZA 4 _ rfl
    have f0 := blk_free bZA 0
    have f1 := blk_free bZA 1
    have f2 := blk_free bZA 2
    have f3 := blk_free bZA 3
    have f4 := blk_free bZA 4
    go_wp2_with fail
    have hT : wA.grownBy (((((wA.setCell ⟨w.heap.size + 1 + 1 + 1, 0, none⟩ (.slice aa na ca)).setCell ⟨w.heap.size + 1 + 1 + 1, 1, none⟩ (.int .i64 u.fu)).setCell ⟨w.heap.size + 1 + 1 + 1, 2, none⟩ (.bool u.up)).setCell ⟨w.heap.size + 1 + 1 + 1, 3, none⟩ (.int .i64 u.n)).setCell ⟨w.heap.size + 1 + 1 + 1, 4, none⟩ (.int .i64 u.hv)) (some (w.heap.size + 1 + 1 + 1)) := turns_set (turns_set (turns_set (turns_set (turns_set (World.grownBy.refl _ _) _ _) _ _) _ _) _ _) _ _
    have bN := unit_set5 (v0 := .slice aa na ca) (v1 := .int .i64 u.fu) (v2 := .bool u.up) (v3 := .int .i64 u.n) (v4 := .int .i64 u.hv) bZA
    have r0 := blk_cell bN 0 _ rfl
    have r1 := blk_cell bN 1 _ rfl
    have r2 := blk_cell bN 2 _ rfl
    have r3 := blk_cell bN 3 _ rfl
    have r4 := blk_cell bN 4 _ rfl
    refine bodyPost_ret (v := .tuple #[unv u aa na ca, .slice al nl cl]) (by simp [results, Tryz.results27, go_sem, unv, r0, r1, r2, r3, r4]) rfl ?_
    obtain ⟨q1, q2⟩ := ref_end bZA hbw (hu3.out) hms hT
    rw [HE.out]
    exact ⟨⟨_, _, _, al, nl, cl, rfl, q1, q2, hll, hcl, hc1⟩, turns_below hwA hT (by omega) hwA.size⟩
  have d_n : (u.n != m.n) = false := by simpa using cn
  have d_h : (u.hv != (q : Int)) = false := by rw [← HQ.out]; simpa using chh
  have d_q : ((q : Int) == 0) = false := by rw [← HQ.out]; simpa using ca
  have d_i : (m.im == 0) = false := by simpa using ci'
  have Hhwa := hide ca
  have HWd : Hid (∀ V : World, Below w.heap.size w V → IsInts V (some ⟨ba, oa + p4, none⟩) ((u.ws.drop p4).take q)) := fun V hV => by
    have h := (hU.below hV).at_
    rw [HA.out] at h
    exact (h.drop p4).take q
  have HWl : Hid (((u.ws.drop p4).take q).length = q) := by show _ = _; rw [List.length_take, List.length_drop, hul, HP4.out]; omega
  have hokU := (lchk_parts hlk).2.2.2.1
  have HWq : Hid (((u.ws.drop (68 + 64 * (oth (stOf u.ws)).toNat)).take m.at'.toNat) = (u.ws.drop p4).take q) := by show _ = _; rw [← HS.out, HN.out, HQ.out, HP4.out]; rfl
  have HWi : Hid (imgE ((u.ws.drop p4).take q) = 0) := by
    refine imgE_words ?_ ?_ (okL_take q (okL_drop p4 hokU))
    · rw [HWl.out]; have h := Hhwa.out; rw [HQ.out] at h; omega
    · rw [HWl.out]; exact hq40
  rw [HWq.out] at HMT HWD
  replace P3 : Hid ((nameN ss (bs (imgT ((u.ws.drop p4).take q))) : Int) ≠ m.im → prepS ss u (stOf u.ws) m = (u, [voteM m false])) := fun h => P3.out (fun e => by have e := e.2.2; rw [HMT.out, decide_eq_false h] at e; simp at e)
  replace P4 : Hid ((nameN ss (bs (imgT ((u.ws.drop p4).take q))) : Int) = m.im → prepS ss u (stOf u.ws) m = prepB u s m ((u.ws.drop p4).take q)) := fun h => by rw [P4.out ⟨cn, chh, by rw [HMT.out, decide_eq_true ca, decide_eq_true ci', decide_eq_true h]; rfl⟩, HWD.out, ← HS.out]
  have Him := hide ci'
  clear cn chh ca ci' HMT HWD hokU
  have HIt := hide (fun V (hV : Below w.heap.size w V) => refImageText_any (some ⟨ba, oa + p4, none⟩) q (c - p4) ((u.ws.drop p4).take q) V (HWd.out V hV) HWl.out HWi.out (hT.below hV))
  have HNm := hide (fun V (hV : Below w.heap.size w V) => refNameOf_any ab nb cb ss (bs (imgT ((u.ws.drop p4).take q))) V (hB.below hV).at_ hB.len hB.max)
  unfold bookv at HNm
  have c0 := blk_cell HB.out.bB 0 _ rfl
  generalize (nameN ss (bs (imgT ((u.ws.drop p4).take q))) : Int) = nmI at *
  generalize bs (imgT ((u.ws.drop p4).take q)) = tx at *
  refine wp_region_held_drew (S := fun W' => W'.cell? ⟨w.heap.size + 1, 3, none⟩ = some (.int .i64 u.n) ∧ W'.cell? ⟨w.heap.size + 1, 4, none⟩ = some (.int .i64 u.hv) ∧ W'.cell? ⟨w.heap.size + 1 + 1, 2, none⟩ = some (.int .i64 m.n) ∧ W'.cell? ⟨w.heap.size + 1 + 1, 3, none⟩ = some (.int .i64 (q : Int)) ∧ W'.cell? ⟨w.heap.size + 1 + 1, 4, none⟩ = some (.int .i64 m.im) ∧ W'.cell? ⟨w.heap.size, 0, none⟩ = some (.slice ab nb cb) ∧ Below W6.heap.size W6 W') (by kernel_rfl) (st6b u3 u4 m2 m3 m4 c0 ((Below.refl _ _).drew)) ?_
  intro hHeld
  refine wpAnyH_take (i := 0) (v := ?_) (by simp only [List.getElem?_toArray, List.getElem?_cons_zero]; rfl) (by kernel_rfl) (by kernel_rfl) (by kernel_rfl) (by exact fun _ _ _ h => h) (Or.inl ⟨by rfl, ?_⟩) (by assumption) ?_
  rotate_left
  · intro w hSw
    try dsimp only at hSw
    go_simp
    try with_reducible rfl
  try simp only [Act.put, List.setIfInBounds_toArray, List.set_cons_zero, List.set_cons_succ]
  refine wpAnyH_take (i := 1) (v := ?_) (by simp only [List.getElem?_toArray, List.getElem?_cons_zero, List.getElem?_cons_succ]; rfl) (by kernel_rfl) (by kernel_rfl) (by kernel_rfl) (by exact fun _ _ _ h => h) (Or.inl ⟨by rfl, ?_⟩) (by assumption) ?_
  rotate_left
  · intro w hSw
    try dsimp only at hSw
    go_simp
    try with_reducible rfl
  try simp only [Act.put, List.setIfInBounds_toArray, List.set_cons_zero, List.set_cons_succ]
  refine wpAnyH_take (i := 2) (v := ?_) (by simp only [List.getElem?_toArray, List.getElem?_cons_zero, List.getElem?_cons_succ]; rfl) (by kernel_rfl) (by kernel_rfl) (by kernel_rfl) (by exact fun _ _ _ h => h) (Or.inl ⟨by rfl, ?_⟩) (by assumption) ?_
  rotate_left
  · intro w hSw
    try dsimp only at hSw
    go_simp
    try with_reducible rfl
  try simp only [Act.put, List.setIfInBounds_toArray, List.set_cons_zero, List.set_cons_succ]
  refine wpAnyH_take (i := 3) (v := ?_) (by simp only [List.getElem?_toArray, List.getElem?_cons_zero, List.getElem?_cons_succ]; rfl) (by kernel_rfl) (by kernel_rfl) (by kernel_rfl) (by exact fun _ _ _ h => h) (Or.inl ⟨by rfl, ?_⟩) (by assumption) ?_
  rotate_left
  · intro w hSw
    try dsimp only at hSw
    go_simp
    try with_reducible rfl
  try simp only [Act.put, List.setIfInBounds_toArray, List.set_cons_zero, List.set_cons_succ]
  refine wpAnyH_take (i := 4) (v := ?_) (by simp only [List.getElem?_toArray, List.getElem?_cons_zero, List.getElem?_cons_succ]; rfl) (by kernel_rfl) (by kernel_rfl) (by kernel_rfl) (by exact fun _ _ _ h => h) (Or.inl ⟨by rfl, ?_⟩) (by assumption) ?_
  rotate_left
  · intro w hSw
    try dsimp only at hSw
    go_simp
    try with_reducible rfl
  try simp only [Act.put, List.setIfInBounds_toArray, List.set_cons_zero, List.set_cons_succ]
  refine wpAnyH_take (i := 5) (v := ?_) (by simp only [List.getElem?_toArray, List.getElem?_cons_zero, List.getElem?_cons_succ]; rfl) (by kernel_rfl) (by kernel_rfl) (by kernel_rfl) (by exact fun _ _ _ h => h) (Or.inl ⟨by rfl, ?_⟩) (by assumption) ?_
  rotate_left
  · intro w hSw
    try dsimp only at hSw
    go_simp
    try with_reducible rfl
  try simp only [Act.put, List.setIfInBounds_toArray, List.set_cons_zero, List.set_cons_succ]
  refine wpAnyH_take (i := 6) (v := ?_) (by simp only [List.getElem?_toArray, List.getElem?_cons_zero, List.getElem?_cons_succ]; rfl) (by kernel_rfl) (by kernel_rfl) (by kernel_rfl) (by exact fun _ _ _ h => h) (Or.inl ⟨by rfl, ?_⟩) (by assumption) ?_
  rotate_left
  · intro w hSw
    try dsimp only at hSw
    go_simp
    try with_reducible rfl
  try simp only [Act.put, List.setIfInBounds_toArray, List.set_cons_zero, List.set_cons_succ]
  refine wpAnyH_take (i := 7) (v := ?_) (by simp only [List.getElem?_toArray, List.getElem?_cons_zero, List.getElem?_cons_succ]; rfl) (by kernel_rfl) (by kernel_rfl) (by kernel_rfl) (by exact fun _ _ _ h => h) (Or.inl ⟨by rfl, ?_⟩) (by assumption) ?_
  rotate_left
  · intro w hSw
    try dsimp only at hSw
    go_simp
    try with_reducible rfl
  try simp only [Act.put, List.setIfInBounds_toArray, List.set_cons_zero, List.set_cons_succ]
  refine wpAnyH_take (i := 8) (v := ?_) (by simp only [List.getElem?_toArray, List.getElem?_cons_zero, List.getElem?_cons_succ]; rfl) (by kernel_rfl) (by kernel_rfl) (by kernel_rfl) (by exact fun _ _ _ h => h) (Or.inl ⟨by rfl, ?_⟩) (by assumption) ?_
  rotate_left
  · intro w hSw
    try dsimp only at hSw
    go_simp
    try with_reducible rfl
  try simp only [Act.put, List.setIfInBounds_toArray, List.set_cons_zero, List.set_cons_succ]
  refine wpAnyH_take (i := 9) (v := ?_) (by simp only [List.getElem?_toArray, List.getElem?_cons_zero, List.getElem?_cons_succ]; rfl) (by kernel_rfl) (by kernel_rfl) (by kernel_rfl) (by exact fun _ _ _ h => h) (Or.inl ⟨by rfl, ?_⟩) (by assumption) ?_
  rotate_left
  · intro w hSw
    try dsimp only at hSw
    go_simp
    try with_reducible rfl
  try simp only [Act.put, List.setIfInBounds_toArray, List.set_cons_zero, List.set_cons_succ]
  refine wpAnyH_take (i := 10) (v := ?_) (by simp only [List.getElem?_toArray, List.getElem?_cons_zero, List.getElem?_cons_succ]; rfl) (by kernel_rfl) (by kernel_rfl) (by kernel_rfl) (by exact fun _ _ _ h => h) (Or.inl ⟨by rfl, ?_⟩) (by assumption) ?_
  rotate_left
  · intro w hSw
    try dsimp only at hSw
    go_simp
    try with_reducible rfl
  try simp only [Act.put, List.setIfInBounds_toArray, List.set_cons_zero, List.set_cons_succ]
  refine wpAnyH_take (i := 11) (v := ?_) (by simp only [List.getElem?_toArray, List.getElem?_cons_zero, List.getElem?_cons_succ]; rfl) (by kernel_rfl) (by kernel_rfl) (by kernel_rfl) (by exact fun _ _ _ h => h) (Or.inl ⟨by rfl, ?_⟩) (by assumption) ?_
  rotate_left
  · intro w hSw
    try dsimp only at hSw
    go_simp
    try with_reducible rfl
  try simp only [Act.put, List.setIfInBounds_toArray, List.set_cons_zero, List.set_cons_succ]
  refine wpAnyH_take (i := 12) (v := ?_) (by simp only [List.getElem?_toArray, List.getElem?_cons_zero, List.getElem?_cons_succ]; rfl) (by kernel_rfl) (by kernel_rfl) (by kernel_rfl) (by exact fun _ _ _ h => h) (Or.inl ⟨by rfl, ?_⟩) (by assumption) ?_
  rotate_left
  · intro w hSw
    try dsimp only at hSw
    go_simp
    try with_reducible rfl
  try simp only [Act.put, List.setIfInBounds_toArray, List.set_cons_zero, List.set_cons_succ]
  refine wpAnyH_take (i := 13) (v := ?_) (by simp only [List.getElem?_toArray, List.getElem?_cons_zero, List.getElem?_cons_succ]; rfl) (by kernel_rfl) (by kernel_rfl) (by kernel_rfl) (by exact fun _ _ _ h => h) (Or.inl ⟨by rfl, ?_⟩) (by assumption) ?_
  rotate_left
  · intro w hSw
    try dsimp only at hSw
    go_simp
    try with_reducible rfl
  try simp only [Act.put, List.setIfInBounds_toArray, List.set_cons_zero, List.set_cons_succ]
  refine wpAnyH_take (i := 14) (v := ?_) (by simp only [List.getElem?_toArray, List.getElem?_cons_zero, List.getElem?_cons_succ]; rfl) (by kernel_rfl) (by kernel_rfl) (by kernel_rfl) (by exact fun _ _ _ h => h) (Or.inl ⟨by rfl, ?_⟩) (by assumption) ?_
  rotate_left
  · intro w hSw
    try dsimp only at hSw
    go_simp
    try with_reducible rfl
  try simp only [Act.put, List.setIfInBounds_toArray, List.set_cons_zero, List.set_cons_succ]
  refine wpAnyH_take (i := 15) (v := ?_) (by simp only [List.getElem?_toArray, List.getElem?_cons_zero, List.getElem?_cons_succ]; rfl) (by kernel_rfl) (by kernel_rfl) (by kernel_rfl) (by exact fun _ _ _ h => h) (Or.inl ⟨by rfl, ?_⟩) (by assumption) ?_
  rotate_left
  · intro w hSw
    try dsimp only at hSw
    go_simp
    try with_reducible rfl
  try simp only [Act.put, List.setIfInBounds_toArray, List.set_cons_zero, List.set_cons_succ]
  refine wpAnyH_take (i := 16) (v := ?_) (by simp only [List.getElem?_toArray, List.getElem?_cons_zero, List.getElem?_cons_succ]; rfl) (by kernel_rfl) (by kernel_rfl) (by kernel_rfl) (by exact fun _ _ _ h => h) (Or.inl ⟨by rfl, ?_⟩) (by assumption) ?_
  rotate_left
  · intro w hSw
    try dsimp only at hSw
    go_simp
    try with_reducible rfl
  try simp only [Act.put, List.setIfInBounds_toArray, List.set_cons_zero, List.set_cons_succ]
  refine wpAnyH_take (i := 17) (v := ?_) (by simp only [List.getElem?_toArray, List.getElem?_cons_zero, List.getElem?_cons_succ]; rfl) (by kernel_rfl) (by kernel_rfl) (by kernel_rfl) (by exact fun _ _ _ h => h) (Or.inl ⟨by rfl, ?_⟩) (by assumption) ?_
  rotate_left
  · intro w hSw
    try dsimp only at hSw
    go_simp
    try with_reducible rfl
  try simp only [Act.put, List.setIfInBounds_toArray, List.set_cons_zero, List.set_cons_succ]
  refine wpAnyH_take (i := 18) (v := ?_) (by simp only [List.getElem?_toArray, List.getElem?_cons_zero, List.getElem?_cons_succ]; rfl) (by kernel_rfl) (by kernel_rfl) (by kernel_rfl) (by exact fun _ _ _ h => h) (Or.inl ⟨by rfl, ?_⟩) (by assumption) ?_
  rotate_left
  · intro w hSw
    try dsimp only at hSw
    go_simp
    try with_reducible rfl
  try simp only [Act.put, List.setIfInBounds_toArray, List.set_cons_zero, List.set_cons_succ]
  refine wpAnyH_take (i := 19) (v := ?_) (by simp only [List.getElem?_toArray, List.getElem?_cons_zero, List.getElem?_cons_succ]; rfl) (by kernel_rfl) (by kernel_rfl) (by kernel_rfl) (by exact fun _ _ _ h => h) (Or.inl ⟨by rfl, ?_⟩) (by assumption) ?_
  rotate_left
  · intro w hSw
    try dsimp only at hSw
    go_simp
    try with_reducible rfl
  try simp only [Act.put, List.setIfInBounds_toArray, List.set_cons_zero, List.set_cons_succ]
  refine wpAnyH_take (i := 20) (v := ?_) (by simp only [List.getElem?_toArray, List.getElem?_cons_zero, List.getElem?_cons_succ]; rfl) (by kernel_rfl) (by kernel_rfl) (by kernel_rfl) (by exact fun _ _ _ h => h) (Or.inl ⟨by rfl, ?_⟩) (by assumption) ?_
  rotate_left
  · intro w hSw
    try dsimp only at hSw
    go_simp
    try with_reducible rfl
  try simp only [Act.put, List.setIfInBounds_toArray, List.set_cons_zero, List.set_cons_succ]
  refine wpAnyH_take (i := 21) (v := ?_) (by simp only [List.getElem?_toArray, List.getElem?_cons_zero, List.getElem?_cons_succ]; rfl) (by kernel_rfl) (by kernel_rfl) (by kernel_rfl) (by exact fun _ _ _ h => h) (Or.inl ⟨by rfl, ?_⟩) (by assumption) ?_
  rotate_left
  · intro w hSw
    try dsimp only at hSw
    go_simp
    try with_reducible rfl
  try simp only [Act.put, List.setIfInBounds_toArray, List.set_cons_zero, List.set_cons_succ]
  refine wpAnyH_take (i := 22) (v := ?_) (by simp only [List.getElem?_toArray, List.getElem?_cons_zero, List.getElem?_cons_succ]; rfl) (by kernel_rfl) (by kernel_rfl) (by kernel_rfl) (by exact fun _ _ _ h => h) (Or.inl ⟨by rfl, ?_⟩) (by assumption) ?_
  rotate_left
  · intro w hSw
    try dsimp only at hSw
    go_simp
    try with_reducible rfl
  try simp only [Act.put, List.setIfInBounds_toArray, List.set_cons_zero, List.set_cons_succ]
  refine wpAnyH_take (i := 23) (v := ?_) (by simp only [List.getElem?_toArray, List.getElem?_cons_zero, List.getElem?_cons_succ]; rfl) (by kernel_rfl) (by kernel_rfl) (by kernel_rfl) (by exact fun _ _ _ h => h) (Or.inl ⟨by rfl, ?_⟩) (by assumption) ?_
  rotate_left
  · intro w hSw
    try dsimp only at hSw
    go_simp
    try with_reducible rfl
  try simp only [Act.put, List.setIfInBounds_toArray, List.set_cons_zero, List.set_cons_succ]
  refine wpAnyH_take (i := 24) (v := ?_) (by simp only [List.getElem?_toArray, List.getElem?_cons_zero, List.getElem?_cons_succ]; rfl) (by kernel_rfl) (by kernel_rfl) (by kernel_rfl) (by exact fun _ _ _ h => h) (Or.inl ⟨by rfl, ?_⟩) (by assumption) ?_
  rotate_left
  · intro w hSw
    try dsimp only at hSw
    go_simp
    try with_reducible rfl
  try simp only [Act.put, List.setIfInBounds_toArray, List.set_cons_zero, List.set_cons_succ]
  refine wpAnyH_take (i := 27) (v := ?_) (by simp only [List.getElem?_toArray, List.getElem?_cons_zero, List.getElem?_cons_succ]; rfl) (by kernel_rfl) (by kernel_rfl) (by kernel_rfl) (by exact fun _ _ _ h => h) (Or.inl ⟨by rfl, ?_⟩) (by assumption) ?_
  rotate_left
  · intro w hSw
    try dsimp only at hSw
    go_simp
    try with_reducible rfl
  try simp only [Act.put, List.setIfInBounds_toArray, List.set_cons_zero, List.set_cons_succ]
  refine wpAnyH_take (i := 28) (v := ?_) (by simp only [List.getElem?_toArray, List.getElem?_cons_zero, List.getElem?_cons_succ]; rfl) (by kernel_rfl) (by kernel_rfl) (by kernel_rfl) (by exact fun _ _ _ h => h) (Or.inl ⟨by rfl, ?_⟩) (by assumption) ?_
  rotate_left
  · intro w hSw
    try dsimp only at hSw
    go_simp
    try with_reducible rfl
  try simp only [Act.put, List.setIfInBounds_toArray, List.set_cons_zero, List.set_cons_succ]
  refine wpAnyH_ready (rs := [25]) (by kernel_rfl) (by simp) ?_
  refine AllReadyH.cons (by simp only [List.getElem?_toArray, List.getElem?_cons_zero, List.getElem?_cons_succ]; rfl) (fun K hK => ?_) AllReadyH.nil
  go_simp
  refine (unhide HIt _ hw.drew).mono ?_
  rintro e w2 ⟨rfl, hb2⟩
  have hk2 : Below W6.heap.size W6 w2 := (Below.refl _ _).drew.trans hb2
  go_wp2_with fail
  refine hK.out _ _ (st6b u3 u4 m2 m3 m4 c0 (hk2)) (fun hHeld2 => ?_)
  clear hK K hHeld
  try simp only [Act.put, List.setIfInBounds_toArray, List.set_cons_zero, List.set_cons_succ]
  have hHeld := hHeld2
  clear hHeld2
  refine wpAnyH_ready (rs := [26]) (by kernel_rfl) (by simp) ?_
  refine AllReadyH.cons (by simp only [List.getElem?_toArray, List.getElem?_cons_zero, List.getElem?_cons_succ]; rfl) (fun K hK => ?_) AllReadyH.nil
  go_simp
  refine (unhide HNm _ (hw.trans (hk2.mono hw.size))).mono ?_
  rintro e w8 ⟨rfl, hb8⟩
  have hk8 := hk2.trans (hb8.mono hk2.size)
  go_wp2_with fail
  refine hK.out _ _ (st6b u3 u4 m2 m3 m4 c0 (hk8)) (fun hHeld2 => ?_)
  clear hK K hHeld
  try simp only [Act.put, List.setIfInBounds_toArray, List.set_cons_zero, List.set_cons_succ]
  have hHeld := hHeld2
  clear hHeld2
  refine wpAnyH_take (i := 29) (v := ?_) (by simp only [List.getElem?_toArray, List.getElem?_cons_zero, List.getElem?_cons_succ]; rfl) (by kernel_rfl) (by kernel_rfl) (by kernel_rfl) (by exact fun _ _ _ h => h) (Or.inl ⟨by rfl, ?_⟩) (by assumption) ?_
  rotate_left
  · intro w hSw
    try dsimp only at hSw
    go_simp
    try with_reducible rfl
  try simp only [Act.put, List.setIfInBounds_toArray, List.set_cons_zero, List.set_cons_succ]
  refine wpAnyH_take (i := 30) (v := ?_) (by simp only [List.getElem?_toArray, List.getElem?_cons_zero, List.getElem?_cons_succ]; rfl) (by kernel_rfl) (by kernel_rfl) (by kernel_rfl) (by exact fun _ _ _ h => h) (Or.inl ⟨by rfl, ?_⟩) (by assumption) ?_
  rotate_left
  · intro w hSw
    try dsimp only at hSw
    go_simp
    try with_reducible rfl
  try simp only [Act.put, List.setIfInBounds_toArray, List.set_cons_zero, List.set_cons_succ]
  refine wpAnyH_done (by kernel_rfl) ?_ _
  replace HB := hide (HB.out.below hk8)
  replace HO := hide (HO.out.below hk8)
  replace hw := hw.trans (hk8.mono hw.size)
  clear hHeld hb2 hk2 hb8 hk8 HIt HNm u3 u4 m2 m3 m4 c0 d_n d_h d_q d_i
  by_cases cm' : nmI = m.im
  rotate_left
  · have d_m : (nmI != m.im) = true := by simpa using cm'
    have HE := hide (P3.out cm')
    clear P3 P4 cm' HOk HSy0 HLk hU hB hT hb0 hul hlk hmE HWd HWl HWi HWq
    have HAn := hide (answer_any (w.heap.size + 1 + 1 + 1 + 1) (w.heap.size + 1 + 1 + 1 + 1 + 1) (w.heap.size + 1 + 1) u false (some ⟨gh, 0, none⟩) 192 ch m am nm cm 3 false w8 HO.out (blk_cell HB.out.bP 0 _ rfl) HB.out.bM)
    unfold RefAns ansU ansM unv at HAn
    go_wp2_with fail
    refine (unhide HAn).mono ?_
    rintro e wA ⟨⟨aa, na, ca, al, nl, cl, rfl, hbw, hms, hll, hcl, hc1⟩, hbA⟩
    clear HAn
    have bZA := blk_below HB.out.bZ hbA
    have hwA := hw.trans (hbA.mono hw.size)
    have z0 := blk_cell bZA 0 _ rfl
    have z1 := blk_cell bZA 1 _ rfl
    have z2 := blk_cell bZA 2 _ rfl
    have z3 := blk_cell bZA 3 _ rfl
    have z4 := blk_cell bZA 4 _ rfl
    have f0 := blk_free bZA 0
    have f1 := blk_free bZA 1
    have f2 := blk_free bZA 2
    have f3 := blk_free bZA 3
    have f4 := blk_free bZA 4
    go_wp2_with fail
    have hT : wA.grownBy (((((wA.setCell ⟨w.heap.size + 1 + 1 + 1, 0, none⟩ (.slice aa na ca)).setCell ⟨w.heap.size + 1 + 1 + 1, 1, none⟩ (.int .i64 u.fu)).setCell ⟨w.heap.size + 1 + 1 + 1, 2, none⟩ (.bool u.up)).setCell ⟨w.heap.size + 1 + 1 + 1, 3, none⟩ (.int .i64 u.n)).setCell ⟨w.heap.size + 1 + 1 + 1, 4, none⟩ (.int .i64 u.hv)) (some (w.heap.size + 1 + 1 + 1)) := turns_set (turns_set (turns_set (turns_set (turns_set (World.grownBy.refl _ _) _ _) _ _) _ _) _ _) _ _
    have bN := unit_set5 (v0 := .slice aa na ca) (v1 := .int .i64 u.fu) (v2 := .bool u.up) (v3 := .int .i64 u.n) (v4 := .int .i64 u.hv) bZA
    have r0 := blk_cell bN 0 _ rfl
    have r1 := blk_cell bN 1 _ rfl
    have r2 := blk_cell bN 2 _ rfl
    have r3 := blk_cell bN 3 _ rfl
    have r4 := blk_cell bN 4 _ rfl
    refine bodyPost_ret (v := .tuple #[unv u aa na ca, .slice al nl cl]) (by simp [results, Tryz.results27, go_sem, unv, r0, r1, r2, r3, r4]) rfl ?_
    obtain ⟨q1, q2⟩ := ref_end bZA hbw (hu3.out) hms hT
    rw [HE.out]
    exact ⟨⟨_, _, _, al, nl, cl, rfl, q1, q2, hll, hcl, hc1⟩, turns_below hwA hT (by omega) hwA.size⟩
  have d_m : (nmI != m.im) = false := by simpa using cm'
  have HPB := hide (P4.out cm')
  clear P3 P4 cm'
  have hck := (lchk_parts hlk).1
  have HSe := hide (fun V (hV : Below w8.heap.size w8 V) => sealedIn_any (some ⟨gh, 0, none⟩) ch u.ws u.fu sn m.at' m.im V (HO.out.ws.below hV).at_ hul hck hsn)
  have HD0 : Hid (doV u (.sea (oth s) m.at' m.im) = doU u (sealS u.ws u.fu sn m.at' m.im)) := by show _ = _; rw [HN.out]; rfl
  have HRm3 : Hid (∀ {k : Nat}, (sealS u.ws u.fu sn m.at' m.im).1.length = k → k ≤ maxLen) := room_of (doT_le (.sea sn m.at' m.im) u.ws u.fu) hul
  clear hck
  generalize sealS u.ws u.fu sn m.at' m.im = C3 at *
  unfold Answers at HSe
  go_upto_region 27 with fail
  have p0 := blk_cell HB.out.bP 0 _ rfl
  have m3 := blk_cell HB.out.bM 3 _ rfl
  have m4 := blk_cell HB.out.bM 4 _ rfl
  have h0 := blk_cell HO.out.box 0 _ rfl
  have h1 := blk_cell HO.out.box 1 _ rfl
  have hG0 : w8.grownBy w8.drew (some (w.heap.size + 1 + 1 + 1 + 1)) := turns_of (Below.refl _ _).drew _
  have hbd : Below w8.heap.size w8 w8.drew := (Below.refl _ _).drew
  refine wp_region_held_drew (S := fun W' => W'.cell? ⟨w.heap.size + 1 + 1 + 1 + 1 + 1, 0, none⟩ = some (.pointer (some ⟨w.heap.size + 1 + 1 + 1 + 1, 0, none⟩)) ∧ W'.cell? ⟨w.heap.size + 1 + 1, 3, none⟩ = some (.int .i64 m.at') ∧ W'.cell? ⟨w.heap.size + 1 + 1, 4, none⟩ = some (.int .i64 m.im) ∧ w8.grownBy W' (some (w.heap.size + 1 + 1 + 1 + 1))) (by kernel_rfl) (st3g p0 m3 m4 (by show w.heap.size + 1 + 1 + 1 + 1 + 1 ≠ w.heap.size + 1 + 1 + 1 + 1; omega) (by show w.heap.size + 1 + 1 ≠ w.heap.size + 1 + 1 + 1 + 1; omega) (by show w.heap.size + 1 + 1 ≠ w.heap.size + 1 + 1 + 1 + 1; omega) (hG0)) ?_
  intro hHeld
  refine wpAnyH_take (i := 0) (v := ?_) (by simp only [List.getElem?_toArray, List.getElem?_cons_zero]; rfl) (by kernel_rfl) (by kernel_rfl) (by kernel_rfl) (by exact fun _ _ _ h => h) (Or.inl ⟨by rfl, ?_⟩) (by assumption) ?_
  rotate_left
  · intro w hSw
    try dsimp only at hSw
    go_simp
    try with_reducible rfl
  try simp only [Act.put, List.setIfInBounds_toArray, List.set_cons_zero, List.set_cons_succ]
  refine wpAnyH_take (i := 1) (v := ?_) (by simp only [List.getElem?_toArray, List.getElem?_cons_zero, List.getElem?_cons_succ]; rfl) (by kernel_rfl) (by kernel_rfl) (by kernel_rfl) (by exact fun _ _ _ h => h) (Or.inl ⟨by rfl, ?_⟩) (by assumption) ?_
  rotate_left
  · intro w hSw
    try dsimp only at hSw
    go_simp
    try with_reducible rfl
  try simp only [Act.put, List.setIfInBounds_toArray, List.set_cons_zero, List.set_cons_succ]
  refine wpAnyH_take (i := 2) (v := ?_) (by simp only [List.getElem?_toArray, List.getElem?_cons_zero, List.getElem?_cons_succ]; rfl) (by kernel_rfl) (by kernel_rfl) (by kernel_rfl) (by exact fun _ _ _ h => h) (Or.inl ⟨by rfl, ?_⟩) (by assumption) ?_
  rotate_left
  · intro w hSw
    try dsimp only at hSw
    go_simp
    try with_reducible rfl
  try simp only [Act.put, List.setIfInBounds_toArray, List.set_cons_zero, List.set_cons_succ]
  refine wpAnyH_take (i := 3) (v := ?_) (by simp only [List.getElem?_toArray, List.getElem?_cons_zero, List.getElem?_cons_succ]; rfl) (by kernel_rfl) (by kernel_rfl) (by kernel_rfl) (by exact fun _ _ _ h => h) (Or.inl ⟨by rfl, ?_⟩) (by assumption) ?_
  rotate_left
  · intro w hSw
    try dsimp only at hSw
    go_simp
    try with_reducible rfl
  try simp only [Act.put, List.setIfInBounds_toArray, List.set_cons_zero, List.set_cons_succ]
  refine wpAnyH_take (i := 4) (v := ?_) (by simp only [List.getElem?_toArray, List.getElem?_cons_zero, List.getElem?_cons_succ]; rfl) (by kernel_rfl) (by kernel_rfl) (by kernel_rfl) (by exact fun _ _ _ h => h) (Or.inl ⟨by rfl, ?_⟩) (by assumption) ?_
  rotate_left
  · intro w hSw
    try dsimp only at hSw
    go_simp
    try with_reducible rfl
  try simp only [Act.put, List.setIfInBounds_toArray, List.set_cons_zero, List.set_cons_succ]
  refine wpAnyH_take (i := 6) (v := ?_) (by simp only [List.getElem?_toArray, List.getElem?_cons_zero, List.getElem?_cons_succ]; rfl) (by kernel_rfl) (by kernel_rfl) (by kernel_rfl) (by exact fun _ _ _ h => h) (Or.inl ⟨by rfl, ?_⟩) (by assumption) ?_
  rotate_left
  · intro w hSw
    try dsimp only at hSw
    go_simp
    try with_reducible rfl
  try simp only [Act.put, List.setIfInBounds_toArray, List.set_cons_zero, List.set_cons_succ]
  refine wpAnyH_take (i := 7) (v := ?_) (by simp only [List.getElem?_toArray, List.getElem?_cons_zero, List.getElem?_cons_succ]; rfl) (by kernel_rfl) (by kernel_rfl) (by kernel_rfl) (by exact fun _ _ _ h => h) (Or.inl ⟨by rfl, ?_⟩) (by assumption) ?_
  rotate_left
  · intro w hSw
    try dsimp only at hSw
    go_simp
    try with_reducible rfl
  try simp only [Act.put, List.setIfInBounds_toArray, List.set_cons_zero, List.set_cons_succ]
  refine wpAnyH_take (i := 8) (v := ?_) (by simp only [List.getElem?_toArray, List.getElem?_cons_zero, List.getElem?_cons_succ]; rfl) (by kernel_rfl) (by kernel_rfl) (by kernel_rfl) (by exact fun _ _ _ h => h) (Or.inl ⟨by rfl, ?_⟩) (by assumption) ?_
  rotate_left
  · intro w hSw
    try dsimp only at hSw
    go_simp
    try with_reducible rfl
  try simp only [Act.put, List.setIfInBounds_toArray, List.set_cons_zero, List.set_cons_succ]
  refine wpAnyH_take (i := 9) (v := ?_) (by simp only [List.getElem?_toArray, List.getElem?_cons_zero, List.getElem?_cons_succ]; rfl) (by kernel_rfl) (by kernel_rfl) (by kernel_rfl) (by exact fun _ _ _ h => h) (Or.inl ⟨by rfl, ?_⟩) (by assumption) ?_
  rotate_left
  · intro w hSw
    try dsimp only at hSw
    go_simp
    try with_reducible rfl
  try simp only [Act.put, List.setIfInBounds_toArray, List.set_cons_zero, List.set_cons_succ]
  refine wpAnyH_take (i := 10) (v := ?_) (by simp only [List.getElem?_toArray, List.getElem?_cons_zero, List.getElem?_cons_succ]; rfl) (by kernel_rfl) (by kernel_rfl) (by kernel_rfl) (by exact fun _ _ _ h => h) (Or.inl ⟨by rfl, ?_⟩) (by assumption) ?_
  rotate_left
  · intro w hSw
    try dsimp only at hSw
    go_simp
    try with_reducible rfl
  try simp only [Act.put, List.setIfInBounds_toArray, List.set_cons_zero, List.set_cons_succ]
  refine wpAnyH_ready (rs := [5]) (by kernel_rfl) (by simp) ?_
  refine AllReadyH.cons (by simp only [List.getElem?_toArray, List.getElem?_cons_zero, List.getElem?_cons_succ]; rfl) (fun K hK => ?_) AllReadyH.nil
  go_simp
  refine hK.out _ _ (st3g p0 m3 m4 (by show w.heap.size + 1 + 1 + 1 + 1 + 1 ≠ w.heap.size + 1 + 1 + 1 + 1; omega) (by show w.heap.size + 1 + 1 ≠ w.heap.size + 1 + 1 + 1 + 1; omega) (by show w.heap.size + 1 + 1 ≠ w.heap.size + 1 + 1 + 1 + 1; omega) (hG0)) (fun hHeld2 => ?_)
  clear hK K hHeld
  try simp only [Act.put, List.setIfInBounds_toArray, List.set_cons_zero, List.set_cons_succ]
  have hHeld := hHeld2
  clear hHeld2
  refine wpAnyH_ready (rs := [11]) (by kernel_rfl) (by simp) ?_
  refine AllReadyH.cons (by simp only [List.getElem?_toArray, List.getElem?_cons_zero, List.getElem?_cons_succ]; rfl) (fun K hK => ?_) AllReadyH.nil
  go_simp
  refine (unhide HSe _ hbd).mono ?_
  rintro e w2 ⟨⟨a5, n5, c5, rfl, hi5, hn5, hc5, hf5⟩, hb2⟩
  have hG2 := hG0.trans (turns_of hb2 (w.heap.size + 1 + 1 + 1 + 1))
  go_wp2_with fail
  refine hK.out _ _ (st3g p0 m3 m4 (by show w.heap.size + 1 + 1 + 1 + 1 + 1 ≠ w.heap.size + 1 + 1 + 1 + 1; omega) (by show w.heap.size + 1 + 1 ≠ w.heap.size + 1 + 1 + 1 + 1; omega) (by show w.heap.size + 1 + 1 ≠ w.heap.size + 1 + 1 + 1 + 1; omega) (hG2)) (fun hHeld2 => ?_)
  clear hK K hHeld
  try simp only [Act.put, List.setIfInBounds_toArray, List.set_cons_zero, List.set_cons_succ]
  have hHeld := hHeld2
  clear hHeld2
  refine wpAnyH_take (i := 12) (v := ?_) (by simp only [List.getElem?_toArray, List.getElem?_cons_zero, List.getElem?_cons_succ]; rfl) (by kernel_rfl) (by kernel_rfl) (by kernel_rfl) (by exact fun _ _ _ h => h) (Or.inl ⟨by rfl, ?_⟩) (by assumption) ?_
  rotate_left
  · intro w hSw
    try dsimp only at hSw
    go_simp
    try with_reducible rfl
  try simp only [Act.put, List.setIfInBounds_toArray, List.set_cons_zero, List.set_cons_succ]
  refine wpAnyH_take (i := 13) (v := ?_) (by simp only [List.getElem?_toArray, List.getElem?_cons_zero, List.getElem?_cons_succ]; rfl) (by kernel_rfl) (by kernel_rfl) (by kernel_rfl) (by exact fun _ _ _ h => h) (Or.inl ⟨by rfl, ?_⟩) (by assumption) ?_
  rotate_left
  · intro w hSw
    try dsimp only at hSw
    go_simp
    try with_reducible rfl
  try simp only [Act.put, List.setIfInBounds_toArray, List.set_cons_zero, List.set_cons_succ]
  refine wpAnyH_ready (rs := [14]) (by kernel_rfl) (by simp) ?_
  refine AllReadyH.cons (by simp only [List.getElem?_toArray, List.getElem?_cons_zero, List.getElem?_cons_succ]; rfl) (fun K hK => ?_) AllReadyH.nil
  have HF := hide (handsFlash_any (w.heap.size + 1 + 1 + 1 + 1) u (some ⟨gh, 0, none⟩) 192 ch C3 a5 n5 c5 w2 ((HO.out.below hbd).below hb2) ⟨hi5, hn5, hc5, HRm3.out hn5⟩ (off_fresh hf5 (Nat.lt_of_lt_of_le (blk_lt HO.out.box) hbd.size)))
  unfold HdOf at HF
  clear hi5 hc5 hf5 hn5
  go_simp
  refine (unhide HF).mono ?_
  rintro e w9 ⟨rfl, ⟨a9, n9, c9, hO9⟩, hg9⟩
  have hG9 := hG2.trans hg9
  go_wp2_with fail
  refine hK.out _ _ (st3g p0 m3 m4 (by show w.heap.size + 1 + 1 + 1 + 1 + 1 ≠ w.heap.size + 1 + 1 + 1 + 1; omega) (by show w.heap.size + 1 + 1 ≠ w.heap.size + 1 + 1 + 1 + 1; omega) (by show w.heap.size + 1 + 1 ≠ w.heap.size + 1 + 1 + 1 + 1; omega) (hG9)) (fun hHeld2 => ?_)
  clear hK K hHeld hHeld2
  try simp only [Act.put, List.setIfInBounds_toArray, List.set_cons_zero, List.set_cons_succ]
  refine wpAnyH_done (by kernel_rfl) ?_ _
  have HO9 := hide hO9
  replace HB := hide (HB.out.turns hG9)
  replace hw := turns_below hw hG9 (by omega) hw.size
  clear hO9 hG9 hg9 hG2 hb2 HF p0 h0 h1 hG0 hbd m3 m4 HO
  rw [← HD0.out] at HO9
  obtain ⟨D, hD⟩ : ∃ D, D = doV u (.sea (oth s) m.at' m.im) := ⟨_, rfl⟩
  rw [← hD] at HO9
  have HD := hide hD
  clear hD HD0 HRm3 HSe d_m
  rw [← HD.out] at HOk HSy0
  have HLD : Hid (D.1.ws = [] ∨ 3 ≤ D.1.ws.length) := by show _ ∨ _; rw [HD.out]; exact HLk.out _
  have B1 : Hid (D.2 = false → prepS ss u (stOf u.ws) m = (D.1, [])) := fun e => by rw [HPB.out, HD.out]; rw [HD.out] at e; exact prepB_1 e
  have B2 : Hid (D.2 = true → wholeU (mind D.1 0 0) s m ((u.ws.drop p4).take q) = false → prepS ss u (stOf u.ws) m = (mind D.1 0 0, [voteM m false])) := fun e h => by rw [HPB.out, HD.out]; rw [HD.out] at e h; exact prepB_2 e h
  have B3 : Hid (D.2 = true → wholeU (mind D.1 0 0) s m ((u.ws.drop p4).take q) = true → prepS ss u (stOf u.ws) m = prpA (doV (mind D.1 0 0) (.not s [2, m.n])) m) := fun e h => by
    rw [HPB.out, HD.out]
    rw [HD.out] at e h
    rw [prepB_3 e h]
    unfold prepC prpA
    cases (doV (mind (doV u (.sea (oth s) m.at' m.im)).1 0 0) (.not s [2, m.n])).2 <;> rfl
  clear HPB HD hB hT hb0 hmE HWi HWq HLk
  obtain ⟨x, dn⟩ := D
  dsimp only at *
  have h5 := blk_cell HO9.out.box 5 _ rfl
  have p0 := blk_cell HB.out.bP 0 _ rfl
  cases dn
  · have HE := hide (B1.out rfl)
    clear B1 B2 B3 HOk HSy0 hU hul hlk HWd HWl
    go_upto_region 34 with fail
    clear h5 p0
    have HAn := hide (answer_any (w.heap.size + 1 + 1 + 1 + 1) (w.heap.size + 1 + 1 + 1 + 1 + 1) (w.heap.size + 1 + 1) x true a9 n9 c9 m am nm cm 3 true w9 HO9.out (blk_cell HB.out.bP 0 _ rfl) HB.out.bM)
    unfold RefAns ansU ansM unv at HAn
    go_wp2_with fail
    refine (unhide HAn).mono ?_
    rintro e wA ⟨⟨aa, na, ca, al, nl, cl, rfl, hbw, hms, hll, hcl, hc1⟩, hbA⟩
    clear HAn
    have bZA := blk_below HB.out.bZ hbA
    have hwA := hw.trans (hbA.mono hw.size)
    have z0 := blk_cell bZA 0 _ rfl
    have z1 := blk_cell bZA 1 _ rfl
    have z2 := blk_cell bZA 2 _ rfl
    have z3 := blk_cell bZA 3 _ rfl
    have z4 := blk_cell bZA 4 _ rfl
    have f0 := blk_free bZA 0
    have f1 := blk_free bZA 1
    have f2 := blk_free bZA 2
    have f3 := blk_free bZA 3
    have f4 := blk_free bZA 4
    go_wp2_with fail
    have hT : wA.grownBy (((((wA.setCell ⟨w.heap.size + 1 + 1 + 1, 0, none⟩ (.slice aa na ca)).setCell ⟨w.heap.size + 1 + 1 + 1, 1, none⟩ (.int .i64 x.fu)).setCell ⟨w.heap.size + 1 + 1 + 1, 2, none⟩ (.bool x.up)).setCell ⟨w.heap.size + 1 + 1 + 1, 3, none⟩ (.int .i64 x.n)).setCell ⟨w.heap.size + 1 + 1 + 1, 4, none⟩ (.int .i64 x.hv)) (some (w.heap.size + 1 + 1 + 1)) := turns_set (turns_set (turns_set (turns_set (turns_set (World.grownBy.refl _ _) _ _) _ _) _ _) _ _) _ _
    have bN := unit_set5 (v0 := .slice aa na ca) (v1 := .int .i64 x.fu) (v2 := .bool x.up) (v3 := .int .i64 x.n) (v4 := .int .i64 x.hv) bZA
    have r0 := blk_cell bN 0 _ rfl
    have r1 := blk_cell bN 1 _ rfl
    have r2 := blk_cell bN 2 _ rfl
    have r3 := blk_cell bN 3 _ rfl
    have r4 := blk_cell bN 4 _ rfl
    refine bodyPost_ret (v := .tuple #[unv x aa na ca, .slice al nl cl]) (by simp [results, Tryz.results27, go_sem, unv, r0, r1, r2, r3, r4]) rfl ?_
    obtain ⟨q1, q2⟩ := ref_end bZA hbw (HLD.out) hms hT
    rw [HE.out]
    exact ⟨⟨_, _, _, al, nl, cl, rfl, q1, q2, hll, hcl, hc1⟩, turns_below hwA hT (by omega) hwA.size⟩
  replace B2 := hide (B2.out rfl)
  replace B3 := hide (B3.out rfl)
  clear B1 HLD
  obtain ⟨hx1, hx2, hx3⟩ := unE_ok HOk.out
  have hxo := (lchk_parts hx1).2.2.2.1
  have HYk : Hid (unE (mind x 0 0) = 0) := unE_0 hx1 hx2 (by show (inB 0 0 8 && inB 0 0 40) = true; decide)
  have HWh := hide (fun words => whole_ref (m := m) (s := s) (sn := sn) HYk.out HN.out hsn Him.out words)
  clear hx3 HOk HYk
  obtain rfl : n9 = 192 := HO9.out.ws.len.symm.trans hx2
  go_upto_region 29 with fail
  clear h5 p0
  go_upto_region 29 with fail
  have p0 := blk_cell HB.out.bP 0 _ rfl
  have hG0 : w9.grownBy w9.drew (some (w.heap.size + 1 + 1 + 1 + 1)) := turns_of (Below.refl _ _).drew _
  have h3 := blk_cell HO9.out.box 3 _ rfl
  have h4 := blk_cell HO9.out.box 4 _ rfl
  have f3 := blk_free HO9.out.box 3
  have f4 := blk_free HO9.out.box 4
  have hT1 : w9.grownBy (w9.setCell ⟨w.heap.size + 1 + 1 + 1 + 1, 3, none⟩ (.int .i64 0)) (some (w.heap.size + 1 + 1 + 1 + 1)) := turns_set (World.grownBy.refl _ _) _ _
  have hT : w9.grownBy ((w9.setCell ⟨w.heap.size + 1 + 1 + 1 + 1, 3, none⟩ (.int .i64 0)).setCell ⟨w.heap.size + 1 + 1 + 1 + 1, 4, none⟩ (.int .i64 0)) (some (w.heap.size + 1 + 1 + 1 + 1)) := turns_set hT1 _ _
  refine wp_region_held_drew (S := fun W' => W'.cell? ⟨w.heap.size + 1 + 1 + 1 + 1 + 1, 0, none⟩ = some (.pointer (some ⟨w.heap.size + 1 + 1 + 1 + 1, 0, none⟩)) ∧ w9.grownBy W' (some (w.heap.size + 1 + 1 + 1 + 1))) (by kernel_rfl) (st1g p0 (by show w.heap.size + 1 + 1 + 1 + 1 + 1 ≠ w.heap.size + 1 + 1 + 1 + 1; omega) (hG0)) ?_
  intro hHeld
  refine wpAnyH_take (i := 0) (v := ?_) (by simp only [List.getElem?_toArray, List.getElem?_cons_zero]; rfl) (by kernel_rfl) (by kernel_rfl) (by kernel_rfl) (by exact fun _ _ _ h => h) (Or.inl ⟨by rfl, ?_⟩) (by assumption) ?_
  rotate_left
  · intro w hSw
    try dsimp only at hSw
    go_simp
    try with_reducible rfl
  try simp only [Act.put, List.setIfInBounds_toArray, List.set_cons_zero, List.set_cons_succ]
  refine wpAnyH_take (i := 1) (v := ?_) (by simp only [List.getElem?_toArray, List.getElem?_cons_zero, List.getElem?_cons_succ]; rfl) (by kernel_rfl) (by kernel_rfl) (by kernel_rfl) (by exact fun _ _ _ h => h) (Or.inl ⟨by rfl, ?_⟩) (by assumption) ?_
  rotate_left
  · intro w hSw
    try dsimp only at hSw
    go_simp
    try with_reducible rfl
  try simp only [Act.put, List.setIfInBounds_toArray, List.set_cons_zero, List.set_cons_succ]
  refine wpAnyH_take (i := 2) (v := ?_) (by simp only [List.getElem?_toArray, List.getElem?_cons_zero, List.getElem?_cons_succ]; rfl) (by kernel_rfl) (by kernel_rfl) (by kernel_rfl) (by exact fun _ _ _ h => h) (Or.inl ⟨by rfl, ?_⟩) (by assumption) ?_
  rotate_left
  · intro w hSw
    try dsimp only at hSw
    go_simp
    try with_reducible rfl
  try simp only [Act.put, List.setIfInBounds_toArray, List.set_cons_zero, List.set_cons_succ]
  refine wpAnyH_take (i := 3) (v := ?_) (by simp only [List.getElem?_toArray, List.getElem?_cons_zero, List.getElem?_cons_succ]; rfl) (by kernel_rfl) (by kernel_rfl) (by kernel_rfl) (by exact fun _ _ _ h => h) (Or.inl ⟨by rfl, ?_⟩) (by assumption) ?_
  rotate_left
  · intro w hSw
    try dsimp only at hSw
    go_simp
    try with_reducible rfl
  try simp only [Act.put, List.setIfInBounds_toArray, List.set_cons_zero, List.set_cons_succ]
  refine wpAnyH_take (i := 4) (v := ?_) (by simp only [List.getElem?_toArray, List.getElem?_cons_zero, List.getElem?_cons_succ]; rfl) (by kernel_rfl) (by kernel_rfl) (by kernel_rfl) (by exact fun _ _ _ h => h) (Or.inl ⟨by rfl, ?_⟩) (by assumption) ?_
  rotate_left
  · intro w hSw
    try dsimp only at hSw
    go_simp
    try with_reducible rfl
  try simp only [Act.put, List.setIfInBounds_toArray, List.set_cons_zero, List.set_cons_succ]
  refine wpAnyH_ready (rs := [5]) (by kernel_rfl) (by simp) ?_
  refine AllReadyH.cons (by simp only [List.getElem?_toArray, List.getElem?_cons_zero, List.getElem?_cons_succ]; rfl) (fun K hK => ?_) AllReadyH.nil
  go_simp
  refine hK.out _ _ (st1g p0 (by show w.heap.size + 1 + 1 + 1 + 1 + 1 ≠ w.heap.size + 1 + 1 + 1 + 1; omega) (grown_drew2 hT1)) (fun hHeld2 => ?_)
  clear hK K hHeld
  try simp only [Act.put, List.setIfInBounds_toArray, List.set_cons_zero, List.set_cons_succ]
  have hHeld := hHeld2
  clear hHeld2
  refine wpAnyH_take (i := 6) (v := ?_) (by simp only [List.getElem?_toArray, List.getElem?_cons_zero, List.getElem?_cons_succ]; rfl) (by kernel_rfl) (by kernel_rfl) (by kernel_rfl) (by exact fun _ _ _ h => h) (Or.inl ⟨by rfl, ?_⟩) (by assumption) ?_
  rotate_left
  · intro w hSw
    try dsimp only at hSw
    go_simp
    try with_reducible rfl
  try simp only [Act.put, List.setIfInBounds_toArray, List.set_cons_zero, List.set_cons_succ]
  refine wpAnyH_take (i := 7) (v := ?_) (by simp only [List.getElem?_toArray, List.getElem?_cons_zero, List.getElem?_cons_succ]; rfl) (by kernel_rfl) (by kernel_rfl) (by kernel_rfl) (by exact fun _ _ _ h => h) (Or.inl ⟨by rfl, ?_⟩) (by assumption) ?_
  rotate_left
  · intro w hSw
    try dsimp only at hSw
    go_simp
    try with_reducible rfl
  try simp only [Act.put, List.setIfInBounds_toArray, List.set_cons_zero, List.set_cons_succ]
  refine wpAnyH_take (i := 8) (v := ?_) (by simp only [List.getElem?_toArray, List.getElem?_cons_zero, List.getElem?_cons_succ]; rfl) (by kernel_rfl) (by kernel_rfl) (by kernel_rfl) (by exact fun _ _ _ h => h) (Or.inl ⟨by rfl, ?_⟩) (by assumption) ?_
  rotate_left
  · intro w hSw
    try dsimp only at hSw
    go_simp
    try with_reducible rfl
  try simp only [Act.put, List.setIfInBounds_toArray, List.set_cons_zero, List.set_cons_succ]
  refine wpAnyH_ready (rs := [9]) (by kernel_rfl) (by simp) ?_
  refine AllReadyH.cons (by simp only [List.getElem?_toArray, List.getElem?_cons_zero, List.getElem?_cons_succ]; rfl) (fun K hK => ?_) AllReadyH.nil
  go_simp
  refine hK.out _ _ (st1g p0 (by show w.heap.size + 1 + 1 + 1 + 1 + 1 ≠ w.heap.size + 1 + 1 + 1 + 1; omega) (grown_drew2 hT)) (fun hHeld2 => ?_)
  clear hK K hHeld hHeld2
  try simp only [Act.put, List.setIfInBounds_toArray, List.set_cons_zero, List.set_cons_succ]
  refine wpAnyH_done (by kernel_rfl) ?_ _
  have HOm := hide ((own_mind HO9.out hT).below (Below.refl _ _).drew)
  have hGm := grown_drew2 hT
  clear p0 h3 h4 f3 f4 hT hT1 hG0
  generalize ((w9.setCell ⟨w.heap.size + 1 + 1 + 1 + 1, 3, none⟩ (.int .i64 0)).setCell ⟨w.heap.size + 1 + 1 + 1 + 1, 4, none⟩ (.int .i64 0)).drew = wm at *
  replace HB := hide (HB.out.turns hGm)
  replace hw := turns_below hw hGm (by omega) hw.size
  clear hGm HO9
  have hyl : (mind x 0 0).ws.length = 192 := hx2
  have hyo : okL (mind x 0 0).ws = true := hxo
  have hylk : lchk (mind x 0 0).ws (mind x 0 0).fu = 0 := hx1
  have HSy : Hid (s = stOf (mind x 0 0).ws) := HSy0.out.symm
  have HLm : Hid ((mind x 0 0).ws = [] ∨ 3 ≤ (mind x 0 0).ws.length) := .inr (by rw [hyl]; decide)
  clear hx1 hx2 hxo HSy0
  generalize mind x 0 0 = y at *
  have HLk7 : Hid (∀ st, (doV y st).1.ws = [] ∨ 3 ≤ (doV y st).1.ws.length) := fun st => lk_3 (doV_lk y st) hyl
  have HIm := hide (imageOf_any a9 c9 y.ws y.fu sn (64 + 64 * sn) wm HOm.out.ws.at_ hyl hyo HOm.out.ws.cap hsn rfl)
  have HIl : Hid ((refImgT y.ws (64 + 64 * sn)).1.length ≤ 192) := by show _ ≤ _; unfold refImgT; split; simp; rw [List.length_take, List.length_drop, hyl]; omega
  generalize refImgT y.ws (64 + 64 * sn) = I at *
  unfold TellsI at HIm
  have p0 := blk_cell HB.out.bP 0 _ rfl
  have h0 := blk_cell HOm.out.box 0 _ rfl
  have h1 := blk_cell HOm.out.box 1 _ rfl
  go_wp2_with fail
  refine (unhide HIm).mono ?_
  rintro e w10 ⟨⟨ai, ni, ci, rfl, hii, hni⟩, hb10⟩
  clear HIm p0 h0 h1
  replace HB := hide (HB.out.below hb10)
  replace HOm := hide (HOm.out.below hb10)
  replace hw := hw.trans (hb10.mono hw.size)
  clear hb10
  have m4 := blk_cell HB.out.bM 4 _ rfl
  by_cases ei : I.2 = m.im
  rotate_left
  · have HE := hide (B2.out (by rw [HWh.out, decide_eq_false ei]; rfl))
    have d_i2 : (I.2 != m.im) = true := by simpa using ei
    clear B2 B3 HWh ei hii hni HIl HWd HWl hyo hU hul hlk hyl hq40 hcap hcp HLk7
    go_upto_region 32 with fail
    clear m4 d_i2 hylk HSy
    have HAn := hide (answer_any (w.heap.size + 1 + 1 + 1 + 1) (w.heap.size + 1 + 1 + 1 + 1 + 1) (w.heap.size + 1 + 1) y false a9 192 c9 m am nm cm 3 false w10 HOm.out (blk_cell HB.out.bP 0 _ rfl) HB.out.bM)
    unfold RefAns ansU ansM unv at HAn
    go_wp2_with fail
    refine (unhide HAn).mono ?_
    rintro e wA ⟨⟨aa, na, ca, al, nl, cl, rfl, hbw, hms, hll, hcl, hc1⟩, hbA⟩
    clear HAn
    have bZA := blk_below HB.out.bZ hbA
    have hwA := hw.trans (hbA.mono hw.size)
    have z0 := blk_cell bZA 0 _ rfl
    have z1 := blk_cell bZA 1 _ rfl
    have z2 := blk_cell bZA 2 _ rfl
    have z3 := blk_cell bZA 3 _ rfl
    have z4 := blk_cell bZA 4 _ rfl
    have f0 := blk_free bZA 0
    have f1 := blk_free bZA 1
    have f2 := blk_free bZA 2
    have f3 := blk_free bZA 3
    have f4 := blk_free bZA 4
    go_wp2_with fail
    have hT : wA.grownBy (((((wA.setCell ⟨w.heap.size + 1 + 1 + 1, 0, none⟩ (.slice aa na ca)).setCell ⟨w.heap.size + 1 + 1 + 1, 1, none⟩ (.int .i64 y.fu)).setCell ⟨w.heap.size + 1 + 1 + 1, 2, none⟩ (.bool y.up)).setCell ⟨w.heap.size + 1 + 1 + 1, 3, none⟩ (.int .i64 y.n)).setCell ⟨w.heap.size + 1 + 1 + 1, 4, none⟩ (.int .i64 y.hv)) (some (w.heap.size + 1 + 1 + 1)) := turns_set (turns_set (turns_set (turns_set (turns_set (World.grownBy.refl _ _) _ _) _ _) _ _) _ _) _ _
    have bN := unit_set5 (v0 := .slice aa na ca) (v1 := .int .i64 y.fu) (v2 := .bool y.up) (v3 := .int .i64 y.n) (v4 := .int .i64 y.hv) bZA
    have r0 := blk_cell bN 0 _ rfl
    have r1 := blk_cell bN 1 _ rfl
    have r2 := blk_cell bN 2 _ rfl
    have r3 := blk_cell bN 3 _ rfl
    have r4 := blk_cell bN 4 _ rfl
    refine bodyPost_ret (v := .tuple #[unv y aa na ca, .slice al nl cl]) (by simp [results, Tryz.results27, go_sem, unv, r0, r1, r2, r3, r4]) rfl ?_
    obtain ⟨q1, q2⟩ := ref_end bZA hbw (HLm.out) hms hT
    rw [HE.out]
    exact ⟨⟨_, _, _, al, nl, cl, rfl, q1, q2, hll, hcl, hc1⟩, turns_below hwA hT (by omega) hwA.size⟩
  have d_i2 : (I.2 != m.im) = false := by simpa using ei
  have HWe : Hid (wholeU y s m ((u.ws.drop p4).take q) = eqL I.1 ((u.ws.drop p4).take q)) := by show _ = _; rw [HWh.out, decide_eq_true ei]; rfl
  clear HWh ei
  have HQe := hide (fun b h => equal_at ai (some ⟨ba, oa + p4, none⟩) ni q ci (c - p4) I.1 ((u.ws.drop p4).take q) b w10 hii (HWd.out w10 hw) hni HWl.out h (by rw [← hni]; have h := HIl.out; unfold maxLen; omega) (by unfold maxLen; omega))
  clear hii hni HIl HWd HWl hyo hU hul hlk hyl hq40 hcap hcp
  cases ee : eqL I.1 ((u.ws.drop p4).take q)
  · replace HQe := hide (HQe.out false ee)
    rw [ee] at HWe
    clear ee
    go_wp2_with fail
    refine (unhide HQe).mono ?_
    rintro e w11 ⟨rfl, nd, hw11⟩
    have hb11 : Below w10.heap.size w10 w11 := by rw [hw11]; exact below_drewN (Below.refl _ _) nd
    clear hw11 HQe
    replace HB := hide (HB.out.below hb11)
    replace HOm := hide (HOm.out.below hb11)
    replace hw := hw.trans (hb11.mono hw.size)
    clear hb11
    have HE := hide (B2.out HWe.out)
    clear B2 B3 HWe HLk7
    go_upto_region 32 with fail
    clear m4 d_i2 hylk HSy
    have HAn := hide (answer_any (w.heap.size + 1 + 1 + 1 + 1) (w.heap.size + 1 + 1 + 1 + 1 + 1) (w.heap.size + 1 + 1) y false a9 192 c9 m am nm cm 3 false w11 HOm.out (blk_cell HB.out.bP 0 _ rfl) HB.out.bM)
    unfold RefAns ansU ansM unv at HAn
    go_wp2_with fail
    refine (unhide HAn).mono ?_
    rintro e wA ⟨⟨aa, na, ca, al, nl, cl, rfl, hbw, hms, hll, hcl, hc1⟩, hbA⟩
    clear HAn
    have bZA := blk_below HB.out.bZ hbA
    have hwA := hw.trans (hbA.mono hw.size)
    have z0 := blk_cell bZA 0 _ rfl
    have z1 := blk_cell bZA 1 _ rfl
    have z2 := blk_cell bZA 2 _ rfl
    have z3 := blk_cell bZA 3 _ rfl
    have z4 := blk_cell bZA 4 _ rfl
    have f0 := blk_free bZA 0
    have f1 := blk_free bZA 1
    have f2 := blk_free bZA 2
    have f3 := blk_free bZA 3
    have f4 := blk_free bZA 4
    go_wp2_with fail
    have hT : wA.grownBy (((((wA.setCell ⟨w.heap.size + 1 + 1 + 1, 0, none⟩ (.slice aa na ca)).setCell ⟨w.heap.size + 1 + 1 + 1, 1, none⟩ (.int .i64 y.fu)).setCell ⟨w.heap.size + 1 + 1 + 1, 2, none⟩ (.bool y.up)).setCell ⟨w.heap.size + 1 + 1 + 1, 3, none⟩ (.int .i64 y.n)).setCell ⟨w.heap.size + 1 + 1 + 1, 4, none⟩ (.int .i64 y.hv)) (some (w.heap.size + 1 + 1 + 1)) := turns_set (turns_set (turns_set (turns_set (turns_set (World.grownBy.refl _ _) _ _) _ _) _ _) _ _) _ _
    have bN := unit_set5 (v0 := .slice aa na ca) (v1 := .int .i64 y.fu) (v2 := .bool y.up) (v3 := .int .i64 y.n) (v4 := .int .i64 y.hv) bZA
    have r0 := blk_cell bN 0 _ rfl
    have r1 := blk_cell bN 1 _ rfl
    have r2 := blk_cell bN 2 _ rfl
    have r3 := blk_cell bN 3 _ rfl
    have r4 := blk_cell bN 4 _ rfl
    refine bodyPost_ret (v := .tuple #[unv y aa na ca, .slice al nl cl]) (by simp [results, Tryz.results27, go_sem, unv, r0, r1, r2, r3, r4]) rfl ?_
    obtain ⟨q1, q2⟩ := ref_end bZA hbw (HLm.out) hms hT
    rw [HE.out]
    exact ⟨⟨_, _, _, al, nl, cl, rfl, q1, q2, hll, hcl, hc1⟩, turns_below hwA hT (by omega) hwA.size⟩
  · replace HQe := hide (HQe.out true ee)
    rw [ee] at HWe
    clear ee
    go_wp2_with fail
    refine (unhide HQe).mono ?_
    rintro e w11 ⟨rfl, nd, hw11⟩
    have hb11 : Below w10.heap.size w10 w11 := by rw [hw11]; exact below_drewN (Below.refl _ _) nd
    clear hw11 HQe
    replace HB := hide (HB.out.below hb11)
    replace HOm := hide (HOm.out.below hb11)
    replace hw := hw.trans (hb11.mono hw.size)
    clear hb11
    have HE0 := hide (B3.out HWe.out)
    clear B2 B3 HWe
    go_upto_region 33 with fail
    clear m4 d_i2
    have p0 := blk_cell HB.out.bP 0 _ rfl
    have m2 := blk_cell HB.out.bM 2 _ rfl
    have hbR : Below w11.heap.size w11 (w11.alloc (.cells #[.int .i64 2, .int .i64 m.n] 3)) := below_new (Below.refl _ _) _
    have HRc := hide (handsRecord_any (w.heap.size + 1 + 1 + 1 + 1) y a9 192 c9 (some ⟨w11.heap.size, 0, none⟩) 2 2 [2, m.n] (w11.alloc (.cells #[.int .i64 2, .int .i64 m.n] 3)) (HOm.out.below hbR) ⟨ints_new (heap_alloc_last w11 (.cells #[.int .i64 2, .int .i64 m.n] 3)) rfl, rfl, by decide⟩ (hylk))
    unfold HdOf at HRc
    rw [← HSy.out] at HRc
    obtain ⟨R, hR⟩ : ∃ R, R = doV y (.not s [2, m.n]) := ⟨_, rfl⟩
    rw [← hR] at HRc
    have HR := hide hR
    clear hR
    replace hw := hw.trans (hbR.mono hw.size)
    go_wp2_with fail
    refine (unhide HRc).mono ?_
    rintro e w7 ⟨rfl, ⟨a7, n7, c7, hO7⟩, hg7⟩
    have hG7 := (turns_of hbR (w.heap.size + 1 + 1 + 1 + 1)).trans hg7
    replace HB := hide ((HB.out.below hbR).turns hg7)
    have HO7 := hide hO7
    replace hw := turns_below hw hg7 (by omega) hw.size
    clear HRc hbR hO7 hg7 HOm p0 m2
    have HL7 : Hid (R.1.ws = [] ∨ 3 ≤ R.1.ws.length) := by show _ ∨ _; rw [HR.out]; exact HLk7.out _
    have HE : Hid (prepS ss u (stOf u.ws) m = (R.1, if (!R.2) = true then [] else [voteM m true])) := by show _ = _; rw [HE0.out, ← HR.out]; rfl
    clear HE0 HR HLk7
    have HAn := hide (answer_any (w.heap.size + 1 + 1 + 1 + 1) (w.heap.size + 1 + 1 + 1 + 1 + 1) (w.heap.size + 1 + 1) R.1 (!R.2) a7 n7 c7 m am nm cm 3 true w7 HO7.out (blk_cell HB.out.bP 0 _ rfl) HB.out.bM)
    unfold RefAns ansU ansM unv at HAn
    go_wp2_with fail
    refine (unhide HAn).mono ?_
    rintro e wA ⟨⟨aa, na, ca, al, nl, cl, rfl, hbw, hms, hll, hcl, hc1⟩, hbA⟩
    clear HAn
    have bZA := blk_below HB.out.bZ hbA
    have hwA := hw.trans (hbA.mono hw.size)
    have z0 := blk_cell bZA 0 _ rfl
    have z1 := blk_cell bZA 1 _ rfl
    have z2 := blk_cell bZA 2 _ rfl
    have z3 := blk_cell bZA 3 _ rfl
    have z4 := blk_cell bZA 4 _ rfl
    have f0 := blk_free bZA 0
    have f1 := blk_free bZA 1
    have f2 := blk_free bZA 2
    have f3 := blk_free bZA 3
    have f4 := blk_free bZA 4
    go_wp2_with fail
    have hT : wA.grownBy (((((wA.setCell ⟨w.heap.size + 1 + 1 + 1, 0, none⟩ (.slice aa na ca)).setCell ⟨w.heap.size + 1 + 1 + 1, 1, none⟩ (.int .i64 R.1.fu)).setCell ⟨w.heap.size + 1 + 1 + 1, 2, none⟩ (.bool R.1.up)).setCell ⟨w.heap.size + 1 + 1 + 1, 3, none⟩ (.int .i64 R.1.n)).setCell ⟨w.heap.size + 1 + 1 + 1, 4, none⟩ (.int .i64 R.1.hv)) (some (w.heap.size + 1 + 1 + 1)) := turns_set (turns_set (turns_set (turns_set (turns_set (World.grownBy.refl _ _) _ _) _ _) _ _) _ _) _ _
    have bN := unit_set5 (v0 := .slice aa na ca) (v1 := .int .i64 R.1.fu) (v2 := .bool R.1.up) (v3 := .int .i64 R.1.n) (v4 := .int .i64 R.1.hv) bZA
    have r0 := blk_cell bN 0 _ rfl
    have r1 := blk_cell bN 1 _ rfl
    have r2 := blk_cell bN 2 _ rfl
    have r3 := blk_cell bN 3 _ rfl
    have r4 := blk_cell bN 4 _ rfl
    refine bodyPost_ret (v := .tuple #[unv R.1 aa na ca, .slice al nl cl]) (by simp [results, Tryz.results27, go_sem, unv, r0, r1, r2, r3, r4]) rfl ?_
    obtain ⟨q1, q2⟩ := ref_end bZA hbw (HL7.out) hms hT
    rw [HE.out]
    exact ⟨⟨_, _, _, al, nl, cl, rfl, q1, q2, hll, hcl, hc1⟩, turns_below hwA hT (by omega) hwA.size⟩

end Go.Proofs.YtgngpmgjoifepaaGreatDoor
