/- The contract of unit.hearAbort. The contract of unit.hear. What package unit leaves is as long as what it is given, or nothing. No program in this text. -/
import Derived.Test.YtgngpmgjoifepaaGreatDoorPv25
import Derived.Test.YtgngpmgjoifepaaGreatDoorPv28
import Derived.Test.YtgngpmgjoifepaaGreatDoorPv26
import Derived.Test.YtgngpmgjoifepaaGreatDoorPv19
namespace Go.Proofs.YtgngpmgjoifepaaGreatDoor
open Go.RowKit
attribute [local go_sem ↓] Go.wp_at_zero Go.wp_at_succ

set_option maxRecDepth 100000 in
set_option maxHeartbeats 6400000 in
theorem hearAbort_any (B : Nat) (u : Un) (s : Us) (m : Ms) (a : Option Addr) (n c : Nat) (w : World) (hU : OwnU w B u) :
    Calls Tryz.prog 106 #[.pointer (some ⟨B, 0, none⟩), usv s, msv m a n c] w (HAns w B (aboS u s m)) := by
  have hb := hide (hW_hb w s m a n c)
  have hw0 := hW_below w s m a n c
  have hB := hU.lt
  have hU0 := hide (hU.below hw0)
  clear hU
  unfold usv msv
  have q := hb.out.hs
  unfold HS at q
  obtain ⟨x0, x1, x2, y2, y3, y4, y5⟩ := q
  unfold hW at x0 x1 x2 y2 y3 y4 y5
  by_cases z1 : m.n ≤ s.by'
  · have HE := hide (aboS_1 (u := u) z1)
    clear y3 y4 y5
    unfold hW at hw0 hU0
    go_enter Tryz.func106, Tryz.ntmps106
    go_wp2_with fail
    go_ret
    exact hAns_nil HE.out hU0.out (turns_of hw0 B)
  have d1 : decide (m.n ≤ s.by') = false := by simpa using z1
  have Z1 := hide z1
  by_cases z2 : s.rdy = m.n
  rotate_left
  · have HEa := hide (fun h => (aboS_2 (u := u) z1 z2).trans (aboB_1 h))
    have HEb := hide (fun h => (aboS_2 (u := u) z1 z2).trans (aboB_2 h))
    have d2 : (s.rdy == m.n) = false := by simpa using z2
    have HG := hide (turns_of hw0 B)
    clear z1 z2
    go_enter Tryz.func106, Tryz.ntmps106
    go_upto_region 5 with fail
    clear x0 x1 x2 y2 y3 y4 y5
    rw [show (w.alloc (.cells #[.int .i64 s.slot, .int .i64 s.by', .int .i64 s.rdy] 40)).alloc (.cells #[.int .i64 m.k, .int .i64 m.u, .int .i64 m.n, .int .i64 m.at', .int .i64 m.im, .slice a n c, .bool m.y] 31) = hW w s m a n c from rfl]
    generalize hW w s m a n c = W at *
    obtain ⟨ua, un, uc, ub, ui, ul, ucap, umax, uoff⟩ := hU0.out
    have UB := hide ub
    have UI := hide ui
    have UL := hide ul
    unfold unO at ub
    have u3 := blk_cell ub 3 _ rfl
    have u4 := blk_cell ub 4 _ rfl
    have fu3 := blk_free ub 3
    have fu4 := blk_free ub 4
    have y2 := blk_cell hb.out.b1 2 _ rfl
    clear ub ui ul
    by_cases z5 : u.n = m.n
    · have HE := hide (HEa.out z5)
      have d5 : (u.n == m.n) = true := by simpa using z5
      clear z5
      go_wp2_with fail
      go_quiet (fail)
      obtain ⟨wz, hwz⟩ : ∃ wz : World, wz = W.drewN nq := ⟨_, rfl⟩
      have hbz : Below W.heap.size W wz := by rw [hwz]; exact below_drewN (Below.refl _ _) nq
      rw [← hwz]
      clear hwz u3 u4 fu3 fu4 y2
      have UBz := hide (blk_below UB.out hbz)
      have HBz := hide (hb.out.below hbz)
      have ubz := UBz.out
      unfold unO at ubz
      have u3 := blk_cell ubz 3 _ rfl
      have u4 := blk_cell ubz 4 _ rfl
      have fu3 := blk_free ubz 3
      have fu4 := blk_free ubz 4
      clear ubz
      have hgS : wz.grownBy ((wz.setCell ⟨B, 3, none⟩ (.int .i64 0)).setCell ⟨B, 4, none⟩ (.int .i64 0)) (some B) := turns_set (turns_set1 _ _ _ _) _ _
      have HBs := hide (HBz.out.turns hgS hB)
      have hUs : Hid (OwnU ((wz.setCell ⟨B, 3, none⟩ (.int .i64 0)).setCell ⟨B, 4, none⟩ (.int .i64 0)) B (mind u 0 0)) := ⟨ua, un, uc, un_mind UBz.out, ints_turns (UI.out.below hbz) hgS uoff, UL.out, ucap, umax, uoff⟩
      have v0 := blk_cell HBs.out.b1 0 _ rfl
      have v1 := blk_cell HBs.out.b1 1 _ rfl
      have v2 := blk_cell HBs.out.b1 2 _ rfl
      have v3 := blk_cell HBs.out.b1 3 _ rfl
      have v4 := blk_cell HBs.out.b1 4 _ rfl
      have v5 := blk_cell HBs.out.b1 5 _ rfl
      have v6 := blk_cell HBs.out.b1 6 _ rfl
      go_wp2_with fail
      have HDn := hide (done_any m a n c ((wz.setCell ⟨B, 3, none⟩ (.int .i64 0)).setCell ⟨B, 4, none⟩ (.int .i64 0)))
      unfold msv at HDn
      refine (unhide HDn).mono ?_
      rintro e w6 ⟨⟨b, rfl, hm, _⟩, hb6⟩
      go_wp2_with fail
      go_ret
      rw [HE.out]
      exact ⟨⟨_, 1, 1, rfl, hm, rfl, Nat.le_refl _, Nat.le_refl _⟩, hUs.out.below hb6, ((HG.out.trans (turns_of hbz B)).trans hgS).trans (turns_of hb6 B)⟩
    · have HE := hide (HEb.out z5)
      have d5 : (u.n == m.n) = false := by simpa using z5
      clear z5
      go_wp2_with fail
      go_quiet (fail)
      obtain ⟨wz, hwz⟩ : ∃ wz : World, wz = W.drewN nq := ⟨_, rfl⟩
      have hbz : Below W.heap.size W wz := by rw [hwz]; exact below_drewN (Below.refl _ _) nq
      rw [← hwz]
      clear hwz u3 u4 fu3 fu4 y2
      have HBz := hide (hb.out.below hbz)
      have v0 := blk_cell HBz.out.b1 0 _ rfl
      have v1 := blk_cell HBz.out.b1 1 _ rfl
      have v2 := blk_cell HBz.out.b1 2 _ rfl
      have v3 := blk_cell HBz.out.b1 3 _ rfl
      have v4 := blk_cell HBz.out.b1 4 _ rfl
      have v5 := blk_cell HBz.out.b1 5 _ rfl
      have v6 := blk_cell HBz.out.b1 6 _ rfl
      go_wp2_with fail
      have HDn := hide (done_any m a n c wz)
      unfold msv at HDn
      refine (unhide HDn).mono ?_
      rintro e w6 ⟨⟨b, rfl, hm, _⟩, hb6⟩
      go_wp2_with fail
      go_ret
      rw [HE.out]
      exact ⟨⟨_, 1, 1, rfl, hm, rfl, Nat.le_refl _, Nat.le_refl _⟩, (hU0.out.below hbz).below hb6, (HG.out.trans (turns_of hbz B)).trans (turns_of hb6 B)⟩
  have d2 : (s.rdy == m.n) = true := by simpa using z2
  have HE3 := hide (aboS_3 (u := u) z1 z2)
  have HE4 := hide (aboS_4 (u := u) z1 z2)
  clear z1 z2
  have hkB := below_new (Below.refl (hW w s m a n c).heap.size (hW w s m a n c)) (.cells #[.int .i64 3, .int .i64 m.n] 3)
  have hUB := hide (hU0.out.below hkB)
  have hszB : B < (hW w s m a n c).heap.size := hU0.out.lt
  have HNt := hide (noting_any s (some ⟨(hW w s m a n c).heap.size, 0, none⟩) 2 2 [3, m.n] B ((hW w s m a n c).alloc (.cells #[.int .i64 3, .int .i64 m.n] 3)) (by simp; omega) (bi_made2 _ 3 m.n 3) (fun ad e => by cases e; show (hW w s m a n c).heap.size ≠ B; omega))
  have hszE : (hW w s m a n c).heap.size = w.heap.size + 1 + 1 := by unfold hW; simp
  rw [hszE] at HNt
  unfold usv at HNt
  clear hszE
  go_enter Tryz.func106, Tryz.ntmps106
  go_wp2_with fail
  clear x0 x1 x2 y2 y3 y4 y5
  unfold hW at HNt
  refine (unhide HNt).mono ?_
  rintro e w3 ⟨⟨fn3, caps3, rfl, hv3⟩, hb3⟩
  have hk3 := hkB.trans (Below.mono hb3 (by unfold hW; simp))
  have HCh := hide (change1_any B _ u (.func (.func fn3) #[] caps3) 117 w3 (hU0.out.below hk3) hv3)
  have hbx := hide (hb.out.below hk3)
  have HG3 := hide ((turns_of hw0 B).trans (turns_of hk3 B))
  clear hk3 hkB hUB hb3 HNt hv3 hszB
  go_wp2_with fail
  refine (unhide HCh).mono ?_
  rintro e w5 ⟨rfl, hU5, hg5⟩
  have HU5 := hide hU5
  have HG5 := hide (HG3.out.trans hg5)
  have HB5 := hide (hbx.out.turns hg5 hB)
  clear hU5 hg5 HCh HG3 hbx hU0 hb hw0
  generalize doV u (.not s [3, m.n]) = R at *
  cases g : R.2
  · have HE := hide (HE4.out g)
    go_wp2_with fail
    go_ret
    exact hAns_nil HE.out HU5.out HG5.out
  · have HEa := hide (fun h => (HE3.out g).trans (aboB_1 h))
    have HEb := hide (fun h => (HE3.out g).trans (aboB_2 h))
    clear HE3 HE4
    go_upto_region 5 with fail
    obtain ⟨R1, R2⟩ := R
    simp only at HU5 HEa HEb
    obtain ⟨ua, un, uc, ub, ui, ul, ucap, umax, uoff⟩ := HU5.out
    have UB := hide ub
    have UI := hide ui
    have UL := hide ul
    unfold unO at ub
    have u3 := blk_cell ub 3 _ rfl
    have u4 := blk_cell ub 4 _ rfl
    have fu3 := blk_free ub 3
    have fu4 := blk_free ub 4
    have y2 := blk_cell HB5.out.b1 2 _ rfl
    clear ub ui ul
    by_cases z5 : R1.n = m.n
    · have HE := hide (HEa.out z5)
      have d5 : (R1.n == m.n) = true := by simpa using z5
      clear z5
      go_wp2_with fail
      go_quiet (fail)
      obtain ⟨wz, hwz⟩ : ∃ wz : World, wz = w5.drewN nq := ⟨_, rfl⟩
      have hbz : Below w5.heap.size w5 wz := by rw [hwz]; exact below_drewN (Below.refl _ _) nq
      rw [← hwz]
      clear hwz u3 u4 fu3 fu4 y2
      have UBz := hide (blk_below UB.out hbz)
      have HBz := hide (HB5.out.below hbz)
      have ubz := UBz.out
      unfold unO at ubz
      have u3 := blk_cell ubz 3 _ rfl
      have u4 := blk_cell ubz 4 _ rfl
      have fu3 := blk_free ubz 3
      have fu4 := blk_free ubz 4
      clear ubz
      have hgS : wz.grownBy ((wz.setCell ⟨B, 3, none⟩ (.int .i64 0)).setCell ⟨B, 4, none⟩ (.int .i64 0)) (some B) := turns_set (turns_set1 _ _ _ _) _ _
      have HBs := hide (HBz.out.turns hgS hB)
      have hUs : Hid (OwnU ((wz.setCell ⟨B, 3, none⟩ (.int .i64 0)).setCell ⟨B, 4, none⟩ (.int .i64 0)) B (mind R1 0 0)) := ⟨ua, un, uc, un_mind UBz.out, ints_turns (UI.out.below hbz) hgS uoff, UL.out, ucap, umax, uoff⟩
      have v0 := blk_cell HBs.out.b1 0 _ rfl
      have v1 := blk_cell HBs.out.b1 1 _ rfl
      have v2 := blk_cell HBs.out.b1 2 _ rfl
      have v3 := blk_cell HBs.out.b1 3 _ rfl
      have v4 := blk_cell HBs.out.b1 4 _ rfl
      have v5 := blk_cell HBs.out.b1 5 _ rfl
      have v6 := blk_cell HBs.out.b1 6 _ rfl
      go_wp2_with fail
      have HDn := hide (done_any m a n c ((wz.setCell ⟨B, 3, none⟩ (.int .i64 0)).setCell ⟨B, 4, none⟩ (.int .i64 0)))
      unfold msv at HDn
      refine (unhide HDn).mono ?_
      rintro e w6 ⟨⟨b, rfl, hm, _⟩, hb6⟩
      go_wp2_with fail
      go_ret
      rw [HE.out]
      exact ⟨⟨_, 1, 1, rfl, hm, rfl, Nat.le_refl _, Nat.le_refl _⟩, hUs.out.below hb6, ((HG5.out.trans (turns_of hbz B)).trans hgS).trans (turns_of hb6 B)⟩
    · have HE := hide (HEb.out z5)
      have d5 : (R1.n == m.n) = false := by simpa using z5
      clear z5
      go_wp2_with fail
      go_quiet (fail)
      obtain ⟨wz, hwz⟩ : ∃ wz : World, wz = w5.drewN nq := ⟨_, rfl⟩
      have hbz : Below w5.heap.size w5 wz := by rw [hwz]; exact below_drewN (Below.refl _ _) nq
      rw [← hwz]
      clear hwz u3 u4 fu3 fu4 y2
      have HBz := hide (HB5.out.below hbz)
      have v0 := blk_cell HBz.out.b1 0 _ rfl
      have v1 := blk_cell HBz.out.b1 1 _ rfl
      have v2 := blk_cell HBz.out.b1 2 _ rfl
      have v3 := blk_cell HBz.out.b1 3 _ rfl
      have v4 := blk_cell HBz.out.b1 4 _ rfl
      have v5 := blk_cell HBz.out.b1 5 _ rfl
      have v6 := blk_cell HBz.out.b1 6 _ rfl
      go_wp2_with fail
      have HDn := hide (done_any m a n c wz)
      unfold msv at HDn
      refine (unhide HDn).mono ?_
      rintro e w6 ⟨⟨b, rfl, hm, _⟩, hb6⟩
      go_wp2_with fail
      go_ret
      rw [HE.out]
      exact ⟨⟨_, 1, 1, rfl, hm, rfl, Nat.le_refl _, Nat.le_refl _⟩, (HU5.out.below hbz).below hb6, (HG5.out.trans (turns_of hbz B)).trans (turns_of hb6 B)⟩

end Go.Proofs.YtgngpmgjoifepaaGreatDoor

namespace Go.Proofs.YtgngpmgjoifepaaGreatDoor
open Go.RowKit
attribute [local go_sem ↓] Go.wp_at_zero Go.wp_at_succ

theorem parseN_ok (k : Nat) : ∀ (l : List Int), okL l = true → ∀ r ∈ (parseN k l).1, okL r = true := by
  induction k with
  | zero => intro l _ r hr; simp [parseN] at hr
  | succ k ih =>
    intro l hl r hr
    rw [parseN_succ] at hr
    split at hr
    · simp at hr
    · simp only [List.mem_cons] at hr
      rcases hr with rfl | hr
      · exact okL_take _ (okL_drop _ hl)
      · exact ih _ (okL_drop _ hl) r hr
theorem stNext_slot {s : Us} {r : List Int} (h : okL r = true) (h0 : 0 ≤ s.slot ∧ s.slot ≤ 1) : 0 ≤ (stNext s r).slot ∧ (stNext s r).slot ≤ 1 := by
  by_cases c : isR r 1 3 = true ∧ r.getD 1 0 ≤ 1
  · rw [stNext_1 c.1 c.2]
    have hl := isR_len c.1
    have := okL_get h 1 (by omega)
    unfold okW at this
    simp only [decide_eq_true_eq] at this
    exact ⟨by show 0 ≤ r.getD 1 0; omega, c.2⟩
  · by_cases c2 : isR r 2 2 = true
    · rw [stNext_2 c c2]; exact h0
    · by_cases c3 : isR r 3 2 = true
      · rw [stNext_3 c c2 c3]; exact h0
      · rw [stNext_0 c c2 c3]; exact h0
theorem stR_slot (rs : List (List Int)) : ∀ (s : Us), (∀ r ∈ rs, okL r = true) → 0 ≤ s.slot ∧ s.slot ≤ 1 → 0 ≤ (rs.foldl stNext s).slot ∧ (rs.foldl stNext s).slot ≤ 1 := by
  induction rs with
  | nil => intro s _ h; exact h
  | cons r rs ih => intro s h h0; exact ih _ (fun x hx => h x (List.mem_cons_of_mem _ hx)) (stNext_slot (h r (List.mem_cons_self ..)) h0)
theorem stOf_slot {ws : List Int} {f : Int} (h : lchk ws f = 0) : 0 ≤ (stOf ws).slot ∧ (stOf ws).slot ≤ 1 := by
  refine stR_slot _ _ (parseN_ok _ _ ?_) ⟨by decide, by decide⟩
  exact okL_take _ (okL_drop _ (lchk_parts h).2.2.2.1)

theorem hearK_1 {ss : List ByteArray} {u : Un} {m : Ms} (h : m.k = 1) : hearK ss u m = (pieceS u (stOf u.ws) m, []) := by unfold hearK; rw [if_pos h]
theorem hearK_2 {ss : List ByteArray} {u : Un} {m : Ms} (h : m.k = 2) : hearK ss u m = prepS ss u (stOf u.ws) m := by unfold hearK; rw [if_neg (by omega), if_pos h]
theorem hearK_4 {ss : List ByteArray} {u : Un} {m : Ms} (h : m.k = 4) : hearK ss u m = comS u (stOf u.ws) m := by unfold hearK; rw [if_neg (by omega), if_neg (by omega), if_pos h]
theorem hearK_5 {ss : List ByteArray} {u : Un} {m : Ms} (h : m.k = 5) : hearK ss u m = aboS u (stOf u.ws) m := by unfold hearK; rw [if_neg (by omega), if_neg (by omega), if_neg (by omega), if_pos h]
theorem hearK_0 {ss : List ByteArray} {u : Un} {m : Ms} (h1 : m.k ≠ 1) (h2 : m.k ≠ 2) (h4 : m.k ≠ 4) (h5 : m.k ≠ 5) : hearK ss u m = (u, []) := by unfold hearK; rw [if_neg h1, if_neg h2, if_neg h4, if_neg h5]

def qW (w : World) (ab : Option Addr) (nb cb : Nat) (m : Ms) (a : Option Addr) (n c : Nat) : World :=
  (w.alloc (.cells #[.slice ab nb cb] 24)).alloc (.cells #[.int .i64 m.k, .int .i64 m.u, .int .i64 m.n, .int .i64 m.at', .int .i64 m.im, .slice a n c, .bool m.y] 31)

set_option maxRecDepth 100000 in
set_option maxHeartbeats 12800000 in
theorem hear_any (ab : Option Addr) (nb cb : Nat) (ss : List ByteArray) (B : Nat) (u : Un) (m : Ms) (a : Option Addr) (n c : Nat) (w : World) (hTB : ∀ w' : World, w.grownBy w' (some B) → BB w' ab nb cb ss ∧ Tab w') (hU : OwnU w B u) (hl : lchk u.ws u.fu = 0) (hbi : BI w a n m.ws) (ho : m.ws = [] ∨ Off B a) (hat0 : 0 ≤ m.at') (hat1 : m.at' ≤ 40) (hn8 : n ≤ 8) :
    Calls Tryz.prog 52 #[bookv ab nb cb, .pointer (some ⟨B, 0, none⟩), msv m a n c] w (HAns w B (hearK ss u m)) := by
  have hw0 : Below w.heap.size w (qW w ab nb cb m a n c) := ((Below.refl _ _).alloc (Nat.le_refl _) _).alloc (by simp) _
  have hB := hU.lt
  have b0 : Hid ((qW w ab nb cb m a n c).heap[w.heap.size]? = some (.cells #[.slice ab nb cb] 24 (0, 0))) := blk_alloc (heap_alloc_last _ _) _
  have b1 : Hid ((qW w ab nb cb m a n c).heap[w.heap.size + 1]? = some (.cells #[.int .i64 m.k, .int .i64 m.u, .int .i64 m.n, .int .i64 m.at', .int .i64 m.im, .slice a n c, .bool m.y] 31 (0, 0))) := uLast1 _ _ _
  have hU0 := hide (hU.below hw0)
  have HSl := hide (stOf_slot hl)
  have HTB := hide hTB
  have HBI := hide hbi
  have HO := hide ho
  have HAT := hide (And.intro hat0 hat1)
  obtain ⟨ua, un, uc, ub, ui, ul, ucap, umax, uoff⟩ := hU0.out
  have HSt := hide (stateOf_any ua un uc u.ws u.fu (qW w ab nb cb m a n c) ⟨ui, ul, ucap, umax⟩ hl)
  have UB := hide ub
  have HK1 := hide (fun h => hearK_1 (ss := ss) (u := u) (m := m) h)
  have HK2 := hide (fun h => hearK_2 (ss := ss) (u := u) (m := m) h)
  have HK4 := hide (fun h => hearK_4 (ss := ss) (u := u) (m := m) h)
  have HK5 := hide (fun h => hearK_5 (ss := ss) (u := u) (m := m) h)
  have HK0 := hide (fun h1 h2 h4 h5 => hearK_0 (ss := ss) (u := u) (m := m) h1 h2 h4 h5)
  clear hU hTB hl hbi ho hat0 hat1 ub ui ul
  unfold msv bookv
  unfold qW at hw0 b0 b1 hU0 HSt UB
  have v0 := blk_cell UB.out 0 _ rfl
  have v1 := blk_cell UB.out 1 _ rfl
  go_enter Tryz.func52, Tryz.ntmps52
  go_wp2_with fail
  clear v0 v1
  generalize (w.alloc (.cells #[.slice ab nb cb] 24)).alloc (.cells #[.int .i64 m.k, .int .i64 m.u, .int .i64 m.n, .int .i64 m.at', .int .i64 m.im, .slice a n c, .bool m.y] 31) = W at *
  refine (unhide HSt).mono ?_
  rintro e w1 ⟨rfl, hb1⟩
  unfold usv
  go_upto_region 2 with fail
  generalize stOf u.ws = s at *
  have S0 := hide (heap_alloc_last w1 (.cells #[.int .i64 s.slot, .int .i64 s.by', .int .i64 s.rdy] 40))
  have hb2 := hb1.alloc hb1.size (.cells #[.int .i64 s.slot, .int .i64 s.by', .int .i64 s.rdy] 40)
  have B0 := hide (blk_below b0.out hb2)
  have B1 := hide (blk_below b1.out hb2)
  have hU2 := hide (hU0.out.below hb2)
  have hk := hw0.trans (hb2.mono hw0.size)
  have HG := hide (turns_of hk B)
  have HBI2 := hide (HBI.out.below hk)
  clear hb1 b0 b1 hU0 UB hw0 HBI hb2 HSt
  generalize w1.heap.size = S at *
  generalize w1.alloc (.cells #[.int .i64 s.slot, .int .i64 s.by', .int .i64 s.rdy] 40) = W2 at *
  have k0 := blk_cell B0.out 0 _ rfl
  have y0 := blk_cell B1.out 0 _ rfl
  have y1 := blk_cell B1.out 1 _ rfl
  have y2 := blk_cell B1.out 2 _ rfl
  have y3 := blk_cell B1.out 3 _ rfl
  have y4 := blk_cell B1.out 4 _ rfl
  have y5 := blk_cell B1.out 5 _ rfl
  have y6 := blk_cell B1.out 6 _ rfl
  have x0 := blk_cell S0.out 0 _ rfl
  have x1 := blk_cell S0.out 1 _ rfl
  have x2 := blk_cell S0.out 2 _ rfl
  by_cases z1 : m.k = 1
  · have HE := hide (HK1.out z1)
    have d1 : (m.k == 1) = true := by simpa using z1
    have HP := hide (hearPiece_any B u s m a n c W2 hU2.out HSl.out.1 HSl.out.2 HBI2.out HO.out HAT.out.1 HAT.out.2 hn8)
    unfold usv msv at HP
    clear z1
    go_wp2_with fail
    refine (unhide HP).mono ?_
    rintro e w3 ⟨rfl, hu3, hg3⟩
    go_wp2_with fail
    go_ret
    exact hAns_nil HE.out hu3 (HG.out.trans hg3)
  have d1 : (m.k == 1) = false := by simpa using z1
  by_cases z2 : m.k = 2
  · have HE := hide (HK2.out z2)
    have d2 : (m.k == 2) = true := by simpa using z2
    have HP := hide (hearPrepare_any ab nb cb ss B u s m a n c W2 (fun w' h => HTB.out w' (HG.out.trans h)) hU2.out HSl.out.1 HSl.out.2)
    unfold usv msv bookv at HP
    clear z1 z2
    go_wp2_with fail
    refine (unhide HP).mono ?_
    rintro e w3 ⟨⟨a3, n3, c3, rfl, hm3, hn3, hc3, hx3⟩, hu3, hg3⟩
    go_wp2_with fail
    go_ret
    rw [HE.out]
    exact ⟨⟨a3, n3, c3, rfl, hm3, hn3, hc3, hx3⟩, hu3, HG.out.trans hg3⟩
  have d2 : (m.k == 2) = false := by simpa using z2
  by_cases z4 : m.k = 4
  · have HE := hide (HK4.out z4)
    have d4 : (m.k == 4) = true := by simpa using z4
    have HP := hide (hearCommit_any B u s m a n c W2 hU2.out HSl.out.1 HSl.out.2)
    unfold usv msv at HP
    clear z1 z2 z4
    go_wp2_with fail
    refine (unhide HP).mono ?_
    rintro e w3 ⟨⟨a3, n3, c3, rfl, hm3, hn3, hc3, hx3⟩, hu3, hg3⟩
    go_wp2_with fail
    go_ret
    rw [HE.out]
    exact ⟨⟨a3, n3, c3, rfl, hm3, hn3, hc3, hx3⟩, hu3, HG.out.trans hg3⟩
  have d4 : (m.k == 4) = false := by simpa using z4
  by_cases z5 : m.k = 5
  · have HE := hide (HK5.out z5)
    have d5 : (m.k == 5) = true := by simpa using z5
    have HP := hide (hearAbort_any B u s m a n c W2 hU2.out)
    unfold usv msv at HP
    clear z1 z2 z4 z5
    go_wp2_with fail
    refine (unhide HP).mono ?_
    rintro e w3 ⟨⟨a3, n3, c3, rfl, hm3, hn3, hc3, hx3⟩, hu3, hg3⟩
    go_wp2_with fail
    go_ret
    rw [HE.out]
    exact ⟨⟨a3, n3, c3, rfl, hm3, hn3, hc3, hx3⟩, hu3, HG.out.trans hg3⟩
  have d5 : (m.k == 5) = false := by simpa using z5
  have HE := hide (HK0.out z1 z2 z4 z5)
  clear z1 z2 z4 z5
  go_wp2_with fail
  go_ret
  exact hAns_nil HE.out hU2.out HG.out

end Go.Proofs.YtgngpmgjoifepaaGreatDoor

namespace Go.Proofs.YtgngpmgjoifepaaGreatDoor
open Go.RowKit

/-- As long, or nothing. -/
def Lk (xs ys : List Int) : Prop := ys.length = xs.length ∨ ys = []
theorem Lk.refl (xs : List Int) : Lk xs xs := .inl rfl
theorem Lk.nil (xs : List Int) : Lk xs [] := .inr rfl
theorem Lk.trans {xs ys zs : List Int} (h : Lk xs ys) (h2 : Lk ys zs) : Lk xs zs := by
  rcases h2 with h2 | h2
  · rcases h with h | h
    · exact .inl (h2.trans h)
    · subst h; exact .inr (List.eq_nil_of_length_eq_zero h2)
  · exact .inr h2
theorem progS_lk (ws : List Int) (fuel p : Int) (words : List Int) : Lk ws (progS ws fuel p words).1 := by
  unfold progS
  split
  · exact Lk.nil _
  · split
    · exact Lk.nil _
    · split
      · exact Lk.nil _
      · exact .inl (chg_length ..)
theorem eraS_lk (ws : List Int) (fuel s : Int) : Lk ws (eraS ws fuel s).1 := by
  unfold eraS
  split
  · exact Lk.nil _
  · split
    · exact Lk.nil _
    · exact .inl (chg_length ..)
theorem doS_lk (st : Stp) (ws : List Int) (f : Int) : Lk ws (doS st ws f).1 := by
  cases st with
  | inl s => exact eraS_lk _ _ _
  | inr q => obtain ⟨p, words⟩ := q; exact progS_lk _ _ _ _
theorem turnS_lk (sts : List Stp) : ∀ (ws : List Int) (f : Int), Lk ws (turnS sts ws f).1 := by
  induction sts with
  | nil => intro ws f; exact Lk.refl _
  | cons st r ih =>
    intro ws f
    by_cases h : (doS st ws f).2.2 = 0
    · rw [turnS_go h]; exact (doS_lk _ _ _).trans (ih _ _)
    · rw [turnS_stop h]; exact doS_lk _ _ _
theorem clrAt_lk (ws : List Int) (f s : Int) (k : Nat) : Lk ws (clrAt ws f s k).1 := by
  induction k with
  | zero => exact Lk.refl _
  | succ k ih =>
    show Lk ws (if _ then _ else _ : List Int × Int × Int).1
    split
    · exact ih
    · exact ih.trans (eraS_lk _ _ _)
theorem doT_lk (st : Stu) (ws : List Int) (f : Int) : Lk ws (doT st ws f).1 := by
  rcases st with (_ | s) | (⟨s, p, words⟩ | (⟨s, l, nm⟩ | ⟨s, r⟩))
  · show Lk _ (fmtS ws f).1
    unfold fmtS
    split
    · exact Lk.nil _
    · exact turnS_lk _ _ _
  · show Lk _ (clrS ws f s).1
    unfold clrS
    split
    · exact Lk.nil _
    · exact clrAt_lk _ _ _ _
  · show Lk _ (fillS ws f s p words).1
    unfold fillS
    split
    · exact Lk.nil _
    · split
      · exact Lk.nil _
      · exact progS_lk _ _ _ _
  · show Lk _ (sealS ws f s l nm).1
    unfold sealS
    split
    · exact Lk.nil _
    · split
      · exact Lk.nil _
      · exact progS_lk _ _ _ _
  · show Lk _ (appS ws f r (keepU s)).1
    unfold appS
    split
    · exact Lk.nil _
    · exact turnS_lk _ _ _
theorem doV_lk (u : Un) (st : Stu) : Lk u.ws (doV u st).1.ws := by
  unfold doV doU
  split
  · exact doT_lk _ _ _
  · split
    · exact doT_lk _ _ _
    · exact Lk.refl _
theorem pieceA_lk (u : Un) (s : Us) (m : Ms) : Lk u.ws (pieceA u s m).1.ws := by
  unfold pieceA
  split
  · split
    · exact doV_lk _ _
    · exact doV_lk _ _
  · exact Lk.refl _
theorem pieceB_lk (u : Un) (s : Us) (m : Ms) : Lk u.ws (pieceB u s m).ws := by
  unfold pieceB
  split
  · split
    · exact doV_lk _ _
    · exact doV_lk _ _
  · exact Lk.refl _
theorem pieceS_lk (u : Un) (s : Us) (m : Ms) : Lk u.ws (pieceS u s m).ws := by
  unfold pieceS
  split
  · exact Lk.refl _
  · split
    · exact (pieceA_lk u s m).trans (pieceB_lk _ _ _)
    · exact pieceA_lk u s m
theorem prepC_lk (u : Un) (s : Us) (m : Ms) : Lk u.ws (prepC u s m).1.ws := by
  unfold prepC
  split <;> exact doV_lk _ _
theorem prepB_lk (u : Un) (s : Us) (m : Ms) (words : List Int) : Lk u.ws (prepB u s m words).1.ws := by
  unfold prepB
  split
  · split
    · exact (doV_lk u (.sea (oth s) m.at' m.im)).trans (prepC_lk (mind (doV u (.sea (oth s) m.at' m.im)).1 0 0) _ _)
    · exact doV_lk u (.sea (oth s) m.at' m.im)
  · exact doV_lk _ _
theorem prepS_lk (ss : List ByteArray) (u : Un) (s : Us) (m : Ms) : Lk u.ws (prepS ss u s m).1.ws := by
  unfold prepS
  split
  · exact Lk.refl _
  · split
    · exact Lk.refl _
    · split
      · exact prepB_lk _ _ _ _
      · exact Lk.refl _
theorem comS_lk (u : Un) (s : Us) (m : Ms) : Lk u.ws (comS u s m).1.ws := by
  unfold comS
  split
  · exact Lk.refl _
  · split
    · exact Lk.refl _
    · split <;> exact doV_lk _ _
theorem aboB_lk (u : Un) (m : Ms) : Lk u.ws (aboB u m).1.ws := by
  unfold aboB
  show Lk u.ws (if _ then _ else _ : Un).ws
  split <;> exact Lk.refl _
theorem aboS_lk (u : Un) (s : Us) (m : Ms) : Lk u.ws (aboS u s m).1.ws := by
  unfold aboS
  split
  · exact Lk.refl _
  · split
    · split
      · exact (doV_lk u (.not s [3, m.n])).trans (aboB_lk _ _)
      · exact doV_lk _ _
    · exact aboB_lk _ _
theorem hearK_lk (ss : List ByteArray) (u : Un) (m : Ms) : Lk u.ws (hearK ss u m).1.ws := by
  unfold hearK
  split
  · exact pieceS_lk _ _ _
  · split
    · exact prepS_lk _ _ _ _
    · split
      · exact comS_lk _ _ _
      · split
        · exact aboS_lk _ _ _
        · exact Lk.refl _

end Go.Proofs.YtgngpmgjoifepaaGreatDoor
