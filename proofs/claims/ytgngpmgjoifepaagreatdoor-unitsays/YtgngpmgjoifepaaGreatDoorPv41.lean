/- The contract of the reference's SameUnit. The contract of the reference's SameMessages: do two lists of messages hold the same? -/
import Derived.Test.YtgngpmgjoifepaaGreatDoorPv13
import Derived.Test.YtgngpmgjoifepaaGreatDoorPv2
import Derived.BigQuiet
import Derived.Test.YtgngpmgjoifepaaGreatDoorPv11
import Derived.Test.YtgngpmgjoifepaaGreatDoorPv0
namespace Go.Proofs.YtgngpmgjoifepaaGreatDoor
open Go.RowKit
attribute [local go_sem ↓] Go.wp_at_zero Go.wp_at_succ

theorem sameU_eq (u v : Un) : sameU u v = ((decide (u.fu = v.fu) && eqL u.ws v.ws) && ((u.up == v.up) && (decide (u.n = v.n) && decide (u.hv = v.hv)))) := rfl

set_option maxRecDepth 100000 in
set_option maxHeartbeats 3200000 in
theorem sameUnit_any (u : Un) (a : Option Addr) (n c : Nat) (v : Un) (b : Option Addr) (k d : Nat) (w : World) (h : BW w a n c u.ws) (h2 : BW w b k d v.ws) :
    Calls Tryz.prog 20 #[unv u a n c, unv v b k d] w fun e w' => e = .returned (.bool (sameU u v)) ∧ Below w.heap.size w w' := by
  have hw0 : Below w.heap.size w ((w.alloc (.cells #[.slice a n c, .int .i64 u.fu, .bool u.up, .int .i64 u.n, .int .i64 u.hv] 29)).alloc (.cells #[.slice b k d, .int .i64 v.fu, .bool v.up, .int .i64 v.n, .int .i64 v.hv] 29)) := ((Below.refl _ _).alloc (Nat.le_refl _) _).alloc (by simp) _
  have b0 : Hid (((w.alloc (.cells #[.slice a n c, .int .i64 u.fu, .bool u.up, .int .i64 u.n, .int .i64 u.hv] 29)).alloc (.cells #[.slice b k d, .int .i64 v.fu, .bool v.up, .int .i64 v.n, .int .i64 v.hv] 29)).heap[w.heap.size]? = some (.cells #[.slice a n c, .int .i64 u.fu, .bool u.up, .int .i64 u.n, .int .i64 u.hv] 29 (0, 0))) := blk_alloc (heap_alloc_last _ _) _
  have b1 : Hid (((w.alloc (.cells #[.slice a n c, .int .i64 u.fu, .bool u.up, .int .i64 u.n, .int .i64 u.hv] 29)).alloc (.cells #[.slice b k d, .int .i64 v.fu, .bool v.up, .int .i64 v.n, .int .i64 v.hv] 29)).heap[w.heap.size + 1]? = some (.cells #[.slice b k d, .int .i64 v.fu, .bool v.up, .int .i64 v.n, .int .i64 v.hv] 29 (0, 0))) := uLast1 _ _ _
  have HS := hide (fun W (hW : Below w.heap.size w W) => refSame_any a n c u.ws u.fu b k d v.ws v.fu W (h.below hW).at_ h.len h.max (h2.below hW).at_ h2.len h2.max)
  have HQ := hide (sameU_eq u v)
  unfold unv
  clear h h2
  generalize (decide (u.fu = v.fu) && eqL u.ws v.ws) = q at *
  obtain ⟨x0, x1, x2, x3, x4⟩ := cl5 b0.out
  obtain ⟨y0, y1, y2, y3, y4⟩ := cl5 b1.out
  go_enter Tryz.func20, Tryz.ntmps20
  go_wp2_with fail
  generalize ((w.alloc (.cells #[.slice a n c, .int .i64 u.fu, .bool u.up, .int .i64 u.n, .int .i64 u.hv] 29)).alloc (.cells #[.slice b k d, .int .i64 v.fu, .bool v.up, .int .i64 v.n, .int .i64 v.hv] 29)) = W at *
  refine (unhide HS _ hw0).mono ?_
  rintro e w1 ⟨rfl, hb⟩
  replace b0 := hide (blk_below b0.out hb)
  replace b1 := hide (blk_below b1.out hb)
  replace hw0 := hw0.trans (hb.mono hw0.size)
  clear hb HS x0 x1 x2 x3 x4 y0 y1 y2 y3 y4
  have x2 := blk_cell b0.out 2 _ rfl
  have x3 := blk_cell b0.out 3 _ rfl
  have x4 := blk_cell b0.out 4 _ rfl
  have y2 := blk_cell b1.out 2 _ rfl
  have y3 := blk_cell b1.out 3 _ rfl
  have y4 := blk_cell b1.out 4 _ rfl
  cases q
  {
  have HE : Hid (sameU u v = false) := HQ.out.trans rfl
  go_wp2_with fail
  go_ret
  exact ⟨ret_bool HE.out.symm, hw0⟩
  }
  by_cases z1 : u.up = v.up
  rotate_left
  {
  have HE : Hid (sameU u v = false) := HQ.out.trans (by simp [z1])
  have d1 : (u.up == v.up) = false := by simpa using z1
  clear z1
  go_wp2_with fail
  go_ret
  exact ⟨ret_bool HE.out.symm, hw0⟩
  }
  by_cases z2 : u.n = v.n
  rotate_left
  {
  have HE : Hid (sameU u v = false) := HQ.out.trans (by simp [z2])
  have d1 : (u.up == v.up) = true := by simpa using z1
  have d2 : (u.n == v.n) = false := by simpa using z2
  clear z1 z2
  go_wp2_with fail
  go_ret
  exact ⟨ret_bool HE.out.symm, hw0⟩
  }
  have d1 : (u.up == v.up) = true := by simpa using z1
  have d2 : (u.n == v.n) = true := by simpa using z2
  have HE : Hid (sameU u v = decide (u.hv = v.hv)) := HQ.out.trans (by simp [z1, z2])
  have d3 : (u.hv == v.hv) = decide (u.hv = v.hv) := rfl
  clear z1 z2
  go_wp2_with fail
  go_ret
  exact ⟨ret_bool HE.out.symm, hw0⟩

end Go.Proofs.YtgngpmgjoifepaaGreatDoor

namespace Go.Proofs.YtgngpmgjoifepaaGreatDoor
open Go.RowKit
attribute [local go_sem ↓] Go.wp_at_zero Go.wp_at_succ

def IsMsw (w : World) (a : Option Addr) (l : List Ms) : Prop :=
  l = [] ∨ ∃ b off, a = some ⟨b, off, none⟩ ∧ ∀ i m, l[i]? = some m → ∃ am nm cm, BI w am nm m.ws ∧
    w.cell? ⟨b, off + i * 7, none⟩ = some (.int .i64 m.k) ∧ w.cell? ⟨b, off + i * 7 + 1, none⟩ = some (.int .i64 m.u) ∧ w.cell? ⟨b, off + i * 7 + 2, none⟩ = some (.int .i64 m.n) ∧ w.cell? ⟨b, off + i * 7 + 3, none⟩ = some (.int .i64 m.at') ∧
    w.cell? ⟨b, off + i * 7 + 4, none⟩ = some (.int .i64 m.im) ∧ w.cell? ⟨b, off + i * 7 + 5, none⟩ = some (.slice am nm cm) ∧ w.cell? ⟨b, off + i * 7 + 6, none⟩ = some (.bool m.y)
theorem IsMsgs.msw {w : World} {a : Option Addr} {l : List Ms} (h : IsMsgs w a l) : IsMsw w a l := by
  rcases h with h | ⟨b, rfl, hc⟩
  { exact .inl h }
  {
  refine .inr ⟨b, 0, rfl, fun i m hi => ?_⟩
  obtain ⟨h0, h1⟩ := hc i m hi
  refine ⟨none, 0, 0, ⟨.inl h0, by rw [h0]; rfl, by decide⟩, ?_⟩
  simpa only [Nat.zero_add] using h1
  }
theorem IsMsw.below {w w' : World} {a : Option Addr} {l : List Ms} (h : IsMsw w a l) (hb : Below w.heap.size w w') : IsMsw w' a l := by
  rcases h with h | ⟨b, off, rfl, hc⟩
  { exact .inl h }
  {
  refine .inr ⟨b, off, rfl, fun i m hi => ?_⟩
  obtain ⟨am, nm, cm, h0, h1, h2, h3, h4, h5, h6, h7⟩ := hc i m hi
  exact ⟨am, nm, cm, h0.below hb, by rw [hb.cell (cell_lt h1)]; exact h1, by rw [hb.cell (cell_lt h2)]; exact h2, by rw [hb.cell (cell_lt h3)]; exact h3, by rw [hb.cell (cell_lt h4)]; exact h4, by rw [hb.cell (cell_lt h5)]; exact h5, by rw [hb.cell (cell_lt h6)]; exact h6, by rw [hb.cell (cell_lt h7)]; exact h7⟩

  }
theorem sameM_eq (x y : Ms) : sameM x y = true ↔ x = y := by
  unfold sameM eqL
  cases x; cases y
  simp
  intros
  exact ⟨fun h => ⟨h.2, h.1⟩, fun h => ⟨h.2, h.1⟩⟩

set_option maxRecDepth 100000 in
set_option maxHeartbeats 3200000 in
theorem sameMsg_any (x : Ms) (ax : Option Addr) (nx cx : Nat) (y : Ms) (ay : Option Addr) (ny cy : Nat) (w : World) (hx : BI w ax nx x.ws) (hy : BI w ay ny y.ws) :
    Calls Tryz.prog 81 #[msv x ax nx cx, msv y ay ny cy] w fun e w' => e = .returned (.bool (sameM x y)) ∧ Below w.heap.size w w' := by
  have hw0 : Below w.heap.size w ((w.alloc (.cells #[.int .i64 x.k, .int .i64 x.u, .int .i64 x.n, .int .i64 x.at', .int .i64 x.im, .slice ax nx cx, .bool x.y] 31)).alloc (.cells #[.int .i64 y.k, .int .i64 y.u, .int .i64 y.n, .int .i64 y.at', .int .i64 y.im, .slice ay ny cy, .bool y.y] 31)) := ((Below.refl _ _).alloc (Nat.le_refl _) _).alloc (by simp) _
  have b0 : Hid (((w.alloc (.cells #[.int .i64 x.k, .int .i64 x.u, .int .i64 x.n, .int .i64 x.at', .int .i64 x.im, .slice ax nx cx, .bool x.y] 31)).alloc (.cells #[.int .i64 y.k, .int .i64 y.u, .int .i64 y.n, .int .i64 y.at', .int .i64 y.im, .slice ay ny cy, .bool y.y] 31)).heap[w.heap.size]? = some (.cells #[.int .i64 x.k, .int .i64 x.u, .int .i64 x.n, .int .i64 x.at', .int .i64 x.im, .slice ax nx cx, .bool x.y] 31 (0, 0))) := blk_alloc (heap_alloc_last _ _) _
  have b1 : Hid (((w.alloc (.cells #[.int .i64 x.k, .int .i64 x.u, .int .i64 x.n, .int .i64 x.at', .int .i64 x.im, .slice ax nx cx, .bool x.y] 31)).alloc (.cells #[.int .i64 y.k, .int .i64 y.u, .int .i64 y.n, .int .i64 y.at', .int .i64 y.im, .slice ay ny cy, .bool y.y] 31)).heap[w.heap.size + 1]? = some (.cells #[.int .i64 y.k, .int .i64 y.u, .int .i64 y.n, .int .i64 y.at', .int .i64 y.im, .slice ay ny cy, .bool y.y] 31 (0, 0))) := uLast1 _ _ _
  have HQ := hide (equal_at ax ay nx ny cx cy x.ws y.ws _ ((w.alloc (.cells #[.int .i64 x.k, .int .i64 x.u, .int .i64 x.n, .int .i64 x.at', .int .i64 x.im, .slice ax nx cx, .bool x.y] 31)).alloc (.cells #[.int .i64 y.k, .int .i64 y.u, .int .i64 y.n, .int .i64 y.at', .int .i64 y.im, .slice ay ny cy, .bool y.y] 31)) (hx.below hw0).at_ (hy.below hw0).at_ hx.len hy.len rfl hx.max hy.max)
  have HM : Hid (sameM x y = (decide (x.k = y.k) && (decide (x.u = y.u) && (decide (x.n = y.n) && (decide (x.at' = y.at') && (decide (x.im = y.im) && (x.y == y.y && eqL x.ws y.ws))))))) := rfl
  clear hx hy
  generalize eqL x.ws y.ws = q at *
  unfold msv
  have x0 := blk_cell b0.out 0 _ rfl
  have y0 := blk_cell b1.out 0 _ rfl
  have x1 := blk_cell b0.out 1 _ rfl
  have y1 := blk_cell b1.out 1 _ rfl
  have x2 := blk_cell b0.out 2 _ rfl
  have y2 := blk_cell b1.out 2 _ rfl
  have x3 := blk_cell b0.out 3 _ rfl
  have y3 := blk_cell b1.out 3 _ rfl
  have x4 := blk_cell b0.out 4 _ rfl
  have y4 := blk_cell b1.out 4 _ rfl
  have x5 := blk_cell b0.out 5 _ rfl
  have y5 := blk_cell b1.out 5 _ rfl
  have x6 := blk_cell b0.out 6 _ rfl
  have y6 := blk_cell b1.out 6 _ rfl
  clear b0 b1
  by_cases z0 : x.k = y.k
  rotate_left
  {
  have HE : Hid (sameM x y = false) := HM.out.trans (by simp [z0])
  have e0 : (x.k == y.k) = false := by simpa using z0
  clear z0 HQ
  go_enter Tryz.func81, Tryz.ntmps81
  go_wp2_with fail
  go_ret
  exact ⟨ret_bool HE.out.symm, hw0⟩
  }
  have e0 : (x.k == y.k) = true := by simpa using z0
  have Z0 := hide z0
  clear z0
  by_cases z1 : x.u = y.u
  rotate_left
  {
  have HE : Hid (sameM x y = false) := HM.out.trans (by simp [z1])
  have e1 : (x.u == y.u) = false := by simpa using z1
  clear z1 HQ
  go_enter Tryz.func81, Tryz.ntmps81
  go_wp2_with fail
  go_ret
  exact ⟨ret_bool HE.out.symm, hw0⟩
  }
  have e1 : (x.u == y.u) = true := by simpa using z1
  have Z1 := hide z1
  clear z1
  by_cases z2 : x.n = y.n
  rotate_left
  {
  have HE : Hid (sameM x y = false) := HM.out.trans (by simp [z2])
  have e2 : (x.n == y.n) = false := by simpa using z2
  clear z2 HQ
  go_enter Tryz.func81, Tryz.ntmps81
  go_wp2_with fail
  go_ret
  exact ⟨ret_bool HE.out.symm, hw0⟩
  }
  have e2 : (x.n == y.n) = true := by simpa using z2
  have Z2 := hide z2
  clear z2
  by_cases z3 : x.at' = y.at'
  rotate_left
  {
  have HE : Hid (sameM x y = false) := HM.out.trans (by simp [z3])
  have e3 : (x.at' == y.at') = false := by simpa using z3
  clear z3 HQ
  go_enter Tryz.func81, Tryz.ntmps81
  go_wp2_with fail
  go_ret
  exact ⟨ret_bool HE.out.symm, hw0⟩
  }
  have e3 : (x.at' == y.at') = true := by simpa using z3
  have Z3 := hide z3
  clear z3
  by_cases z4 : x.im = y.im
  rotate_left
  {
  have HE : Hid (sameM x y = false) := HM.out.trans (by simp [z4])
  have e4 : (x.im == y.im) = false := by simpa using z4
  clear z4 HQ
  go_enter Tryz.func81, Tryz.ntmps81
  go_wp2_with fail
  go_ret
  exact ⟨ret_bool HE.out.symm, hw0⟩
  }
  have e4 : (x.im == y.im) = true := by simpa using z4
  have Z4 := hide z4
  clear z4
  by_cases z5 : x.y = y.y
  rotate_left
  {
  have HE : Hid (sameM x y = false) := HM.out.trans (by simp [z5])
  have e5 : (x.y == y.y) = false := by simpa using z5
  clear z5 HQ
  go_enter Tryz.func81, Tryz.ntmps81
  go_wp2_with fail
  go_ret
  exact ⟨ret_bool HE.out.symm, hw0⟩
  }
  have e5 : (x.y == y.y) = true := by simpa using z5
  have Z5 := hide z5
  clear z5
  have HE : Hid (sameM x y = q) := HM.out.trans (by simp [Z0.out, Z1.out, Z2.out, Z3.out, Z4.out, Z5.out])
  clear HM
  go_enter Tryz.func81, Tryz.ntmps81
  go_wp2_with fail
  refine (unhide HQ).mono ?_
  rintro e w1 ⟨rfl, m, rfl⟩
  go_wp2_with fail
  go_ret
  exact ⟨ret_bool HE.out.symm, below_drewN hw0 m⟩

def eqM : List Ms → List Ms → Bool
  | [], [] => true
  | x :: xs, y :: ys => sameM x y && eqM xs ys
  | _, _ => false
theorem eqM_len : ∀ {xs ys : List Ms}, xs.length ≠ ys.length → eqM xs ys = false
  | [], [], h => absurd rfl h
  | [], _ :: _, _ => rfl
  | _ :: _, [], _ => rfl
  | x :: xs, y :: ys, h => by
    unfold eqM
    rw [eqM_len (by simpa using h)]
    simp
theorem eqM_refl : ∀ xs : List Ms, eqM xs xs = true
  | [] => rfl
  | x :: xs => by unfold eqM; rw [eqM_refl xs, (sameM_eq x x).2 rfl]; rfl
theorem eqM_eq : ∀ {xs ys : List Ms}, eqM xs ys = true → xs = ys
  | [], [], _ => rfl
  | [], _ :: _, h => by simp [eqM] at h
  | _ :: _, [], h => by simp [eqM] at h
  | x :: xs, y :: ys, h => by
    simp [eqM] at h
    rw [(sameM_eq x y).1 h.1, eqM_eq h.2]
theorem eqM_ne {xs ys : List Ms} {k : Nat} (hx : k < xs.length) (hy : k < ys.length) (h : ¬ xs[k] = ys[k]) : eqM xs ys = false := by
  cases g : eqM xs ys
  { rfl }
  { have := eqM_eq g; subst this; exact absurd rfl h }
theorem eqM_take {xs ys : List Ms} {k : Nat} (hl : xs.length = ys.length) (hk : xs.length ≤ k) (h : xs.take k = ys.take k) : eqM xs ys = true := by
  rw [List.take_of_length_le hk, List.take_of_length_le (by omega)] at h
  rw [h]; exact eqM_refl _
theorem takeM_step {xs ys : List Ms} {k : Nat} (hx : k < xs.length) (hy : k < ys.length) (h : xs.take k = ys.take k) (he : xs[k] = ys[k]) : xs.take (k + 1) = ys.take (k + 1) := by
  rw [List.take_succ_eq_append_getElem hx, List.take_succ_eq_append_getElem hy, h, he]

set_option maxRecDepth 100000 in
set_option maxHeartbeats 3200000 in
theorem equalMsgs_any (a0 a1 : Option Addr) (n0 n1 c0 c1 : Nat) (xs ys : List Ms) (w : World) (h0 : IsMsw w a0 xs) (h1 : IsMsw w a1 ys) (e0 : xs.length = n0) (e1 : ys.length = n1) (hx : n0 ≤ 1000000) (hy : n1 ≤ 1000000) :
    Calls Tryz.prog 80 #[.slice a0 n0 c0, .slice a1 n1 c1, .func (.func 81) #[] #[]] w fun e w' => e = .returned (.bool (eqM xs ys)) ∧ Below w.heap.size w w' := by
  subst e0 e1
  have HS := hide sameMsg_any
  unfold msv at HS
  by_cases hl : xs.length = ys.length
  {
  have hbl : ((xs.length : Int) != (ys.length : Int)) = false := by simp [hl]
  have HL : Hid (xs.length = ys.length) := hl
  have H0 := hide h0
  have H1 := hide h1
  clear hl h0 h1
  go_enter Tryz.func80, Tryz.ntmps80
  go_wp2_with fail
  go_loopw [17] (fun i wr => ∃ k : Nat, k ≤ xs.length ∧ i = .int .i64 k ∧ Hid (xs.take k = ys.take k) ∧ Below w.heap.size w wr) (fun i _ => xs.length - (intOf i).toNat)
  case atStart => exact ⟨0, Nat.zero_le _, rfl, rfl, Below.refl _ _⟩
  case round =>
    obtain ⟨wq, rfl⟩ : ∃ wq : World, wq = wr := ⟨_, rfl⟩
    obtain ⟨k, hk, rfl, HT, hbel⟩ := hrel
    by_cases hlt : k < xs.length
    {
    have hlt2 : k < ys.length := by have := HL.out; omega
    rcases H0.out.below hbel with rfl | ⟨b0, o0, rfl, hc0⟩
    { simp at hlt }
    rcases H1.out.below hbel with rfl | ⟨b1, o1, rfl, hc1⟩
    { simp at hlt2 }
    obtain ⟨p, hp⟩ : ∃ p, p = xs[k] := ⟨_, rfl⟩
    obtain ⟨q, hq⟩ : ∃ q, q = ys[k] := ⟨_, rfl⟩
    obtain ⟨ai, ni, ci, k0, k1, k2, k3, k4, k5, k6, k7⟩ := hc0 k p (by rw [hp]; exact List.getElem?_eq_getElem hlt)
    obtain ⟨aj, nj, cj, l0, l1, l2, l3, l4, l5, l6, l7⟩ := hc1 k q (by rw [hq]; exact List.getElem?_eq_getElem hlt2)
    have HPQ : Hid (p = xs[k] ∧ q = ys[k]) := ⟨hp, hq⟩
    have K0 := hide k0
    have L0 := hide l0
    clear hc0 hc1 hp hq k0 l0
    have hbA : Below wq.heap.size wq (wq.alloc (.cells #[.int .i64 p.k, .int .i64 p.u, .int .i64 p.n, .int .i64 p.at', .int .i64 p.im, .slice ai ni ci, .bool p.y] 31)) := (Below.refl _ _).alloc (Nat.le_refl _) _
    have r1 := (hbA.cell (cell_lt l1)).trans l1
    have r2 := (hbA.cell (cell_lt l2)).trans l2
    have r3 := (hbA.cell (cell_lt l3)).trans l3
    have r4 := (hbA.cell (cell_lt l4)).trans l4
    have r5 := (hbA.cell (cell_lt l5)).trans l5
    have r6 := (hbA.cell (cell_lt l6)).trans l6
    have r7 := (hbA.cell (cell_lt l7)).trans l7
    clear l1 l2 l3 l4 l5 l6 l7
    go_wp2_with fail
    have hbC := below_new hbA (.cells #[.int .i64 q.k, .int .i64 q.u, .int .i64 q.n, .int .i64 q.at', .int .i64 q.im, .slice aj nj cj, .bool q.y] 31)
    refine (unhide HS p _ _ _ q _ _ _ _ (K0.out.below hbC) (L0.out.below hbC)).mono ?_
    rintro e w1 ⟨rfl, hb⟩
    have hbel1 := hbel.trans (hbC.mono hbel.size)
    have hbel2 := hbel1.trans (hb.mono hbel1.size)
    clear hb hbA hbC hbel1 hbel k1 k2 k3 k4 k5 k6 k7 r1 r2 r3 r4 r5 r6 r7
    by_cases he : p = q
    {
    have hb : sameM p q = true := (sameM_eq p q).2 he
    have HE : Hid (xs[k] = ys[k]) := by show _ = _; rw [← HPQ.out.1, ← HPQ.out.2]; exact he
    rw [hb]
    clear he hb
    go_wp2_with fail
    go_roundw
    case rel => exact ⟨k + 1, by omega, by go_num, takeM_step hlt hlt2 HT.out HE.out, hbel2⟩
    case measure => simp [intOf]; omega
    }
    {
    have hb : sameM p q = false := by
      cases g : sameM p q
      { rfl }
      { exact absurd ((sameM_eq p q).1 g) he }
    have HE : Hid (¬ xs[k] = ys[k]) := by show ¬ _; rw [← HPQ.out.1, ← HPQ.out.2]; exact he
    rw [hb]
    clear he hb
    go_wp2_with fail
    go_ret
    exact ⟨ret_bool (eqM_ne hlt hlt2 HE.out).symm, hbel2⟩
    }
    }
    {
    go_wp2_with fail
    go_ret
    exact ⟨ret_bool (eqM_take HL.out (by omega) HT.out).symm, hbel⟩
    }
  }
  {
  have hbl : ((xs.length : Int) != (ys.length : Int)) = true := by simp; omega
  go_enter Tryz.func80, Tryz.ntmps80
  go_wp2_with fail
  go_ret
  exact ⟨ret_bool (eqM_len hl).symm, Below.refl _ _⟩

  }
set_option maxRecDepth 100000 in
set_option maxHeartbeats 400000 in
theorem sameMessages_any (a0 a1 : Option Addr) (n0 n1 c0 c1 : Nat) (xs ys : List Ms) (w : World) (h0 : IsMsw w a0 xs) (h1 : IsMsw w a1 ys) (e0 : xs.length = n0) (e1 : ys.length = n1) (hx : n0 ≤ 1000000) (hy : n1 ≤ 1000000) :
    Calls Tryz.prog 28 #[.slice a0 n0 c0, .slice a1 n1 c1] w fun e w' => e = .returned (.bool (eqM xs ys)) ∧ Below w.heap.size w w' := by
  have HE := hide (equalMsgs_any a0 a1 n0 n1 c0 c1 xs ys w h0 h1 e0 e1 hx hy)
  clear e0 e1
  go_enter Tryz.func28, Tryz.ntmps28
  go_wp2_with fail
  refine (unhide HE).mono ?_
  rintro e w1 ⟨rfl, hb⟩
  go_wp2_with fail
  go_ret
  exact ⟨rfl, hb⟩

end Go.Proofs.YtgngpmgjoifepaaGreatDoor
