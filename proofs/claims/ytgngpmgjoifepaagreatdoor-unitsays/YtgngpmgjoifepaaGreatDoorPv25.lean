/- The contracts of unit.hearCommit, hearAbort. The contract of slices.Clone at ints, for seats without signatures; of unit.twin. -/
import Derived.Test.YtgngpmgjoifepaaGreatDoorPv21
import Derived.BigQuiet
import Derived.Test.YtgngpmgjoifepaaGreatDoorPv0
import Derived.Deep.AppendLies
import Derived.Lib.AppendZeros
import Derived.Maps.AppendAt
namespace Go.Proofs.YtgngpmgjoifepaaGreatDoor
open Go.RowKit
attribute [local go_sem ↓] Go.wp_at_zero Go.wp_at_succ

/-- One step. -/
theorem change1_any (B : Nat) (st : Stu) (u : Un) (v : Value) (t : TypeId) (w : World) (hU : OwnU w B u) (hs : IsStu w B v st) :
    Calls Tryz.prog 56 #[.pointer (some ⟨B, 0, none⟩), .slice (some ⟨w.heap.size, 0, none⟩) 1 1] (w.alloc (.cells #[v] t)) fun e w' => e = .returned (.bool (doV u st).2) ∧ OwnU w' B (doV u st).1 ∧ w.grownBy w' (some B) := by
  have hb := heap_alloc_last w (.cells #[v] t)
  have hbA : Below w.heap.size w (w.alloc (.cells #[v] t)) := (Below.refl _ _).alloc (Nat.le_refl _) _
  refine (unitChange_any B w.heap.size 1 1 [st] u _ (hU.below hbA) (fun i x hx => ?_) (by have := hU.lt; omega) rfl (by decide)).mono ?_
  · match i with
    | 0 => simp at hx; subst hx; exact ⟨v, blk_cell hb 0 _ rfl, hs.turns (turns_of hbA B)⟩
    | i + 1 => simp at hx
  · rintro e w' ⟨rfl, h2, h3⟩
    rw [turnU_one] at h2 ⊢
    exact ⟨rfl, h2, (turns_of hbA B).trans h3⟩

/-- What the inner calls of Hear hand back. -/
def HAns (w : World) (B : Nat) (r : Un × List Ms) (e : Ending) (w' : World) : Prop :=
  (∃ a n c, e = .returned (.slice a n c) ∧ IsMsgs w' a r.2 ∧ r.2.length = n ∧ n ≤ c ∧ c ≤ 1) ∧ OwnU w' B r.1 ∧ w.grownBy w' (some B)
theorem hAns_nil {w w' : World} {B : Nat} {u : Un} {r : Un × List Ms} (hr : r = (u, [])) (hu : OwnU w' B u) (hg : w.grownBy w' (some B)) : HAns w B r (.returned (.slice none 0 0)) w' := by
  subst hr
  exact ⟨⟨none, 0, 0, rfl, .inl rfl, rfl, Nat.le_refl _, by decide⟩, hu, hg⟩

/-- The two boxes: the state's, the message's. -/
structure HB (W : World) (X : Nat) (s : Us) (m : Ms) (a : Option Addr) (n c : Nat) : Prop where
  b0 : W.heap[X]? = some (.cells #[.int .i64 s.slot, .int .i64 s.by', .int .i64 s.rdy] 40 (0, 0))
  b1 : W.heap[X + 1]? = some (.cells #[.int .i64 m.k, .int .i64 m.u, .int .i64 m.n, .int .i64 m.at', .int .i64 m.im, .slice a n c, .bool m.y] 31 (0, 0))
theorem HB.turns {W W' : World} {X B : Nat} {s : Us} {m : Ms} {a : Option Addr} {n c : Nat} (h : HB W X s m a n c) (hg : W.grownBy W' (some B)) (hX : B < X) : HB W' X s m a n c := ⟨blk_turns h.b0 hg (by omega), blk_turns h.b1 hg (by omega)⟩
theorem HB.below {W W' : World} {X : Nat} {s : Us} {m : Ms} {a : Option Addr} {n c : Nat} (h : HB W X s m a n c) (hb : Below W.heap.size W W') : HB W' X s m a n c := ⟨blk_below h.b0 hb, blk_below h.b1 hb⟩
def hW (w : World) (s : Us) (m : Ms) (a : Option Addr) (n c : Nat) : World :=
  (w.alloc (.cells #[.int .i64 s.slot, .int .i64 s.by', .int .i64 s.rdy] 40)).alloc (.cells #[.int .i64 m.k, .int .i64 m.u, .int .i64 m.n, .int .i64 m.at', .int .i64 m.im, .slice a n c, .bool m.y] 31)
theorem hW_hb (w : World) (s : Us) (m : Ms) (a : Option Addr) (n c : Nat) : HB (hW w s m a n c) w.heap.size s m a n c := ⟨blk_alloc (heap_alloc_last _ _) _, uLast1 _ _ _⟩
theorem hW_below (w : World) (s : Us) (m : Ms) (a : Option Addr) (n c : Nat) : Below w.heap.size w (hW w s m a n c) := ((Below.refl _ _).alloc (Nat.le_refl _) _).alloc (by simp) _

/-- What regions read of the boxes. -/
def HS (X : Nat) (s : Us) (m : Ms) (a : Option Addr) (n c : Nat) (W : World) : Prop :=
  W.cell? ⟨X, 0, none⟩ = some (.int .i64 s.slot) ∧ W.cell? ⟨X, 1, none⟩ = some (.int .i64 s.by') ∧ W.cell? ⟨X, 2, none⟩ = some (.int .i64 s.rdy) ∧ W.cell? ⟨X + 1, 2, none⟩ = some (.int .i64 m.n) ∧ W.cell? ⟨X + 1, 3, none⟩ = some (.int .i64 m.at') ∧ W.cell? ⟨X + 1, 4, none⟩ = some (.int .i64 m.im) ∧ W.cell? ⟨X + 1, 5, none⟩ = some (.slice a n c)
theorem HB.hs {W : World} {X : Nat} {s : Us} {m : Ms} {a : Option Addr} {n c : Nat} (h : HB W X s m a n c) : HS X s m a n c W :=
  ⟨blk_cell h.b0 0 _ rfl, blk_cell h.b0 1 _ rfl, blk_cell h.b0 2 _ rfl, blk_cell h.b1 2 _ rfl, blk_cell h.b1 3 _ rfl, blk_cell h.b1 4 _ rfl, blk_cell h.b1 5 _ rfl⟩

theorem comS_1 {u : Un} {s : Us} {m : Ms} (h : s.by' = m.n) : comS u s m = (u, [doneM m]) := by unfold comS; rw [if_pos h]
theorem comS_2 {u : Un} {s : Us} {m : Ms} (h : ¬ s.by' = m.n) (h2 : ¬ s.rdy = m.n) : comS u s m = (u, []) := by unfold comS; rw [if_neg h, if_pos h2]
theorem comS_3 {u : Un} {s : Us} {m : Ms} (h : ¬ s.by' = m.n) (h2 : s.rdy = m.n) (h3 : (doV u (.not s [1, oth s, m.n])).2 = true) : comS u s m = ((doV u (.not s [1, oth s, m.n])).1, [doneM m]) := by unfold comS; rw [if_neg h, if_neg (by simpa using h2), if_pos h3]
theorem comS_4 {u : Un} {s : Us} {m : Ms} (h : ¬ s.by' = m.n) (h2 : s.rdy = m.n) (h3 : (doV u (.not s [1, oth s, m.n])).2 = false) : comS u s m = ((doV u (.not s [1, oth s, m.n])).1, []) := by unfold comS; rw [if_neg h, if_neg (by simpa using h2), if_neg (by rw [h3]; decide)]
theorem aboS_1 {u : Un} {s : Us} {m : Ms} (h : m.n ≤ s.by') : aboS u s m = (u, []) := by unfold aboS; rw [if_pos h]
theorem aboS_2 {u : Un} {s : Us} {m : Ms} (h : ¬ m.n ≤ s.by') (h2 : ¬ s.rdy = m.n) : aboS u s m = aboB u m := by unfold aboS; rw [if_neg h, if_neg h2]
theorem aboS_3 {u : Un} {s : Us} {m : Ms} (h : ¬ m.n ≤ s.by') (h2 : s.rdy = m.n) (h3 : (doV u (.not s [3, m.n])).2 = true) : aboS u s m = aboB (doV u (.not s [3, m.n])).1 m := by unfold aboS; rw [if_neg h, if_pos h2, if_pos h3]
theorem aboS_4 {u : Un} {s : Us} {m : Ms} (h : ¬ m.n ≤ s.by') (h2 : s.rdy = m.n) (h3 : (doV u (.not s [3, m.n])).2 = false) : aboS u s m = ((doV u (.not s [3, m.n])).1, []) := by unfold aboS; rw [if_neg h, if_pos h2, if_neg (by rw [h3]; decide)]
theorem aboB_1 {u : Un} {m : Ms} (h : u.n = m.n) : aboB u m = (mind u 0 0, [doneM m]) := by unfold aboB; rw [if_pos h]
theorem aboB_2 {u : Un} {m : Ms} (h : ¬ u.n = m.n) : aboB u m = (u, [doneM m]) := by unfold aboB; rw [if_neg h]

theorem bi_made3 (w : World) (x y z : Int) (t : TypeId) : BI (w.alloc (.cells #[.int .i64 x, .int .i64 y, .int .i64 z] t)) (some ⟨w.heap.size, 0, none⟩) 3 [x, y, z] :=
  ⟨isInts3 (blk_cell (heap_alloc_last _ _) 0 _ rfl) (blk_cell (heap_alloc_last _ _) 1 _ rfl) (blk_cell (heap_alloc_last _ _) 2 _ rfl), rfl, by decide⟩
theorem bi_made2 (w : World) (x y : Int) (t : TypeId) : BI (w.alloc (.cells #[.int .i64 x, .int .i64 y] t)) (some ⟨w.heap.size, 0, none⟩) 2 [x, y] :=
  ⟨isInts2 (blk_cell (heap_alloc_last _ _) 0 _ rfl) (blk_cell (heap_alloc_last _ _) 1 _ rfl), rfl, by decide⟩

set_option maxRecDepth 100000 in
set_option maxHeartbeats 3200000 in
theorem hearCommit_any (B : Nat) (u : Un) (s : Us) (m : Ms) (a : Option Addr) (n c : Nat) (w : World) (hU : OwnU w B u) (hs0 : 0 ≤ s.slot) (hs1 : s.slot ≤ 1) :
    Calls Tryz.prog 105 #[.pointer (some ⟨B, 0, none⟩), usv s, msv m a n c] w (HAns w B (comS u s m)) := by
  have hb := hide (hW_hb w s m a n c)
  have hw0 := hW_below w s m a n c
  have hB := hU.lt
  have hU0 := hide (hU.below hw0)
  clear hU
  unfold usv msv
  have q := hb.out.hs
  unfold HS at q
  obtain ⟨x0, x1, x2, y2, y3, y4, y5⟩ := q
  by_cases z1 : s.by' = m.n
  · have HE := hide (comS_1 (u := u) z1)
    have d1 : (s.by' == m.n) = true := by simpa using z1
    have b1 := hide hb.out.b1
    clear z1
    unfold hW at x0 x1 x2 y2 y3 y4 y5 hw0 hU0 b1
    have v0 := blk_cell b1.out 0 _ rfl
    have v1 := blk_cell b1.out 1 _ rfl
    have v6 := blk_cell b1.out 6 _ rfl
    go_enter Tryz.func105, Tryz.ntmps105
    go_wp2_with fail
    refine (done_any m a n c _).mono ?_
    rintro e w1 ⟨⟨b, rfl, hm, _⟩, hb1⟩
    go_wp2_with fail
    go_ret
    rw [HE.out]
    exact ⟨⟨_, 1, 1, rfl, hm, rfl, Nat.le_refl _, Nat.le_refl _⟩, hU0.out.below hb1, (turns_of hw0 B).trans (turns_of hb1 B)⟩
  have d1 : (s.by' == m.n) = false := by simpa using z1
  have Z1 := hide z1
  go_enter Tryz.func105, Tryz.ntmps105
  unfold hW at x0 x1 x2 y2 y3 y4 y5
  go_upto_region 3 with fail
  clear x0 x1 x2 y2 y3 y4 y5
  rw [show (w.alloc (.cells #[.int .i64 s.slot, .int .i64 s.by', .int .i64 s.rdy] 40)).alloc (.cells #[.int .i64 m.k, .int .i64 m.u, .int .i64 m.n, .int .i64 m.at', .int .i64 m.im, .slice a n c, .bool m.y] 31) = hW w s m a n c from rfl]
  generalize hW w s m a n c = W at *
  by_cases z2 : s.rdy = m.n
  rotate_left
  · have HE := hide (comS_2 (u := u) z1 z2)
    have d2 : (s.rdy != m.n) = true := by simpa using z2
    clear z1 z2
    refine wp_region_held_drew (S := fun W' => W'.cell? ⟨w.heap.size, 0, none⟩ = some (.int .i64 s.slot) ∧ W'.cell? ⟨w.heap.size, 1, none⟩ = some (.int .i64 s.by') ∧ W'.cell? ⟨w.heap.size, 2, none⟩ = some (.int .i64 s.rdy) ∧ W'.cell? ⟨w.heap.size + 1, 2, none⟩ = some (.int .i64 m.n) ∧ W'.cell? ⟨w.heap.size + 1, 3, none⟩ = some (.int .i64 m.at') ∧ W'.cell? ⟨w.heap.size + 1, 4, none⟩ = some (.int .i64 m.im) ∧ W'.cell? ⟨w.heap.size + 1, 5, none⟩ = some (.slice a n c)) (by kernel_rfl) hb.out.hs ?_
    intro hHeld
    refine wpAnyH_take (i := 0) (v := ?_) (by simp only [List.getElem?_toArray, List.getElem?_cons_zero]; rfl) (by kernel_rfl) (by kernel_rfl) (by kernel_rfl) (by exact fun _ _ _ h => h) (Or.inl ⟨by rfl, ?_⟩) (by assumption) ?_
    rotate_left
    · intro w hSw
      try dsimp only at hSw
      go_simp
      try with_reducible rfl
    try simp only [Act.put, List.setIfInBounds_toArray, List.set_cons_zero, List.set_cons_succ]
    refine wpAnyH_take (i := 1) (v := ?_) (by simp only [List.getElem?_toArray, List.getElem?_cons_zero, List.getElem?_cons_succ]; rfl) (by kernel_rfl) (by kernel_rfl) (by kernel_rfl) (by exact fun _ _ _ h => h) (Or.inl ⟨by rfl, ?_⟩) (by assumption) ?_
    rotate_left
    · intro w hSw
      try dsimp only at hSw
      go_simp
      try with_reducible rfl
    try simp only [Act.put, List.setIfInBounds_toArray, List.set_cons_zero, List.set_cons_succ]
    refine wpAnyH_take (i := 2) (v := ?_) (by simp only [List.getElem?_toArray, List.getElem?_cons_zero, List.getElem?_cons_succ]; rfl) (by kernel_rfl) (by kernel_rfl) (by kernel_rfl) (by exact fun _ _ _ h => h) (Or.inl ⟨by rfl, ?_⟩) (by assumption) ?_
    rotate_left
    · intro w hSw
      try dsimp only at hSw
      go_simp
      try with_reducible rfl
    try simp only [Act.put, List.setIfInBounds_toArray, List.set_cons_zero, List.set_cons_succ]
    refine wpAnyH_take (i := 3) (v := ?_) (by simp only [List.getElem?_toArray, List.getElem?_cons_zero, List.getElem?_cons_succ]; rfl) (by kernel_rfl) (by kernel_rfl) (by kernel_rfl) (by exact fun _ _ _ h => h) (Or.inl ⟨by rfl, ?_⟩) (by assumption) ?_
    rotate_left
    · intro w hSw
      try dsimp only at hSw
      go_simp
      try with_reducible rfl
    try simp only [Act.put, List.setIfInBounds_toArray, List.set_cons_zero, List.set_cons_succ]
    refine wpAnyH_take (i := 4) (v := ?_) (by simp only [List.getElem?_toArray, List.getElem?_cons_zero, List.getElem?_cons_succ]; rfl) (by kernel_rfl) (by kernel_rfl) (by kernel_rfl) (by exact fun _ _ _ h => h) (Or.inl ⟨by rfl, ?_⟩) (by assumption) ?_
    rotate_left
    · intro w hSw
      try dsimp only at hSw
      go_simp
      try with_reducible rfl
    try simp only [Act.put, List.setIfInBounds_toArray, List.set_cons_zero, List.set_cons_succ]
    refine wpAnyH_take (i := 5) (v := ?_) (by simp only [List.getElem?_toArray, List.getElem?_cons_zero, List.getElem?_cons_succ]; rfl) (by kernel_rfl) (by kernel_rfl) (by kernel_rfl) (by exact fun _ _ _ h => h) (Or.inl ⟨by rfl, ?_⟩) (by assumption) ?_
    rotate_left
    · intro w hSw
      try dsimp only at hSw
      go_simp
      try with_reducible rfl
    try simp only [Act.put, List.setIfInBounds_toArray, List.set_cons_zero, List.set_cons_succ]
    refine wpAnyH_take (i := 6) (v := undef) (by simp only [List.getElem?_toArray, List.getElem?_cons_zero, List.getElem?_cons_succ]; rfl) (by kernel_rfl) (by kernel_rfl) (by kernel_rfl) (by exact fun _ _ _ h => h) (Or.inr ⟨by rfl, rfl⟩) (by assumption) ?_
    try simp only [Act.put, List.setIfInBounds_toArray, List.set_cons_zero, List.set_cons_succ]
    refine wpAnyH_take (i := 7) (v := undef) (by simp only [List.getElem?_toArray, List.getElem?_cons_zero, List.getElem?_cons_succ]; rfl) (by kernel_rfl) (by kernel_rfl) (by kernel_rfl) (by exact fun _ _ _ h => h) (Or.inr ⟨by rfl, rfl⟩) (by assumption) ?_
    try simp only [Act.put, List.setIfInBounds_toArray, List.set_cons_zero, List.set_cons_succ]
    refine wpAnyH_take (i := 8) (v := undef) (by simp only [List.getElem?_toArray, List.getElem?_cons_zero, List.getElem?_cons_succ]; rfl) (by kernel_rfl) (by kernel_rfl) (by kernel_rfl) (by exact fun _ _ _ h => h) (Or.inr ⟨by rfl, rfl⟩) (by assumption) ?_
    try simp only [Act.put, List.setIfInBounds_toArray, List.set_cons_zero, List.set_cons_succ]
    refine wpAnyH_take (i := 9) (v := undef) (by simp only [List.getElem?_toArray, List.getElem?_cons_zero, List.getElem?_cons_succ]; rfl) (by kernel_rfl) (by kernel_rfl) (by kernel_rfl) (by exact fun _ _ _ h => h) (Or.inr ⟨by rfl, rfl⟩) (by assumption) ?_
    try simp only [Act.put, List.setIfInBounds_toArray, List.set_cons_zero, List.set_cons_succ]
    refine wpAnyH_take (i := 10) (v := undef) (by simp only [List.getElem?_toArray, List.getElem?_cons_zero, List.getElem?_cons_succ]; rfl) (by kernel_rfl) (by kernel_rfl) (by kernel_rfl) (by exact fun _ _ _ h => h) (Or.inr ⟨by rfl, rfl⟩) (by assumption) ?_
    try simp only [Act.put, List.setIfInBounds_toArray, List.set_cons_zero, List.set_cons_succ]
    refine wpAnyH_take (i := 11) (v := undef) (by simp only [List.getElem?_toArray, List.getElem?_cons_zero, List.getElem?_cons_succ]; rfl) (by kernel_rfl) (by kernel_rfl) (by kernel_rfl) (by exact fun _ _ _ h => h) (Or.inr ⟨by rfl, rfl⟩) (by assumption) ?_
    try simp only [Act.put, List.setIfInBounds_toArray, List.set_cons_zero, List.set_cons_succ]
    refine wpAnyH_take (i := 12) (v := undef) (by simp only [List.getElem?_toArray, List.getElem?_cons_zero, List.getElem?_cons_succ]; rfl) (by kernel_rfl) (by kernel_rfl) (by kernel_rfl) (by exact fun _ _ _ h => h) (Or.inr ⟨by rfl, rfl⟩) (by assumption) ?_
    try simp only [Act.put, List.setIfInBounds_toArray, List.set_cons_zero, List.set_cons_succ]
    refine wpAnyH_take (i := 13) (v := undef) (by simp only [List.getElem?_toArray, List.getElem?_cons_zero, List.getElem?_cons_succ]; rfl) (by kernel_rfl) (by kernel_rfl) (by kernel_rfl) (by exact fun _ _ _ h => h) (Or.inr ⟨by rfl, rfl⟩) (by assumption) ?_
    try simp only [Act.put, List.setIfInBounds_toArray, List.set_cons_zero, List.set_cons_succ]
    refine wpAnyH_take (i := 14) (v := undef) (by simp only [List.getElem?_toArray, List.getElem?_cons_zero, List.getElem?_cons_succ]; rfl) (by kernel_rfl) (by kernel_rfl) (by kernel_rfl) (by exact fun _ _ _ h => h) (Or.inr ⟨by rfl, rfl⟩) (by assumption) ?_
    try simp only [Act.put, List.setIfInBounds_toArray, List.set_cons_zero, List.set_cons_succ]
    refine wpAnyH_take (i := 15) (v := undef) (by simp only [List.getElem?_toArray, List.getElem?_cons_zero, List.getElem?_cons_succ]; rfl) (by kernel_rfl) (by kernel_rfl) (by kernel_rfl) (by exact fun _ _ _ h => h) (Or.inr ⟨by rfl, rfl⟩) (by assumption) ?_
    try simp only [Act.put, List.setIfInBounds_toArray, List.set_cons_zero, List.set_cons_succ]
    refine wpAnyH_take (i := 16) (v := undef) (by simp only [List.getElem?_toArray, List.getElem?_cons_zero, List.getElem?_cons_succ]; rfl) (by kernel_rfl) (by kernel_rfl) (by kernel_rfl) (by exact fun _ _ _ h => h) (Or.inr ⟨by rfl, rfl⟩) (by assumption) ?_
    try simp only [Act.put, List.setIfInBounds_toArray, List.set_cons_zero, List.set_cons_succ]
    refine wpAnyH_take (i := 17) (v := ?_) (by simp only [List.getElem?_toArray, List.getElem?_cons_zero, List.getElem?_cons_succ]; rfl) (by kernel_rfl) (by kernel_rfl) (by kernel_rfl) (by exact fun _ _ _ h => h) (Or.inl ⟨by rfl, ?_⟩) (by assumption) ?_
    rotate_left
    · intro w hSw
      try dsimp only at hSw
      go_simp
      try with_reducible rfl
    try simp only [Act.put, List.setIfInBounds_toArray, List.set_cons_zero, List.set_cons_succ]
    refine wpAnyH_done (by kernel_rfl) ?_ _
    go_wp2_with fail
    go_ret
    exact hAns_nil HE.out (hU0.out.below (Below.refl _ _).drew) (grown_drew' (turns_of hw0 B))
  have d2 : (s.rdy != m.n) = false := by simpa using z2
  have HE3 := hide (comS_3 (u := u) z1 z2)
  have HE4 := hide (comS_4 (u := u) z1 z2)
  have hne : w.heap.size ≠ B := by omega
  clear z1 z2
  refine wp_region_held_drew (S := fun W' => W'.cell? ⟨w.heap.size, 0, none⟩ = some (.int .i64 s.slot) ∧ W'.cell? ⟨w.heap.size, 1, none⟩ = some (.int .i64 s.by') ∧ W'.cell? ⟨w.heap.size, 2, none⟩ = some (.int .i64 s.rdy) ∧ W'.cell? ⟨w.heap.size + 1, 2, none⟩ = some (.int .i64 m.n) ∧ W'.cell? ⟨w.heap.size + 1, 3, none⟩ = some (.int .i64 m.at') ∧ W'.cell? ⟨w.heap.size + 1, 4, none⟩ = some (.int .i64 m.im) ∧ W'.cell? ⟨w.heap.size + 1, 5, none⟩ = some (.slice a n c)) (by kernel_rfl) hb.out.hs ?_
  intro hHeld
  refine wpAnyH_take (i := 0) (v := ?_) (by simp only [List.getElem?_toArray, List.getElem?_cons_zero]; rfl) (by kernel_rfl) (by kernel_rfl) (by kernel_rfl) (by exact fun _ _ _ h => h) (Or.inl ⟨by rfl, ?_⟩) (by assumption) ?_
  rotate_left
  · intro w hSw
    try dsimp only at hSw
    go_simp
    try with_reducible rfl
  try simp only [Act.put, List.setIfInBounds_toArray, List.set_cons_zero, List.set_cons_succ]
  refine wpAnyH_take (i := 1) (v := ?_) (by simp only [List.getElem?_toArray, List.getElem?_cons_zero, List.getElem?_cons_succ]; rfl) (by kernel_rfl) (by kernel_rfl) (by kernel_rfl) (by exact fun _ _ _ h => h) (Or.inl ⟨by rfl, ?_⟩) (by assumption) ?_
  rotate_left
  · intro w hSw
    try dsimp only at hSw
    go_simp
    try with_reducible rfl
  try simp only [Act.put, List.setIfInBounds_toArray, List.set_cons_zero, List.set_cons_succ]
  refine wpAnyH_take (i := 2) (v := ?_) (by simp only [List.getElem?_toArray, List.getElem?_cons_zero, List.getElem?_cons_succ]; rfl) (by kernel_rfl) (by kernel_rfl) (by kernel_rfl) (by exact fun _ _ _ h => h) (Or.inl ⟨by rfl, ?_⟩) (by assumption) ?_
  rotate_left
  · intro w hSw
    try dsimp only at hSw
    go_simp
    try with_reducible rfl
  try simp only [Act.put, List.setIfInBounds_toArray, List.set_cons_zero, List.set_cons_succ]
  refine wpAnyH_take (i := 3) (v := ?_) (by simp only [List.getElem?_toArray, List.getElem?_cons_zero, List.getElem?_cons_succ]; rfl) (by kernel_rfl) (by kernel_rfl) (by kernel_rfl) (by exact fun _ _ _ h => h) (Or.inl ⟨by rfl, ?_⟩) (by assumption) ?_
  rotate_left
  · intro w hSw
    try dsimp only at hSw
    go_simp
    try with_reducible rfl
  try simp only [Act.put, List.setIfInBounds_toArray, List.set_cons_zero, List.set_cons_succ]
  refine wpAnyH_take (i := 4) (v := ?_) (by simp only [List.getElem?_toArray, List.getElem?_cons_zero, List.getElem?_cons_succ]; rfl) (by kernel_rfl) (by kernel_rfl) (by kernel_rfl) (by exact fun _ _ _ h => h) (Or.inl ⟨by rfl, ?_⟩) (by assumption) ?_
  rotate_left
  · intro w hSw
    try dsimp only at hSw
    go_simp
    try with_reducible rfl
  try simp only [Act.put, List.setIfInBounds_toArray, List.set_cons_zero, List.set_cons_succ]
  refine wpAnyH_take (i := 5) (v := ?_) (by simp only [List.getElem?_toArray, List.getElem?_cons_zero, List.getElem?_cons_succ]; rfl) (by kernel_rfl) (by kernel_rfl) (by kernel_rfl) (by exact fun _ _ _ h => h) (Or.inl ⟨by rfl, ?_⟩) (by assumption) ?_
  rotate_left
  · intro w hSw
    try dsimp only at hSw
    go_simp
    try with_reducible rfl
  try simp only [Act.put, List.setIfInBounds_toArray, List.set_cons_zero, List.set_cons_succ]
  refine wpAnyH_take (i := 6) (v := ?_) (by simp only [List.getElem?_toArray, List.getElem?_cons_zero, List.getElem?_cons_succ]; rfl) (by kernel_rfl) (by kernel_rfl) (by kernel_rfl) (by exact fun _ _ _ h => h) (Or.inl ⟨by rfl, ?_⟩) (by assumption) ?_
  rotate_left
  · intro w hSw
    try dsimp only at hSw
    go_simp
    try with_reducible rfl
  try simp only [Act.put, List.setIfInBounds_toArray, List.set_cons_zero, List.set_cons_succ]
  refine wpAnyH_take (i := 7) (v := ?_) (by simp only [List.getElem?_toArray, List.getElem?_cons_zero, List.getElem?_cons_succ]; rfl) (by kernel_rfl) (by kernel_rfl) (by kernel_rfl) (by exact fun _ _ _ h => h) (Or.inl ⟨by rfl, ?_⟩) (by assumption) ?_
  rotate_left
  · intro w hSw
    try dsimp only at hSw
    go_simp
    try with_reducible rfl
  try simp only [Act.put, List.setIfInBounds_toArray, List.set_cons_zero, List.set_cons_succ]
  refine wpAnyH_take (i := 8) (v := ?_) (by simp only [List.getElem?_toArray, List.getElem?_cons_zero, List.getElem?_cons_succ]; rfl) (by kernel_rfl) (by kernel_rfl) (by kernel_rfl) (by exact fun _ _ _ h => h) (Or.inl ⟨by rfl, ?_⟩) (by assumption) ?_
  rotate_left
  · intro w hSw
    try dsimp only at hSw
    go_simp
    try with_reducible rfl
  try simp only [Act.put, List.setIfInBounds_toArray, List.set_cons_zero, List.set_cons_succ]
  refine wpAnyH_take (i := 10) (v := ?_) (by simp only [List.getElem?_toArray, List.getElem?_cons_zero, List.getElem?_cons_succ]; rfl) (by kernel_rfl) (by kernel_rfl) (by kernel_rfl) (by exact fun _ _ _ h => h) (Or.inl ⟨by rfl, ?_⟩) (by assumption) ?_
  rotate_left
  · intro w hSw
    try dsimp only at hSw
    go_simp
    try with_reducible rfl
  try simp only [Act.put, List.setIfInBounds_toArray, List.set_cons_zero, List.set_cons_succ]
  refine wpAnyH_take (i := 11) (v := ?_) (by simp only [List.getElem?_toArray, List.getElem?_cons_zero, List.getElem?_cons_succ]; rfl) (by kernel_rfl) (by kernel_rfl) (by kernel_rfl) (by exact fun _ _ _ h => h) (Or.inl ⟨by rfl, ?_⟩) (by assumption) ?_
  rotate_left
  · intro w hSw
    try dsimp only at hSw
    go_simp
    try with_reducible rfl
  try simp only [Act.put, List.setIfInBounds_toArray, List.set_cons_zero, List.set_cons_succ]
  refine wpAnyH_ready (rs := [9]) (by kernel_rfl) (by simp) ?_
  refine AllReadyH.cons (by simp only [List.getElem?_toArray, List.getElem?_cons_zero, List.getElem?_cons_succ]; rfl) (fun K hK => ?_) AllReadyH.nil
  go_simp
  have hk0 : Below W.heap.size W W.drew := (Below.refl _ _).drew
  have HO := hide (other_any s W.drew hs0 hs1)
  refine (unhide HO).mono ?_
  rintro e w1 ⟨rfl, hb1⟩
  have hk1 := hk0.trans (hb1.mono hk0.size)
  clear hb1 HO hk0
  go_wp2_with fail
  refine hK.out _ _ ((hb.out.below hk1).hs) (fun hHeld => ?_)
  clear hK K
  try simp only [Act.put, List.setIfInBounds_toArray, List.set_cons_zero, List.set_cons_succ]
  refine wpAnyH_ready (rs := [12]) (by kernel_rfl) (by simp) ?_
  refine AllReadyH.cons (by simp only [List.getElem?_toArray, List.getElem?_cons_zero, List.getElem?_cons_succ]; rfl) (fun K hK => ?_) AllReadyH.nil
  go_simp
  have hk2 := below_new hk1 (.cells #[.int .i64 1, .int .i64 (oth s), .int .i64 m.n] 3)
  refine hK.out _ _ ((hb.out.below hk2).hs) (fun hHeld => ?_)
  clear hK K
  try simp only [Act.put, List.setIfInBounds_toArray, List.set_cons_zero, List.set_cons_succ]
  refine wpAnyH_ready (rs := [13]) (by kernel_rfl) (by simp) ?_
  refine AllReadyH.cons (by simp only [List.getElem?_toArray, List.getElem?_cons_zero, List.getElem?_cons_succ]; rfl) (fun K hK => ?_) AllReadyH.nil
  go_simp
  have HNt := hide (noting_any s (some ⟨w1.heap.size, 0, none⟩) 3 3 [1, oth s, m.n] B _ (by simp; have := hk1.size; have := hw0.size; omega) (bi_made3 w1 1 (oth s) m.n 3) (fun ad e => by cases e; show w1.heap.size ≠ B; have := hk1.size; have := hw0.size; omega))
  unfold usv at HNt
  refine (unhide HNt).mono ?_
  rintro e w3 ⟨⟨fn3, caps3, rfl, hv3⟩, hb3⟩
  have hk3 := hk2.trans (hb3.mono hk2.size)
  clear hb3 HNt
  go_wp2_with fail
  refine hK.out _ _ ((hb.out.below hk3).hs) (fun hHeld => ?_)
  clear hK K
  try simp only [Act.put, List.setIfInBounds_toArray, List.set_cons_zero, List.set_cons_succ]
  refine wpAnyH_ready (rs := [14]) (by kernel_rfl) (by simp) ?_
  refine AllReadyH.cons (by simp only [List.getElem?_toArray, List.getElem?_cons_zero, List.getElem?_cons_succ]; rfl) (fun K hK => ?_) AllReadyH.nil
  go_simp
  have hk4 := below_new hk3 (.cells #[.func (.func fn3) #[] caps3] 117)
  refine hK.out _ _ ((hb.out.below hk4).hs) (fun hHeld => ?_)
  clear hK K
  try simp only [Act.put, List.setIfInBounds_toArray, List.set_cons_zero, List.set_cons_succ]
  refine wpAnyH_ready (rs := [15]) (by kernel_rfl) (by simp) ?_
  refine AllReadyH.cons (by simp only [List.getElem?_toArray, List.getElem?_cons_zero, List.getElem?_cons_succ]; rfl) (fun K hK => ?_) AllReadyH.nil
  go_simp
  have HCh := hide (change1_any B _ u (.func (.func fn3) #[] caps3) 117 w3 (hU0.out.below hk3) hv3)
  refine (unhide HCh).mono ?_
  rintro e w5 ⟨rfl, hU5, hg5⟩
  have hg := (turns_of hk3 B).trans hg5
  have HU5 := hide hU5
  have HG := hide ((turns_of hw0 B).trans hg)
  have HB5 := hide (hb.out.turns hg hB)
  clear hU5 hg5 HCh hk1 hk2 hk3 hk4 hg
  generalize doV u (.not s [1, oth s, m.n]) = R at *
  go_wp2_with fail
  refine hK.out _ _ (HB5.out.hs) (fun hHeld => ?_)
  clear hK K
  try simp only [Act.put, List.setIfInBounds_toArray, List.set_cons_zero, List.set_cons_succ]
  refine wpAnyH_take (i := 16) (v := ?_) (by simp only [List.getElem?_toArray, List.getElem?_cons_zero, List.getElem?_cons_succ]; rfl) (by kernel_rfl) (by kernel_rfl) (by kernel_rfl) (by exact fun _ _ _ h => h) (Or.inl ⟨by rfl, ?_⟩) (by assumption) ?_
  rotate_left
  · intro w hSw
    try dsimp only at hSw
    go_simp
    try with_reducible rfl
  try simp only [Act.put, List.setIfInBounds_toArray, List.set_cons_zero, List.set_cons_succ]
  refine wpAnyH_take (i := 17) (v := ?_) (by simp only [List.getElem?_toArray, List.getElem?_cons_zero, List.getElem?_cons_succ]; rfl) (by kernel_rfl) (by kernel_rfl) (by kernel_rfl) (by exact fun _ _ _ h => h) (Or.inl ⟨by rfl, ?_⟩) (by assumption) ?_
  rotate_left
  · intro w hSw
    try dsimp only at hSw
    go_simp
    try with_reducible rfl
  try simp only [Act.put, List.setIfInBounds_toArray, List.set_cons_zero, List.set_cons_succ]
  refine wpAnyH_done (by kernel_rfl) ?_ _
  clear hHeld
  cases g : R.2
  · have HE := hide (HE4.out g)
    go_wp2_with fail
    go_ret
    exact hAns_nil HE.out HU5.out HG.out
  · have HE := hide (HE3.out g)
    have v0 := blk_cell HB5.out.b1 0 _ rfl
    have v1 := blk_cell HB5.out.b1 1 _ rfl
    have v2 := blk_cell HB5.out.b1 2 _ rfl
    have v3' := blk_cell HB5.out.b1 3 _ rfl
    have v4 := blk_cell HB5.out.b1 4 _ rfl
    have v5 := blk_cell HB5.out.b1 5 _ rfl
    have v6 := blk_cell HB5.out.b1 6 _ rfl
    have HDn := hide (done_any m a n c w5)
    unfold msv at HDn
    go_wp2_with fail
    refine (unhide HDn).mono ?_
    rintro e w6 ⟨⟨b, rfl, hm, _⟩, hb6⟩
    go_wp2_with fail
    go_ret
    rw [HE.out]
    exact ⟨⟨_, 1, 1, rfl, hm, rfl, Nat.le_refl _, Nat.le_refl _⟩, HU5.out.below hb6, HG.out.trans (turns_of hb6 B)⟩

end Go.Proofs.YtgngpmgjoifepaaGreatDoor

namespace Go.Proofs.YtgngpmgjoifepaaGreatDoor
open Go.RowKit

theorem ad_add (b off j : Nat) : (⟨b, off, none⟩ : Addr).add j = ⟨b, off + j, none⟩ := by unfold Addr.add; split <;> simp_all
theorem BI.news {w : World} {b off n : Nat} {xs : List Int} (h : BI w (some ⟨b, off, none⟩) n xs) : ∀ j u, (vals xs)[j]? = some u → w.cell? ((⟨b, off, none⟩ : Addr).add j) = some u := by
  intro j u hu
  have hj : j < xs.length := by
    have := (List.getElem?_eq_some_iff.1 hu).1
    simpa [vals] using this
  rw [vals_get xs j hj] at hu
  cases hu
  rcases h.at_ with e | ⟨b', off', e, hc⟩
  · rw [e] at hj; simp at hj
  · cases e
    rw [ad_add]
    exact hc j hj
theorem BI.spot {w : World} {a : Option Addr} {n : Nat} {xs : List Int} (h : BI w a n xs) (h0 : ¬ n = 0) : ∃ b off, a = some ⟨b, off, none⟩ := by
  rcases h.at_ with e | ⟨b, off, e, _⟩
  · have := h.len; rw [e] at this; simp at this; omega
  · exact ⟨b, off, e⟩

set_option maxRecDepth 100000 in
theorem append_emptyI (ty : TypeId) (g : Nat) (ad : Addr) (c : Nat) (w : World) :
    (Builtin.append_ #[25, 25] ty #[.slice (some ⟨g, 0, none⟩) 0 0, .slice (some ad) 0 c]).run Tryz.prog w = .ok (.slice (some ⟨g, 0, none⟩) 0 0) w := by
  obtain ⟨i0, hi0, hz0, hz1, hz2⟩ := info_parts info_int
  have hl : ∀ (x : Addr), (loadCells x 0).run Tryz.prog w = .ok #[] w := fun x => by simpa using run_loadCells_list (P := Tryz.prog) w x [] (by simp)
  simp [Builtin.append_, run_underlying Tryz.underlying25, Builtin.lenOf, Builtin.firstCells, sizeOf, typeInfo, hi0, storeCells, hl]

/-- What Clone answers: a row of its own, or nothing. -/
def ClI (w : World) (xs : List Int) (e : Ending) (w' : World) : Prop := (∃ a c, e = .returned (.slice a xs.length c) ∧ w'.ownsRow w.heap.size 3 1 (.slice a xs.length c) xs.length (vals xs)) ∧ Below w.heap.size w w'

set_option maxRecDepth 100000 in
set_option maxHeartbeats 1000000 in
theorem cloneI_any (a : Option Addr) (n c : Nat) (xs : List Int) (w : World) (h : BI w a n xs) (hb : n * 8 ≤ 140737488355328) :
    Calls Tryz.prog 102 #[.slice a n c] w (ClI w xs) := by
  obtain ⟨irr, hir, rz0, rz1, rz2⟩ := info_parts info_int
  have HN := hide h.len
  have heq := fun (a : Option Addr) (n c : Nat) (W : World) => Go.Lib.run_eql_slice_nil (P := Tryz.prog) W 25 _ a n c 0 0 Tryz.underlying25
  by_cases h0 : n = 0
  · subst h0
    have hx : xs = [] := List.eq_nil_of_length_eq_zero HN.out
    subst hx
    cases a with
    | none =>
      go_enter Tryz.func102, Tryz.ntmps102
      go_wp2
      go_ret
      exact ⟨⟨none, 0, rfl, World.ownsRow_nil _ _ _ _⟩, Below.refl _ _⟩
    | some ad =>
      have he := append_emptyI
      go_enter Tryz.func102, Tryz.ntmps102
      go_wp2
      go_ret
      exact ⟨⟨_, _, rfl, ⟨rfl, .inr ⟨w.heap.size, 0, #[], rfl, Nat.le_refl _, heap_alloc_last _ _, Nat.le_refl _, by decide, rfl, rfl⟩⟩⟩, (Below.refl _ _).alloc (Nat.le_refl _) _⟩
  · obtain ⟨b, off, rfl⟩ := h.spot h0
    have hW := (Below.refl _ w).alloc (Nat.le_refl _) (.cells #[] 3)
    have hnews := (h.below hW).news
    have hrow0 : (w.alloc (.cells #[] 3)).ownsRow w.heap.size 3 1 (.slice (some ⟨w.heap.size, 0, none⟩) 0 0) 0 [] :=
      ⟨rfl, .inr ⟨w.heap.size, 0, #[], rfl, Nat.le_refl _, heap_alloc_last _ _, Nat.le_refl _, by decide, rfl, rfl⟩⟩
    have HNW := hide hnews
    have hm := h.max
    clear h hnews
    go_enter Tryz.func102, Tryz.ntmps102
    go_wp2_with (at_builtin; refine wpList_append_lies _ rfl _ _ 25 rfl w.heap.size 3 irr _ 1 8 Tryz.underlying25 hir rz0 rz1 rz2 rfl (by omega) (.slice (some ⟨w.heap.size, 0, none⟩) 0 0) 0 [] rfl hrow0 ⟨b, off, none⟩ n c (vals xs) rfl (by rw [vals_length, HN.out, Nat.mul_one]) HNW.out (vals_one xs) (by omega) (by omega) (by omega) (by simp) (w.heap.size + 1) (by simp) ?_)
    intro g cap w1 hown hgrow hat hlt
    have hB : Below w.heap.size w w1 := ((Below.refl _ w).alloc (Nat.le_refl _) _).grown hgrow (by simp) (fun k hk => by simp [Value.ownBlock] at hk; omega)
    have HR := hide hown
    clear hown hgrow hat
    go_wp2
    go_ret
    rw [← HN.out] at HR ⊢
    exact ⟨⟨_, cap, by simp, HR.out⟩, hB⟩


theorem own_ints {w : World} {base n c : Nat} {a : Option Addr} {xs : List Int} (h : w.ownsRow base 3 1 (.slice a n c) n (vals xs)) (hn : xs.length = n) : IsInts w a xs ∧ FreshA base a ∧ n ≤ c := by
  obtain ⟨_, ⟨hv, h0⟩ | ⟨g, cap, cur, hv, hg, hh, hc, _, _, ht⟩⟩ := h
  · cases hv
    have : xs = [] := by
      apply List.eq_nil_of_length_eq_zero; omega
    exact ⟨.inl this, (fun _ e => by cases e), Nat.le_refl _⟩
  · cases hv
    refine ⟨.inr ⟨g, 0, rfl, fun i hi => ?_⟩, fun ad e => by cases e; exact hg, hc⟩
    rw [Nat.zero_add]
    refine blk_cell hh i _ ?_
    have hv := vals_get xs i hi
    rw [← ht, List.getElem?_take] at hv
    split at hv
    · simpa using hv
    · cases hv

/-- What twin answers: the unit, its words in memory of their own. -/
def UTwin (w : World) (u : Un) (e : Ending) (w' : World) : Prop :=
  (∃ a c, e = .returned (unv u a u.ws.length c) ∧ IsInts w' a u.ws ∧ FreshA w.heap.size a ∧ u.ws.length ≤ c) ∧ Below w.heap.size w w'

set_option maxRecDepth 100000 in
set_option maxHeartbeats 1600000 in
theorem unitTwin_any (u : Un) (a : Option Addr) (n c : Nat) (w : World) (h : BW w a n c u.ws) (hb : n * 8 ≤ 140737488355328) :
    Calls Tryz.prog 51 #[unv u a n c] w (UTwin w u) := by
  have hw0 : Below w.heap.size w ((w.alloc (unO u a n c)).alloc (unO ⟨[], 0, false, 0, 0⟩ none 0 0)) := ((Below.refl _ _).alloc (Nat.le_refl _) _).alloc (by simp) _
  have b0 : Hid (((w.alloc (unO u a n c)).alloc (unO ⟨[], 0, false, 0, 0⟩ none 0 0)).heap[w.heap.size]? = some (unO u a n c)) := blk_alloc (heap_alloc_last _ _) _
  have b1 : Hid (((w.alloc (unO u a n c)).alloc (unO ⟨[], 0, false, 0, 0⟩ none 0 0)).heap[w.heap.size + 1]? = some (unO ⟨[], 0, false, 0, 0⟩ none 0 0)) := uLast1 _ _ _
  have HC := hide (fun W (hW : Below w.heap.size w W) => cloneI_any a n c u.ws W (h.below hW).bi hb)
  clear h
  unfold unv
  unfold unO at hw0 b0 b1
  have x0 := blk_cell b0.out 0 _ rfl
  have f0 := blk_free b0.out 0
  go_enter Tryz.func51, Tryz.ntmps51
  go_wp2_with fail
  generalize (w.alloc (.cells #[.slice a n c, .int .i64 u.fu, .bool u.up, .int .i64 u.n, .int .i64 u.hv] 29)).alloc (.cells #[.slice none 0 0, .int .i64 0, .bool false, .int .i64 0, .int .i64 0] 29) = W at *
  refine (unhide HC _ hw0).mono ?_
  rintro e w1 ⟨⟨a1, c1, rfl, hown⟩, hb1⟩
  obtain ⟨hi1, hf1, hc1⟩ := own_ints hown rfl
  have HI := hide hi1
  have HF := hide hf1
  have HB1 := hide b1.out
  replace b0 := hide (blk_below b0.out hb1)
  replace b1 := hide (blk_below b1.out hb1)
  have hk := hw0.trans (hb1.mono hw0.size)
  clear hown hi1 hf1 hb1 x0 f0 HC
  have y0 := blk_cell b0.out 0 _ rfl
  have y1 := blk_cell b0.out 1 _ rfl
  have y2 := blk_cell b0.out 2 _ rfl
  have y3 := blk_cell b0.out 3 _ rfl
  have y4 := blk_cell b0.out 4 _ rfl
  have z0 := blk_cell b1.out 0 _ rfl
  have z1 := blk_cell b1.out 1 _ rfl
  have z2 := blk_cell b1.out 2 _ rfl
  have z3 := blk_cell b1.out 3 _ rfl
  have z4 := blk_cell b1.out 4 _ rfl
  have g0 := blk_free b0.out 0
  have h0 := blk_free b1.out 0
  have h1 := blk_free b1.out 1
  have h2 := blk_free b1.out 2
  have h3 := blk_free b1.out 3
  have h4 := blk_free b1.out 4
  go_wp2_with fail
  refine bodyPost_ret (v := unv u a1 u.ws.length c1) (by simp [results, Tryz.results51, go_sem, unv, z0, z1, z2, z3, z4]) rfl ?_
  have hx : w.heap.size ≤ w.heap.size + 1 := by omega
  have hs1 : w.heap.size + 1 < W.heap.size := blk_lt HB1.out
  refine ⟨⟨a1, c1, rfl, ?_, fun ad e => by have := HF.out ad e; have := hw0.size; omega, hc1⟩, ?_⟩
  · exact IsInts.other (IsInts.other (IsInts.other (IsInts.other (IsInts.other (IsInts.other HI.out HF.out (by omega) _ _) HF.out hs1 _ _) HF.out hs1 _ _) HF.out hs1 _ _) HF.out hs1 _ _) HF.out hs1 _ _
  · exact (((((hk.setCell (Nat.le_refl _) _).setCell hx _).setCell hx _).setCell hx _).setCell hx _).setCell hx _

end Go.Proofs.YtgngpmgjoifepaaGreatDoor
