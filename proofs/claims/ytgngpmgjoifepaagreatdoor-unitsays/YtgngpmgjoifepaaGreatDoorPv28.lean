/- The contract of unit.hearPrepare. -/
import Derived.Test.YtgngpmgjoifepaaGreatDoorPv27
namespace Go.Proofs.YtgngpmgjoifepaaGreatDoor
open Go.RowKit
attribute [local go_sem ↓] Go.wp_at_zero Go.wp_at_succ

structure PB (W : World) (X : Nat) (ab : Option Addr) (nb cb : Nat) (s : Us) (m : Ms) (a : Option Addr) (n c : Nat) : Prop where
  b0 : W.heap[X]? = some (.cells #[.slice ab nb cb] 24 (0, 0))
  b1 : W.heap[X + 1]? = some (.cells #[.int .i64 s.slot, .int .i64 s.by', .int .i64 s.rdy] 40 (0, 0))
  b2 : W.heap[X + 1 + 1]? = some (.cells #[.int .i64 m.k, .int .i64 m.u, .int .i64 m.n, .int .i64 m.at', .int .i64 m.im, .slice a n c, .bool m.y] 31 (0, 0))
theorem PB.turns {W W' : World} {X B : Nat} {ab : Option Addr} {nb cb : Nat} {s : Us} {m : Ms} {a : Option Addr} {n c : Nat} (h : PB W X ab nb cb s m a n c) (hg : W.grownBy W' (some B)) (hX : B < X) : PB W' X ab nb cb s m a n c := ⟨blk_turns h.b0 hg (by omega), blk_turns h.b1 hg (by omega), blk_turns h.b2 hg (by omega)⟩
theorem PB.below {W W' : World} {X : Nat} {ab : Option Addr} {nb cb : Nat} {s : Us} {m : Ms} {a : Option Addr} {n c : Nat} (h : PB W X ab nb cb s m a n c) (hb : Below W.heap.size W W') : PB W' X ab nb cb s m a n c := ⟨blk_below h.b0 hb, blk_below h.b1 hb, blk_below h.b2 hb⟩
theorem PB.ps {W : World} {X : Nat} {ab : Option Addr} {nb cb : Nat} {s : Us} {m : Ms} {a : Option Addr} {n c : Nat} (h : PB W X ab nb cb s m a n c) :
    W.cell? ⟨X, 0, none⟩ = some (.slice ab nb cb) ∧ W.cell? ⟨X + 1, 0, none⟩ = some (.int .i64 s.slot) ∧ W.cell? ⟨X + 1, 1, none⟩ = some (.int .i64 s.by') ∧ W.cell? ⟨X + 1, 2, none⟩ = some (.int .i64 s.rdy) ∧ W.cell? ⟨X + 1 + 1, 0, none⟩ = some (.int .i64 m.k) ∧ W.cell? ⟨X + 1 + 1, 1, none⟩ = some (.int .i64 m.u) ∧ W.cell? ⟨X + 1 + 1, 2, none⟩ = some (.int .i64 m.n) ∧ W.cell? ⟨X + 1 + 1, 3, none⟩ = some (.int .i64 m.at') ∧ W.cell? ⟨X + 1 + 1, 4, none⟩ = some (.int .i64 m.im) ∧ W.cell? ⟨X + 1 + 1, 5, none⟩ = some (.slice a n c) ∧ W.cell? ⟨X + 1 + 1, 6, none⟩ = some (.bool m.y) :=
  ⟨blk_cell h.b0 0 _ rfl, blk_cell h.b1 0 _ rfl, blk_cell h.b1 1 _ rfl, blk_cell h.b1 2 _ rfl, blk_cell h.b2 0 _ rfl, blk_cell h.b2 1 _ rfl, blk_cell h.b2 2 _ rfl, blk_cell h.b2 3 _ rfl, blk_cell h.b2 4 _ rfl, blk_cell h.b2 5 _ rfl, blk_cell h.b2 6 _ rfl⟩
theorem PB.psb {W : World} {X B : Nat} {ab : Option Addr} {nb cb : Nat} {s : Us} {m : Ms} {a : Option Addr} {n c : Nat} {u : Un} {ua : Option Addr} {un uc : Nat} (h : PB W X ab nb cb s m a n c) (hu : W.heap[B]? = some (unO u ua un uc)) :
    W.cell? ⟨X, 0, none⟩ = some (.slice ab nb cb) ∧ W.cell? ⟨X + 1, 0, none⟩ = some (.int .i64 s.slot) ∧ W.cell? ⟨X + 1, 1, none⟩ = some (.int .i64 s.by') ∧ W.cell? ⟨X + 1, 2, none⟩ = some (.int .i64 s.rdy) ∧ W.cell? ⟨X + 1 + 1, 0, none⟩ = some (.int .i64 m.k) ∧ W.cell? ⟨X + 1 + 1, 1, none⟩ = some (.int .i64 m.u) ∧ W.cell? ⟨X + 1 + 1, 2, none⟩ = some (.int .i64 m.n) ∧ W.cell? ⟨X + 1 + 1, 3, none⟩ = some (.int .i64 m.at') ∧ W.cell? ⟨X + 1 + 1, 4, none⟩ = some (.int .i64 m.im) ∧ W.cell? ⟨X + 1 + 1, 5, none⟩ = some (.slice a n c) ∧ W.cell? ⟨X + 1 + 1, 6, none⟩ = some (.bool m.y) ∧ W.cell? ⟨B, 0, none⟩ = some (.slice ua un uc) ∧ W.cell? ⟨B, 1, none⟩ = some (.int .i64 u.fu) := by
  unfold unO at hu
  exact ⟨blk_cell h.b0 0 _ rfl, blk_cell h.b1 0 _ rfl, blk_cell h.b1 1 _ rfl, blk_cell h.b1 2 _ rfl, blk_cell h.b2 0 _ rfl, blk_cell h.b2 1 _ rfl, blk_cell h.b2 2 _ rfl, blk_cell h.b2 3 _ rfl, blk_cell h.b2 4 _ rfl, blk_cell h.b2 5 _ rfl, blk_cell h.b2 6 _ rfl, blk_cell hu 0 _ rfl, blk_cell hu 1 _ rfl⟩
def pW (w : World) (ab : Option Addr) (nb cb : Nat) (s : Us) (m : Ms) (a : Option Addr) (n c : Nat) : World :=
  ((w.alloc (.cells #[.slice ab nb cb] 24)).alloc (.cells #[.int .i64 s.slot, .int .i64 s.by', .int .i64 s.rdy] 40)).alloc (.cells #[.int .i64 m.k, .int .i64 m.u, .int .i64 m.n, .int .i64 m.at', .int .i64 m.im, .slice a n c, .bool m.y] 31)
theorem pW_pb (w : World) (ab : Option Addr) (nb cb : Nat) (s : Us) (m : Ms) (a : Option Addr) (n c : Nat) : PB (pW w ab nb cb s m a n c) w.heap.size ab nb cb s m a n c := ⟨bk3.1, bk3.2.1, bk3.2.2⟩
theorem pW_below (w : World) (ab : Option Addr) (nb cb : Nat) (s : Us) (m : Ms) (a : Option Addr) (n c : Nat) : Below w.heap.size w (pW w ab nb cb s m a n c) := (((Below.refl _ _).alloc (Nat.le_refl _) _).alloc (by simp) _).alloc (by simp; omega) _

theorem one_set {W : World} {b : Nat} {v0 v : Value} {ty : TypeId} (h : W.heap[b]? = some (.cells #[v0] ty (0, 0))) : (W.setCell ⟨b, 0, none⟩ v).heap[b]? = some (.cells #[v] ty (0, 0)) := by
  simp only [World.setCell, Array.getElem?_modify]
  simp [h]
theorem prepS_1 {ss : List ByteArray} {u : Un} {s : Us} {m : Ms} (h : m.n ≤ s.by') : prepS ss u s m = (u, [doneM m]) := by unfold prepS; rw [if_pos h]
theorem prepS_2 {ss : List ByteArray} {u : Un} {s : Us} {m : Ms} (h : ¬ m.n ≤ s.by') (h2 : ¬ s.rdy = 0) : prepS ss u s m = (u, [voteM m (decide (s.rdy = m.n))]) := by unfold prepS; rw [if_neg h, if_pos h2]
theorem prepS_3 {ss : List ByteArray} {u : Un} {s : Us} {m : Ms} (h : ¬ m.n ≤ s.by') (h2 : s.rdy = 0) (h3 : ¬ (u.n = m.n ∧ u.hv = m.at' ∧ meantU ss u s m = true)) : prepS ss u s m = (u, [voteM m false]) := by unfold prepS; rw [if_neg h, if_neg (by simpa using h2), if_neg h3]
theorem prepS_4 {ss : List ByteArray} {u : Un} {s : Us} {m : Ms} (h : ¬ m.n ≤ s.by') (h2 : s.rdy = 0) (h3 : u.n = m.n ∧ u.hv = m.at' ∧ meantU ss u s m = true) : prepS ss u s m = prepB u s m (wordsU u s m) := by unfold prepS; rw [if_neg h, if_neg (by simpa using h2), if_pos h3]
theorem prepB_1 {u : Un} {s : Us} {m : Ms} {words : List Int} (h : (doV u (.sea (oth s) m.at' m.im)).2 = false) : prepB u s m words = ((doV u (.sea (oth s) m.at' m.im)).1, []) := by unfold prepB; rw [if_neg (by rw [h]; decide)]
theorem prepB_2 {u : Un} {s : Us} {m : Ms} {words : List Int} (h : (doV u (.sea (oth s) m.at' m.im)).2 = true) (h2 : wholeU (mind (doV u (.sea (oth s) m.at' m.im)).1 0 0) s m words = false) : prepB u s m words = (mind (doV u (.sea (oth s) m.at' m.im)).1 0 0, [voteM m false]) := by unfold prepB; rw [if_pos h, if_neg (by rw [h2]; decide)]
theorem prepB_3 {u : Un} {s : Us} {m : Ms} {words : List Int} (h : (doV u (.sea (oth s) m.at' m.im)).2 = true) (h2 : wholeU (mind (doV u (.sea (oth s) m.at' m.im)).1 0 0) s m words = true) : prepB u s m words = prepC (mind (doV u (.sea (oth s) m.at' m.im)).1 0 0) s m := by unfold prepB; rw [if_pos h, if_pos h2]
theorem prepC_1 {u : Un} {s : Us} {m : Ms} (h : (doV u (.not s [2, m.n])).2 = true) : prepC u s m = ((doV u (.not s [2, m.n])).1, [voteM m true]) := by unfold prepC; rw [if_pos h]
theorem prepC_2 {u : Un} {s : Us} {m : Ms} (h : (doV u (.not s [2, m.n])).2 = false) : prepC u s m = ((doV u (.not s [2, m.n])).1, []) := by unfold prepC; rw [if_neg (by rw [h]; decide)]
theorem imgS_len (ws : List Int) (fu s : Int) : (imgS ws fu s).1.length ≤ ws.length := by
  unfold imgS
  split
  { simp }
  {
  split
  { simp }
  {
  simp
  omega

  }
  }
set_option maxRecDepth 100000 in
set_option maxHeartbeats 12800000 in
theorem hearPrepare_any (ab : Option Addr) (nb cb : Nat) (ss : List ByteArray) (B : Nat) (u : Un) (s : Us) (m : Ms) (a : Option Addr) (n c : Nat) (w : World) (hTB : ∀ w' : World, w.grownBy w' (some B) → BB w' ab nb cb ss ∧ Tab w') (hU : OwnU w B u) (hs0 : 0 ≤ s.slot) (hs1 : s.slot ≤ 1) :
    Calls Tryz.prog 104 #[bookv ab nb cb, .pointer (some ⟨B, 0, none⟩), usv s, msv m a n c] w (HAns w B (prepS ss u s m)) := by
  have hb := hide (pW_pb w ab nb cb s m a n c)
  have hw0 := pW_below w ab nb cb s m a n c
  have hB := hU.lt
  have hU0 := hide (hU.below hw0)
  have HG := hide (turns_of hw0 B)
  have HTB := hide hTB
  clear hU hTB
  unfold usv msv bookv
  have q := hb.out.ps
  obtain ⟨k0, x0, x1, x2, y0, y1, y2, y3, y4, y5, y6⟩ := q
  unfold pW at k0 x0 x1 x2 y0 y1 y2 y3 y4 y5 y6
  by_cases z1 : m.n ≤ s.by'
  {
  have HE := hide (prepS_1 (ss := ss) (u := u) z1)
  have HDn := hide (done_any m a n c (pW w ab nb cb s m a n c))
  unfold msv at HDn
  unfold pW at hw0 hU0 HG HDn
  go_enter Tryz.func104, Tryz.ntmps104
  go_wp2_with fail
  refine (unhide HDn).mono ?_
  rintro e w9 ⟨⟨b9, rfl, hm9, _⟩, hb9⟩
  go_wp2_with fail
  go_ret
  rw [HE.out]
  exact ⟨⟨_, 1, 1, rfl, hm9, rfl, Nat.le_refl _, Nat.le_refl _⟩, hU0.out.below hb9, HG.out.trans (turns_of hb9 B)⟩
  }
  have d1 : decide (m.n ≤ s.by') = false := by simpa using z1
  by_cases z2 : s.rdy = 0
  rotate_left
  {
  have HE := hide (prepS_2 (ss := ss) (u := u) z1 z2)
  have d2 : (s.rdy != 0) = true := by simpa using z2
  have hyes : (s.rdy == m.n) = decide (s.rdy = m.n) := rfl
  have HVt := hide (vote_any m a n c (decide (s.rdy = m.n)) (w.heap.size + 1 + 1) (pW w ab nb cb s m a n c) hb.out.b2)
  unfold pW at hw0 hU0 HG HVt
  clear z1 z2
  go_enter Tryz.func104, Tryz.ntmps104
  go_wp2_with fail
  refine (unhide HVt).mono ?_
  rintro e w9 ⟨⟨b9, rfl, hm9, _⟩, hb9⟩
  go_wp2_with fail
  go_ret
  rw [HE.out]
  exact ⟨⟨_, 1, 1, rfl, hm9, rfl, Nat.le_refl _, Nat.le_refl _⟩, hU0.out.below hb9, HG.out.trans (turns_of hb9 B)⟩
  }
  have d2 : (s.rdy != 0) = false := by simpa using z2
  have HE3 := hide (prepS_3 (ss := ss) (u := u) z1 z2)
  have HE4 := hide (prepS_4 (ss := ss) (u := u) z1 z2)
  clear z1 z2
  go_enter Tryz.func104, Tryz.ntmps104
  go_upto_region 6 with fail
  clear k0 x0 x1 x2 y0 y1 y2 y3 y4 y5 y6 d1 d2
  rw [show ((w.alloc (.cells #[.slice ab nb cb] 24)).alloc (.cells #[.int .i64 s.slot, .int .i64 s.by', .int .i64 s.rdy] 40)).alloc (.cells #[.int .i64 m.k, .int .i64 m.u, .int .i64 m.n, .int .i64 m.at', .int .i64 m.im, .slice a n c, .bool m.y] 31) = pW w ab nb cb s m a n c from rfl]
  generalize pW w ab nb cb s m a n c = W at *
  obtain ⟨ua, un, uc, ub, ui, ul, ucap, umax, uoff⟩ := hU0.out
  have UB := hide ub
  have HMn := hide (fun W' (hW : Below W.heap.size W W') => meantWords_any ab nb cb ss ua un uc u.ws u.fu (oth s) m a n c W' (HTB.out W' (HG.out.trans (turns_of hW B))).1 (BW.below ⟨ui, ul, ucap, umax⟩ hW) (HTB.out W' (HG.out.trans (turns_of hW B))).2)
  have hmq : Hid (mntB ss u.ws u.fu (oth s) m = meantU ss u s m) := rfl
  have hwq : Hid ((bodyS u.ws u.fu (oth s) m.at').1 = wordsU u s m) := rfl
  rw [hmq.out, hwq.out] at HMn
  unfold bookv msv at HMn
  clear ub ui ul hmq hwq
  generalize wordsU u s m = words at *
  generalize meantU ss u s m = mq at *
  go_cut [10, 11] (fun v10 v11 wc => ∃ G a5 n5 c5, v10 = .pointer (some ⟨G, 0, none⟩) ∧ v11 = .bool mq ∧ Hid (wc.heap[G]? = some (.cells #[.slice a5 n5 c5] 25 (0, 0))) ∧ BI wc a5 n5 words ∧ FreshA W.heap.size a5 ∧ W.heap.size ≤ G ∧ Below W.heap.size W wc)
  case first =>
    have HO := hide (fun W' => other_any s W' hs0 hs1)
    refine wp_region_held_drew (S := fun W' => W'.cell? ⟨w.heap.size, 0, none⟩ = some (.slice ab nb cb) ∧ W'.cell? ⟨w.heap.size + 1, 0, none⟩ = some (.int .i64 s.slot) ∧ W'.cell? ⟨w.heap.size + 1, 1, none⟩ = some (.int .i64 s.by') ∧ W'.cell? ⟨w.heap.size + 1, 2, none⟩ = some (.int .i64 s.rdy) ∧ W'.cell? ⟨w.heap.size + 1 + 1, 0, none⟩ = some (.int .i64 m.k) ∧ W'.cell? ⟨w.heap.size + 1 + 1, 1, none⟩ = some (.int .i64 m.u) ∧ W'.cell? ⟨w.heap.size + 1 + 1, 2, none⟩ = some (.int .i64 m.n) ∧ W'.cell? ⟨w.heap.size + 1 + 1, 3, none⟩ = some (.int .i64 m.at') ∧ W'.cell? ⟨w.heap.size + 1 + 1, 4, none⟩ = some (.int .i64 m.im) ∧ W'.cell? ⟨w.heap.size + 1 + 1, 5, none⟩ = some (.slice a n c) ∧ W'.cell? ⟨w.heap.size + 1 + 1, 6, none⟩ = some (.bool m.y) ∧ W'.cell? ⟨B, 0, none⟩ = some (.slice ua un uc) ∧ W'.cell? ⟨B, 1, none⟩ = some (.int .i64 u.fu)) (by kernel_rfl) (hb.out.psb UB.out) ?_
    intro hHeld
    refine Htake (i := 0) (v := ?_) (by rfl) (by kernel_rfl) (by exact fun _ _ _ h => h) (Or.inl ⟨by rfl, ?_⟩) (by assumption) ?_
    rotate_left
    {
    intro w hSw
    try dsimp only at hSw
    go_simp
    try with_reducible rfl
    }
    try simp only [sq]
    refine Htake (i := 1) (v := ?_) (by rfl) (by kernel_rfl) (by exact fun _ _ _ h => h) (Or.inl ⟨by rfl, ?_⟩) (by assumption) ?_
    rotate_left
    {
    intro w hSw
    try dsimp only at hSw
    go_simp
    try with_reducible rfl
    }
    try simp only [sq]
    refine Htake (i := 2) (v := ?_) (by rfl) (by kernel_rfl) (by exact fun _ _ _ h => h) (Or.inl ⟨by rfl, ?_⟩) (by assumption) ?_
    rotate_left
    {
    intro w hSw
    try dsimp only at hSw
    go_simp
    try with_reducible rfl
    }
    try simp only [sq]
    refine Htake (i := 3) (v := ?_) (by rfl) (by kernel_rfl) (by exact fun _ _ _ h => h) (Or.inl ⟨by rfl, ?_⟩) (by assumption) ?_
    rotate_left
    {
    intro w hSw
    try dsimp only at hSw
    go_simp
    try with_reducible rfl
    }
    try simp only [sq]
    refine Htake (i := 4) (v := ?_) (by rfl) (by kernel_rfl) (by exact fun _ _ _ h => h) (Or.inl ⟨by rfl, ?_⟩) (by assumption) ?_
    rotate_left
    {
    intro w hSw
    try dsimp only at hSw
    go_simp
    try with_reducible rfl
    }
    try simp only [sq]
    refine Htake (i := 5) (v := ?_) (by rfl) (by kernel_rfl) (by exact fun _ _ _ h => h) (Or.inl ⟨by rfl, ?_⟩) (by assumption) ?_
    rotate_left
    {
    intro w hSw
    try dsimp only at hSw
    go_simp
    try with_reducible rfl
    }
    try simp only [sq]
    refine Htake (i := 7) (v := ?_) (by rfl) (by kernel_rfl) (by exact fun _ _ _ h => h) (Or.inl ⟨by rfl, ?_⟩) (by assumption) ?_
    rotate_left
    {
    intro w hSw
    try dsimp only at hSw
    go_simp
    try with_reducible rfl
    }
    try simp only [sq]
    have hk0 : Below W.heap.size W W.drew := (Below.refl _ _).drew
    refine wpAnyH_ready (rs := [6, 12]) (by kernel_rfl) (by simp) ?_
    refine AllReadyH.cons (by rfl) (fun K hK => ?_) (AllReadyH.cons (by rfl) (fun K hK => ?_) AllReadyH.nil)
    {
    go_simp
    refine (unhide HO _).mono ?_
    rintro e w1 ⟨rfl, hb1⟩
    have hk1 := hk0.trans (hb1.mono hk0.size)
    go_wp2_with fail
    refine hK.out _ _ ((hb.out.below hk1).psb (blk_below UB.out hk1)) (fun hHeld => ?_)
    clear hK K
    try simp only [sq]
    refine wpAnyH_ready (rs := [8, 12]) (by kernel_rfl) (by simp) ?_
    refine AllReadyH.cons (by rfl) (fun K hK => ?_) (AllReadyH.cons (by rfl) (fun K hK => ?_) AllReadyH.nil)
    {
    go_simp
    refine (unhide HMn _ hk1).mono ?_
    rintro e w2 ⟨⟨a5, n5, c5, rfl, hi5, hf5⟩, hb2⟩
    have hk2 := hk1.trans (hb2.mono hk1.size)
    go_wp2_with fail
    refine hK.out _ _ ((hb.out.below hk2).psb (blk_below UB.out hk2)) (fun hHeld => ?_)
    clear hK K
    try simp only [sq]
    refine Htake (i := 9) (v := ?_) (by rfl) (by kernel_rfl) (by exact fun _ _ _ h => h) (Or.inl ⟨by rfl, ?_⟩) (by assumption) ?_
    rotate_left
    {
    intro w hSw
    try dsimp only at hSw
    go_simp
    try with_reducible rfl
    }
    try simp only [sq]
    refine Htake (i := 10) (v := ?_) (by rfl) (by kernel_rfl) (by exact fun _ _ _ h => h) (Or.inl ⟨by rfl, ?_⟩) (by assumption) ?_
    rotate_left
    {
    intro w hSw
    try dsimp only at hSw
    go_simp
    try with_reducible rfl
    }
    try simp only [sq]
    refine Htake (i := 11) (v := ?_) (by rfl) (by kernel_rfl) (by exact fun _ _ _ h => h) (Or.inl ⟨by rfl, ?_⟩) (by assumption) ?_
    rotate_left
    {
    intro w hSw
    try dsimp only at hSw
    go_simp
    try with_reducible rfl
    }
    try simp only [sq]
    refine wpAnyH_ready (rs := [12]) (by kernel_rfl) (by simp) ?_
    refine AllReadyH.cons (by rfl) (fun K hK => ?_) AllReadyH.nil
    go_simp
    refine hK.out _ _ ((hb.out.below (below_new hk2 _)).psb (blk_below UB.out (below_new hk2 _))) (fun hHeld => ?_)
    clear hK K
    try simp only [sq]
    refine wpAnyH_ready (rs := [13]) (by kernel_rfl) (by simp) ?_
    refine AllReadyH.cons (by rfl) (fun K hK => ?_) AllReadyH.nil
    go_simp
    refine hK.out _ _ ((hb.out.below (below_new hk2 _)).psb (blk_below UB.out (below_new hk2 _))) (fun hHeld => ?_)
    clear hK K
    try simp only [sq]
    refine Htake (i := 14) (v := ?_) (by rfl) (by kernel_rfl) (by exact fun _ _ _ h => h) (Or.inl ⟨by rfl, ?_⟩) (by assumption) ?_
    rotate_left
    {
    intro w hSw
    try dsimp only at hSw
    go_simp
    try with_reducible rfl
    }
    try simp only [sq]
    refine wpAnyH_done (by kernel_rfl) ?_ _
    go_wp2_with fail
    go_meet
    case rel => exact ⟨w2.heap.size, a5, n5, c5, rfl, rfl, heap_alloc_last _ _, hi5.below ((Below.refl _ _).alloc (Nat.le_refl _) _), FreshA.mono hf5 hk1.size, hk2.size, below_new hk2 _⟩
    }
    {
    go_simp
    refine hK.out _ _ ((hb.out.below (below_new hk1 _)).psb (blk_below UB.out (below_new hk1 _))) (fun hHeld => ?_)
    clear hK K
    try simp only [sq]
    refine wpAnyH_ready (rs := [8]) (by kernel_rfl) (by simp) ?_
    refine AllReadyH.cons (by rfl) (fun K hK => ?_) AllReadyH.nil
    go_simp
    have hkA := below_new hk1 (.cells #[.slice none 0 0] 25)
    refine (unhide HMn _ hkA).mono ?_
    rintro e w2 ⟨⟨a5, n5, c5, rfl, hi5, hf5⟩, hb2⟩
    have hk2 := hkA.trans (hb2.mono hkA.size)
    have bG := hide (blk_below (heap_alloc_last w1 (.cells #[.slice none 0 0] 25)) hb2)
    have g0 := blk_cell bG.out 0 _ rfl
    have fg0 := blk_free bG.out 0
    have hszG := hk1.size
    have hfar : Off w1.heap.size a5 := off_fresh hf5 (by simp)
    go_wp2_with fail
    refine hK.out _ _ ((hb.out.below hk2).psb (blk_below UB.out hk2)) (fun hHeld => ?_)
    clear hK K
    try simp only [sq]
    refine Htake (i := 9) (v := ?_) (by rfl) (by kernel_rfl) (by exact fun _ _ _ h => h) (Or.inl ⟨by rfl, ?_⟩) (by assumption) ?_
    rotate_left
    {
    intro w hSw
    try dsimp only at hSw
    go_simp
    try with_reducible rfl
    }
    try simp only [sq]
    refine Htake (i := 10) (v := ?_) (by rfl) (by kernel_rfl) (by exact fun _ _ _ h => h) (Or.inl ⟨by rfl, ?_⟩) (by assumption) ?_
    rotate_left
    {
    intro w hSw
    try dsimp only at hSw
    go_simp
    try with_reducible rfl
    }
    try simp only [sq]
    refine Htake (i := 11) (v := ?_) (by rfl) (by kernel_rfl) (by exact fun _ _ _ h => h) (Or.inl ⟨by rfl, ?_⟩) (by assumption) ?_
    rotate_left
    {
    intro w hSw
    try dsimp only at hSw
    go_simp
    try with_reducible rfl
    }
    try simp only [sq]
    refine wpAnyH_ready (rs := [13]) (by kernel_rfl) (by simp) ?_
    refine AllReadyH.cons (by rfl) (fun K hK => ?_) AllReadyH.nil
    go_simp
    have hkS := hk2.setCell (p := ⟨w1.heap.size, 0, none⟩) hszG (.slice a5 n5 c5)
    refine hK.out _ _ ((hb.out.below hkS).psb (blk_below UB.out hkS)) (fun hHeld => ?_)
    clear hK K
    try simp only [sq]
    refine Htake (i := 14) (v := ?_) (by rfl) (by kernel_rfl) (by exact fun _ _ _ h => h) (Or.inl ⟨by rfl, ?_⟩) (by assumption) ?_
    rotate_left
    {
    intro w hSw
    try dsimp only at hSw
    go_simp
    try with_reducible rfl
    }
    try simp only [sq]
    refine wpAnyH_done (by kernel_rfl) ?_ _
    go_wp2_with fail
    go_meet
    case rel => exact ⟨w1.heap.size, a5, n5, c5, rfl, rfl, one_set bG.out, bi_turns hi5 (turns_set1 _ _ _ _) (.inr hfar), FreshA.mono hf5 (by simp; omega), hszG, hkS⟩
    }
    }
    {
    go_simp
    have hkA := below_new hk0 (.cells #[.slice none 0 0] 25)
    refine hK.out _ _ ((hb.out.below hkA).psb (blk_below UB.out hkA)) (fun hHeld => ?_)
    clear hK K
    try simp only [sq]
    refine wpAnyH_ready (rs := [6]) (by kernel_rfl) (by simp) ?_
    refine AllReadyH.cons (by rfl) (fun K hK => ?_) AllReadyH.nil
    go_simp
    refine (unhide HO _).mono ?_
    rintro e w1 ⟨rfl, hb1⟩
    have hk1 := hkA.trans (hb1.mono hkA.size)
    have bG0 : Hid (w1.heap[W.heap.size]? = some (.cells #[.slice none 0 0] 25 (0, 0))) := blk_below (heap_alloc_last W.drew (.cells #[.slice none 0 0] 25)) hb1
    go_wp2_with fail
    refine hK.out _ _ ((hb.out.below hk1).psb (blk_below UB.out hk1)) (fun hHeld => ?_)
    clear hK K
    try simp only [sq]
    refine wpAnyH_ready (rs := [8]) (by kernel_rfl) (by simp) ?_
    refine AllReadyH.cons (by rfl) (fun K hK => ?_) AllReadyH.nil
    go_simp
    refine (unhide HMn _ hk1).mono ?_
    rintro e w2 ⟨⟨a5, n5, c5, rfl, hi5, hf5⟩, hb2⟩
    have hk2 := hk1.trans (hb2.mono hk1.size)
    have bG := hide (blk_below bG0.out hb2)
    have g0 := blk_cell bG.out 0 _ rfl
    have fg0 := blk_free bG.out 0
    have hfar : Off W.heap.size a5 := off_fresh hf5 (by have := hb1.size; simp at this; omega)
    go_wp2_with fail
    refine hK.out _ _ ((hb.out.below hk2).psb (blk_below UB.out hk2)) (fun hHeld => ?_)
    clear hK K
    try simp only [sq]
    refine Htake (i := 9) (v := ?_) (by rfl) (by kernel_rfl) (by exact fun _ _ _ h => h) (Or.inl ⟨by rfl, ?_⟩) (by assumption) ?_
    rotate_left
    {
    intro w hSw
    try dsimp only at hSw
    go_simp
    try with_reducible rfl
    }
    try simp only [sq]
    refine Htake (i := 10) (v := ?_) (by rfl) (by kernel_rfl) (by exact fun _ _ _ h => h) (Or.inl ⟨by rfl, ?_⟩) (by assumption) ?_
    rotate_left
    {
    intro w hSw
    try dsimp only at hSw
    go_simp
    try with_reducible rfl
    }
    try simp only [sq]
    refine Htake (i := 11) (v := ?_) (by rfl) (by kernel_rfl) (by exact fun _ _ _ h => h) (Or.inl ⟨by rfl, ?_⟩) (by assumption) ?_
    rotate_left
    {
    intro w hSw
    try dsimp only at hSw
    go_simp
    try with_reducible rfl
    }
    try simp only [sq]
    refine wpAnyH_ready (rs := [13]) (by kernel_rfl) (by simp) ?_
    refine AllReadyH.cons (by rfl) (fun K hK => ?_) AllReadyH.nil
    go_simp
    have hkS := hk2.setCell (p := ⟨W.heap.size, 0, none⟩) (Nat.le_refl _) (.slice a5 n5 c5)
    refine hK.out _ _ ((hb.out.below hkS).psb (blk_below UB.out hkS)) (fun hHeld => ?_)
    clear hK K
    try simp only [sq]
    refine Htake (i := 14) (v := ?_) (by rfl) (by kernel_rfl) (by exact fun _ _ _ h => h) (Or.inl ⟨by rfl, ?_⟩) (by assumption) ?_
    rotate_left
    {
    intro w hSw
    try dsimp only at hSw
    go_simp
    try with_reducible rfl
    }
    try simp only [sq]
    refine wpAnyH_done (by kernel_rfl) ?_ _
    go_wp2_with fail
    go_meet
    case rel => exact ⟨W.heap.size, a5, n5, c5, rfl, rfl, one_set bG.out, bi_turns hi5 (turns_set1 _ _ _ _) (.inr hfar), FreshA.mono hf5 hk1.size, Nat.le_refl _, hkS⟩
    }
  case rest =>
  obtain ⟨G, a5, n5, c5, rfl, rfl, bG, hi5, hf5, hGs, hbc⟩ := hcut
  obtain ⟨w2, rfl⟩ : ∃ w2 : World, w2 = wc := ⟨_, rfl⟩
  have hBW : B < W.heap.size := hU0.out.lt
  have HU2 := hide (hU0.out.below hbc)
  have HP2 := hide (hb.out.below hbc)
  have HG2 := hide (HG.out.trans (turns_of hbc B))
  have ho5 : Off B a5 := off_fresh hf5 hBW
  have hGB : G ≠ B := by omega
  have hi5' := hide hi5
  have ub := blk_below UB.out hbc
  unfold unO at ub
  have u3 := blk_cell ub 3 _ rfl
  have u4 := blk_cell ub 4 _ rfl
  have y2 := blk_cell HP2.out.b2 2 _ rfl
  have y3 := blk_cell HP2.out.b2 3 _ rfl
  clear ub hbc HMn UB hU0 hb HG hi5 hf5
  by_cases b1 : u.n = m.n
  rotate_left
  {
  have HE := hide (HE3.out (fun h => b1 h.1))
  have d1 : (u.n != m.n) = true := by simpa using b1
  clear b1
  go_wp2_with fail
  go_quiet (fail)
  have HPz := hide (HP2.out.below (below_drewN (Below.refl _ _) nq))
  have HUz := hide (HU2.out.below (below_drewN (Below.refl _ _) nq))
  have HGz := hide (HG2.out.trans (turns_of (below_drewN (Below.refl _ w2) nq) B))
  have HVt := hide (vote_any m a n c false (w.heap.size + 1 + 1) (w2.drewN nq) HPz.out.b2)
  go_wp2_with fail
  refine (unhide HVt).mono ?_
  rintro e w9 ⟨⟨b9, rfl, hm9, _⟩, hb9⟩
  go_wp2_with fail
  go_ret
  rw [HE.out]
  exact ⟨⟨_, 1, 1, rfl, hm9, rfl, Nat.le_refl _, Nat.le_refl _⟩, HUz.out.below hb9, HGz.out.trans (turns_of hb9 B)⟩
  }
  have d1 : (u.n != m.n) = false := by simpa using b1
  by_cases b2 : u.hv = m.at'
  rotate_left
  {
  have HE := hide (HE3.out (fun h => b2 h.2.1))
  have d2 : (u.hv != m.at') = true := by simpa using b2
  clear b1 b2
  go_wp2_with fail
  go_quiet (fail)
  have HPz := hide (HP2.out.below (below_drewN (Below.refl _ _) nq))
  have HUz := hide (HU2.out.below (below_drewN (Below.refl _ _) nq))
  have HGz := hide (HG2.out.trans (turns_of (below_drewN (Below.refl _ w2) nq) B))
  have HVt := hide (vote_any m a n c false (w.heap.size + 1 + 1) (w2.drewN nq) HPz.out.b2)
  go_wp2_with fail
  refine (unhide HVt).mono ?_
  rintro e w9 ⟨⟨b9, rfl, hm9, _⟩, hb9⟩
  go_wp2_with fail
  go_ret
  rw [HE.out]
  exact ⟨⟨_, 1, 1, rfl, hm9, rfl, Nat.le_refl _, Nat.le_refl _⟩, HUz.out.below hb9, HGz.out.trans (turns_of hb9 B)⟩
  }
  have d2 : (u.hv != m.at') = false := by simpa using b2
  cases mq
  {
  have HE := hide (HE3.out (fun h => by cases h.2.2))
  clear b1 b2
  go_wp2_with fail
  go_quiet (fail)
  have HPz := hide (HP2.out.below (below_drewN (Below.refl _ _) nq))
  have HUz := hide (HU2.out.below (below_drewN (Below.refl _ _) nq))
  have HGz := hide (HG2.out.trans (turns_of (below_drewN (Below.refl _ w2) nq) B))
  have HVt := hide (vote_any m a n c false (w.heap.size + 1 + 1) (w2.drewN nq) HPz.out.b2)
  go_wp2_with fail
  refine (unhide HVt).mono ?_
  rintro e w9 ⟨⟨b9, rfl, hm9, _⟩, hb9⟩
  go_wp2_with fail
  go_ret
  rw [HE.out]
  exact ⟨⟨_, 1, 1, rfl, hm9, rfl, Nat.le_refl _, Nat.le_refl _⟩, HUz.out.below hb9, HGz.out.trans (turns_of hb9 B)⟩
  }
  have HEB := hide (HE4.out ⟨b1, b2, rfl⟩)
  clear b1 b2 HE3 HE4
  go_wp2_with fail
  go_quiet (fail)
  obtain ⟨wz, hwz⟩ : ∃ wz : World, wz = w2.drewN nq := ⟨_, rfl⟩
  have hbz : Below w2.heap.size w2 wz := by rw [hwz]; exact below_drewN (Below.refl _ _) nq
  rw [← hwz]
  clear hwz u3 u4 y2 y3 d1 d2
  have HUz := hide (HU2.out.below hbz)
  have HPz := hide (HP2.out.below hbz)
  have HGz := hide (HG2.out.trans (turns_of hbz B))
  have bGz := hide (blk_below bG.out hbz)
  have hi5z := hide (hi5'.out.below hbz)
  clear hbz HU2 HP2 HG2 bG hi5'
  have hBz := HUz.out.lt
  go_upto_region 9 with fail
  refine wp_region_held_drew (S := fun W' => W'.cell? ⟨w.heap.size, 0, none⟩ = some (.slice ab nb cb) ∧ W'.cell? ⟨w.heap.size + 1, 0, none⟩ = some (.int .i64 s.slot) ∧ W'.cell? ⟨w.heap.size + 1, 1, none⟩ = some (.int .i64 s.by') ∧ W'.cell? ⟨w.heap.size + 1, 2, none⟩ = some (.int .i64 s.rdy) ∧ W'.cell? ⟨w.heap.size + 1 + 1, 0, none⟩ = some (.int .i64 m.k) ∧ W'.cell? ⟨w.heap.size + 1 + 1, 1, none⟩ = some (.int .i64 m.u) ∧ W'.cell? ⟨w.heap.size + 1 + 1, 2, none⟩ = some (.int .i64 m.n) ∧ W'.cell? ⟨w.heap.size + 1 + 1, 3, none⟩ = some (.int .i64 m.at') ∧ W'.cell? ⟨w.heap.size + 1 + 1, 4, none⟩ = some (.int .i64 m.im) ∧ W'.cell? ⟨w.heap.size + 1 + 1, 5, none⟩ = some (.slice a n c) ∧ W'.cell? ⟨w.heap.size + 1 + 1, 6, none⟩ = some (.bool m.y)) (by kernel_rfl) HPz.out.ps ?_
  intro hHeld
  refine Htake (i := 0) (v := ?_) (by rfl) (by kernel_rfl) (by exact fun _ _ _ h => h) (Or.inl ⟨by rfl, ?_⟩) (by assumption) ?_
  rotate_left
  {
  intro w hSw
  try dsimp only at hSw
  go_simp
  try with_reducible rfl
  }
  try simp only [sq]
  refine Htake (i := 1) (v := ?_) (by rfl) (by kernel_rfl) (by exact fun _ _ _ h => h) (Or.inl ⟨by rfl, ?_⟩) (by assumption) ?_
  rotate_left
  {
  intro w hSw
  try dsimp only at hSw
  go_simp
  try with_reducible rfl
  }
  try simp only [sq]
  refine Htake (i := 3) (v := ?_) (by rfl) (by kernel_rfl) (by exact fun _ _ _ h => h) (Or.inl ⟨by rfl, ?_⟩) (by assumption) ?_
  rotate_left
  {
  intro w hSw
  try dsimp only at hSw
  go_simp
  try with_reducible rfl
  }
  try simp only [sq]
  refine Htake (i := 4) (v := ?_) (by rfl) (by kernel_rfl) (by exact fun _ _ _ h => h) (Or.inl ⟨by rfl, ?_⟩) (by assumption) ?_
  rotate_left
  {
  intro w hSw
  try dsimp only at hSw
  go_simp
  try with_reducible rfl
  }
  try simp only [sq]
  refine Htake (i := 5) (v := ?_) (by rfl) (by kernel_rfl) (by exact fun _ _ _ h => h) (Or.inl ⟨by rfl, ?_⟩) (by assumption) ?_
  rotate_left
  {
  intro w hSw
  try dsimp only at hSw
  go_simp
  try with_reducible rfl
  }
  try simp only [sq]
  refine Htake (i := 6) (v := ?_) (by rfl) (by kernel_rfl) (by exact fun _ _ _ h => h) (Or.inl ⟨by rfl, ?_⟩) (by assumption) ?_
  rotate_left
  {
  intro w hSw
  try dsimp only at hSw
  go_simp
  try with_reducible rfl
  }
  try simp only [sq]
  refine wpAnyH_ready (rs := [2]) (by kernel_rfl) (by simp) ?_
  refine AllReadyH.cons (by rfl) (fun K hK => ?_) AllReadyH.nil
  go_simp
  have hk0 : Below wz.heap.size wz wz.drew := (Below.refl _ _).drew
  have HO := hide (other_any s wz.drew hs0 hs1)
  refine (unhide HO).mono ?_
  rintro e w3 ⟨rfl, hb1⟩
  have hk1 := hk0.trans (hb1.mono hk0.size)
  clear hb1 HO hk0
  go_wp2_with fail
  refine hK.out _ _ ((HPz.out.below hk1).ps) (fun hHeld => ?_)
  clear hK K
  try simp only [sq]
  refine wpAnyH_ready (rs := [7]) (by kernel_rfl) (by simp) ?_
  refine AllReadyH.cons (by rfl) (fun K hK => ?_) AllReadyH.nil
  go_simp
  have HSl := hide (sealing_any (oth s) m.at' m.im B w3 (by have := hk1.size; omega))
  refine (unhide HSl).mono ?_
  rintro e w4 ⟨⟨fn4, caps4, rfl, hv4⟩, hb3⟩
  have hk3 := hk1.trans (hb3.mono hk1.size)
  clear hb3 HSl
  go_wp2_with fail
  refine hK.out _ _ ((HPz.out.below hk3).ps) (fun hHeld => ?_)
  clear hK K
  try simp only [sq]
  refine wpAnyH_ready (rs := [8]) (by kernel_rfl) (by simp) ?_
  refine AllReadyH.cons (by rfl) (fun K hK => ?_) AllReadyH.nil
  go_simp
  have hk4 := below_new hk3 (.cells #[.func (.func fn4) #[] caps4] 117)
  refine hK.out _ _ ((HPz.out.below hk4).ps) (fun hHeld => ?_)
  clear hK K
  try simp only [sq]
  refine wpAnyH_ready (rs := [9]) (by kernel_rfl) (by simp) ?_
  refine AllReadyH.cons (by rfl) (fun K hK => ?_) AllReadyH.nil
  go_simp
  have HCh := hide (change1_any B _ u (.func (.func fn4) #[] caps4) 117 w4 (HUz.out.below hk3) hv4)
  refine (unhide HCh).mono ?_
  rintro e w5 ⟨rfl, hU5, hg5⟩
  have hg := (turns_of hk3 B).trans hg5
  have HU5 := hide hU5
  have HG5 := hide (HGz.out.trans hg)
  have HP5 := hide (HPz.out.turns hg hB)
  have bG5 := hide (blk_turns bGz.out hg hGB)
  have hi55 := hide (bi_turns hi5z.out hg (.inr ho5))
  clear hU5 hg5 HCh hk1 hk3 hk4 hg hv4 HUz HPz HGz bGz hi5z
  have PB1 := hide (prepB_1 (u := u) (s := s) (m := m) (words := words))
  have PB2 := hide (prepB_2 (u := u) (s := s) (m := m) (words := words))
  have PB3 := hide (prepB_3 (u := u) (s := s) (m := m) (words := words))
  generalize doV u (.sea (oth s) m.at' m.im) = R at *
  go_wp2_with fail
  refine hK.out _ _ (HP5.out.ps) (fun hHeld => ?_)
  clear hK K
  try simp only [sq]
  refine Htake (i := 10) (v := ?_) (by rfl) (by kernel_rfl) (by exact fun _ _ _ h => h) (Or.inl ⟨by rfl, ?_⟩) (by assumption) ?_
  rotate_left
  {
  intro w hSw
  try dsimp only at hSw
  go_simp
  try with_reducible rfl
  }
  try simp only [sq]
  refine wpAnyH_done (by kernel_rfl) ?_ _
  clear hHeld
  cases g : R.2
  {
  have HE := hide (HEB.out.trans (PB1.out g))
  go_wp2_with fail
  go_ret
  exact hAns_nil HE.out HU5.out HG5.out
  }
  obtain ⟨R1, R2⟩ := R
  simp only at HU5 PB1 PB2 PB3 g
  subst g
  replace PB2 := hide (PB2.out rfl)
  replace PB3 := hide (PB3.out rfl)
  clear PB1
  obtain ⟨va, vn, vc, vb, vi, vl, vcap, vmax, voff⟩ := HU5.out
  have VB := hide vb
  have VI := hide vi
  have VL := hide vl
  unfold unO at vb
  have u3 := blk_cell vb 3 _ rfl
  have fu3 := blk_free vb 3
  have u4 := blk_cell vb 4 _ rfl
  have fu4 := blk_free vb 4
  clear vb vi vl
  have hgS : w5.grownBy ((w5.setCell ⟨B, 3, none⟩ (.int .i64 0)).setCell ⟨B, 4, none⟩ (.int .i64 0)) (some B) := turns_set (turns_set1 _ _ _ _) _ _
  have UB6 : Hid (((w5.setCell ⟨B, 3, none⟩ (.int .i64 0)).setCell ⟨B, 4, none⟩ (.int .i64 0)).heap[B]? = some (unO (mind R1 0 0) va vn vc)) := un_mind VB.out
  have UW6 : Hid (BW ((w5.setCell ⟨B, 3, none⟩ (.int .i64 0)).setCell ⟨B, 4, none⟩ (.int .i64 0)) va vn vc (mind R1 0 0).ws) := ⟨ints_turns VI.out hgS voff, VL.out, vcap, vmax⟩
  have HP6 := hide (HP5.out.turns hgS hB)
  have HG6 := hide (HG5.out.trans hgS)
  have bG6 := hide (blk_turns bG5.out hgS hGB)
  have hi56 := hide (bi_turns hi55.out hgS (.inr ho5))
  go_upto_region 13 with fail
  generalize (w5.setCell ⟨B, 3, none⟩ (.int .i64 0)).setCell ⟨B, 4, none⟩ (.int .i64 0) = w6 at *
  clear u3 u4 fu3 fu4 hgS VB VI VL HU5 HP5 HG5 bG5 hi55
  generalize mind R1 0 0 = u5 at *
  have HU6 : Hid (OwnU w6 B u5) := ⟨va, vn, vc, UB6.out, UW6.out.at_, UW6.out.len, vcap, vmax, voff⟩
  have HWq : Hid (wholeU u5 s m words = (decide ((imgS u5.ws u5.fu (oth s)).2.2 = 0) && (decide ((imgS u5.ws u5.fu (oth s)).2.1 = m.im) && eqL (imgS u5.ws u5.fu (oth s)).1 words))) := rfl
  have HIm := hide (fun W' (hW : Below w6.heap.size w6 W') => image_any va vn vc u5.ws u5.fu (oth s) W' (UW6.out.below hW).at_ UW6.out.len UW6.out.max UW6.out.cap)
  have hilen := imgS_len u5.ws u5.fu (oth s)
  rw [UW6.out.len] at hilen
  generalize imgS u5.ws u5.fu (oth s) = I at *
  rw [HWq.out] at PB2 PB3
  clear HWq
  refine wp_region_held_drew (S := fun W' => W'.cell? ⟨w.heap.size, 0, none⟩ = some (.slice ab nb cb) ∧ W'.cell? ⟨w.heap.size + 1, 0, none⟩ = some (.int .i64 s.slot) ∧ W'.cell? ⟨w.heap.size + 1, 1, none⟩ = some (.int .i64 s.by') ∧ W'.cell? ⟨w.heap.size + 1, 2, none⟩ = some (.int .i64 s.rdy) ∧ W'.cell? ⟨w.heap.size + 1 + 1, 0, none⟩ = some (.int .i64 m.k) ∧ W'.cell? ⟨w.heap.size + 1 + 1, 1, none⟩ = some (.int .i64 m.u) ∧ W'.cell? ⟨w.heap.size + 1 + 1, 2, none⟩ = some (.int .i64 m.n) ∧ W'.cell? ⟨w.heap.size + 1 + 1, 3, none⟩ = some (.int .i64 m.at') ∧ W'.cell? ⟨w.heap.size + 1 + 1, 4, none⟩ = some (.int .i64 m.im) ∧ W'.cell? ⟨w.heap.size + 1 + 1, 5, none⟩ = some (.slice a n c) ∧ W'.cell? ⟨w.heap.size + 1 + 1, 6, none⟩ = some (.bool m.y) ∧ W'.cell? ⟨B, 0, none⟩ = some (.slice va vn vc) ∧ W'.cell? ⟨B, 1, none⟩ = some (.int .i64 u5.fu)) (by kernel_rfl) (HP6.out.psb UB6.out) ?_
  intro hHeld
  refine Htake (i := 0) (v := ?_) (by rfl) (by kernel_rfl) (by exact fun _ _ _ h => h) (Or.inl ⟨by rfl, ?_⟩) (by assumption) ?_
  rotate_left
  {
  intro w hSw
  try dsimp only at hSw
  go_simp
  try with_reducible rfl
  }
  try simp only [sq]
  refine Htake (i := 1) (v := ?_) (by rfl) (by kernel_rfl) (by exact fun _ _ _ h => h) (Or.inl ⟨by rfl, ?_⟩) (by assumption) ?_
  rotate_left
  {
  intro w hSw
  try dsimp only at hSw
  go_simp
  try with_reducible rfl
  }
  try simp only [sq]
  refine Htake (i := 2) (v := ?_) (by rfl) (by kernel_rfl) (by exact fun _ _ _ h => h) (Or.inl ⟨by rfl, ?_⟩) (by assumption) ?_
  rotate_left
  {
  intro w hSw
  try dsimp only at hSw
  go_simp
  try with_reducible rfl
  }
  try simp only [sq]
  refine Htake (i := 3) (v := ?_) (by rfl) (by kernel_rfl) (by exact fun _ _ _ h => h) (Or.inl ⟨by rfl, ?_⟩) (by assumption) ?_
  rotate_left
  {
  intro w hSw
  try dsimp only at hSw
  go_simp
  try with_reducible rfl
  }
  try simp only [sq]
  refine Htake (i := 4) (v := ?_) (by rfl) (by kernel_rfl) (by exact fun _ _ _ h => h) (Or.inl ⟨by rfl, ?_⟩) (by assumption) ?_
  rotate_left
  {
  intro w hSw
  try dsimp only at hSw
  go_simp
  try with_reducible rfl
  }
  try simp only [sq]
  refine Htake (i := 5) (v := ?_) (by rfl) (by kernel_rfl) (by exact fun _ _ _ h => h) (Or.inl ⟨by rfl, ?_⟩) (by assumption) ?_
  rotate_left
  {
  intro w hSw
  try dsimp only at hSw
  go_simp
  try with_reducible rfl
  }
  try simp only [sq]
  refine wpAnyH_ready (rs := [6]) (by kernel_rfl) (by simp) ?_
  refine AllReadyH.cons (by rfl) (fun K hK => ?_) AllReadyH.nil
  go_simp
  have hk0 : Below w6.heap.size w6 w6.drew := (Below.refl _ _).drew
  have HO := hide (other_any s w6.drew hs0 hs1)
  refine (unhide HO).mono ?_
  rintro e w7 ⟨rfl, hb1⟩
  have hk1 := hk0.trans (hb1.mono hk0.size)
  clear hb1 HO hk0
  go_wp2_with fail
  refine hK.out _ _ ((HP6.out.below hk1).psb (blk_below UB6.out hk1)) (fun hHeld => ?_)
  clear hK K
  try simp only [sq]
  refine wpAnyH_ready (rs := [7]) (by kernel_rfl) (by simp) ?_
  refine AllReadyH.cons (by rfl) (fun K hK => ?_) AllReadyH.nil
  go_simp
  refine (unhide HIm _ hk1).mono ?_
  rintro e w8 ⟨⟨ai, ni, ci, rfl, hii, hni, _, _⟩, hb2⟩
  have hk2 := hk1.trans (hb2.mono hk1.size)
  have hiB : BI w8 ai ni I.1 := ⟨hii, hni, by rw [← hni]; exact Nat.le_trans hilen vmax⟩
  have HWh := hide (whole_any m a n c ai ni ci I.1 I.2.1 I.2.2 (w.heap.size + 1 + 1) G a5 n5 c5 words w8 (HP6.out.below hk2).b2 (blk_cell (blk_below bG6.out hk2) 0 _ rfl) hiB (hi56.out.below hk2))
  obtain ⟨WQ, hWQ⟩ : ∃ WQ : Bool, WQ = (decide (I.2.2 = 0) && (decide (I.2.1 = m.im) && eqL I.1 words)) := ⟨_, rfl⟩
  rw [← hWQ] at HWh PB2 PB3
  clear hb2 hii hni hiB hWQ HIm
  go_wp2_with fail
  refine hK.out _ _ ((HP6.out.below hk2).psb (blk_below UB6.out hk2)) (fun hHeld => ?_)
  clear hK K
  try simp only [sq]
  refine Htake (i := 8) (v := ?_) (by rfl) (by kernel_rfl) (by exact fun _ _ _ h => h) (Or.inl ⟨by rfl, ?_⟩) (by assumption) ?_
  rotate_left
  {
  intro w hSw
  try dsimp only at hSw
  go_simp
  try with_reducible rfl
  }
  try simp only [sq]
  refine Htake (i := 9) (v := ?_) (by rfl) (by kernel_rfl) (by exact fun _ _ _ h => h) (Or.inl ⟨by rfl, ?_⟩) (by assumption) ?_
  rotate_left
  {
  intro w hSw
  try dsimp only at hSw
  go_simp
  try with_reducible rfl
  }
  try simp only [sq]
  refine Htake (i := 10) (v := ?_) (by rfl) (by kernel_rfl) (by exact fun _ _ _ h => h) (Or.inl ⟨by rfl, ?_⟩) (by assumption) ?_
  rotate_left
  {
  intro w hSw
  try dsimp only at hSw
  go_simp
  try with_reducible rfl
  }
  try simp only [sq]
  refine wpAnyH_ready (rs := [11]) (by kernel_rfl) (by simp) ?_
  refine AllReadyH.cons (by rfl) (fun K hK => ?_) AllReadyH.nil
  go_simp
  refine (unhide HWh).mono ?_
  rintro e w9 ⟨rfl, hb3⟩
  have hk3 := hk2.trans (hb3.mono hk2.size)
  clear hb3 HWh
  go_wp2_with fail
  refine hK.out _ _ ((HP6.out.below hk3).psb (blk_below UB6.out hk3)) (fun hHeld => ?_)
  clear hK K
  try simp only [sq]
  refine Htake (i := 12) (v := ?_) (by rfl) (by kernel_rfl) (by exact fun _ _ _ h => h) (Or.inl ⟨by rfl, ?_⟩) (by assumption) ?_
  rotate_left
  {
  intro w hSw
  try dsimp only at hSw
  go_simp
  try with_reducible rfl
  }
  try simp only [sq]
  refine wpAnyH_done (by kernel_rfl) ?_ _
  have HU9 := hide (HU6.out.below hk3)
  have HP9 := hide (HP6.out.below hk3)
  have HG9 := hide (HG6.out.trans (turns_of hk3 B))
  clear hHeld hk1 hk2 hk3 HU6 HP6 HG6 bG6 hi56 UB6 UW6
  have hB9 := HU9.out.lt
  cases WQ
  {
  have HE := hide (HEB.out.trans (PB2.out rfl))
  have HVt := hide (vote_any m a n c false (w.heap.size + 1 + 1) w9 HP9.out.b2)
  go_wp2_with fail
  refine (unhide HVt).mono ?_
  rintro e w9 ⟨⟨b9, rfl, hm9, _⟩, hb9⟩
  go_wp2_with fail
  go_ret
  rw [HE.out]
  exact ⟨⟨_, 1, 1, rfl, hm9, rfl, Nat.le_refl _, Nat.le_refl _⟩, HU9.out.below hb9, HG9.out.trans (turns_of hb9 B)⟩
  }
  have HEC := hide (HEB.out.trans (PB3.out rfl))
  clear PB2 PB3 HEB
  have x0 := blk_cell HP9.out.b1 0 _ rfl
  have x1 := blk_cell HP9.out.b1 1 _ rfl
  have x2 := blk_cell HP9.out.b1 2 _ rfl
  have y2 := blk_cell HP9.out.b2 2 _ rfl
  have hkA := below_new (Below.refl w9.heap.size w9) (.cells #[.int .i64 2, .int .i64 m.n] 3)
  have HNt := hide (noting_any s (some ⟨w9.heap.size, 0, none⟩) 2 2 [2, m.n] B (w9.alloc (.cells #[.int .i64 2, .int .i64 m.n] 3)) (by simp; omega) (bi_made2 _ 2 m.n 3) (fun ad e => by cases e; show w9.heap.size ≠ B; omega))
  unfold usv at HNt
  go_wp2_with fail
  clear x0 x1 x2 y2
  refine (unhide HNt).mono ?_
  rintro e wA ⟨⟨fnA, capsA, rfl, hvA⟩, hbA⟩
  have hkB := hkA.trans (hbA.mono hkA.size)
  have HCh := hide (change1_any B _ u5 (.func (.func fnA) #[] capsA) 117 wA (HU9.out.below hkB) hvA)
  clear hbA HNt hvA hkA
  go_wp2_with fail
  refine (unhide HCh).mono ?_
  rintro e wB ⟨rfl, hUB, hgB⟩
  have hg := (turns_of hkB B).trans hgB
  have HUB := hide hUB
  have HGB := hide (HG9.out.trans hg)
  have HPB := hide (HP9.out.turns hg hB)
  clear hUB hgB hg hkB HCh HU9 HP9 HG9
  have PC1 := hide (prepC_1 (u := u5) (s := s) (m := m))
  have PC2 := hide (prepC_2 (u := u5) (s := s) (m := m))
  generalize doV u5 (.not s [2, m.n]) = Q at *
  cases g : Q.2
  {
  have HE := hide (HEC.out.trans (PC2.out g))
  go_wp2_with fail
  go_ret
  exact hAns_nil HE.out HUB.out HGB.out
  }
  {
  have HE := hide (HEC.out.trans (PC1.out g))
  have HVt := hide (vote_any m a n c true (w.heap.size + 1 + 1) wB HPB.out.b2)
  go_wp2_with fail
  refine (unhide HVt).mono ?_
  rintro e w9 ⟨⟨b9, rfl, hm9, _⟩, hb9⟩
  go_wp2_with fail
  go_ret
  rw [HE.out]
  exact ⟨⟨_, 1, 1, rfl, hm9, rfl, Nat.le_refl _, Nat.le_refl _⟩, HUB.out.below hb9, HGB.out.trans (turns_of hb9 B)⟩

  }
end Go.Proofs.YtgngpmgjoifepaaGreatDoor
