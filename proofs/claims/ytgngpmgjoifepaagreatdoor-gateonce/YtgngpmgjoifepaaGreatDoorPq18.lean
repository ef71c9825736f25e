/- The contracts of gate.Read, stateUp. The steps of a unit: unit.clearing, filling, sealing, and what they make. The contracts of unit.clearing, filling, sealing, noting: they make steps. The contracts of unit.hearCommit, hearAbort. The contract of slices.Clone at ints, for seats without signatures; of unit.twin. -/
import Derived.Test.YtgngpmgjoifepaaGreatDoorPq17
import Derived.BigQuiet
import Derived.Test.YtgngpmgjoifepaaGreatDoorPq0
import Derived.Deep.AppendLies
import Derived.Lib.AppendZeros
import Derived.Maps.AppendAt
namespace Go.Proofs.YtgngpmgjoifepaaGreatDoor
open Go.RowKit
attribute [local go_sem ↓] Go.wp_at_zero Go.wp_at_succ

theorem gReadS_e {g : Gt} (h : gtE g ≠ 0) : gReadS g = (gs0, gtE g) := by unfold gReadS; rw [if_pos h]
theorem gReadS_0 {g : Gt} (h : gtE g = 0) : gReadS g = (gOf g.ws, 0) := by unfold gReadS; rw [if_neg (by simpa using h)]
/-- What the calls see that a gateway without power refuses. -/
def gUpS (g : Gt) : Gs × Int := if upE g ≠ 0 then (gs0, upE g) else (gOf g.ws, 0)
theorem upE_e {g : Gt} (h : gtE g ≠ 0) : upE g = gtE g := by unfold upE; rw [if_pos h]
theorem upE_7 {g : Gt} (h : gtE g = 0) (h2 : g.up = false) : upE g = 7 := by unfold upE; rw [if_neg (by simpa using h), if_neg (by rw [h2]; decide)]
theorem upE_0 {g : Gt} (h : gtE g = 0) (h2 : g.up = true) : upE g = 0 := by unfold upE; rw [if_neg (by simpa using h), if_pos h2]
theorem gUpS_e {g : Gt} (h : gtE g ≠ 0) : gUpS g = (gs0, gtE g) := by unfold gUpS; rw [upE_e h, if_pos h]
theorem gUpS_7 {g : Gt} (h : gtE g = 0) (h2 : g.up = false) : gUpS g = (gs0, 7) := by unfold gUpS; rw [upE_7 h h2, if_pos (by decide)]
theorem gUpS_0 {g : Gt} (h : gtE g = 0) (h2 : g.up = true) : gUpS g = (gOf g.ws, 0) := by unfold gUpS; rw [upE_0 h h2, if_neg (by decide)]

set_option maxRecDepth 100000 in
set_option maxHeartbeats 1600000 in
theorem gateRead_any (g : Gt) (m : GA) (w : World) (h : GIn w m g) :
    Calls Tryz.prog 33 #[gtv g m] w fun e w' => e = .returned (.tuple #[gsv (gReadS g).1, .int .i64 (gReadS g).2]) ∧ Below w.heap.size w w' := by
  have E1 := fun h => gReadS_e (g := g) h
  have E0 := fun h => gReadS_0 (g := g) h
  have hw0 : Below w.heap.size w ((w.alloc (.cells #[.slice m.a m.n m.c, .int .i64 g.fu, .bool g.up, .int .i64 g.t.r.v, .slice m.ak m.nk m.ck, .int .i64 g.t.r.t, .int .i64 g.t.ver, .slice m.av m.nv m.cv, .slice m.ad m.nd m.cd] 68)).alloc (.cells #[.int .i64 0, .int .i64 0, .bool false, .bool false, .bool false] 82)) := ((Below.refl _ _).alloc (Nat.le_refl _) _).alloc (by simp) _
  have b0 : Hid (((w.alloc (.cells #[.slice m.a m.n m.c, .int .i64 g.fu, .bool g.up, .int .i64 g.t.r.v, .slice m.ak m.nk m.ck, .int .i64 g.t.r.t, .int .i64 g.t.ver, .slice m.av m.nv m.cv, .slice m.ad m.nd m.cd] 68)).alloc (.cells #[.int .i64 0, .int .i64 0, .bool false, .bool false, .bool false] 82)).heap[w.heap.size]? = some (.cells #[.slice m.a m.n m.c, .int .i64 g.fu, .bool g.up, .int .i64 g.t.r.v, .slice m.ak m.nk m.ck, .int .i64 g.t.r.t, .int .i64 g.t.ver, .slice m.av m.nv m.cv, .slice m.ad m.nd m.cd] 68 (0, 0))) := blk_alloc (heap_alloc_last _ _) _
  have b1 : Hid (((w.alloc (.cells #[.slice m.a m.n m.c, .int .i64 g.fu, .bool g.up, .int .i64 g.t.r.v, .slice m.ak m.nk m.ck, .int .i64 g.t.r.t, .int .i64 g.t.ver, .slice m.av m.nv m.cv, .slice m.ad m.nd m.cd] 68)).alloc (.cells #[.int .i64 0, .int .i64 0, .bool false, .bool false, .bool false] 82)).heap[w.heap.size + 1]? = some (.cells #[.int .i64 0, .int .i64 0, .bool false, .bool false, .bool false] 82 (0, 0))) := uLast1 _ _ _
  have HC := hide (fun W (hW : Below w.heap.size w W) => gateCheck_any g m W (h.below hW))
  have HS := hide (fun (e1 : lchk g.ws g.fu = 0) W (hW : Below w.heap.size w W) => gStateOf_any m.a m.n m.c g.ws g.fu W (h.ws.below hW) e1)
  have hx : w.heap.size ≤ w.heap.size + 1 := by omega
  unfold gtv at *
  clear h
  go_enter Tryz.func33, Tryz.ntmps33
  go_wp2_with fail
  generalize ((w.alloc (.cells #[.slice m.a m.n m.c, .int .i64 g.fu, .bool g.up, .int .i64 g.t.r.v, .slice m.ak m.nk m.ck, .int .i64 g.t.r.t, .int .i64 g.t.ver, .slice m.av m.nv m.cv, .slice m.ad m.nd m.cd] 68)).alloc (.cells #[.int .i64 0, .int .i64 0, .bool false, .bool false, .bool false] 82)) = W at *
  refine (unhide HC _ hw0).mono ?_
  rintro e w1 ⟨rfl, hb⟩
  replace b0 := hide (blk_below b0.out hb)
  replace b1 := hide (blk_below b1.out hb)
  replace hw0 := hw0.trans (hb.mono hw0.size)
  clear hb HC
  by_cases z1 : gtE g = 0
  rotate_left
  · have HE := hide (E1 z1)
    have d1 : (gtE g != 0) = true := by simpa using z1
    have y0 := blk_cell b1.out 0 _ rfl
    have y1 := blk_cell b1.out 1 _ rfl
    have y2 := blk_cell b1.out 2 _ rfl
    have y3 := blk_cell b1.out 3 _ rfl
    have y4 := blk_cell b1.out 4 _ rfl
    have f0 := blk_free b1.out 0
    have f1 := blk_free b1.out 1
    have f2 := blk_free b1.out 2
    have f3 := blk_free b1.out 3
    have f4 := blk_free b1.out 4
    clear z1 E1 E0
    generalize gtE g = q at *
    go_wp2_with fail
    refine bodyPost_ret (v := .tuple #[gsv gs0, .int .i64 q]) (by simp [results, Tryz.results33, go_sem, gsv, gs0, y0, y1, y2, y3, y4]) rfl ?_
    rw [HE.out]
    exact ⟨rfl, ((((hw0.setCell hx _).setCell hx _).setCell hx _).setCell hx _).setCell hx _⟩
  have HE := hide (E0 z1)
  have HSt := hide (HS.out (gtE_ok z1).1 _ hw0)
  rw [z1]
  clear z1 E1 E0 HS
  have x0 := blk_cell b0.out 0 _ rfl
  have x1 := blk_cell b0.out 1 _ rfl
  go_wp2_with fail
  refine (unhide HSt).mono ?_
  rintro e w2 ⟨rfl, hb⟩
  replace b1 := hide (blk_below b1.out hb)
  replace hw0 := hw0.trans (hb.mono hw0.size)
  clear hb HSt x0 x1
  have y0 := blk_cell b1.out 0 _ rfl
  have y1 := blk_cell b1.out 1 _ rfl
  have y2 := blk_cell b1.out 2 _ rfl
  have y3 := blk_cell b1.out 3 _ rfl
  have y4 := blk_cell b1.out 4 _ rfl
  have f0 := blk_free b1.out 0
  have f1 := blk_free b1.out 1
  have f2 := blk_free b1.out 2
  have f3 := blk_free b1.out 3
  have f4 := blk_free b1.out 4
  generalize gOf g.ws = s at *
  unfold gsv
  go_wp2_with fail
  refine bodyPost_ret (v := .tuple #[gsv s, .int .i64 0]) (by simp [results, Tryz.results33, go_sem, gsv, y0, y1, y2, y3, y4]) rfl ?_
  rw [HE.out]
  exact ⟨rfl, ((((hw0.setCell hx _).setCell hx _).setCell hx _).setCell hx _).setCell hx _⟩

set_option maxRecDepth 100000 in
set_option maxHeartbeats 1600000 in
theorem stateUp_any (g : Gt) (m : GA) (w : World) (h : GIn w m g) :
    Calls Tryz.prog 82 #[gtv g m] w fun e w' => e = .returned (.tuple #[gsv (gUpS g).1, .int .i64 (gUpS g).2]) ∧ Below w.heap.size w w' := by
  have E1 := fun h => gUpS_e (g := g) h
  have E7 := fun h h2 => gUpS_7 (g := g) h h2
  have E0 := fun h h2 => gUpS_0 (g := g) h h2
  have hw0 : Below w.heap.size w ((w.alloc (.cells #[.slice m.a m.n m.c, .int .i64 g.fu, .bool g.up, .int .i64 g.t.r.v, .slice m.ak m.nk m.ck, .int .i64 g.t.r.t, .int .i64 g.t.ver, .slice m.av m.nv m.cv, .slice m.ad m.nd m.cd] 68)).alloc (.cells #[.int .i64 0, .int .i64 0, .bool false, .bool false, .bool false] 82)) := ((Below.refl _ _).alloc (Nat.le_refl _) _).alloc (by simp) _
  have b0 : Hid (((w.alloc (.cells #[.slice m.a m.n m.c, .int .i64 g.fu, .bool g.up, .int .i64 g.t.r.v, .slice m.ak m.nk m.ck, .int .i64 g.t.r.t, .int .i64 g.t.ver, .slice m.av m.nv m.cv, .slice m.ad m.nd m.cd] 68)).alloc (.cells #[.int .i64 0, .int .i64 0, .bool false, .bool false, .bool false] 82)).heap[w.heap.size]? = some (.cells #[.slice m.a m.n m.c, .int .i64 g.fu, .bool g.up, .int .i64 g.t.r.v, .slice m.ak m.nk m.ck, .int .i64 g.t.r.t, .int .i64 g.t.ver, .slice m.av m.nv m.cv, .slice m.ad m.nd m.cd] 68 (0, 0))) := blk_alloc (heap_alloc_last _ _) _
  have b1 : Hid (((w.alloc (.cells #[.slice m.a m.n m.c, .int .i64 g.fu, .bool g.up, .int .i64 g.t.r.v, .slice m.ak m.nk m.ck, .int .i64 g.t.r.t, .int .i64 g.t.ver, .slice m.av m.nv m.cv, .slice m.ad m.nd m.cd] 68)).alloc (.cells #[.int .i64 0, .int .i64 0, .bool false, .bool false, .bool false] 82)).heap[w.heap.size + 1]? = some (.cells #[.int .i64 0, .int .i64 0, .bool false, .bool false, .bool false] 82 (0, 0))) := uLast1 _ _ _
  have HC := hide (fun W (hW : Below w.heap.size w W) => gateCheck_any g m W (h.below hW))
  have HS := hide (fun (e1 : lchk g.ws g.fu = 0) W (hW : Below w.heap.size w W) => gStateOf_any m.a m.n m.c g.ws g.fu W (h.ws.below hW) e1)
  have hx : w.heap.size ≤ w.heap.size + 1 := by omega
  unfold gtv at *
  clear h
  go_enter Tryz.func82, Tryz.ntmps82
  go_wp2_with fail
  generalize ((w.alloc (.cells #[.slice m.a m.n m.c, .int .i64 g.fu, .bool g.up, .int .i64 g.t.r.v, .slice m.ak m.nk m.ck, .int .i64 g.t.r.t, .int .i64 g.t.ver, .slice m.av m.nv m.cv, .slice m.ad m.nd m.cd] 68)).alloc (.cells #[.int .i64 0, .int .i64 0, .bool false, .bool false, .bool false] 82)) = W at *
  refine (unhide HC _ hw0).mono ?_
  rintro e w1 ⟨rfl, hb⟩
  replace b0 := hide (blk_below b0.out hb)
  replace b1 := hide (blk_below b1.out hb)
  replace hw0 := hw0.trans (hb.mono hw0.size)
  clear hb HC
  by_cases z1 : gtE g = 0
  rotate_left
  · have HE := hide (E1 z1)
    have d1 : (gtE g != 0) = true := by simpa using z1
    have y0 := blk_cell b1.out 0 _ rfl
    have y1 := blk_cell b1.out 1 _ rfl
    have y2 := blk_cell b1.out 2 _ rfl
    have y3 := blk_cell b1.out 3 _ rfl
    have y4 := blk_cell b1.out 4 _ rfl
    have f0 := blk_free b1.out 0
    have f1 := blk_free b1.out 1
    have f2 := blk_free b1.out 2
    have f3 := blk_free b1.out 3
    have f4 := blk_free b1.out 4
    clear z1 E1 E0 E7
    generalize gtE g = q at *
    go_wp2_with fail
    refine bodyPost_ret (v := .tuple #[gsv gs0, .int .i64 q]) (by simp [results, Tryz.results82, go_sem, gsv, gs0, y0, y1, y2, y3, y4]) rfl ?_
    rw [HE.out]
    exact ⟨rfl, ((((hw0.setCell hx _).setCell hx _).setCell hx _).setCell hx _).setCell hx _⟩
  have x2 := blk_cell b0.out 2 _ rfl
  cases zu : g.up
  · have HE := hide (E7 z1 zu)
    rw [zu] at x2
    rw [z1]
    have y0 := blk_cell b1.out 0 _ rfl
    have y1 := blk_cell b1.out 1 _ rfl
    have y2 := blk_cell b1.out 2 _ rfl
    have y3 := blk_cell b1.out 3 _ rfl
    have y4 := blk_cell b1.out 4 _ rfl
    have f0 := blk_free b1.out 0
    have f1 := blk_free b1.out 1
    have f2 := blk_free b1.out 2
    have f3 := blk_free b1.out 3
    have f4 := blk_free b1.out 4
    clear z1 E1 E0 E7 zu
    go_wp2_with fail
    refine bodyPost_ret (v := .tuple #[gsv gs0, .int .i64 7]) (by simp [results, Tryz.results82, go_sem, gsv, gs0, y0, y1, y2, y3, y4]) rfl ?_
    rw [HE.out]
    exact ⟨rfl, ((((hw0.setCell hx _).setCell hx _).setCell hx _).setCell hx _).setCell hx _⟩
  rw [zu] at x2
  have HE := hide (E0 z1 zu)
  have HSt := hide (HS.out (gtE_ok z1).1 _ hw0)
  rw [z1]
  clear z1 E1 E0 HS E7 zu
  have x0 := blk_cell b0.out 0 _ rfl
  have x1 := blk_cell b0.out 1 _ rfl
  go_wp2_with fail
  refine (unhide HSt).mono ?_
  rintro e w2 ⟨rfl, hb⟩
  replace b1 := hide (blk_below b1.out hb)
  replace hw0 := hw0.trans (hb.mono hw0.size)
  clear hb HSt x0 x1 x2
  have y0 := blk_cell b1.out 0 _ rfl
  have y1 := blk_cell b1.out 1 _ rfl
  have y2 := blk_cell b1.out 2 _ rfl
  have y3 := blk_cell b1.out 3 _ rfl
  have y4 := blk_cell b1.out 4 _ rfl
  have f0 := blk_free b1.out 0
  have f1 := blk_free b1.out 1
  have f2 := blk_free b1.out 2
  have f3 := blk_free b1.out 3
  have f4 := blk_free b1.out 4
  generalize gOf g.ws = s at *
  unfold gsv
  go_wp2_with fail
  refine bodyPost_ret (v := .tuple #[gsv s, .int .i64 0]) (by simp [results, Tryz.results82, go_sem, gsv, y0, y1, y2, y3, y4]) rfl ?_
  rw [HE.out]
  exact ⟨rfl, ((((hw0.setCell hx _).setCell hx _).setCell hx _).setCell hx _).setCell hx _⟩

end Go.Proofs.YtgngpmgjoifepaaGreatDoor

namespace Go.Proofs.YtgngpmgjoifepaaGreatDoor
open Go.RowKit
attribute [local go_sem ↓] Go.wp_at_zero Go.wp_at_succ

theorem progS_len (ws : List Int) (fuel p : Int) (words : List Int) : (progS ws fuel p words).1.length ≤ ws.length := by
  unfold progS
  split
  · simp
  · split
    · simp
    · split
      · simp
      · rw [chg_length]; exact Nat.le_refl _
theorem doS_le (st : Stp) (ws : List Int) (f : Int) : (doS st ws f).1.length ≤ ws.length := by
  cases st with
  | inl s => exact eraS_len _ _ _
  | inr q => obtain ⟨p, words⟩ := q; exact progS_len _ _ _ _
theorem turnS_le (sts : List Stp) : ∀ (ws : List Int) (f : Int), (turnS sts ws f).1.length ≤ ws.length := by
  induction sts with
  | nil => intro ws f; exact Nat.le_refl _
  | cons st r ih =>
    intro ws f
    by_cases h : (doS st ws f).2.2 = 0
    · rw [turnS_go h]; exact Nat.le_trans (ih _ _) (doS_le _ _ _)
    · rw [turnS_stop h]; exact doS_le _ _ _
end Go.Proofs.YtgngpmgjoifepaaGreatDoor

namespace Go.Proofs.YtgngpmgjoifepaaGreatDoor
open Go.RowKit
attribute [local go_sem ↓] Go.wp_at_zero Go.wp_at_succ

theorem isInts2 {w : World} {b : Nat} {x y : Int} (h0 : w.cell? ⟨b, 0, none⟩ = some (.int .i64 x)) (h1 : w.cell? ⟨b, 1, none⟩ = some (.int .i64 y)) : IsInts w (some ⟨b, 0, none⟩) [x, y] := by
  refine .inr ⟨b, 0, rfl, fun i hi => ?_⟩
  simp at hi
  rcases i with _ | _ | i
  · exact h0
  · exact h1
  · omega
/-- The five blocks that noting makes first. -/
structure NB (W : World) (n : Nat) (s : Us) (ar : Option Addr) (nr cr : Nat) : Prop where
  b0 : W.heap[n]? = some (usO s)
  b1 : W.heap[n + 1]? = some (.cells #[.slice ar nr cr] 25 (0, 0))
  b2 : W.heap[n + 1 + 1]? = some (.cells #[.int .i64 1, .int .i64 s.slot, .int .i64 s.by'] 3 (0, 0))
  b3 : W.heap[n + 1 + 1 + 1]? = some (.cells #[.slice (some ⟨n + 1 + 1, 0, none⟩) 3 3] 133 (0, 0))
  b4 : W.heap[n + 1 + 1 + 1 + 1]? = some (.cells #[.slice (some ⟨n + 1 + 1 + 1, 0, none⟩) 1 1] 130 (0, 0))
end Go.Proofs.YtgngpmgjoifepaaGreatDoor

namespace Go.Proofs.YtgngpmgjoifepaaGreatDoor
open Go.RowKit
attribute [local go_sem ↓] Go.wp_at_zero Go.wp_at_succ

/-- The two boxes: the state's, the message's. -/
structure HB (W : World) (X : Nat) (s : Us) (m : Ms) (a : Option Addr) (n c : Nat) : Prop where
  b0 : W.heap[X]? = some (.cells #[.int .i64 s.slot, .int .i64 s.by', .int .i64 s.rdy] 40 (0, 0))
  b1 : W.heap[X + 1]? = some (.cells #[.int .i64 m.k, .int .i64 m.u, .int .i64 m.n, .int .i64 m.at', .int .i64 m.im, .slice a n c, .bool m.y] 31 (0, 0))
theorem HB.turns {W W' : World} {X B : Nat} {s : Us} {m : Ms} {a : Option Addr} {n c : Nat} (h : HB W X s m a n c) (hg : W.grownBy W' (some B)) (hX : B < X) : HB W' X s m a n c := ⟨blk_turns h.b0 hg (by omega), blk_turns h.b1 hg (by omega)⟩
theorem HB.below {W W' : World} {X : Nat} {s : Us} {m : Ms} {a : Option Addr} {n c : Nat} (h : HB W X s m a n c) (hb : Below W.heap.size W W') : HB W' X s m a n c := ⟨blk_below h.b0 hb, blk_below h.b1 hb⟩
def hW (w : World) (s : Us) (m : Ms) (a : Option Addr) (n c : Nat) : World :=
  (w.alloc (.cells #[.int .i64 s.slot, .int .i64 s.by', .int .i64 s.rdy] 40)).alloc (.cells #[.int .i64 m.k, .int .i64 m.u, .int .i64 m.n, .int .i64 m.at', .int .i64 m.im, .slice a n c, .bool m.y] 31)
/-- What regions read of the boxes. -/
def HS (X : Nat) (s : Us) (m : Ms) (a : Option Addr) (n c : Nat) (W : World) : Prop :=
  W.cell? ⟨X, 0, none⟩ = some (.int .i64 s.slot) ∧ W.cell? ⟨X, 1, none⟩ = some (.int .i64 s.by') ∧ W.cell? ⟨X, 2, none⟩ = some (.int .i64 s.rdy) ∧ W.cell? ⟨X + 1, 2, none⟩ = some (.int .i64 m.n) ∧ W.cell? ⟨X + 1, 3, none⟩ = some (.int .i64 m.at') ∧ W.cell? ⟨X + 1, 4, none⟩ = some (.int .i64 m.im) ∧ W.cell? ⟨X + 1, 5, none⟩ = some (.slice a n c)
theorem HB.hs {W : World} {X : Nat} {s : Us} {m : Ms} {a : Option Addr} {n c : Nat} (h : HB W X s m a n c) : HS X s m a n c W :=
  ⟨blk_cell h.b0 0 _ rfl, blk_cell h.b0 1 _ rfl, blk_cell h.b0 2 _ rfl, blk_cell h.b1 2 _ rfl, blk_cell h.b1 3 _ rfl, blk_cell h.b1 4 _ rfl, blk_cell h.b1 5 _ rfl⟩

end Go.Proofs.YtgngpmgjoifepaaGreatDoor

namespace Go.Proofs.YtgngpmgjoifepaaGreatDoor
open Go.RowKit

theorem ad_add (b off j : Nat) : (⟨b, off, none⟩ : Addr).add j = ⟨b, off + j, none⟩ := by unfold Addr.add; split <;> simp_all
theorem BI.news {w : World} {b off n : Nat} {xs : List Int} (h : BI w (some ⟨b, off, none⟩) n xs) : ∀ j u, (vals xs)[j]? = some u → w.cell? ((⟨b, off, none⟩ : Addr).add j) = some u := by
  intro j u hu
  have hj : j < xs.length := by
    have := (List.getElem?_eq_some_iff.1 hu).1
    simpa [vals] using this
  rw [vals_get xs j hj] at hu
  cases hu
  rcases h.at_ with e | ⟨b', off', e, hc⟩
  · rw [e] at hj; simp at hj
  · cases e
    rw [ad_add]
    exact hc j hj
theorem BI.spot {w : World} {a : Option Addr} {n : Nat} {xs : List Int} (h : BI w a n xs) (h0 : ¬ n = 0) : ∃ b off, a = some ⟨b, off, none⟩ := by
  rcases h.at_ with e | ⟨b, off, e, _⟩
  · have := h.len; rw [e] at this; simp at this; omega
  · exact ⟨b, off, e⟩

set_option maxRecDepth 100000 in
theorem append_emptyI (ty : TypeId) (g : Nat) (ad : Addr) (c : Nat) (w : World) :
    (Builtin.append_ #[25, 25] ty #[.slice (some ⟨g, 0, none⟩) 0 0, .slice (some ad) 0 c]).run Tryz.prog w = .ok (.slice (some ⟨g, 0, none⟩) 0 0) w := by
  obtain ⟨i0, hi0, hz0, hz1, hz2⟩ := info_parts info_int
  have hl : ∀ (x : Addr), (loadCells x 0).run Tryz.prog w = .ok #[] w := fun x => by simpa using run_loadCells_list (P := Tryz.prog) w x [] (by simp)
  simp [Builtin.append_, run_underlying Tryz.underlying25, Builtin.lenOf, Builtin.firstCells, sizeOf, typeInfo, hi0, storeCells, hl]

/-- What Clone answers: a row of its own, or nothing. -/
def ClI (w : World) (xs : List Int) (e : Ending) (w' : World) : Prop := (∃ a c, e = .returned (.slice a xs.length c) ∧ w'.ownsRow w.heap.size 3 1 (.slice a xs.length c) xs.length (vals xs)) ∧ Below w.heap.size w w'

set_option maxRecDepth 100000 in
set_option maxHeartbeats 1000000 in
theorem cloneI_any (a : Option Addr) (n c : Nat) (xs : List Int) (w : World) (h : BI w a n xs) (hb : n * 8 ≤ 140737488355328) :
    Calls Tryz.prog 102 #[.slice a n c] w (ClI w xs) := by
  obtain ⟨irr, hir, rz0, rz1, rz2⟩ := info_parts info_int
  have HN := hide h.len
  have heq := fun (a : Option Addr) (n c : Nat) (W : World) => Go.Lib.run_eql_slice_nil (P := Tryz.prog) W 25 _ a n c 0 0 Tryz.underlying25
  by_cases h0 : n = 0
  · subst h0
    have hx : xs = [] := List.eq_nil_of_length_eq_zero HN.out
    subst hx
    cases a with
    | none =>
      go_enter Tryz.func102, Tryz.ntmps102
      go_wp2
      go_ret
      exact ⟨⟨none, 0, rfl, World.ownsRow_nil _ _ _ _⟩, Below.refl _ _⟩
    | some ad =>
      have he := append_emptyI
      go_enter Tryz.func102, Tryz.ntmps102
      go_wp2
      go_ret
      exact ⟨⟨_, _, rfl, ⟨rfl, .inr ⟨w.heap.size, 0, #[], rfl, Nat.le_refl _, heap_alloc_last _ _, Nat.le_refl _, by decide, rfl, rfl⟩⟩⟩, (Below.refl _ _).alloc (Nat.le_refl _) _⟩
  · obtain ⟨b, off, rfl⟩ := h.spot h0
    have hW := (Below.refl _ w).alloc (Nat.le_refl _) (.cells #[] 3)
    have hnews := (h.below hW).news
    have hrow0 : (w.alloc (.cells #[] 3)).ownsRow w.heap.size 3 1 (.slice (some ⟨w.heap.size, 0, none⟩) 0 0) 0 [] :=
      ⟨rfl, .inr ⟨w.heap.size, 0, #[], rfl, Nat.le_refl _, heap_alloc_last _ _, Nat.le_refl _, by decide, rfl, rfl⟩⟩
    have HNW := hide hnews
    have hm := h.max
    clear h hnews
    go_enter Tryz.func102, Tryz.ntmps102
    go_wp2_with (at_builtin; refine wpList_append_lies _ rfl _ _ 25 rfl w.heap.size 3 irr _ 1 8 Tryz.underlying25 hir rz0 rz1 rz2 rfl (by omega) (.slice (some ⟨w.heap.size, 0, none⟩) 0 0) 0 [] rfl hrow0 ⟨b, off, none⟩ n c (vals xs) rfl (by rw [vals_length, HN.out, Nat.mul_one]) HNW.out (vals_one xs) (by omega) (by omega) (by omega) (by simp) (w.heap.size + 1) (by simp) ?_)
    intro g cap w1 hown hgrow hat hlt
    have hB : Below w.heap.size w w1 := ((Below.refl _ w).alloc (Nat.le_refl _) _).grown hgrow (by simp) (fun k hk => by simp [Value.ownBlock] at hk; omega)
    have HR := hide hown
    clear hown hgrow hat
    go_wp2
    go_ret
    rw [← HN.out] at HR ⊢
    exact ⟨⟨_, cap, by simp, HR.out⟩, hB⟩


theorem own_ints {w : World} {base n c : Nat} {a : Option Addr} {xs : List Int} (h : w.ownsRow base 3 1 (.slice a n c) n (vals xs)) (hn : xs.length = n) : IsInts w a xs ∧ FreshA base a ∧ n ≤ c := by
  obtain ⟨_, ⟨hv, h0⟩ | ⟨g, cap, cur, hv, hg, hh, hc, _, _, ht⟩⟩ := h
  · cases hv
    have : xs = [] := by
      apply List.eq_nil_of_length_eq_zero; omega
    exact ⟨.inl this, (fun _ e => by cases e), Nat.le_refl _⟩
  · cases hv
    refine ⟨.inr ⟨g, 0, rfl, fun i hi => ?_⟩, fun ad e => by cases e; exact hg, hc⟩
    rw [Nat.zero_add]
    refine blk_cell hh i _ ?_
    have hv := vals_get xs i hi
    rw [← ht, List.getElem?_take] at hv
    split at hv
    · simpa using hv
    · cases hv

end Go.Proofs.YtgngpmgjoifepaaGreatDoor
