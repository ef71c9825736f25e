/- The contracts of unit.clearing, filling, sealing, noting: they make steps. -/
import Derived.Test.YtgngpmgjoifepaaGreatDoorPv20
namespace Go.Proofs.YtgngpmgjoifepaaGreatDoor
open Go.RowKit
attribute [local go_sem ↓] Go.wp_at_zero Go.wp_at_succ

def Makes (w : World) (B : Nat) (st : Stu) (e : Ending) (w' : World) : Prop := (∃ fn caps, e = .returned (.func (.func fn) #[] caps) ∧ IsStu w' B (.func (.func fn) #[] caps) st) ∧ Below w.heap.size w w'

theorem cell_turns {w w' : World} {B b i : Nat} {v : Value} (h : w.cell? ⟨b, i, none⟩ = some v) (hg : w.grownBy w' (some B)) (hne : b ≠ B) : w'.cell? ⟨b, i, none⟩ = some v := hg.cell h (fun e => hne (by cases e; rfl))
theorem uLast4 (w : World) (o1 o2 o3 o4 o5 : Obj) : (((((w.alloc o1).alloc o2).alloc o3).alloc o4).alloc o5).heap[w.heap.size + 1 + 1 + 1 + 1]? = some o5 := by
  have := heap_alloc_last ((((w.alloc o1).alloc o2).alloc o3).alloc o4) o5
  rwa [World.size_alloc, World.size_alloc, World.size_alloc, World.size_alloc] at this
theorem bi_turns {w w' : World} {B : Nat} {a : Option Addr} {n : Nat} {xs : List Int} (h : BI w a n xs) (hg : w.grownBy w' (some B)) (ho : xs = [] ∨ Off B a) : BI w' a n xs := by
  refine ⟨?_, h.len, h.max⟩
  rcases ho with e | ho
  { exact .inl e }
  {
  exact ints_turns h.at_ hg ho

  }
set_option maxRecDepth 100000 in
set_option maxHeartbeats 400000 in
theorem clearing_any (s : Int) (B : Nat) (w : World) (hB : B < w.heap.size) : Calls Tryz.prog 154 #[.int .i64 s] w (Makes w B (.clr s)) := by
  have b0 := heap_alloc_last w (.cells #[.int .i64 s] 3)
  have HB0 := hide (blk_cell b0 0 _ rfl)
  clear b0
  go_enter Tryz.func154, Tryz.ntmps154
  go_wp2
  go_ret
  exact ⟨⟨_, _, rfl, fun w' hg => ⟨_, rfl, cell_turns HB0.out hg (by omega)⟩⟩, (Below.refl _ _).alloc (Nat.le_refl _) _⟩

set_option maxRecDepth 100000 in
set_option maxHeartbeats 400000 in
theorem filling_any (s p : Int) (a2 : Option Addr) (n2 c2 : Nat) (words : List Int) (B : Nat) (w : World) (hB : B < w.heap.size) (h2 : BI w a2 n2 words) (ho : words = [] ∨ Off B a2) : Calls Tryz.prog 58 #[.int .i64 s, .int .i64 p, .slice a2 n2 c2] w (Makes w B (.fil s p words)) := by
  have hb : Below w.heap.size w (((w.alloc (.cells #[.int .i64 s] 3)).alloc (.cells #[.int .i64 p] 3)).alloc (.cells #[.slice a2 n2 c2] 25)) := (((Below.refl _ _).alloc (Nat.le_refl _) _).alloc (by simp) _).alloc (by simp; omega) _
  have c0 := hide (blk_cell (blk_alloc (blk_alloc (heap_alloc_last w (.cells #[.int .i64 s] 3)) (.cells #[.int .i64 p] 3)) (.cells #[.slice a2 n2 c2] 25)) 0 _ rfl)
  have c1 := hide (blk_cell (blk_alloc (uLast1 w (.cells #[.int .i64 s] 3) (.cells #[.int .i64 p] 3)) (.cells #[.slice a2 n2 c2] 25)) 0 _ rfl)
  have c2' := hide (blk_cell (uLast2 w (.cells #[.int .i64 s] 3) (.cells #[.int .i64 p] 3) (.cells #[.slice a2 n2 c2] 25)) 0 _ rfl)
  have HI := hide (h2.below hb)
  clear h2
  go_enter Tryz.func58, Tryz.ntmps58
  go_wp2
  go_ret
  exact ⟨⟨_, _, rfl, fun w' hg => ⟨_, _, _, a2, n2, c2, rfl, cell_turns c0.out hg (by omega), cell_turns c1.out hg (by omega), cell_turns c2'.out hg (by omega), bi_turns HI.out hg ho⟩⟩, hb⟩

set_option maxRecDepth 100000 in
set_option maxHeartbeats 400000 in
theorem sealing_any (s l nm : Int) (B : Nat) (w : World) (hB : B < w.heap.size) : Calls Tryz.prog 59 #[.int .i64 s, .int .i64 l, .int .i64 nm] w (Makes w B (.sea s l nm)) := by
  have hb : Below w.heap.size w (((w.alloc (.cells #[.int .i64 s] 3)).alloc (.cells #[.int .i64 l] 3)).alloc (.cells #[.int .i64 nm] 3)) := (((Below.refl _ _).alloc (Nat.le_refl _) _).alloc (by simp) _).alloc (by simp; omega) _
  have c0 := hide (blk_cell (blk_alloc (blk_alloc (heap_alloc_last w (.cells #[.int .i64 s] 3)) (.cells #[.int .i64 l] 3)) (.cells #[.int .i64 nm] 3)) 0 _ rfl)
  have c1 := hide (blk_cell (blk_alloc (uLast1 w (.cells #[.int .i64 s] 3) (.cells #[.int .i64 l] 3)) (.cells #[.int .i64 nm] 3)) 0 _ rfl)
  have c2' := hide (blk_cell (uLast2 w (.cells #[.int .i64 s] 3) (.cells #[.int .i64 l] 3) (.cells #[.int .i64 nm] 3)) 0 _ rfl)
  go_enter Tryz.func59, Tryz.ntmps59
  go_wp2
  go_ret
  exact ⟨⟨_, _, rfl, fun w' hg => ⟨_, _, _, rfl, cell_turns c0.out hg (by omega), cell_turns c1.out hg (by omega), cell_turns c2'.out hg (by omega)⟩⟩, hb⟩

theorem isInts3 {w : World} {b : Nat} {x y z : Int} (h0 : w.cell? ⟨b, 0, none⟩ = some (.int .i64 x)) (h1 : w.cell? ⟨b, 1, none⟩ = some (.int .i64 y)) (h2 : w.cell? ⟨b, 2, none⟩ = some (.int .i64 z)) : IsInts w (some ⟨b, 0, none⟩) [x, y, z] := by
  refine .inr ⟨b, 0, rfl, fun i hi => ?_⟩
  simp at hi
  rcases i with _ | _ | _ | i
  { exact h0 }
  { exact h1 }
  { exact h2 }
  { omega }
theorem isInts2 {w : World} {b : Nat} {x y : Int} (h0 : w.cell? ⟨b, 0, none⟩ = some (.int .i64 x)) (h1 : w.cell? ⟨b, 1, none⟩ = some (.int .i64 y)) : IsInts w (some ⟨b, 0, none⟩) [x, y] := by
  refine .inr ⟨b, 0, rfl, fun i hi => ?_⟩
  simp at hi
  rcases i with _ | _ | i
  { exact h0 }
  { exact h1 }
  { omega }
theorem keepU_0 {s : Us} (h : s.rdy = 0) : keepU s = [[1, s.slot, s.by']] := by unfold keepU; rw [if_pos h]
theorem keepU_1 {s : Us} (h : ¬ s.rdy = 0) : keepU s = [[1, s.slot, s.by'], [2, s.rdy]] := by unfold keepU; rw [if_neg h]
theorem isRecs_one {w : World} {g b : Nat} {r : List Int} {n c : Nat} (hc : w.cell? ⟨g, 0, none⟩ = some (.slice (some ⟨b, 0, none⟩) n c)) (hi : IsInts w (some ⟨b, 0, none⟩) r) (hn : r.length = n) (h1 : n ≤ c) (h2 : c ≤ maxLen) : IsRecs w (some ⟨g, 0, none⟩) [r] := by
  refine .inr ⟨g, 0, rfl, fun i x hx => ?_⟩
  match i with
  | 0 => simp at hx; subst hx; exact ⟨_, c, by rw [hn]; exact hc, hi, by rw [hn]; exact h1, h2⟩
  | i + 1 => simp at hx
theorem isRecs_two {w : World} {g b b2 : Nat} {r r2 : List Int} {n c n2 c2 : Nat} (hc : w.cell? ⟨g, 0, none⟩ = some (.slice (some ⟨b, 0, none⟩) n c)) (hi : IsInts w (some ⟨b, 0, none⟩) r) (hn : r.length = n) (h1 : n ≤ c) (h2 : c ≤ maxLen)
    (hc' : w.cell? ⟨g, 1, none⟩ = some (.slice (some ⟨b2, 0, none⟩) n2 c2)) (hi' : IsInts w (some ⟨b2, 0, none⟩) r2) (hn' : r2.length = n2) (h1' : n2 ≤ c2) (h2' : c2 ≤ maxLen) : IsRecs w (some ⟨g, 0, none⟩) [r, r2] := by
  refine .inr ⟨g, 0, rfl, fun i x hx => ?_⟩
  match i with
  | 0 => simp at hx; subst hx; exact ⟨_, c, by rw [hn]; exact hc, hi, by rw [hn]; exact h1, h2⟩
  | 1 => simp at hx; subst hx; exact ⟨_, c2, by rw [hn']; exact hc', hi', by rw [hn']; exact h1', h2'⟩
  | i + 2 => simp at hx

theorem recRow {w : World} {base g cap : Nat} {v0 v1 : Value} (h : w.ownsRow base 133 1 (.slice (some ⟨g, 0, none⟩) (1 + 1) cap) (1 + 1) ([v0] ++ [v1])) : (∃ cur, w.heap[g]? = some (.cells cur 133 (0, 0))) ∧ w.cell? ⟨g, 0, none⟩ = some v0 ∧ w.cell? ⟨g, 1, none⟩ = some v1 := by
  obtain ⟨_, ⟨hv, _⟩ | ⟨g', cap', cur, hv, hg, hh, hc, _, _, ht⟩⟩ := h
  { cases hv }
  {
  cases hv
  have h0 : (cur.toList.take 2)[0]? = some v0 := by rw [show cur.toList.take 2 = [v0] ++ [v1] from ht]; rfl
  have h1 : (cur.toList.take 2)[1]? = some v1 := by rw [show cur.toList.take 2 = [v0] ++ [v1] from ht]; rfl
  refine ⟨⟨cur, hh⟩, blk_cell hh 0 _ ?_, blk_cell hh 1 _ ?_⟩
  { simpa using h0 }
  {
  simpa using h1

  }
  }
structure NB (W : World) (n : Nat) (s : Us) (ar : Option Addr) (nr cr : Nat) : Prop where
  b0 : W.heap[n]? = some (usO s)
  b1 : W.heap[n + 1]? = some (.cells #[.slice ar nr cr] 25 (0, 0))
  b2 : W.heap[n + 1 + 1]? = some (.cells #[.int .i64 1, .int .i64 s.slot, .int .i64 s.by'] 3 (0, 0))
  b3 : W.heap[n + 1 + 1 + 1]? = some (.cells #[.slice (some ⟨n + 1 + 1, 0, none⟩) 3 3] 133 (0, 0))
  b4 : W.heap[n + 1 + 1 + 1 + 1]? = some (.cells #[.slice (some ⟨n + 1 + 1 + 1, 0, none⟩) 1 1] 130 (0, 0))
def nW (w : World) (s : Us) (ar : Option Addr) (nr cr : Nat) : World :=
  ((((w.alloc (.cells #[.int .i64 s.slot, .int .i64 s.by', .int .i64 s.rdy] 40)).alloc (.cells #[.slice ar nr cr] 25)).alloc (.cells #[.int .i64 1, .int .i64 s.slot, .int .i64 s.by'] 3)).alloc (.cells #[.slice (some ⟨w.heap.size + 1 + 1, 0, none⟩) 3 3] 133)).alloc (.cells #[.slice (some ⟨w.heap.size + 1 + 1 + 1, 0, none⟩) 1 1] 130)
theorem nW_nb (w : World) (s : Us) (ar : Option Addr) (nr cr : Nat) : NB (nW w s ar nr cr) w.heap.size s ar nr cr :=
  ⟨blk_alloc (blk_alloc (blk_alloc (blk_alloc (heap_alloc_last _ _) _) _) _) _, blk_alloc (blk_alloc (blk_alloc (uLast1 _ _ _) _) _) _, blk_alloc (blk_alloc (uLast2 _ _ _ _) _) _, blk_alloc (uLast3 _ _ _ _ _) _, uLast4 _ _ _ _ _ _⟩
theorem nW_below (w : World) (s : Us) (ar : Option Addr) (nr cr : Nat) : Below w.heap.size w (nW w s ar nr cr) :=
  ((((((Below.refl _ _).alloc (Nat.le_refl _) _).alloc (by simp) _).alloc (by simp; omega) _).alloc (by simp; omega) _).alloc (by simp; omega) _)
theorem nW_size (w : World) (s : Us) (ar : Option Addr) (nr cr : Nat) : (nW w s ar nr cr).heap.size = w.heap.size + 1 + 1 + 1 + 1 + 1 := by unfold nW; simp
set_option maxRecDepth 100000 in
set_option maxHeartbeats 3200000 in
theorem noting_any (s : Us) (ar : Option Addr) (nr cr : Nat) (r : List Int) (B : Nat) (w : World) (hB : B < w.heap.size) (hr : BI w ar nr r) (ho : Off B ar) : Calls Tryz.prog 60 #[usv s, .slice ar nr cr] w (Makes w B (.not s r)) := by
  obtain ⟨irr, hir, rz0, rz1, rz2⟩ := info_parts info_record
  have nb := hide (nW_nb w s ar nr cr)
  have hw0 := nW_below w s ar nr cr
  have hsz : w.heap.size + 1 + 1 + 1 + 1 < (nW w s ar nr cr).heap.size := by rw [nW_size]; omega
  have HR := hide (hr.below hw0)
  have HO3 : Hid (Off (w.heap.size + 1 + 1 + 1) ar ∧ Off (w.heap.size + 1 + 1 + 1 + 1) ar ∨ r = []) := by
    rcases ints_off hr.at_ (w.heap.size + 1 + 1 + 1) (by omega) with h | h
    { exact .inr h }
    {
    rcases ints_off hr.at_ (w.heap.size + 1 + 1 + 1 + 1) (by omega) with h2 | h2
    { exact .inr h2 }
    { exact .inl ⟨h, h2⟩ }
    }
  clear hr
  have ml3 : 3 ≤ maxLen := by decide
  unfold usv
  by_cases z : s.rdy = 0
  {
  have HK := hide (keepU_0 z)
  have d : (s.rdy != 0) = false := by simpa using z
  clear z
  unfold nW at nb hw0 hsz HR
  go_enter Tryz.func60, Tryz.ntmps60
  go_wp2_with fail
  go_ret
  refine ⟨⟨_, _, rfl, fun w' hg => ?_⟩, hw0⟩
  refine ⟨_, _, ar, nr, cr, _, 1, 1, rfl, cell_turns (blk_cell nb.out.b1 0 _ rfl) hg (by omega), cell_turns (blk_cell nb.out.b4 0 _ rfl) hg (by omega), bi_turns HR.out hg (.inr ho), ?_, by rw [HK.out]; rfl, Nat.le_trans (by decide) ml3⟩
  rw [HK.out]
  refine isRecs_one (cell_turns (blk_cell nb.out.b3 0 _ rfl) hg (by omega)) ?_ rfl (Nat.le_refl _) ml3
  exact isInts3 (cell_turns (blk_cell nb.out.b2 0 _ rfl) hg (by omega)) (cell_turns (blk_cell nb.out.b2 1 _ rfl) hg (by omega)) (cell_turns (blk_cell nb.out.b2 2 _ rfl) hg (by omega))
  }
  {
  have HK := hide (keepU_1 z)
  have d : (s.rdy != 0) = true := by simpa using z
  clear z
  go_enter Tryz.func60, Tryz.ntmps60
  go_upto_region 3 with fail
  rw [show ((((w.alloc (.cells #[.int .i64 s.slot, .int .i64 s.by', .int .i64 s.rdy] 40)).alloc (.cells #[.slice ar nr cr] 25)).alloc (.cells #[.int .i64 1, .int .i64 s.slot, .int .i64 s.by'] 3)).alloc (.cells #[.slice (some ⟨w.heap.size + 1 + 1, 0, none⟩) 3 3] 133)).alloc (.cells #[.slice (some ⟨w.heap.size + 1 + 1 + 1, 0, none⟩) 1 1] 130) = nW w s ar nr cr from rfl]
  generalize nW w s ar nr cr = W at *
  have a0 := nb.out.b0
  unfold usO at a0
  have x2 := blk_cell a0 2 _ rfl
  have x4 := blk_cell nb.out.b4 0 _ rfl
  have fx4 := blk_free nb.out.b4 0
  have hbB := below_new (below_new (Below.refl W.heap.size W) (.cells #[.int .i64 2, .int .i64 s.rdy] 3)) (.cells #[.slice (some ⟨W.heap.size, 0, none⟩) 2 2] 133)
  have hrow : ((W.alloc (.cells #[.int .i64 2, .int .i64 s.rdy] 3)).alloc (.cells #[.slice (some ⟨W.heap.size, 0, none⟩) 2 2] 133)).ownsRow (w.heap.size + 1 + 1 + 1) 133 1 (.slice (some ⟨w.heap.size + 1 + 1 + 1, 0, none⟩) 1 1) 1 [.slice (some ⟨w.heap.size + 1 + 1, 0, none⟩) 3 3] :=
    ⟨rfl, .inr ⟨_, 1, _, rfl, Nat.le_refl _, blk_below nb.out.b3 hbB, Nat.le_refl _, by decide, rfl, rfl⟩⟩
  have hnews := news_one (W.alloc (.cells #[.int .i64 2, .int .i64 s.rdy] 3)) (.slice (some ⟨W.heap.size, 0, none⟩) 2 2) 133
  rw [World.size_alloc] at hnews
  have bR := hide (blk_alloc (heap_alloc_last W (.cells #[.int .i64 2, .int .i64 s.rdy] 3)) (.cells #[.slice (some ⟨W.heap.size, 0, none⟩) 2 2] 133))
  clear a0
  go_wp2_with (at_builtin; refine wpList_append_lies _ rfl _ _ 130 rfl (w.heap.size + 1 + 1 + 1) 133 irr _ 1 24 Tryz.underlying130 hir rz0 rz1 rz2 rfl (by omega) _ 1 _ rfl hrow ⟨W.heap.size + 1, 0, none⟩ 1 1 [.slice (some ⟨W.heap.size, 0, none⟩) 2 2] rfl rfl hnews (one_one _ _ _) (by omega) (by unfold maxLen; omega) (by omega) (by simp; omega) _ rfl ?_)
  intro g cap w5 hown hgr hat hlt
  have hk5 : Below (w.heap.size + 1 + 1 + 1) W w5 := (hbB.mono (by omega)).grown hgr (by simp; omega) (ownBlock_ge hrow)
  have hgr' : ((W.alloc (.cells #[.int .i64 2, .int .i64 s.rdy] 3)).alloc (.cells #[.slice (some ⟨W.heap.size, 0, none⟩) 2 2] 133)).grownBy w5 (some (w.heap.size + 1 + 1 + 1)) := hgr
  have hgW : W.grownBy w5 (some (w.heap.size + 1 + 1 + 1)) := (turns_of hbB _).trans hgr
  have c1 := hide (cell_turns (blk_cell nb.out.b1 0 _ rfl) hgW (by omega))
  have c20 := hide (cell_turns (blk_cell nb.out.b2 0 _ rfl) hgW (by omega))
  have c21 := hide (cell_turns (blk_cell nb.out.b2 1 _ rfl) hgW (by omega))
  have c22 := hide (cell_turns (blk_cell nb.out.b2 2 _ rfl) hgW (by omega))
  have r0 := hide (cell_turns (blk_cell bR.out 0 _ rfl) hgr' (by omega))
  have r1 := hide (cell_turns (blk_cell bR.out 1 _ rfl) hgr' (by omega))
  have y4 := cell_turns (blk_cell nb.out.b4 0 _ rfl) hgW (by omega)
  have b4' := hide (blk_turns nb.out.b4 hgW (by omega))
  have fy4 := blk_free b4'.out 0
  have HR5 := hide (bi_turns HR.out hgW (HO3.out.elim (fun h => .inr h.1) .inl))
  have hrow5 := hide (recRow hown)
  have hgB : w.heap.size + 1 + 1 + 1 ≤ g := by
    rcases hat with e | e
    {
    have := ownBlock_ge hrow _ e
    omega
    }
    { omega }
  have hg4 : g ≠ w.heap.size + 1 + 1 + 1 + 1 := fun e => by
    obtain ⟨cur, h1⟩ := hrow5.out.1
    rw [e, b4'.out] at h1
    exact absurd h1 (by simp)
  have hw5 : Below w.heap.size w w5 := hw0.trans (hk5.mono (by omega))
  have hlt5 : w.heap.size + 1 + 1 + 1 + 1 < w5.heap.size := blk_lt b4'.out
  clear hown hgr hgr' hat x2 x4 fx4 hrow hnews
  go_wp2_with fail
  go_ret
  have hs4 : w5.grownBy (w5.setCell ⟨w.heap.size + 1 + 1 + 1 + 1, 0, none⟩ (.slice (some ⟨g, 0, none⟩) (1 + 1) cap)) (some (w.heap.size + 1 + 1 + 1 + 1)) := turns_set1 _ _ _ _
  refine ⟨⟨_, _, rfl, fun w' hg => ?_⟩, hw5.setCell (by show w.heap.size ≤ w.heap.size + 1 + 1 + 1 + 1; omega) _⟩
  have hv4 : (w5.setCell ⟨w.heap.size + 1 + 1 + 1 + 1, 0, none⟩ (.slice (some ⟨g, 0, none⟩) (1 + 1) cap)).cell? ⟨w.heap.size + 1 + 1 + 1 + 1, 0, none⟩ = some (.slice (some ⟨g, 0, none⟩) (1 + 1) cap) := by
    refine blk_cell (cs := #[.slice (some ⟨g, 0, none⟩) (1 + 1) cap]) (t := 130) ?_ 0 _ rfl
    have := b4'.out
    simp only [World.setCell, Array.getElem?_modify]
    simp [this]
  have go : ∀ {b i : Nat} {v : Value}, w5.cell? ⟨b, i, none⟩ = some v → b ≠ w.heap.size + 1 + 1 + 1 + 1 → b ≠ B → w'.cell? ⟨b, i, none⟩ = some v := fun h h1 h2 => cell_turns (cell_turns h hs4 h1) hg h2
  refine ⟨_, _, ar, nr, cr, _, 2, cap, rfl, go c1.out (by omega) (by omega), cell_turns hv4 hg (by omega), bi_turns (bi_turns HR5.out hs4 (HO3.out.elim (fun h => .inr h.2) .inl)) hg (.inr ho), ?_, by rw [HK.out]; rfl, Nat.le_trans (by decide) ml3⟩
  rw [HK.out]
  have ml2 : 2 ≤ maxLen := by decide
  refine isRecs_two (go hrow5.out.2.1 hg4 (by omega)) ?_ rfl (Nat.le_refl _) ml3 (go hrow5.out.2.2 hg4 (by omega)) ?_ rfl (Nat.le_refl _) ml2
  { exact isInts3 (go c20.out (by omega) (by omega)) (go c21.out (by omega) (by omega)) (go c22.out (by omega) (by omega)) }
  {
  exact isInts2 (go r0.out (by omega) (by omega)) (go r1.out (by omega) (by omega))

  }
  }
end Go.Proofs.YtgngpmgjoifepaaGreatDoor
