/- The contracts of unit.clearing, filling, sealing, noting: they make steps. The contracts of unit.hearCommit, hearAbort. -/
import Derived.Test.YtgngpmgjoifepaaGreatDoorPg16
import Derived.BigQuiet
namespace Go.Proofs.YtgngpmgjoifepaaGreatDoor
open Go.RowKit
attribute [local go_sem ↓] Go.wp_at_zero Go.wp_at_succ

/-- What a call that makes a step hands back. -/
def Makes (w : World) (B : Nat) (st : Stu) (e : Ending) (w' : World) : Prop := (∃ fn caps, e = .returned (.func (.func fn) #[] caps) ∧ IsStu w' B (.func (.func fn) #[] caps) st) ∧ Below w.heap.size w w'

theorem cell_turns {w w' : World} {B b i : Nat} {v : Value} (h : w.cell? ⟨b, i, none⟩ = some v) (hg : w.grownBy w' (some B)) (hne : b ≠ B) : w'.cell? ⟨b, i, none⟩ = some v := hg.cell h (fun e => hne (by cases e; rfl))
theorem uLast4 (w : World) (o1 o2 o3 o4 o5 : Obj) : (((((w.alloc o1).alloc o2).alloc o3).alloc o4).alloc o5).heap[w.heap.size + 1 + 1 + 1 + 1]? = some o5 := by
  have := heap_alloc_last ((((w.alloc o1).alloc o2).alloc o3).alloc o4) o5
  rwa [World.size_alloc, World.size_alloc, World.size_alloc, World.size_alloc] at this
theorem bi_turns {w w' : World} {B : Nat} {a : Option Addr} {n : Nat} {xs : List Int} (h : BI w a n xs) (hg : w.grownBy w' (some B)) (ho : xs = [] ∨ Off B a) : BI w' a n xs := by
  refine ⟨?_, h.len, h.max⟩
  rcases ho with e | ho
  · exact .inl e
  · exact ints_turns h.at_ hg ho

set_option maxRecDepth 100000 in
set_option maxHeartbeats 400000 in
theorem clearing_any (s : Int) (B : Nat) (w : World) (hB : B < w.heap.size) : Calls Tryz.prog 154 #[.int .i64 s] w (Makes w B (.clr s)) := by
  have b0 := heap_alloc_last w (.cells #[.int .i64 s] 3)
  have HB0 := hide (blk_cell b0 0 _ rfl)
  clear b0
  go_enter Tryz.func154, Tryz.ntmps154
  go_wp2
  go_ret
  exact ⟨⟨_, _, rfl, fun w' hg => ⟨_, rfl, cell_turns HB0.out hg (by omega)⟩⟩, (Below.refl _ _).alloc (Nat.le_refl _) _⟩

set_option maxRecDepth 100000 in
set_option maxHeartbeats 400000 in
theorem filling_any (s p : Int) (a2 : Option Addr) (n2 c2 : Nat) (words : List Int) (B : Nat) (w : World) (hB : B < w.heap.size) (h2 : BI w a2 n2 words) (ho : words = [] ∨ Off B a2) : Calls Tryz.prog 58 #[.int .i64 s, .int .i64 p, .slice a2 n2 c2] w (Makes w B (.fil s p words)) := by
  have hb : Below w.heap.size w (((w.alloc (.cells #[.int .i64 s] 3)).alloc (.cells #[.int .i64 p] 3)).alloc (.cells #[.slice a2 n2 c2] 25)) := (((Below.refl _ _).alloc (Nat.le_refl _) _).alloc (by simp) _).alloc (by simp; omega) _
  have c0 := hide (blk_cell (blk_alloc (blk_alloc (heap_alloc_last w (.cells #[.int .i64 s] 3)) (.cells #[.int .i64 p] 3)) (.cells #[.slice a2 n2 c2] 25)) 0 _ rfl)
  have c1 := hide (blk_cell (blk_alloc (uLast1 w (.cells #[.int .i64 s] 3) (.cells #[.int .i64 p] 3)) (.cells #[.slice a2 n2 c2] 25)) 0 _ rfl)
  have c2' := hide (blk_cell (uLast2 w (.cells #[.int .i64 s] 3) (.cells #[.int .i64 p] 3) (.cells #[.slice a2 n2 c2] 25)) 0 _ rfl)
  have HI := hide (h2.below hb)
  clear h2
  go_enter Tryz.func58, Tryz.ntmps58
  go_wp2
  go_ret
  exact ⟨⟨_, _, rfl, fun w' hg => ⟨_, _, _, a2, n2, c2, rfl, cell_turns c0.out hg (by omega), cell_turns c1.out hg (by omega), cell_turns c2'.out hg (by omega), bi_turns HI.out hg ho⟩⟩, hb⟩

set_option maxRecDepth 100000 in
set_option maxHeartbeats 400000 in
theorem sealing_any (s l nm : Int) (B : Nat) (w : World) (hB : B < w.heap.size) : Calls Tryz.prog 59 #[.int .i64 s, .int .i64 l, .int .i64 nm] w (Makes w B (.sea s l nm)) := by
  have hb : Below w.heap.size w (((w.alloc (.cells #[.int .i64 s] 3)).alloc (.cells #[.int .i64 l] 3)).alloc (.cells #[.int .i64 nm] 3)) := (((Below.refl _ _).alloc (Nat.le_refl _) _).alloc (by simp) _).alloc (by simp; omega) _
  have c0 := hide (blk_cell (blk_alloc (blk_alloc (heap_alloc_last w (.cells #[.int .i64 s] 3)) (.cells #[.int .i64 l] 3)) (.cells #[.int .i64 nm] 3)) 0 _ rfl)
  have c1 := hide (blk_cell (blk_alloc (uLast1 w (.cells #[.int .i64 s] 3) (.cells #[.int .i64 l] 3)) (.cells #[.int .i64 nm] 3)) 0 _ rfl)
  have c2' := hide (blk_cell (uLast2 w (.cells #[.int .i64 s] 3) (.cells #[.int .i64 l] 3) (.cells #[.int .i64 nm] 3)) 0 _ rfl)
  go_enter Tryz.func59, Tryz.ntmps59
  go_wp2
  go_ret
  exact ⟨⟨_, _, rfl, fun w' hg => ⟨_, _, _, rfl, cell_turns c0.out hg (by omega), cell_turns c1.out hg (by omega), cell_turns c2'.out hg (by omega)⟩⟩, hb⟩

theorem isInts3 {w : World} {b : Nat} {x y z : Int} (h0 : w.cell? ⟨b, 0, none⟩ = some (.int .i64 x)) (h1 : w.cell? ⟨b, 1, none⟩ = some (.int .i64 y)) (h2 : w.cell? ⟨b, 2, none⟩ = some (.int .i64 z)) : IsInts w (some ⟨b, 0, none⟩) [x, y, z] := by
  refine .inr ⟨b, 0, rfl, fun i hi => ?_⟩
  simp at hi
  rcases i with _ | _ | _ | i
  · exact h0
  · exact h1
  · exact h2
  · omega
theorem isInts2 {w : World} {b : Nat} {x y : Int} (h0 : w.cell? ⟨b, 0, none⟩ = some (.int .i64 x)) (h1 : w.cell? ⟨b, 1, none⟩ = some (.int .i64 y)) : IsInts w (some ⟨b, 0, none⟩) [x, y] := by
  refine .inr ⟨b, 0, rfl, fun i hi => ?_⟩
  simp at hi
  rcases i with _ | _ | i
  · exact h0
  · exact h1
  · omega
theorem keepU_0 {s : Us} (h : s.rdy = 0) : keepU s = [[1, s.slot, s.by']] := by unfold keepU; rw [if_pos h]
theorem keepU_1 {s : Us} (h : ¬ s.rdy = 0) : keepU s = [[1, s.slot, s.by'], [2, s.rdy]] := by unfold keepU; rw [if_neg h]
theorem isRecs_one {w : World} {g b : Nat} {r : List Int} {n c : Nat} (hc : w.cell? ⟨g, 0, none⟩ = some (.slice (some ⟨b, 0, none⟩) n c)) (hi : IsInts w (some ⟨b, 0, none⟩) r) (hn : r.length = n) (h1 : n ≤ c) (h2 : c ≤ maxLen) : IsRecs w (some ⟨g, 0, none⟩) [r] := by
  refine .inr ⟨g, 0, rfl, fun i x hx => ?_⟩
  match i with
  | 0 => simp at hx; subst hx; exact ⟨_, c, by rw [hn]; exact hc, hi, by rw [hn]; exact h1, h2⟩
  | i + 1 => simp at hx
theorem isRecs_two {w : World} {g b b2 : Nat} {r r2 : List Int} {n c n2 c2 : Nat} (hc : w.cell? ⟨g, 0, none⟩ = some (.slice (some ⟨b, 0, none⟩) n c)) (hi : IsInts w (some ⟨b, 0, none⟩) r) (hn : r.length = n) (h1 : n ≤ c) (h2 : c ≤ maxLen)
    (hc' : w.cell? ⟨g, 1, none⟩ = some (.slice (some ⟨b2, 0, none⟩) n2 c2)) (hi' : IsInts w (some ⟨b2, 0, none⟩) r2) (hn' : r2.length = n2) (h1' : n2 ≤ c2) (h2' : c2 ≤ maxLen) : IsRecs w (some ⟨g, 0, none⟩) [r, r2] := by
  refine .inr ⟨g, 0, rfl, fun i x hx => ?_⟩
  match i with
  | 0 => simp at hx; subst hx; exact ⟨_, c, by rw [hn]; exact hc, hi, by rw [hn]; exact h1, h2⟩
  | 1 => simp at hx; subst hx; exact ⟨_, c2, by rw [hn']; exact hc', hi', by rw [hn']; exact h1', h2'⟩
  | i + 2 => simp at hx

theorem recRow {w : World} {base g cap : Nat} {v0 v1 : Value} (h : w.ownsRow base 133 1 (.slice (some ⟨g, 0, none⟩) (1 + 1) cap) (1 + 1) ([v0] ++ [v1])) : (∃ cur, w.heap[g]? = some (.cells cur 133 (0, 0))) ∧ w.cell? ⟨g, 0, none⟩ = some v0 ∧ w.cell? ⟨g, 1, none⟩ = some v1 := by
  obtain ⟨_, ⟨hv, _⟩ | ⟨g', cap', cur, hv, hg, hh, hc, _, _, ht⟩⟩ := h
  · cases hv
  · cases hv
    have h0 : (cur.toList.take 2)[0]? = some v0 := by rw [show cur.toList.take 2 = [v0] ++ [v1] from ht]; rfl
    have h1 : (cur.toList.take 2)[1]? = some v1 := by rw [show cur.toList.take 2 = [v0] ++ [v1] from ht]; rfl
    refine ⟨⟨cur, hh⟩, blk_cell hh 0 _ ?_, blk_cell hh 1 _ ?_⟩
    · simpa using h0
    · simpa using h1

/-- The five blocks that noting makes first. -/
structure NB (W : World) (n : Nat) (s : Us) (ar : Option Addr) (nr cr : Nat) : Prop where
  b0 : W.heap[n]? = some (usO s)
  b1 : W.heap[n + 1]? = some (.cells #[.slice ar nr cr] 25 (0, 0))
  b2 : W.heap[n + 1 + 1]? = some (.cells #[.int .i64 1, .int .i64 s.slot, .int .i64 s.by'] 3 (0, 0))
  b3 : W.heap[n + 1 + 1 + 1]? = some (.cells #[.slice (some ⟨n + 1 + 1, 0, none⟩) 3 3] 133 (0, 0))
  b4 : W.heap[n + 1 + 1 + 1 + 1]? = some (.cells #[.slice (some ⟨n + 1 + 1 + 1, 0, none⟩) 1 1] 130 (0, 0))
def nW (w : World) (s : Us) (ar : Option Addr) (nr cr : Nat) : World :=
  ((((w.alloc (.cells #[.int .i64 s.slot, .int .i64 s.by', .int .i64 s.rdy] 40)).alloc (.cells #[.slice ar nr cr] 25)).alloc (.cells #[.int .i64 1, .int .i64 s.slot, .int .i64 s.by'] 3)).alloc (.cells #[.slice (some ⟨w.heap.size + 1 + 1, 0, none⟩) 3 3] 133)).alloc (.cells #[.slice (some ⟨w.heap.size + 1 + 1 + 1, 0, none⟩) 1 1] 130)
theorem nW_nb (w : World) (s : Us) (ar : Option Addr) (nr cr : Nat) : NB (nW w s ar nr cr) w.heap.size s ar nr cr :=
  ⟨blk_alloc (blk_alloc (blk_alloc (blk_alloc (heap_alloc_last _ _) _) _) _) _, blk_alloc (blk_alloc (blk_alloc (uLast1 _ _ _) _) _) _, blk_alloc (blk_alloc (uLast2 _ _ _ _) _) _, blk_alloc (uLast3 _ _ _ _ _) _, uLast4 _ _ _ _ _ _⟩
theorem nW_below (w : World) (s : Us) (ar : Option Addr) (nr cr : Nat) : Below w.heap.size w (nW w s ar nr cr) :=
  ((((((Below.refl _ _).alloc (Nat.le_refl _) _).alloc (by simp) _).alloc (by simp; omega) _).alloc (by simp; omega) _).alloc (by simp; omega) _)
theorem nW_size (w : World) (s : Us) (ar : Option Addr) (nr cr : Nat) : (nW w s ar nr cr).heap.size = w.heap.size + 1 + 1 + 1 + 1 + 1 := by unfold nW; simp
theorem keep_len (s : Us) : (keepU s).length ≤ 2 := by unfold keepU; split <;> simp

set_option maxRecDepth 100000 in
set_option maxHeartbeats 3200000 in
theorem noting_any (s : Us) (ar : Option Addr) (nr cr : Nat) (r : List Int) (B : Nat) (w : World) (hB : B < w.heap.size) (hr : BI w ar nr r) (ho : Off B ar) : Calls Tryz.prog 60 #[usv s, .slice ar nr cr] w (Makes w B (.not s r)) := by
  obtain ⟨irr, hir, rz0, rz1, rz2⟩ := info_parts info_record
  have nb := hide (nW_nb w s ar nr cr)
  have hw0 := nW_below w s ar nr cr
  have hsz : w.heap.size + 1 + 1 + 1 + 1 < (nW w s ar nr cr).heap.size := by rw [nW_size]; omega
  have HR := hide (hr.below hw0)
  have HO3 : Hid (Off (w.heap.size + 1 + 1 + 1) ar ∧ Off (w.heap.size + 1 + 1 + 1 + 1) ar ∨ r = []) := by
    rcases ints_off hr.at_ (w.heap.size + 1 + 1 + 1) (by omega) with h | h
    · exact .inr h
    · rcases ints_off hr.at_ (w.heap.size + 1 + 1 + 1 + 1) (by omega) with h2 | h2
      · exact .inr h2
      · exact .inl ⟨h, h2⟩
  clear hr
  have ml3 : 3 ≤ maxLen := by decide
  unfold usv
  by_cases z : s.rdy = 0
  · have HK := hide (keepU_0 z)
    have d : (s.rdy != 0) = false := by simpa using z
    clear z
    unfold nW at nb hw0 hsz HR
    go_enter Tryz.func60, Tryz.ntmps60
    go_wp2_with fail
    go_ret
    refine ⟨⟨_, _, rfl, fun w' hg => ?_⟩, hw0⟩
    refine ⟨_, _, ar, nr, cr, _, 1, 1, rfl, cell_turns (blk_cell nb.out.b1 0 _ rfl) hg (by omega), cell_turns (blk_cell nb.out.b4 0 _ rfl) hg (by omega), bi_turns HR.out hg (.inr ho), ?_, by rw [HK.out]; rfl, Nat.le_trans (by decide) ml3⟩
    rw [HK.out]
    refine isRecs_one (cell_turns (blk_cell nb.out.b3 0 _ rfl) hg (by omega)) ?_ rfl (Nat.le_refl _) ml3
    exact isInts3 (cell_turns (blk_cell nb.out.b2 0 _ rfl) hg (by omega)) (cell_turns (blk_cell nb.out.b2 1 _ rfl) hg (by omega)) (cell_turns (blk_cell nb.out.b2 2 _ rfl) hg (by omega))
  · have HK := hide (keepU_1 z)
    have d : (s.rdy != 0) = true := by simpa using z
    clear z
    go_enter Tryz.func60, Tryz.ntmps60
    go_upto_region 3 with fail
    rw [show ((((w.alloc (.cells #[.int .i64 s.slot, .int .i64 s.by', .int .i64 s.rdy] 40)).alloc (.cells #[.slice ar nr cr] 25)).alloc (.cells #[.int .i64 1, .int .i64 s.slot, .int .i64 s.by'] 3)).alloc (.cells #[.slice (some ⟨w.heap.size + 1 + 1, 0, none⟩) 3 3] 133)).alloc (.cells #[.slice (some ⟨w.heap.size + 1 + 1 + 1, 0, none⟩) 1 1] 130) = nW w s ar nr cr from rfl]
    generalize nW w s ar nr cr = W at *
    have a0 := nb.out.b0
    unfold usO at a0
    have x2 := blk_cell a0 2 _ rfl
    have x4 := blk_cell nb.out.b4 0 _ rfl
    have fx4 := blk_free nb.out.b4 0
    have hbB := below_new (below_new (Below.refl W.heap.size W) (.cells #[.int .i64 2, .int .i64 s.rdy] 3)) (.cells #[.slice (some ⟨W.heap.size, 0, none⟩) 2 2] 133)
    have hrow : ((W.alloc (.cells #[.int .i64 2, .int .i64 s.rdy] 3)).alloc (.cells #[.slice (some ⟨W.heap.size, 0, none⟩) 2 2] 133)).ownsRow (w.heap.size + 1 + 1 + 1) 133 1 (.slice (some ⟨w.heap.size + 1 + 1 + 1, 0, none⟩) 1 1) 1 [.slice (some ⟨w.heap.size + 1 + 1, 0, none⟩) 3 3] :=
      ⟨rfl, .inr ⟨_, 1, _, rfl, Nat.le_refl _, blk_below nb.out.b3 hbB, Nat.le_refl _, by decide, rfl, rfl⟩⟩
    have hnews := news_one (W.alloc (.cells #[.int .i64 2, .int .i64 s.rdy] 3)) (.slice (some ⟨W.heap.size, 0, none⟩) 2 2) 133
    rw [World.size_alloc] at hnews
    have bR := hide (blk_alloc (heap_alloc_last W (.cells #[.int .i64 2, .int .i64 s.rdy] 3)) (.cells #[.slice (some ⟨W.heap.size, 0, none⟩) 2 2] 133))
    clear a0
    go_wp2_with (at_builtin; refine wpList_append_lies _ rfl _ _ 130 rfl (w.heap.size + 1 + 1 + 1) 133 irr _ 1 24 Tryz.underlying130 hir rz0 rz1 rz2 rfl (by omega) _ 1 _ rfl hrow ⟨W.heap.size + 1, 0, none⟩ 1 1 [.slice (some ⟨W.heap.size, 0, none⟩) 2 2] rfl rfl hnews (one_one _ _ _) (by omega) (by unfold maxLen; omega) (by omega) (by simp; omega) _ rfl ?_)
    intro g cap w5 hown hgr hat hlt
    have hk5 : Below (w.heap.size + 1 + 1 + 1) W w5 := (hbB.mono (by omega)).grown hgr (by simp; omega) (ownBlock_ge hrow)
    have hgr' : ((W.alloc (.cells #[.int .i64 2, .int .i64 s.rdy] 3)).alloc (.cells #[.slice (some ⟨W.heap.size, 0, none⟩) 2 2] 133)).grownBy w5 (some (w.heap.size + 1 + 1 + 1)) := hgr
    have hgW : W.grownBy w5 (some (w.heap.size + 1 + 1 + 1)) := (turns_of hbB _).trans hgr
    have c1 := hide (cell_turns (blk_cell nb.out.b1 0 _ rfl) hgW (by omega))
    have c20 := hide (cell_turns (blk_cell nb.out.b2 0 _ rfl) hgW (by omega))
    have c21 := hide (cell_turns (blk_cell nb.out.b2 1 _ rfl) hgW (by omega))
    have c22 := hide (cell_turns (blk_cell nb.out.b2 2 _ rfl) hgW (by omega))
    have r0 := hide (cell_turns (blk_cell bR.out 0 _ rfl) hgr' (by omega))
    have r1 := hide (cell_turns (blk_cell bR.out 1 _ rfl) hgr' (by omega))
    have y4 := cell_turns (blk_cell nb.out.b4 0 _ rfl) hgW (by omega)
    have b4' := hide (blk_turns nb.out.b4 hgW (by omega))
    have fy4 := blk_free b4'.out 0
    have HR5 := hide (bi_turns HR.out hgW (HO3.out.elim (fun h => .inr h.1) .inl))
    have hrow5 := hide (recRow hown)
    have hgB : w.heap.size + 1 + 1 + 1 ≤ g := by
      rcases hat with e | e
      · have := ownBlock_ge hrow _ e
        omega
      · omega
    have hg4 : g ≠ w.heap.size + 1 + 1 + 1 + 1 := fun e => by
      obtain ⟨cur, h1⟩ := hrow5.out.1
      rw [e, b4'.out] at h1
      exact absurd h1 (by simp)
    have hw5 : Below w.heap.size w w5 := hw0.trans (hk5.mono (by omega))
    have hlt5 : w.heap.size + 1 + 1 + 1 + 1 < w5.heap.size := blk_lt b4'.out
    clear hown hgr hgr' hat x2 x4 fx4 hrow hnews
    go_wp2_with fail
    go_ret
    have hs4 : w5.grownBy (w5.setCell ⟨w.heap.size + 1 + 1 + 1 + 1, 0, none⟩ (.slice (some ⟨g, 0, none⟩) (1 + 1) cap)) (some (w.heap.size + 1 + 1 + 1 + 1)) := turns_set1 _ _ _ _
    refine ⟨⟨_, _, rfl, fun w' hg => ?_⟩, hw5.setCell (by show w.heap.size ≤ w.heap.size + 1 + 1 + 1 + 1; omega) _⟩
    have hv4 : (w5.setCell ⟨w.heap.size + 1 + 1 + 1 + 1, 0, none⟩ (.slice (some ⟨g, 0, none⟩) (1 + 1) cap)).cell? ⟨w.heap.size + 1 + 1 + 1 + 1, 0, none⟩ = some (.slice (some ⟨g, 0, none⟩) (1 + 1) cap) := by
      refine blk_cell (cs := #[.slice (some ⟨g, 0, none⟩) (1 + 1) cap]) (t := 130) ?_ 0 _ rfl
      have := b4'.out
      simp only [World.setCell, Array.getElem?_modify]
      simp [this]
    have go : ∀ {b i : Nat} {v : Value}, w5.cell? ⟨b, i, none⟩ = some v → b ≠ w.heap.size + 1 + 1 + 1 + 1 → b ≠ B → w'.cell? ⟨b, i, none⟩ = some v := fun h h1 h2 => cell_turns (cell_turns h hs4 h1) hg h2
    refine ⟨_, _, ar, nr, cr, _, 2, cap, rfl, go c1.out (by omega) (by omega), cell_turns hv4 hg (by omega), bi_turns (bi_turns HR5.out hs4 (HO3.out.elim (fun h => .inr h.2) .inl)) hg (.inr ho), ?_, by rw [HK.out]; rfl, Nat.le_trans (by decide) ml3⟩
    rw [HK.out]
    have ml2 : 2 ≤ maxLen := by decide
    refine isRecs_two (go hrow5.out.2.1 hg4 (by omega)) ?_ rfl (Nat.le_refl _) ml3 (go hrow5.out.2.2 hg4 (by omega)) ?_ rfl (Nat.le_refl _) ml2
    · exact isInts3 (go c20.out (by omega) (by omega)) (go c21.out (by omega) (by omega)) (go c22.out (by omega) (by omega))
    · exact isInts2 (go r0.out (by omega) (by omega)) (go r1.out (by omega) (by omega))

end Go.Proofs.YtgngpmgjoifepaaGreatDoor

namespace Go.Proofs.YtgngpmgjoifepaaGreatDoor
open Go.RowKit
attribute [local go_sem ↓] Go.wp_at_zero Go.wp_at_succ

/-- One step. -/
theorem change1_any (B : Nat) (st : Stu) (u : Un) (v : Value) (t : TypeId) (w : World) (hU : OwnU w B u) (hs : IsStu w B v st) :
    Calls Tryz.prog 56 #[.pointer (some ⟨B, 0, none⟩), .slice (some ⟨w.heap.size, 0, none⟩) 1 1] (w.alloc (.cells #[v] t)) fun e w' => e = .returned (.bool (doV u st).2) ∧ OwnU w' B (doV u st).1 ∧ w.grownBy w' (some B) := by
  have hb := heap_alloc_last w (.cells #[v] t)
  have hbA : Below w.heap.size w (w.alloc (.cells #[v] t)) := (Below.refl _ _).alloc (Nat.le_refl _) _
  refine (unitChange_any B w.heap.size 1 1 [st] u _ (hU.below hbA) (fun i x hx => ?_) (by have := hU.lt; omega) rfl (by decide)).mono ?_
  · match i with
    | 0 => simp at hx; subst hx; exact ⟨v, blk_cell hb 0 _ rfl, hs.turns (turns_of hbA B)⟩
    | i + 1 => simp at hx
  · rintro e w' ⟨rfl, h2, h3⟩
    rw [turnU_one] at h2 ⊢
    exact ⟨rfl, h2, (turns_of hbA B).trans h3⟩

/-- What the inner calls of Hear hand back. -/
def HAns (w : World) (B : Nat) (r : Un × List Ms) (e : Ending) (w' : World) : Prop :=
  (∃ a n c, e = .returned (.slice a n c) ∧ IsMsgs w' a r.2 ∧ r.2.length = n ∧ n ≤ c ∧ c ≤ 1) ∧ OwnU w' B r.1 ∧ w.grownBy w' (some B)
theorem hAns_nil {w w' : World} {B : Nat} {u : Un} {r : Un × List Ms} (hr : r = (u, [])) (hu : OwnU w' B u) (hg : w.grownBy w' (some B)) : HAns w B r (.returned (.slice none 0 0)) w' := by
  subst hr
  exact ⟨⟨none, 0, 0, rfl, .inl rfl, rfl, Nat.le_refl _, by decide⟩, hu, hg⟩

/-- The two boxes: the state's, the message's. -/
structure HB (W : World) (X : Nat) (s : Us) (m : Ms) (a : Option Addr) (n c : Nat) : Prop where
  b0 : W.heap[X]? = some (.cells #[.int .i64 s.slot, .int .i64 s.by', .int .i64 s.rdy] 40 (0, 0))
  b1 : W.heap[X + 1]? = some (.cells #[.int .i64 m.k, .int .i64 m.u, .int .i64 m.n, .int .i64 m.at', .int .i64 m.im, .slice a n c, .bool m.y] 31 (0, 0))
theorem HB.turns {W W' : World} {X B : Nat} {s : Us} {m : Ms} {a : Option Addr} {n c : Nat} (h : HB W X s m a n c) (hg : W.grownBy W' (some B)) (hX : B < X) : HB W' X s m a n c := ⟨blk_turns h.b0 hg (by omega), blk_turns h.b1 hg (by omega)⟩
theorem HB.below {W W' : World} {X : Nat} {s : Us} {m : Ms} {a : Option Addr} {n c : Nat} (h : HB W X s m a n c) (hb : Below W.heap.size W W') : HB W' X s m a n c := ⟨blk_below h.b0 hb, blk_below h.b1 hb⟩
def hW (w : World) (s : Us) (m : Ms) (a : Option Addr) (n c : Nat) : World :=
  (w.alloc (.cells #[.int .i64 s.slot, .int .i64 s.by', .int .i64 s.rdy] 40)).alloc (.cells #[.int .i64 m.k, .int .i64 m.u, .int .i64 m.n, .int .i64 m.at', .int .i64 m.im, .slice a n c, .bool m.y] 31)
theorem hW_hb (w : World) (s : Us) (m : Ms) (a : Option Addr) (n c : Nat) : HB (hW w s m a n c) w.heap.size s m a n c := ⟨blk_alloc (heap_alloc_last _ _) _, uLast1 _ _ _⟩
theorem hW_below (w : World) (s : Us) (m : Ms) (a : Option Addr) (n c : Nat) : Below w.heap.size w (hW w s m a n c) := ((Below.refl _ _).alloc (Nat.le_refl _) _).alloc (by simp) _

/-- What regions read of the boxes. -/
def HS (X : Nat) (s : Us) (m : Ms) (a : Option Addr) (n c : Nat) (W : World) : Prop :=
  W.cell? ⟨X, 0, none⟩ = some (.int .i64 s.slot) ∧ W.cell? ⟨X, 1, none⟩ = some (.int .i64 s.by') ∧ W.cell? ⟨X, 2, none⟩ = some (.int .i64 s.rdy) ∧ W.cell? ⟨X + 1, 2, none⟩ = some (.int .i64 m.n) ∧ W.cell? ⟨X + 1, 3, none⟩ = some (.int .i64 m.at') ∧ W.cell? ⟨X + 1, 4, none⟩ = some (.int .i64 m.im) ∧ W.cell? ⟨X + 1, 5, none⟩ = some (.slice a n c)
theorem HB.hs {W : World} {X : Nat} {s : Us} {m : Ms} {a : Option Addr} {n c : Nat} (h : HB W X s m a n c) : HS X s m a n c W :=
  ⟨blk_cell h.b0 0 _ rfl, blk_cell h.b0 1 _ rfl, blk_cell h.b0 2 _ rfl, blk_cell h.b1 2 _ rfl, blk_cell h.b1 3 _ rfl, blk_cell h.b1 4 _ rfl, blk_cell h.b1 5 _ rfl⟩

theorem comS_1 {u : Un} {s : Us} {m : Ms} (h : s.by' = m.n) : comS u s m = (u, [doneM m]) := by unfold comS; rw [if_pos h]
theorem comS_2 {u : Un} {s : Us} {m : Ms} (h : ¬ s.by' = m.n) (h2 : ¬ s.rdy = m.n) : comS u s m = (u, []) := by unfold comS; rw [if_neg h, if_pos h2]
theorem comS_3 {u : Un} {s : Us} {m : Ms} (h : ¬ s.by' = m.n) (h2 : s.rdy = m.n) (h3 : (doV u (.not s [1, oth s, m.n])).2 = true) : comS u s m = ((doV u (.not s [1, oth s, m.n])).1, [doneM m]) := by unfold comS; rw [if_neg h, if_neg (by simpa using h2), if_pos h3]
theorem comS_4 {u : Un} {s : Us} {m : Ms} (h : ¬ s.by' = m.n) (h2 : s.rdy = m.n) (h3 : (doV u (.not s [1, oth s, m.n])).2 = false) : comS u s m = ((doV u (.not s [1, oth s, m.n])).1, []) := by unfold comS; rw [if_neg h, if_neg (by simpa using h2), if_neg (by rw [h3]; decide)]
theorem aboS_1 {u : Un} {s : Us} {m : Ms} (h : m.n ≤ s.by') : aboS u s m = (u, []) := by unfold aboS; rw [if_pos h]
theorem aboS_2 {u : Un} {s : Us} {m : Ms} (h : ¬ m.n ≤ s.by') (h2 : ¬ s.rdy = m.n) : aboS u s m = aboB u m := by unfold aboS; rw [if_neg h, if_neg h2]
theorem aboS_3 {u : Un} {s : Us} {m : Ms} (h : ¬ m.n ≤ s.by') (h2 : s.rdy = m.n) (h3 : (doV u (.not s [3, m.n])).2 = true) : aboS u s m = aboB (doV u (.not s [3, m.n])).1 m := by unfold aboS; rw [if_neg h, if_pos h2, if_pos h3]
theorem aboS_4 {u : Un} {s : Us} {m : Ms} (h : ¬ m.n ≤ s.by') (h2 : s.rdy = m.n) (h3 : (doV u (.not s [3, m.n])).2 = false) : aboS u s m = ((doV u (.not s [3, m.n])).1, []) := by unfold aboS; rw [if_neg h, if_pos h2, if_neg (by rw [h3]; decide)]
theorem aboB_1 {u : Un} {m : Ms} (h : u.n = m.n) : aboB u m = (mind u 0 0, [doneM m]) := by unfold aboB; rw [if_pos h]
theorem aboB_2 {u : Un} {m : Ms} (h : ¬ u.n = m.n) : aboB u m = (u, [doneM m]) := by unfold aboB; rw [if_neg h]

theorem bi_made3 (w : World) (x y z : Int) (t : TypeId) : BI (w.alloc (.cells #[.int .i64 x, .int .i64 y, .int .i64 z] t)) (some ⟨w.heap.size, 0, none⟩) 3 [x, y, z] :=
  ⟨isInts3 (blk_cell (heap_alloc_last _ _) 0 _ rfl) (blk_cell (heap_alloc_last _ _) 1 _ rfl) (blk_cell (heap_alloc_last _ _) 2 _ rfl), rfl, by decide⟩
theorem bi_made2 (w : World) (x y : Int) (t : TypeId) : BI (w.alloc (.cells #[.int .i64 x, .int .i64 y] t)) (some ⟨w.heap.size, 0, none⟩) 2 [x, y] :=
  ⟨isInts2 (blk_cell (heap_alloc_last _ _) 0 _ rfl) (blk_cell (heap_alloc_last _ _) 1 _ rfl), rfl, by decide⟩

set_option maxRecDepth 100000 in
set_option maxHeartbeats 3200000 in
theorem hearCommit_any (B : Nat) (u : Un) (s : Us) (m : Ms) (a : Option Addr) (n c : Nat) (w : World) (hU : OwnU w B u) (hs0 : 0 ≤ s.slot) (hs1 : s.slot ≤ 1) :
    Calls Tryz.prog 105 #[.pointer (some ⟨B, 0, none⟩), usv s, msv m a n c] w (HAns w B (comS u s m)) := by
  have hb := hide (hW_hb w s m a n c)
  have hw0 := hW_below w s m a n c
  have hB := hU.lt
  have hU0 := hide (hU.below hw0)
  clear hU
  unfold usv msv
  have q := hb.out.hs
  unfold HS at q
  obtain ⟨x0, x1, x2, y2, y3, y4, y5⟩ := q
  by_cases z1 : s.by' = m.n
  · have HE := hide (comS_1 (u := u) z1)
    have d1 : (s.by' == m.n) = true := by simpa using z1
    have b1 := hide hb.out.b1
    clear z1
    unfold hW at x0 x1 x2 y2 y3 y4 y5 hw0 hU0 b1
    have v0 := blk_cell b1.out 0 _ rfl
    have v1 := blk_cell b1.out 1 _ rfl
    have v6 := blk_cell b1.out 6 _ rfl
    go_enter Tryz.func105, Tryz.ntmps105
    go_wp2_with fail
    refine (done_any m a n c _).mono ?_
    rintro e w1 ⟨⟨b, rfl, hm, _⟩, hb1⟩
    go_wp2_with fail
    go_ret
    rw [HE.out]
    exact ⟨⟨_, 1, 1, rfl, hm, rfl, Nat.le_refl _, Nat.le_refl _⟩, hU0.out.below hb1, (turns_of hw0 B).trans (turns_of hb1 B)⟩
  have d1 : (s.by' == m.n) = false := by simpa using z1
  have Z1 := hide z1
  go_enter Tryz.func105, Tryz.ntmps105
  unfold hW at x0 x1 x2 y2 y3 y4 y5
  go_upto_region 3 with fail
  clear x0 x1 x2 y2 y3 y4 y5
  rw [show (w.alloc (.cells #[.int .i64 s.slot, .int .i64 s.by', .int .i64 s.rdy] 40)).alloc (.cells #[.int .i64 m.k, .int .i64 m.u, .int .i64 m.n, .int .i64 m.at', .int .i64 m.im, .slice a n c, .bool m.y] 31) = hW w s m a n c from rfl]
  generalize hW w s m a n c = W at *
  by_cases z2 : s.rdy = m.n
  rotate_left
  · have HE := hide (comS_2 (u := u) z1 z2)
    have d2 : (s.rdy != m.n) = true := by simpa using z2
    clear z1 z2
    refine wp_region_held_drew (S := fun W' => W'.cell? ⟨w.heap.size, 0, none⟩ = some (.int .i64 s.slot) ∧ W'.cell? ⟨w.heap.size, 1, none⟩ = some (.int .i64 s.by') ∧ W'.cell? ⟨w.heap.size, 2, none⟩ = some (.int .i64 s.rdy) ∧ W'.cell? ⟨w.heap.size + 1, 2, none⟩ = some (.int .i64 m.n) ∧ W'.cell? ⟨w.heap.size + 1, 3, none⟩ = some (.int .i64 m.at') ∧ W'.cell? ⟨w.heap.size + 1, 4, none⟩ = some (.int .i64 m.im) ∧ W'.cell? ⟨w.heap.size + 1, 5, none⟩ = some (.slice a n c)) (by kernel_rfl) hb.out.hs ?_
    intro hHeld
    refine wpAnyH_take (i := 0) (v := ?_) (by simp only [List.getElem?_toArray, List.getElem?_cons_zero]; rfl) (by kernel_rfl) (by kernel_rfl) (by kernel_rfl) (by exact fun _ _ _ h => h) (Or.inl ⟨by rfl, ?_⟩) (by assumption) ?_
    rotate_left
    · intro w hSw
      try dsimp only at hSw
      go_simp
      try with_reducible rfl
    try simp only [Act.put, List.setIfInBounds_toArray, List.set_cons_zero, List.set_cons_succ]
    refine wpAnyH_take (i := 1) (v := ?_) (by simp only [List.getElem?_toArray, List.getElem?_cons_zero, List.getElem?_cons_succ]; rfl) (by kernel_rfl) (by kernel_rfl) (by kernel_rfl) (by exact fun _ _ _ h => h) (Or.inl ⟨by rfl, ?_⟩) (by assumption) ?_
    rotate_left
    · intro w hSw
      try dsimp only at hSw
      go_simp
      try with_reducible rfl
    try simp only [Act.put, List.setIfInBounds_toArray, List.set_cons_zero, List.set_cons_succ]
    refine wpAnyH_take (i := 2) (v := ?_) (by simp only [List.getElem?_toArray, List.getElem?_cons_zero, List.getElem?_cons_succ]; rfl) (by kernel_rfl) (by kernel_rfl) (by kernel_rfl) (by exact fun _ _ _ h => h) (Or.inl ⟨by rfl, ?_⟩) (by assumption) ?_
    rotate_left
    · intro w hSw
      try dsimp only at hSw
      go_simp
      try with_reducible rfl
    try simp only [Act.put, List.setIfInBounds_toArray, List.set_cons_zero, List.set_cons_succ]
    refine wpAnyH_take (i := 3) (v := ?_) (by simp only [List.getElem?_toArray, List.getElem?_cons_zero, List.getElem?_cons_succ]; rfl) (by kernel_rfl) (by kernel_rfl) (by kernel_rfl) (by exact fun _ _ _ h => h) (Or.inl ⟨by rfl, ?_⟩) (by assumption) ?_
    rotate_left
    · intro w hSw
      try dsimp only at hSw
      go_simp
      try with_reducible rfl
    try simp only [Act.put, List.setIfInBounds_toArray, List.set_cons_zero, List.set_cons_succ]
    refine wpAnyH_take (i := 4) (v := ?_) (by simp only [List.getElem?_toArray, List.getElem?_cons_zero, List.getElem?_cons_succ]; rfl) (by kernel_rfl) (by kernel_rfl) (by kernel_rfl) (by exact fun _ _ _ h => h) (Or.inl ⟨by rfl, ?_⟩) (by assumption) ?_
    rotate_left
    · intro w hSw
      try dsimp only at hSw
      go_simp
      try with_reducible rfl
    try simp only [Act.put, List.setIfInBounds_toArray, List.set_cons_zero, List.set_cons_succ]
    refine wpAnyH_take (i := 5) (v := ?_) (by simp only [List.getElem?_toArray, List.getElem?_cons_zero, List.getElem?_cons_succ]; rfl) (by kernel_rfl) (by kernel_rfl) (by kernel_rfl) (by exact fun _ _ _ h => h) (Or.inl ⟨by rfl, ?_⟩) (by assumption) ?_
    rotate_left
    · intro w hSw
      try dsimp only at hSw
      go_simp
      try with_reducible rfl
    try simp only [Act.put, List.setIfInBounds_toArray, List.set_cons_zero, List.set_cons_succ]
    refine wpAnyH_take (i := 6) (v := undef) (by simp only [List.getElem?_toArray, List.getElem?_cons_zero, List.getElem?_cons_succ]; rfl) (by kernel_rfl) (by kernel_rfl) (by kernel_rfl) (by exact fun _ _ _ h => h) (Or.inr ⟨by rfl, rfl⟩) (by assumption) ?_
    try simp only [Act.put, List.setIfInBounds_toArray, List.set_cons_zero, List.set_cons_succ]
    refine wpAnyH_take (i := 7) (v := undef) (by simp only [List.getElem?_toArray, List.getElem?_cons_zero, List.getElem?_cons_succ]; rfl) (by kernel_rfl) (by kernel_rfl) (by kernel_rfl) (by exact fun _ _ _ h => h) (Or.inr ⟨by rfl, rfl⟩) (by assumption) ?_
    try simp only [Act.put, List.setIfInBounds_toArray, List.set_cons_zero, List.set_cons_succ]
    refine wpAnyH_take (i := 8) (v := undef) (by simp only [List.getElem?_toArray, List.getElem?_cons_zero, List.getElem?_cons_succ]; rfl) (by kernel_rfl) (by kernel_rfl) (by kernel_rfl) (by exact fun _ _ _ h => h) (Or.inr ⟨by rfl, rfl⟩) (by assumption) ?_
    try simp only [Act.put, List.setIfInBounds_toArray, List.set_cons_zero, List.set_cons_succ]
    refine wpAnyH_take (i := 9) (v := undef) (by simp only [List.getElem?_toArray, List.getElem?_cons_zero, List.getElem?_cons_succ]; rfl) (by kernel_rfl) (by kernel_rfl) (by kernel_rfl) (by exact fun _ _ _ h => h) (Or.inr ⟨by rfl, rfl⟩) (by assumption) ?_
    try simp only [Act.put, List.setIfInBounds_toArray, List.set_cons_zero, List.set_cons_succ]
    refine wpAnyH_take (i := 10) (v := undef) (by simp only [List.getElem?_toArray, List.getElem?_cons_zero, List.getElem?_cons_succ]; rfl) (by kernel_rfl) (by kernel_rfl) (by kernel_rfl) (by exact fun _ _ _ h => h) (Or.inr ⟨by rfl, rfl⟩) (by assumption) ?_
    try simp only [Act.put, List.setIfInBounds_toArray, List.set_cons_zero, List.set_cons_succ]
    refine wpAnyH_take (i := 11) (v := undef) (by simp only [List.getElem?_toArray, List.getElem?_cons_zero, List.getElem?_cons_succ]; rfl) (by kernel_rfl) (by kernel_rfl) (by kernel_rfl) (by exact fun _ _ _ h => h) (Or.inr ⟨by rfl, rfl⟩) (by assumption) ?_
    try simp only [Act.put, List.setIfInBounds_toArray, List.set_cons_zero, List.set_cons_succ]
    refine wpAnyH_take (i := 12) (v := undef) (by simp only [List.getElem?_toArray, List.getElem?_cons_zero, List.getElem?_cons_succ]; rfl) (by kernel_rfl) (by kernel_rfl) (by kernel_rfl) (by exact fun _ _ _ h => h) (Or.inr ⟨by rfl, rfl⟩) (by assumption) ?_
    try simp only [Act.put, List.setIfInBounds_toArray, List.set_cons_zero, List.set_cons_succ]
    refine wpAnyH_take (i := 13) (v := undef) (by simp only [List.getElem?_toArray, List.getElem?_cons_zero, List.getElem?_cons_succ]; rfl) (by kernel_rfl) (by kernel_rfl) (by kernel_rfl) (by exact fun _ _ _ h => h) (Or.inr ⟨by rfl, rfl⟩) (by assumption) ?_
    try simp only [Act.put, List.setIfInBounds_toArray, List.set_cons_zero, List.set_cons_succ]
    refine wpAnyH_take (i := 14) (v := undef) (by simp only [List.getElem?_toArray, List.getElem?_cons_zero, List.getElem?_cons_succ]; rfl) (by kernel_rfl) (by kernel_rfl) (by kernel_rfl) (by exact fun _ _ _ h => h) (Or.inr ⟨by rfl, rfl⟩) (by assumption) ?_
    try simp only [Act.put, List.setIfInBounds_toArray, List.set_cons_zero, List.set_cons_succ]
    refine wpAnyH_take (i := 15) (v := undef) (by simp only [List.getElem?_toArray, List.getElem?_cons_zero, List.getElem?_cons_succ]; rfl) (by kernel_rfl) (by kernel_rfl) (by kernel_rfl) (by exact fun _ _ _ h => h) (Or.inr ⟨by rfl, rfl⟩) (by assumption) ?_
    try simp only [Act.put, List.setIfInBounds_toArray, List.set_cons_zero, List.set_cons_succ]
    refine wpAnyH_take (i := 16) (v := undef) (by simp only [List.getElem?_toArray, List.getElem?_cons_zero, List.getElem?_cons_succ]; rfl) (by kernel_rfl) (by kernel_rfl) (by kernel_rfl) (by exact fun _ _ _ h => h) (Or.inr ⟨by rfl, rfl⟩) (by assumption) ?_
    try simp only [Act.put, List.setIfInBounds_toArray, List.set_cons_zero, List.set_cons_succ]
    refine wpAnyH_take (i := 17) (v := ?_) (by simp only [List.getElem?_toArray, List.getElem?_cons_zero, List.getElem?_cons_succ]; rfl) (by kernel_rfl) (by kernel_rfl) (by kernel_rfl) (by exact fun _ _ _ h => h) (Or.inl ⟨by rfl, ?_⟩) (by assumption) ?_
    rotate_left
    · intro w hSw
      try dsimp only at hSw
      go_simp
      try with_reducible rfl
    try simp only [Act.put, List.setIfInBounds_toArray, List.set_cons_zero, List.set_cons_succ]
    refine wpAnyH_done (by kernel_rfl) ?_ _
    go_wp2_with fail
    go_ret
    exact hAns_nil HE.out (hU0.out.below (Below.refl _ _).drew) (grown_drew' (turns_of hw0 B))
  have d2 : (s.rdy != m.n) = false := by simpa using z2
  have HE3 := hide (comS_3 (u := u) z1 z2)
  have HE4 := hide (comS_4 (u := u) z1 z2)
  have hne : w.heap.size ≠ B := by omega
  clear z1 z2
  refine wp_region_held_drew (S := fun W' => W'.cell? ⟨w.heap.size, 0, none⟩ = some (.int .i64 s.slot) ∧ W'.cell? ⟨w.heap.size, 1, none⟩ = some (.int .i64 s.by') ∧ W'.cell? ⟨w.heap.size, 2, none⟩ = some (.int .i64 s.rdy) ∧ W'.cell? ⟨w.heap.size + 1, 2, none⟩ = some (.int .i64 m.n) ∧ W'.cell? ⟨w.heap.size + 1, 3, none⟩ = some (.int .i64 m.at') ∧ W'.cell? ⟨w.heap.size + 1, 4, none⟩ = some (.int .i64 m.im) ∧ W'.cell? ⟨w.heap.size + 1, 5, none⟩ = some (.slice a n c)) (by kernel_rfl) hb.out.hs ?_
  intro hHeld
  refine wpAnyH_take (i := 0) (v := ?_) (by simp only [List.getElem?_toArray, List.getElem?_cons_zero]; rfl) (by kernel_rfl) (by kernel_rfl) (by kernel_rfl) (by exact fun _ _ _ h => h) (Or.inl ⟨by rfl, ?_⟩) (by assumption) ?_
  rotate_left
  · intro w hSw
    try dsimp only at hSw
    go_simp
    try with_reducible rfl
  try simp only [Act.put, List.setIfInBounds_toArray, List.set_cons_zero, List.set_cons_succ]
  refine wpAnyH_take (i := 1) (v := ?_) (by simp only [List.getElem?_toArray, List.getElem?_cons_zero, List.getElem?_cons_succ]; rfl) (by kernel_rfl) (by kernel_rfl) (by kernel_rfl) (by exact fun _ _ _ h => h) (Or.inl ⟨by rfl, ?_⟩) (by assumption) ?_
  rotate_left
  · intro w hSw
    try dsimp only at hSw
    go_simp
    try with_reducible rfl
  try simp only [Act.put, List.setIfInBounds_toArray, List.set_cons_zero, List.set_cons_succ]
  refine wpAnyH_take (i := 2) (v := ?_) (by simp only [List.getElem?_toArray, List.getElem?_cons_zero, List.getElem?_cons_succ]; rfl) (by kernel_rfl) (by kernel_rfl) (by kernel_rfl) (by exact fun _ _ _ h => h) (Or.inl ⟨by rfl, ?_⟩) (by assumption) ?_
  rotate_left
  · intro w hSw
    try dsimp only at hSw
    go_simp
    try with_reducible rfl
  try simp only [Act.put, List.setIfInBounds_toArray, List.set_cons_zero, List.set_cons_succ]
  refine wpAnyH_take (i := 3) (v := ?_) (by simp only [List.getElem?_toArray, List.getElem?_cons_zero, List.getElem?_cons_succ]; rfl) (by kernel_rfl) (by kernel_rfl) (by kernel_rfl) (by exact fun _ _ _ h => h) (Or.inl ⟨by rfl, ?_⟩) (by assumption) ?_
  rotate_left
  · intro w hSw
    try dsimp only at hSw
    go_simp
    try with_reducible rfl
  try simp only [Act.put, List.setIfInBounds_toArray, List.set_cons_zero, List.set_cons_succ]
  refine wpAnyH_take (i := 4) (v := ?_) (by simp only [List.getElem?_toArray, List.getElem?_cons_zero, List.getElem?_cons_succ]; rfl) (by kernel_rfl) (by kernel_rfl) (by kernel_rfl) (by exact fun _ _ _ h => h) (Or.inl ⟨by rfl, ?_⟩) (by assumption) ?_
  rotate_left
  · intro w hSw
    try dsimp only at hSw
    go_simp
    try with_reducible rfl
  try simp only [Act.put, List.setIfInBounds_toArray, List.set_cons_zero, List.set_cons_succ]
  refine wpAnyH_take (i := 5) (v := ?_) (by simp only [List.getElem?_toArray, List.getElem?_cons_zero, List.getElem?_cons_succ]; rfl) (by kernel_rfl) (by kernel_rfl) (by kernel_rfl) (by exact fun _ _ _ h => h) (Or.inl ⟨by rfl, ?_⟩) (by assumption) ?_
  rotate_left
  · intro w hSw
    try dsimp only at hSw
    go_simp
    try with_reducible rfl
  try simp only [Act.put, List.setIfInBounds_toArray, List.set_cons_zero, List.set_cons_succ]
  refine wpAnyH_take (i := 6) (v := ?_) (by simp only [List.getElem?_toArray, List.getElem?_cons_zero, List.getElem?_cons_succ]; rfl) (by kernel_rfl) (by kernel_rfl) (by kernel_rfl) (by exact fun _ _ _ h => h) (Or.inl ⟨by rfl, ?_⟩) (by assumption) ?_
  rotate_left
  · intro w hSw
    try dsimp only at hSw
    go_simp
    try with_reducible rfl
  try simp only [Act.put, List.setIfInBounds_toArray, List.set_cons_zero, List.set_cons_succ]
  refine wpAnyH_take (i := 7) (v := ?_) (by simp only [List.getElem?_toArray, List.getElem?_cons_zero, List.getElem?_cons_succ]; rfl) (by kernel_rfl) (by kernel_rfl) (by kernel_rfl) (by exact fun _ _ _ h => h) (Or.inl ⟨by rfl, ?_⟩) (by assumption) ?_
  rotate_left
  · intro w hSw
    try dsimp only at hSw
    go_simp
    try with_reducible rfl
  try simp only [Act.put, List.setIfInBounds_toArray, List.set_cons_zero, List.set_cons_succ]
  refine wpAnyH_take (i := 8) (v := ?_) (by simp only [List.getElem?_toArray, List.getElem?_cons_zero, List.getElem?_cons_succ]; rfl) (by kernel_rfl) (by kernel_rfl) (by kernel_rfl) (by exact fun _ _ _ h => h) (Or.inl ⟨by rfl, ?_⟩) (by assumption) ?_
  rotate_left
  · intro w hSw
    try dsimp only at hSw
    go_simp
    try with_reducible rfl
  try simp only [Act.put, List.setIfInBounds_toArray, List.set_cons_zero, List.set_cons_succ]
  refine wpAnyH_take (i := 10) (v := ?_) (by simp only [List.getElem?_toArray, List.getElem?_cons_zero, List.getElem?_cons_succ]; rfl) (by kernel_rfl) (by kernel_rfl) (by kernel_rfl) (by exact fun _ _ _ h => h) (Or.inl ⟨by rfl, ?_⟩) (by assumption) ?_
  rotate_left
  · intro w hSw
    try dsimp only at hSw
    go_simp
    try with_reducible rfl
  try simp only [Act.put, List.setIfInBounds_toArray, List.set_cons_zero, List.set_cons_succ]
  refine wpAnyH_take (i := 11) (v := ?_) (by simp only [List.getElem?_toArray, List.getElem?_cons_zero, List.getElem?_cons_succ]; rfl) (by kernel_rfl) (by kernel_rfl) (by kernel_rfl) (by exact fun _ _ _ h => h) (Or.inl ⟨by rfl, ?_⟩) (by assumption) ?_
  rotate_left
  · intro w hSw
    try dsimp only at hSw
    go_simp
    try with_reducible rfl
  try simp only [Act.put, List.setIfInBounds_toArray, List.set_cons_zero, List.set_cons_succ]
  refine wpAnyH_ready (rs := [9]) (by kernel_rfl) (by simp) ?_
  refine AllReadyH.cons (by simp only [List.getElem?_toArray, List.getElem?_cons_zero, List.getElem?_cons_succ]; rfl) (fun K hK => ?_) AllReadyH.nil
  go_simp
  have hk0 : Below W.heap.size W W.drew := (Below.refl _ _).drew
  have HO := hide (other_any s W.drew hs0 hs1)
  refine (unhide HO).mono ?_
  rintro e w1 ⟨rfl, hb1⟩
  have hk1 := hk0.trans (hb1.mono hk0.size)
  clear hb1 HO hk0
  go_wp2_with fail
  refine hK.out _ _ ((hb.out.below hk1).hs) (fun hHeld => ?_)
  clear hK K
  try simp only [Act.put, List.setIfInBounds_toArray, List.set_cons_zero, List.set_cons_succ]
  refine wpAnyH_ready (rs := [12]) (by kernel_rfl) (by simp) ?_
  refine AllReadyH.cons (by simp only [List.getElem?_toArray, List.getElem?_cons_zero, List.getElem?_cons_succ]; rfl) (fun K hK => ?_) AllReadyH.nil
  go_simp
  have hk2 := below_new hk1 (.cells #[.int .i64 1, .int .i64 (oth s), .int .i64 m.n] 3)
  refine hK.out _ _ ((hb.out.below hk2).hs) (fun hHeld => ?_)
  clear hK K
  try simp only [Act.put, List.setIfInBounds_toArray, List.set_cons_zero, List.set_cons_succ]
  refine wpAnyH_ready (rs := [13]) (by kernel_rfl) (by simp) ?_
  refine AllReadyH.cons (by simp only [List.getElem?_toArray, List.getElem?_cons_zero, List.getElem?_cons_succ]; rfl) (fun K hK => ?_) AllReadyH.nil
  go_simp
  have HNt := hide (noting_any s (some ⟨w1.heap.size, 0, none⟩) 3 3 [1, oth s, m.n] B _ (by simp; have := hk1.size; have := hw0.size; omega) (bi_made3 w1 1 (oth s) m.n 3) (fun ad e => by cases e; show w1.heap.size ≠ B; have := hk1.size; have := hw0.size; omega))
  unfold usv at HNt
  refine (unhide HNt).mono ?_
  rintro e w3 ⟨⟨fn3, caps3, rfl, hv3⟩, hb3⟩
  have hk3 := hk2.trans (hb3.mono hk2.size)
  clear hb3 HNt
  go_wp2_with fail
  refine hK.out _ _ ((hb.out.below hk3).hs) (fun hHeld => ?_)
  clear hK K
  try simp only [Act.put, List.setIfInBounds_toArray, List.set_cons_zero, List.set_cons_succ]
  refine wpAnyH_ready (rs := [14]) (by kernel_rfl) (by simp) ?_
  refine AllReadyH.cons (by simp only [List.getElem?_toArray, List.getElem?_cons_zero, List.getElem?_cons_succ]; rfl) (fun K hK => ?_) AllReadyH.nil
  go_simp
  have hk4 := below_new hk3 (.cells #[.func (.func fn3) #[] caps3] 117)
  refine hK.out _ _ ((hb.out.below hk4).hs) (fun hHeld => ?_)
  clear hK K
  try simp only [Act.put, List.setIfInBounds_toArray, List.set_cons_zero, List.set_cons_succ]
  refine wpAnyH_ready (rs := [15]) (by kernel_rfl) (by simp) ?_
  refine AllReadyH.cons (by simp only [List.getElem?_toArray, List.getElem?_cons_zero, List.getElem?_cons_succ]; rfl) (fun K hK => ?_) AllReadyH.nil
  go_simp
  have HCh := hide (change1_any B _ u (.func (.func fn3) #[] caps3) 117 w3 (hU0.out.below hk3) hv3)
  refine (unhide HCh).mono ?_
  rintro e w5 ⟨rfl, hU5, hg5⟩
  have hg := (turns_of hk3 B).trans hg5
  have HU5 := hide hU5
  have HG := hide ((turns_of hw0 B).trans hg)
  have HB5 := hide (hb.out.turns hg hB)
  clear hU5 hg5 HCh hk1 hk2 hk3 hk4 hg
  generalize doV u (.not s [1, oth s, m.n]) = R at *
  go_wp2_with fail
  refine hK.out _ _ (HB5.out.hs) (fun hHeld => ?_)
  clear hK K
  try simp only [Act.put, List.setIfInBounds_toArray, List.set_cons_zero, List.set_cons_succ]
  refine wpAnyH_take (i := 16) (v := ?_) (by simp only [List.getElem?_toArray, List.getElem?_cons_zero, List.getElem?_cons_succ]; rfl) (by kernel_rfl) (by kernel_rfl) (by kernel_rfl) (by exact fun _ _ _ h => h) (Or.inl ⟨by rfl, ?_⟩) (by assumption) ?_
  rotate_left
  · intro w hSw
    try dsimp only at hSw
    go_simp
    try with_reducible rfl
  try simp only [Act.put, List.setIfInBounds_toArray, List.set_cons_zero, List.set_cons_succ]
  refine wpAnyH_take (i := 17) (v := ?_) (by simp only [List.getElem?_toArray, List.getElem?_cons_zero, List.getElem?_cons_succ]; rfl) (by kernel_rfl) (by kernel_rfl) (by kernel_rfl) (by exact fun _ _ _ h => h) (Or.inl ⟨by rfl, ?_⟩) (by assumption) ?_
  rotate_left
  · intro w hSw
    try dsimp only at hSw
    go_simp
    try with_reducible rfl
  try simp only [Act.put, List.setIfInBounds_toArray, List.set_cons_zero, List.set_cons_succ]
  refine wpAnyH_done (by kernel_rfl) ?_ _
  clear hHeld
  cases g : R.2
  · have HE := hide (HE4.out g)
    go_wp2_with fail
    go_ret
    exact hAns_nil HE.out HU5.out HG.out
  · have HE := hide (HE3.out g)
    have v0 := blk_cell HB5.out.b1 0 _ rfl
    have v1 := blk_cell HB5.out.b1 1 _ rfl
    have v2 := blk_cell HB5.out.b1 2 _ rfl
    have v3' := blk_cell HB5.out.b1 3 _ rfl
    have v4 := blk_cell HB5.out.b1 4 _ rfl
    have v5 := blk_cell HB5.out.b1 5 _ rfl
    have v6 := blk_cell HB5.out.b1 6 _ rfl
    have HDn := hide (done_any m a n c w5)
    unfold msv at HDn
    go_wp2_with fail
    refine (unhide HDn).mono ?_
    rintro e w6 ⟨⟨b, rfl, hm, _⟩, hb6⟩
    go_wp2_with fail
    go_ret
    rw [HE.out]
    exact ⟨⟨_, 1, 1, rfl, hm, rfl, Nat.le_refl _, Nat.le_refl _⟩, HU5.out.below hb6, HG.out.trans (turns_of hb6 B)⟩

end Go.Proofs.YtgngpmgjoifepaaGreatDoor
