/- The contracts of unit.Read, Runs, Boot; of the reference's SameUnit. -/
import Derived.Test.YtanpglfpopbfkabGreatDoorPk26
import Derived.Test.YtanpglfpopbfkabGreatDoorPk32
import Derived.Test.YtanpglfpopbfkabGreatDoorPk15
import Derived.BigQuiet
namespace Go.Proofs.YtanpglfpopbfkabGreatDoor
open Go.RowKit
attribute [local go_sem ↓] Go.wp_at_zero Go.wp_at_succ

/-- The document's Read. -/
def uReadS (u : Un) : Us × Int := if unE u ≠ 0 then (us0, unE u) else (stOf u.ws, 0)
theorem uReadS_e {u : Un} (h : unE u ≠ 0) : uReadS u = (us0, unE u) := by unfold uReadS; rw [if_pos h]
theorem uReadS_0 {u : Un} (h : unE u = 0) : uReadS u = (stOf u.ws, 0) := by unfold uReadS; rw [if_neg (by simpa using h)]

set_option maxRecDepth 100000 in
set_option maxHeartbeats 1600000 in
theorem unitRead_any (u : Un) (a : Option Addr) (n c : Nat) (w : World) (h : BW w a n c u.ws) :
    Calls Tryz.prog 27 #[unv u a n c] w fun e w' => e = .returned (.tuple #[usv (uReadS u).1, .int .i64 (uReadS u).2]) ∧ Below w.heap.size w w' := by
  have hw0 : Below w.heap.size w ((w.alloc (.cells #[.slice a n c, .int .i64 u.fu, .bool u.up, .int .i64 u.n, .int .i64 u.hv] 50)).alloc (.cells #[.int .i64 0, .int .i64 0, .int .i64 0] 57)) := ((Below.refl _ _).alloc (Nat.le_refl _) _).alloc (by simp) _
  have b0 : Hid (((w.alloc (.cells #[.slice a n c, .int .i64 u.fu, .bool u.up, .int .i64 u.n, .int .i64 u.hv] 50)).alloc (.cells #[.int .i64 0, .int .i64 0, .int .i64 0] 57)).heap[w.heap.size]? = some (.cells #[.slice a n c, .int .i64 u.fu, .bool u.up, .int .i64 u.n, .int .i64 u.hv] 50 (0, 0))) := blk_alloc (heap_alloc_last _ _) _
  have b1 : Hid (((w.alloc (.cells #[.slice a n c, .int .i64 u.fu, .bool u.up, .int .i64 u.n, .int .i64 u.hv] 50)).alloc (.cells #[.int .i64 0, .int .i64 0, .int .i64 0] 57)).heap[w.heap.size + 1]? = some (.cells #[.int .i64 0, .int .i64 0, .int .i64 0] 57 (0, 0))) := uLast1 _ _ _
  have HC := hide (fun W (hW : Below w.heap.size w W) => unitCheck_any u a n c W (h.below hW))
  have HS := hide (fun (e1 : lchk u.ws u.fu = 0) W (hW : Below w.heap.size w W) => stateOf_any a n c u.ws u.fu W (h.below hW) e1)
  have E1 := hide (fun h => uReadS_e (u := u) h)
  have E0 := hide (fun h => uReadS_0 (u := u) h)
  have hx : w.heap.size ≤ w.heap.size + 1 := by omega
  unfold unv at *
  clear h
  go_enter Tryz.func27, Tryz.ntmps27
  go_wp2_with fail
  generalize (w.alloc (.cells #[.slice a n c, .int .i64 u.fu, .bool u.up, .int .i64 u.n, .int .i64 u.hv] 50)).alloc (.cells #[.int .i64 0, .int .i64 0, .int .i64 0] 57) = W at *
  refine (unhide HC _ hw0).mono ?_
  rintro e w1 ⟨rfl, hb⟩
  replace b0 := hide (blk_below b0.out hb)
  replace b1 := hide (blk_below b1.out hb)
  replace hw0 := hw0.trans (hb.mono hw0.size)
  clear hb HC
  by_cases z1 : unE u = 0
  rotate_left
  · have HE := hide (E1.out z1)
    have d1 : (unE u != 0) = true := by simpa using z1
    have y0 := blk_cell b1.out 0 _ rfl
    have y1 := blk_cell b1.out 1 _ rfl
    have y2 := blk_cell b1.out 2 _ rfl
    have f0 := blk_free b1.out 0
    have f1 := blk_free b1.out 1
    have f2 := blk_free b1.out 2
    clear z1
    generalize unE u = q at *
    go_wp2_with fail
    refine bodyPost_ret (v := .tuple #[usv us0, .int .i64 q]) (by simp [results, Tryz.results27, go_sem, usv, us0, y0, y1, y2]) rfl ?_
    rw [HE.out]
    exact ⟨rfl, ((hw0.setCell hx _).setCell hx _).setCell hx _⟩
  have HE := hide (E0.out z1)
  have HSt := hide (HS.out (unE_ok z1).1 _ hw0)
  rw [z1]
  clear z1 E1 E0 HS
  have x0 := blk_cell b0.out 0 _ rfl
  have x1 := blk_cell b0.out 1 _ rfl
  go_wp2_with fail
  refine (unhide HSt).mono ?_
  rintro e w2 ⟨rfl, hb⟩
  replace b1 := hide (blk_below b1.out hb)
  replace hw0 := hw0.trans (hb.mono hw0.size)
  clear hb HSt x0 x1
  have y0 := blk_cell b1.out 0 _ rfl
  have y1 := blk_cell b1.out 1 _ rfl
  have y2 := blk_cell b1.out 2 _ rfl
  have f0 := blk_free b1.out 0
  have f1 := blk_free b1.out 1
  have f2 := blk_free b1.out 2
  generalize stOf u.ws = s at *
  unfold usv
  go_wp2_with fail
  refine bodyPost_ret (v := .tuple #[usv s, .int .i64 0]) (by simp [results, Tryz.results27, go_sem, usv, y0, y1, y2]) rfl ?_
  rw [HE.out]
  exact ⟨rfl, ((hw0.setCell hx _).setCell hx _).setCell hx _⟩

/-- The flash of a unit. -/
theorem info_flash : (Tryz.prog.info? 48).map (fun i => (i.zero, i.size, i.bytes)) = some (some (.agg #[.slice none 0 0, .int .i64 0]), 2, 32) := by kernel_rfl
set_option maxRecDepth 100000 in
theorem unit_field (a : Option Addr) (n c : Nat) (fu x y : Int) (up : Bool) (w : World) :
    (Instr.field 50 (.agg #[.slice a n c, .int .i64 fu, .bool up, .int .i64 x, .int .i64 y]) 0).run Tryz.prog w = .ok (.agg #[.slice a n c, .int .i64 fu]) w := by
  obtain ⟨i0, hi0, hz0, hz1, hz2⟩ := info_parts info_flash
  simp [Instr.field, run_underlying Tryz.underlying50, part, go_sem, isAgg, sizeOf, typeInfo, asAgg, hi0, hz1]

/-- The document's Boot. -/
def bootS (u : Un) : Un × Int := if unE u ≠ 0 then (un0, unE u) else (⟨u.ws, -1, true, 0, 0⟩, 0)
theorem bootS_e {u : Un} (h : unE u ≠ 0) : bootS u = (un0, unE u) := by unfold bootS; rw [if_pos h]
theorem bootS_0 {u : Un} (h : unE u = 0) : bootS u = (⟨u.ws, -1, true, 0, 0⟩, 0) := by unfold bootS; rw [if_neg (by simpa using h)]
/-- What a call hands back that answers a unit and an error. -/
def UnAns (w : World) (r : Un × Int) (e : Ending) (w' : World) : Prop :=
  (∃ a n c, e = .returned (.tuple #[unv r.1 a n c, .int .i64 r.2]) ∧ BW w' a n c r.1.ws) ∧ Below w.heap.size w w'

set_option maxRecDepth 100000 in
set_option maxHeartbeats 1600000 in
theorem unitBoot_any (u : Un) (a : Option Addr) (n c : Nat) (w : World) (h : BW w a n c u.ws) :
    Calls Tryz.prog 30 #[unv u a n c] w (UnAns w (bootS u)) := by
  have hw0 : Below w.heap.size w ((w.alloc (.cells #[.slice a n c, .int .i64 u.fu, .bool u.up, .int .i64 u.n, .int .i64 u.hv] 50)).alloc (.cells #[.slice none 0 0, .int .i64 0, .bool false, .int .i64 0, .int .i64 0] 50)) := ((Below.refl _ _).alloc (Nat.le_refl _) _).alloc (by simp) _
  have b0 : Hid (((w.alloc (.cells #[.slice a n c, .int .i64 u.fu, .bool u.up, .int .i64 u.n, .int .i64 u.hv] 50)).alloc (.cells #[.slice none 0 0, .int .i64 0, .bool false, .int .i64 0, .int .i64 0] 50)).heap[w.heap.size]? = some (.cells #[.slice a n c, .int .i64 u.fu, .bool u.up, .int .i64 u.n, .int .i64 u.hv] 50 (0, 0))) := blk_alloc (heap_alloc_last _ _) _
  have b1 : Hid (((w.alloc (.cells #[.slice a n c, .int .i64 u.fu, .bool u.up, .int .i64 u.n, .int .i64 u.hv] 50)).alloc (.cells #[.slice none 0 0, .int .i64 0, .bool false, .int .i64 0, .int .i64 0] 50)).heap[w.heap.size + 1]? = some (.cells #[.slice none 0 0, .int .i64 0, .bool false, .int .i64 0, .int .i64 0] 50 (0, 0))) := uLast1 _ _ _
  have HC := hide (fun W (hW : Below w.heap.size w W) => unitCheck_any u a n c W (h.below hW))
  have HT := hide (fun (hb : n * 8 ≤ 140737488355328) W (hW : Below w.heap.size w W) => unitTwin_any u a n c W (h.below hW) hb)
  have E1 := hide (fun h => bootS_e (u := u) h)
  have E0 := hide (fun h => bootS_0 (u := u) h)
  have hx : w.heap.size ≤ w.heap.size + 1 := by omega
  have HN := hide h.len
  unfold unv at *
  clear h
  go_enter Tryz.func30, Tryz.ntmps30
  go_wp2_with fail
  generalize (w.alloc (.cells #[.slice a n c, .int .i64 u.fu, .bool u.up, .int .i64 u.n, .int .i64 u.hv] 50)).alloc (.cells #[.slice none 0 0, .int .i64 0, .bool false, .int .i64 0, .int .i64 0] 50) = W at *
  refine (unhide HC _ hw0).mono ?_
  rintro e w1 ⟨rfl, hb⟩
  replace b0 := hide (blk_below b0.out hb)
  replace b1 := hide (blk_below b1.out hb)
  replace hw0 := hw0.trans (hb.mono hw0.size)
  clear hb HC
  by_cases z1 : unE u = 0
  rotate_left
  · have HE := hide (E1.out z1)
    have d1 : (unE u != 0) = true := by simpa using z1
    have y0 := blk_cell b1.out 0 _ rfl
    have y1 := blk_cell b1.out 1 _ rfl
    have y2 := blk_cell b1.out 2 _ rfl
    have y3 := blk_cell b1.out 3 _ rfl
    have y4 := blk_cell b1.out 4 _ rfl
    have f0 := blk_free b1.out 0
    have f1 := blk_free b1.out 1
    have f2 := blk_free b1.out 2
    have f3 := blk_free b1.out 3
    have f4 := blk_free b1.out 4
    clear z1
    generalize unE u = q at *
    go_wp2_with fail
    refine bodyPost_ret (v := .tuple #[unv un0 none 0 0, .int .i64 q]) (by simp [results, Tryz.results30, go_sem, unv, un0, y0, y1, y2, y3, y4]) rfl ?_
    rw [HE.out]
    exact ⟨⟨none, 0, 0, rfl, ⟨.inl rfl, rfl, Nat.le_refl _, by decide⟩⟩, ((((hw0.setCell hx _).setCell hx _).setCell hx _).setCell hx _).setCell hx _⟩
  have HE := hide (E0.out z1)
  have LN := hide (unE_ok z1).2.1
  have HTw := hide (HT.out (by rw [← HN.out, LN.out]; decide) _ hw0)
  rw [z1]
  clear z1 E1 E0 HT
  have x0 := blk_cell b0.out 0 _ rfl
  have x1 := blk_cell b0.out 1 _ rfl
  have x2 := blk_cell b0.out 2 _ rfl
  have x3 := blk_cell b0.out 3 _ rfl
  have x4 := blk_cell b0.out 4 _ rfl
  go_wp2_with fail
  refine (unhide HTw).mono ?_
  rintro e w2 ⟨⟨a2, c2, rfl, hi2, hf2, hc2⟩, hb⟩
  rw [LN.out] at hc2
  unfold unv
  rw [LN.out]
  replace b1 := hide (blk_below b1.out hb)
  replace hw0 := hw0.trans (hb.mono hw0.size)
  have HI2 := hide hi2
  clear hb HTw x0 x1 x2 x3 x4 hi2 hf2
  have hfld := unit_field a2 192 c2 u.fu u.n u.hv u.up
  go_upto_region 5 with fail
  clear hfld
  have S0 := hide (heap_alloc_last w2 (.cells #[.slice a2 192 c2, .int .i64 u.fu, .bool true, .int .i64 0, .int .i64 0] 50))
  have hb3 : Below w2.heap.size w2 (w2.alloc (.cells #[.slice a2 192 c2, .int .i64 u.fu, .bool true, .int .i64 0, .int .i64 0] 50)) := (Below.refl _ _).alloc (Nat.le_refl _) _
  have hX : w.heap.size + 1 < w2.heap.size := blk_lt b1.out
  have ho2 : Hid (Off w2.heap.size a2) := by
    rcases ints_off HI2.out w2.heap.size (Nat.le_refl _) with e | h
    · have := LN.out; rw [e] at this; simp at this
    · exact h
  replace HI2 := hide (HI2.out.below hb3)
  replace b1 := hide (blk_below b1.out hb3)
  have hB := hw0.size
  replace hw0 := hw0.trans (hb3.mono hw0.size)
  clear hb3
  generalize w2.heap.size = B at *
  generalize w2.alloc (.cells #[.slice a2 192 c2, .int .i64 u.fu, .bool true, .int .i64 0, .int .i64 0] 50) = W3 at *
  have s0 := blk_cell S0.out 0 _ rfl
  have s1 := blk_cell S0.out 1 _ rfl
  have r1 := blk_free S0.out 1
  go_upto_region 6 with fail
  clear s0 s1
  have S1 : Hid ((W3.setCell ⟨B, 1, none⟩ (.int .i64 (-1))).heap[B]? = some (.cells #[.slice a2 192 c2, .int .i64 (-1), .bool true, .int .i64 0, .int .i64 0] 50 (0, 0))) := by
    show _ = _
    have h0 := S0.out
    simp only [World.setCell, Array.getElem?_modify]
    simp [h0]
  have hg := turns_set1 W3 B 1 (.int .i64 (-1))
  replace b1 := hide (blk_turns b1.out hg (by omega))
  replace HI2 := hide (ints_turns HI2.out hg ho2.out)
  replace hw0 := hw0.setCell (p := ⟨B, 1, none⟩) hB (.int .i64 (-1))
  clear hg S0 r1 ho2
  generalize W3.setCell ⟨B, 1, none⟩ (.int .i64 (-1)) = W4 at *
  have s0 := blk_cell S1.out 0 _ rfl
  have s1 := blk_cell S1.out 1 _ rfl
  have s2 := blk_cell S1.out 2 _ rfl
  have s3 := blk_cell S1.out 3 _ rfl
  have s4 := blk_cell S1.out 4 _ rfl
  have y0 := blk_cell b1.out 0 _ rfl
  have y1 := blk_cell b1.out 1 _ rfl
  have y2 := blk_cell b1.out 2 _ rfl
  have y3 := blk_cell b1.out 3 _ rfl
  have y4 := blk_cell b1.out 4 _ rfl
  have f0 := blk_free b1.out 0
  have f1 := blk_free b1.out 1
  have f2 := blk_free b1.out 2
  have f3 := blk_free b1.out 3
  have f4 := blk_free b1.out 4
  go_wp2_with fail
  refine bodyPost_ret (v := .tuple #[unv ⟨u.ws, -1, true, 0, 0⟩ a2 192 c2, .int .i64 0]) (by simp [results, Tryz.results30, go_sem, unv, y0, y1, y2, y3, y4]) rfl ?_
  rw [HE.out]
  have hbw : BW W4 a2 192 c2 u.ws := ⟨HI2.out, LN.out, hc2, by decide⟩
  have ho := ints_unit HI2.out (.inr (by rw [LN.out]; decide)) b1.out rfl
  exact ⟨⟨a2, 192, c2, rfl, ((((hbw.ne ho _ _).ne ho _ _).ne ho _ _).ne ho _ _).ne ho _ _⟩, ((((hw0.setCell hx _).setCell hx _).setCell hx _).setCell hx _).setCell hx _⟩

set_option maxRecDepth 100000 in
theorem state_field (x y z : Int) (w : World) : (Instr.field 57 (.agg #[.int .i64 x, .int .i64 y, .int .i64 z]) 0).run Tryz.prog w = .ok (.int .i64 x) w := by
  simp [Instr.field, run_underlying Tryz.underlying57, part, go_sem, isAgg, asAgg]

/-- The document's Runs. -/
def runsS (u : Un) : List Int × Int × Int := if unE u ≠ 0 then ([], 0, unE u) else imgS u.ws u.fu (stOf u.ws).slot
theorem runsS_e {u : Un} (h : unE u ≠ 0) : runsS u = ([], 0, unE u) := by unfold runsS; rw [if_pos h]
theorem runsS_0 {u : Un} (h : unE u = 0) : runsS u = imgS u.ws u.fu (stOf u.ws).slot := by unfold runsS; rw [if_neg (by simpa using h)]

set_option maxRecDepth 100000 in
set_option maxHeartbeats 3200000 in
theorem unitRuns_any (u : Un) (a : Option Addr) (n c : Nat) (w : World) (h : BW w a n c u.ws) :
    Calls Tryz.prog 26 #[unv u a n c] w (Shows w (runsS u)) := by
  have hw0 : Below w.heap.size w (w.alloc (.cells #[.slice a n c, .int .i64 u.fu, .bool u.up, .int .i64 u.n, .int .i64 u.hv] 50)) := (Below.refl _ _).alloc (Nat.le_refl _) _
  have b0 := hide (heap_alloc_last w (.cells #[.slice a n c, .int .i64 u.fu, .bool u.up, .int .i64 u.n, .int .i64 u.hv] 50))
  have HC := hide (fun W (hW : Below w.heap.size w W) => unitCheck_any u a n c W (h.below hW))
  have HS := hide (fun (e1 : lchk u.ws u.fu = 0) W (hW : Below w.heap.size w W) => stateOf_any a n c u.ws u.fu W (h.below hW) e1)
  have HI := hide (fun W (hW : Below w.heap.size w W) => image_any a n c u.ws u.fu (stOf u.ws).slot W (h.below hW).at_ h.len h.max h.cap)
  have E1 := hide (fun h => runsS_e (u := u) h)
  have E0 := hide (fun h => runsS_0 (u := u) h)
  unfold unv at *
  clear h
  go_enter Tryz.func26, Tryz.ntmps26
  go_wp2_with fail
  generalize w.alloc (.cells #[.slice a n c, .int .i64 u.fu, .bool u.up, .int .i64 u.n, .int .i64 u.hv] 50) = W at *
  refine (unhide HC _ hw0).mono ?_
  rintro e w1 ⟨rfl, hb⟩
  replace b0 := hide (blk_below b0.out hb)
  replace hw0 := hw0.trans (hb.mono hw0.size)
  clear hb HC
  by_cases z1 : unE u = 0
  rotate_left
  · have HE := hide (E1.out z1)
    have d1 : (unE u != 0) = true := by simpa using z1
    clear z1
    generalize unE u = q at *
    go_wp2_with fail
    refine bodyPost_ret (v := .tuple #[.slice none 0 0, .int .i64 0, .int .i64 q]) (by simp [results, Tryz.results26, go_sem]) rfl ?_
    exact shows_err HE.out hw0
  have HE := hide (E0.out z1)
  replace HS := hide (HS.out (unE_ok z1).1)
  rw [z1]
  clear z1 E1 E0
  generalize imgS u.ws u.fu (stOf u.ws).slot = r at *
  generalize stOf u.ws = s at *
  go_upto_region 4 with fail
  refine wp_region_held_drew (S := fun W' => W'.cell? ⟨w.heap.size, 0, none⟩ = some (.slice a n c) ∧ W'.cell? ⟨w.heap.size, 1, none⟩ = some (.int .i64 u.fu)) (by kernel_rfl) ⟨blk_cell b0.out 0 _ rfl, blk_cell b0.out 1 _ rfl⟩ ?_
  intro hHeld
  refine wpAnyH_take (i := 0) (v := ?_) (by simp only [List.getElem?_toArray, List.getElem?_cons_zero]; rfl) (by kernel_rfl) (by kernel_rfl) (by kernel_rfl) (by exact fun _ _ _ h => h) (Or.inl ⟨by rfl, ?_⟩) (by assumption) ?_
  rotate_left
  · intro w hSw
    try dsimp only at hSw
    go_simp
    try with_reducible rfl
  try simp only [Act.put, List.setIfInBounds_toArray, List.set_cons_zero, List.set_cons_succ]
  refine wpAnyH_take (i := 1) (v := ?_) (by simp only [List.getElem?_toArray, List.getElem?_cons_zero, List.getElem?_cons_succ]; rfl) (by kernel_rfl) (by kernel_rfl) (by kernel_rfl) (by exact fun _ _ _ h => h) (Or.inl ⟨by rfl, ?_⟩) (by assumption) ?_
  rotate_left
  · intro w hSw
    try dsimp only at hSw
    go_simp
    try with_reducible rfl
  try simp only [Act.put, List.setIfInBounds_toArray, List.set_cons_zero, List.set_cons_succ]
  refine wpAnyH_take (i := 2) (v := ?_) (by simp only [List.getElem?_toArray, List.getElem?_cons_zero, List.getElem?_cons_succ]; rfl) (by kernel_rfl) (by kernel_rfl) (by kernel_rfl) (by exact fun _ _ _ h => h) (Or.inl ⟨by rfl, ?_⟩) (by assumption) ?_
  rotate_left
  · intro w hSw
    try dsimp only at hSw
    go_simp
    try with_reducible rfl
  try simp only [Act.put, List.setIfInBounds_toArray, List.set_cons_zero, List.set_cons_succ]
  refine wpAnyH_take (i := 3) (v := ?_) (by simp only [List.getElem?_toArray, List.getElem?_cons_zero, List.getElem?_cons_succ]; rfl) (by kernel_rfl) (by kernel_rfl) (by kernel_rfl) (by exact fun _ _ _ h => h) (Or.inl ⟨by rfl, ?_⟩) (by assumption) ?_
  rotate_left
  · intro w hSw
    try dsimp only at hSw
    go_simp
    try with_reducible rfl
  try simp only [Act.put, List.setIfInBounds_toArray, List.set_cons_zero, List.set_cons_succ]
  refine wpAnyH_ready (rs := [4]) (by kernel_rfl) (by simp) ?_
  refine AllReadyH.cons (by simp only [List.getElem?_toArray, List.getElem?_cons_zero, List.getElem?_cons_succ]; rfl) (fun K hK => ?_) AllReadyH.nil
  go_simp
  have hk0 : Below w.heap.size w w1.drew := hw0.drew
  replace b0 : Hid (w1.drew.heap[w.heap.size]? = some (.cells #[.slice a n c, .int .i64 u.fu, .bool u.up, .int .i64 u.n, .int .i64 u.hv] 50 (0, 0))) := b0.out
  refine (unhide HS _ hk0).mono ?_
  rintro e w2 ⟨rfl, hb⟩
  unfold usv
  replace b0 := hide (blk_below b0.out hb)
  replace hk0 := hk0.trans (hb.mono hk0.size)
  clear hb HS hw0
  have hfd := state_field s.slot s.by' s.rdy
  go_wp2_with fail
  refine hK.out _ _ ((show w2.cell? ⟨w.heap.size, 0, none⟩ = some (.slice a n c) ∧ w2.cell? ⟨w.heap.size, 1, none⟩ = some (.int .i64 u.fu) from ⟨blk_cell b0.out 0 _ rfl, blk_cell b0.out 1 _ rfl⟩)) (fun hHeld => ?_)
  clear hK K
  try simp only [Act.put, List.setIfInBounds_toArray, List.set_cons_zero, List.set_cons_succ]
  refine wpAnyH_take (i := 5) (v := ?_) (by simp only [List.getElem?_toArray, List.getElem?_cons_zero, List.getElem?_cons_succ]; rfl) (by kernel_rfl) (by kernel_rfl) (by kernel_rfl) (by exact fun _ _ _ h => h) (Or.inl ⟨by rfl, ?_⟩) (by assumption) ?_
  rotate_left
  · intro w hSw
    try dsimp only at hSw
    go_simp
    try with_reducible rfl
  try simp only [Act.put, List.setIfInBounds_toArray, List.set_cons_zero, List.set_cons_succ]
  refine wpAnyH_ready (rs := [6]) (by kernel_rfl) (by simp) ?_
  refine AllReadyH.cons (by simp only [List.getElem?_toArray, List.getElem?_cons_zero, List.getElem?_cons_succ]; rfl) (fun K hK => ?_) AllReadyH.nil
  go_simp
  refine (unhide HI _ hk0).mono ?_
  rintro e w3 ⟨⟨a3, n3, c3, rfl, hi3, hn3, hc3, hf3⟩, hb⟩
  replace b0 := hide (blk_below b0.out hb)
  have hk1 := hk0.trans (hb.mono hk0.size)
  have I3 := hide hi3
  have N3 := hide hn3
  have F3 := hide hf3
  clear hb HI hi3 hn3 hf3
  go_wp2_with fail
  refine hK.out _ _ ((show w3.cell? ⟨w.heap.size, 0, none⟩ = some (.slice a n c) ∧ w3.cell? ⟨w.heap.size, 1, none⟩ = some (.int .i64 u.fu) from ⟨blk_cell b0.out 0 _ rfl, blk_cell b0.out 1 _ rfl⟩)) (fun hHeld => ?_)
  clear hK K
  try simp only [Act.put, List.setIfInBounds_toArray, List.set_cons_zero, List.set_cons_succ]
  refine wpAnyH_take (i := 7) (v := ?_) (by simp only [List.getElem?_toArray, List.getElem?_cons_zero, List.getElem?_cons_succ]; rfl) (by kernel_rfl) (by kernel_rfl) (by kernel_rfl) (by exact fun _ _ _ h => h) (Or.inl ⟨by rfl, ?_⟩) (by assumption) ?_
  rotate_left
  · intro w hSw
    try dsimp only at hSw
    go_simp
    try with_reducible rfl
  try simp only [Act.put, List.setIfInBounds_toArray, List.set_cons_zero, List.set_cons_succ]
  refine wpAnyH_take (i := 8) (v := ?_) (by simp only [List.getElem?_toArray, List.getElem?_cons_zero, List.getElem?_cons_succ]; rfl) (by kernel_rfl) (by kernel_rfl) (by kernel_rfl) (by exact fun _ _ _ h => h) (Or.inl ⟨by rfl, ?_⟩) (by assumption) ?_
  rotate_left
  · intro w hSw
    try dsimp only at hSw
    go_simp
    try with_reducible rfl
  try simp only [Act.put, List.setIfInBounds_toArray, List.set_cons_zero, List.set_cons_succ]
  refine wpAnyH_take (i := 9) (v := ?_) (by simp only [List.getElem?_toArray, List.getElem?_cons_zero, List.getElem?_cons_succ]; rfl) (by kernel_rfl) (by kernel_rfl) (by kernel_rfl) (by exact fun _ _ _ h => h) (Or.inl ⟨by rfl, ?_⟩) (by assumption) ?_
  rotate_left
  · intro w hSw
    try dsimp only at hSw
    go_simp
    try with_reducible rfl
  try simp only [Act.put, List.setIfInBounds_toArray, List.set_cons_zero, List.set_cons_succ]
  refine wpAnyH_take (i := 10) (v := ?_) (by simp only [List.getElem?_toArray, List.getElem?_cons_zero, List.getElem?_cons_succ]; rfl) (by kernel_rfl) (by kernel_rfl) (by kernel_rfl) (by exact fun _ _ _ h => h) (Or.inl ⟨by rfl, ?_⟩) (by assumption) ?_
  rotate_left
  · intro w hSw
    try dsimp only at hSw
    go_simp
    try with_reducible rfl
  try simp only [Act.put, List.setIfInBounds_toArray, List.set_cons_zero, List.set_cons_succ]
  refine wpAnyH_take (i := 11) (v := ?_) (by simp only [List.getElem?_toArray, List.getElem?_cons_zero, List.getElem?_cons_succ]; rfl) (by kernel_rfl) (by kernel_rfl) (by kernel_rfl) (by exact fun _ _ _ h => h) (Or.inl ⟨by rfl, ?_⟩) (by assumption) ?_
  rotate_left
  · intro w hSw
    try dsimp only at hSw
    go_simp
    try with_reducible rfl
  try simp only [Act.put, List.setIfInBounds_toArray, List.set_cons_zero, List.set_cons_succ]
  refine wpAnyH_take (i := 12) (v := ?_) (by simp only [List.getElem?_toArray, List.getElem?_cons_zero, List.getElem?_cons_succ]; rfl) (by kernel_rfl) (by kernel_rfl) (by kernel_rfl) (by exact fun _ _ _ h => h) (Or.inl ⟨by rfl, ?_⟩) (by assumption) ?_
  rotate_left
  · intro w hSw
    try dsimp only at hSw
    go_simp
    try with_reducible rfl
  try simp only [Act.put, List.setIfInBounds_toArray, List.set_cons_zero, List.set_cons_succ]
  refine wpAnyH_done (by kernel_rfl) ?_ _
  clear hHeld
  go_wp2_with fail
  refine bodyPost_ret (v := .tuple #[.slice a3 n3 c3, .int .i64 r.2.1, .int .i64 r.2.2]) (by simp [results, Tryz.results26, go_sem]) rfl ?_
  rw [HE.out]
  exact ⟨⟨a3, n3, c3, rfl, I3.out, N3.out, hc3, fun ad e => by have := F3.out ad e; have := hk0.size; omega⟩, hk1⟩

end Go.Proofs.YtanpglfpopbfkabGreatDoor
