/- The contracts of unit.Read, Runs, Boot; of the reference's SameUnit. Plain facts on package slot: what is done to one slot leaves all else as it was. Plain facts for SlotHolds: a slot that was cleared and filled piece by piece, then sealed as far as there is power. -/
import Derived.Test.YtgngpmgjoifepaaGreatDoorPg18
import Derived.Test.YtgngpmgjoifepaaGreatDoorPg30
import Derived.Test.YtgngpmgjoifepaaGreatDoorPg8
import Derived.BigQuiet
import Derived.Test.YtgngpmgjoifepaaGreatDoorPg7
namespace Go.Proofs.YtgngpmgjoifepaaGreatDoor
open Go.RowKit
attribute [local go_sem ↓] Go.wp_at_zero Go.wp_at_succ

/-- The document's Read. -/
def uReadS (u : Un) : Us × Int := if unE u ≠ 0 then (us0, unE u) else (stOf u.ws, 0)
theorem uReadS_e {u : Un} (h : unE u ≠ 0) : uReadS u = (us0, unE u) := by unfold uReadS; rw [if_pos h]
theorem uReadS_0 {u : Un} (h : unE u = 0) : uReadS u = (stOf u.ws, 0) := by unfold uReadS; rw [if_neg (by simpa using h)]

set_option maxRecDepth 100000 in
set_option maxHeartbeats 1600000 in
theorem unitRead_any (u : Un) (a : Option Addr) (n c : Nat) (w : World) (h : BW w a n c u.ws) :
    Calls Tryz.prog 12 #[unv u a n c] w fun e w' => e = .returned (.tuple #[usv (uReadS u).1, .int .i64 (uReadS u).2]) ∧ Below w.heap.size w w' := by
  have hw0 : Below w.heap.size w ((w.alloc (.cells #[.slice a n c, .int .i64 u.fu, .bool u.up, .int .i64 u.n, .int .i64 u.hv] 29)).alloc (.cells #[.int .i64 0, .int .i64 0, .int .i64 0] 40)) := ((Below.refl _ _).alloc (Nat.le_refl _) _).alloc (by simp) _
  have b0 : Hid (((w.alloc (.cells #[.slice a n c, .int .i64 u.fu, .bool u.up, .int .i64 u.n, .int .i64 u.hv] 29)).alloc (.cells #[.int .i64 0, .int .i64 0, .int .i64 0] 40)).heap[w.heap.size]? = some (.cells #[.slice a n c, .int .i64 u.fu, .bool u.up, .int .i64 u.n, .int .i64 u.hv] 29 (0, 0))) := blk_alloc (heap_alloc_last _ _) _
  have b1 : Hid (((w.alloc (.cells #[.slice a n c, .int .i64 u.fu, .bool u.up, .int .i64 u.n, .int .i64 u.hv] 29)).alloc (.cells #[.int .i64 0, .int .i64 0, .int .i64 0] 40)).heap[w.heap.size + 1]? = some (.cells #[.int .i64 0, .int .i64 0, .int .i64 0] 40 (0, 0))) := uLast1 _ _ _
  have HC := hide (fun W (hW : Below w.heap.size w W) => unitCheck_any u a n c W (h.below hW))
  have HS := hide (fun (e1 : lchk u.ws u.fu = 0) W (hW : Below w.heap.size w W) => stateOf_any a n c u.ws u.fu W (h.below hW) e1)
  have E1 := hide (fun h => uReadS_e (u := u) h)
  have E0 := hide (fun h => uReadS_0 (u := u) h)
  have hx : w.heap.size ≤ w.heap.size + 1 := by omega
  unfold unv at *
  clear h
  go_enter Tryz.func12, Tryz.ntmps12
  go_wp2_with fail
  generalize (w.alloc (.cells #[.slice a n c, .int .i64 u.fu, .bool u.up, .int .i64 u.n, .int .i64 u.hv] 29)).alloc (.cells #[.int .i64 0, .int .i64 0, .int .i64 0] 40) = W at *
  refine (unhide HC _ hw0).mono ?_
  rintro e w1 ⟨rfl, hb⟩
  replace b0 := hide (blk_below b0.out hb)
  replace b1 := hide (blk_below b1.out hb)
  replace hw0 := hw0.trans (hb.mono hw0.size)
  clear hb HC
  by_cases z1 : unE u = 0
  rotate_left
  · have HE := hide (E1.out z1)
    have d1 : (unE u != 0) = true := by simpa using z1
    have y0 := blk_cell b1.out 0 _ rfl
    have y1 := blk_cell b1.out 1 _ rfl
    have y2 := blk_cell b1.out 2 _ rfl
    have f0 := blk_free b1.out 0
    have f1 := blk_free b1.out 1
    have f2 := blk_free b1.out 2
    clear z1
    generalize unE u = q at *
    go_wp2_with fail
    refine bodyPost_ret (v := .tuple #[usv us0, .int .i64 q]) (by simp [results, Tryz.results12, go_sem, usv, us0, y0, y1, y2]) rfl ?_
    rw [HE.out]
    exact ⟨rfl, ((hw0.setCell hx _).setCell hx _).setCell hx _⟩
  have HE := hide (E0.out z1)
  have HSt := hide (HS.out (unE_ok z1).1 _ hw0)
  rw [z1]
  clear z1 E1 E0 HS
  have x0 := blk_cell b0.out 0 _ rfl
  have x1 := blk_cell b0.out 1 _ rfl
  go_wp2_with fail
  refine (unhide HSt).mono ?_
  rintro e w2 ⟨rfl, hb⟩
  replace b1 := hide (blk_below b1.out hb)
  replace hw0 := hw0.trans (hb.mono hw0.size)
  clear hb HSt x0 x1
  have y0 := blk_cell b1.out 0 _ rfl
  have y1 := blk_cell b1.out 1 _ rfl
  have y2 := blk_cell b1.out 2 _ rfl
  have f0 := blk_free b1.out 0
  have f1 := blk_free b1.out 1
  have f2 := blk_free b1.out 2
  generalize stOf u.ws = s at *
  unfold usv
  go_wp2_with fail
  refine bodyPost_ret (v := .tuple #[usv s, .int .i64 0]) (by simp [results, Tryz.results12, go_sem, usv, y0, y1, y2]) rfl ?_
  rw [HE.out]
  exact ⟨rfl, ((hw0.setCell hx _).setCell hx _).setCell hx _⟩

/-- The flash of a unit. -/
theorem info_flash : (Tryz.prog.info? 27).map (fun i => (i.zero, i.size, i.bytes)) = some (some (.agg #[.slice none 0 0, .int .i64 0]), 2, 32) := by kernel_rfl
set_option maxRecDepth 100000 in
theorem unit_field (a : Option Addr) (n c : Nat) (fu x y : Int) (up : Bool) (w : World) :
    (Instr.field 29 (.agg #[.slice a n c, .int .i64 fu, .bool up, .int .i64 x, .int .i64 y]) 0).run Tryz.prog w = .ok (.agg #[.slice a n c, .int .i64 fu]) w := by
  obtain ⟨i0, hi0, hz0, hz1, hz2⟩ := info_parts info_flash
  simp [Instr.field, run_underlying Tryz.underlying29, part, go_sem, isAgg, sizeOf, typeInfo, asAgg, hi0, hz1]

/-- The document's Boot. -/
def bootS (u : Un) : Un × Int := if unE u ≠ 0 then (un0, unE u) else (⟨u.ws, -1, true, 0, 0⟩, 0)
theorem bootS_e {u : Un} (h : unE u ≠ 0) : bootS u = (un0, unE u) := by unfold bootS; rw [if_pos h]
theorem bootS_0 {u : Un} (h : unE u = 0) : bootS u = (⟨u.ws, -1, true, 0, 0⟩, 0) := by unfold bootS; rw [if_neg (by simpa using h)]
/-- What a call hands back that answers a unit and an error. -/
def UnAns (w : World) (r : Un × Int) (e : Ending) (w' : World) : Prop :=
  (∃ a n c, e = .returned (.tuple #[unv r.1 a n c, .int .i64 r.2]) ∧ BW w' a n c r.1.ws) ∧ Below w.heap.size w w'

set_option maxRecDepth 100000 in
set_option maxHeartbeats 1600000 in
theorem unitBoot_any (u : Un) (a : Option Addr) (n c : Nat) (w : World) (h : BW w a n c u.ws) :
    Calls Tryz.prog 14 #[unv u a n c] w (UnAns w (bootS u)) := by
  have hw0 : Below w.heap.size w ((w.alloc (.cells #[.slice a n c, .int .i64 u.fu, .bool u.up, .int .i64 u.n, .int .i64 u.hv] 29)).alloc (.cells #[.slice none 0 0, .int .i64 0, .bool false, .int .i64 0, .int .i64 0] 29)) := ((Below.refl _ _).alloc (Nat.le_refl _) _).alloc (by simp) _
  have b0 : Hid (((w.alloc (.cells #[.slice a n c, .int .i64 u.fu, .bool u.up, .int .i64 u.n, .int .i64 u.hv] 29)).alloc (.cells #[.slice none 0 0, .int .i64 0, .bool false, .int .i64 0, .int .i64 0] 29)).heap[w.heap.size]? = some (.cells #[.slice a n c, .int .i64 u.fu, .bool u.up, .int .i64 u.n, .int .i64 u.hv] 29 (0, 0))) := blk_alloc (heap_alloc_last _ _) _
  have b1 : Hid (((w.alloc (.cells #[.slice a n c, .int .i64 u.fu, .bool u.up, .int .i64 u.n, .int .i64 u.hv] 29)).alloc (.cells #[.slice none 0 0, .int .i64 0, .bool false, .int .i64 0, .int .i64 0] 29)).heap[w.heap.size + 1]? = some (.cells #[.slice none 0 0, .int .i64 0, .bool false, .int .i64 0, .int .i64 0] 29 (0, 0))) := uLast1 _ _ _
  have HC := hide (fun W (hW : Below w.heap.size w W) => unitCheck_any u a n c W (h.below hW))
  have HT := hide (fun (hb : n * 8 ≤ 140737488355328) W (hW : Below w.heap.size w W) => unitTwin_any u a n c W (h.below hW) hb)
  have E1 := hide (fun h => bootS_e (u := u) h)
  have E0 := hide (fun h => bootS_0 (u := u) h)
  have hx : w.heap.size ≤ w.heap.size + 1 := by omega
  have HN := hide h.len
  unfold unv at *
  clear h
  go_enter Tryz.func14, Tryz.ntmps14
  go_wp2_with fail
  generalize (w.alloc (.cells #[.slice a n c, .int .i64 u.fu, .bool u.up, .int .i64 u.n, .int .i64 u.hv] 29)).alloc (.cells #[.slice none 0 0, .int .i64 0, .bool false, .int .i64 0, .int .i64 0] 29) = W at *
  refine (unhide HC _ hw0).mono ?_
  rintro e w1 ⟨rfl, hb⟩
  replace b0 := hide (blk_below b0.out hb)
  replace b1 := hide (blk_below b1.out hb)
  replace hw0 := hw0.trans (hb.mono hw0.size)
  clear hb HC
  by_cases z1 : unE u = 0
  rotate_left
  · have HE := hide (E1.out z1)
    have d1 : (unE u != 0) = true := by simpa using z1
    have y0 := blk_cell b1.out 0 _ rfl
    have y1 := blk_cell b1.out 1 _ rfl
    have y2 := blk_cell b1.out 2 _ rfl
    have y3 := blk_cell b1.out 3 _ rfl
    have y4 := blk_cell b1.out 4 _ rfl
    have f0 := blk_free b1.out 0
    have f1 := blk_free b1.out 1
    have f2 := blk_free b1.out 2
    have f3 := blk_free b1.out 3
    have f4 := blk_free b1.out 4
    clear z1
    generalize unE u = q at *
    go_wp2_with fail
    refine bodyPost_ret (v := .tuple #[unv un0 none 0 0, .int .i64 q]) (by simp [results, Tryz.results14, go_sem, unv, un0, y0, y1, y2, y3, y4]) rfl ?_
    rw [HE.out]
    exact ⟨⟨none, 0, 0, rfl, ⟨.inl rfl, rfl, Nat.le_refl _, by decide⟩⟩, ((((hw0.setCell hx _).setCell hx _).setCell hx _).setCell hx _).setCell hx _⟩
  have HE := hide (E0.out z1)
  have LN := hide (unE_ok z1).2.1
  have HTw := hide (HT.out (by rw [← HN.out, LN.out]; decide) _ hw0)
  rw [z1]
  clear z1 E1 E0 HT
  have x0 := blk_cell b0.out 0 _ rfl
  have x1 := blk_cell b0.out 1 _ rfl
  have x2 := blk_cell b0.out 2 _ rfl
  have x3 := blk_cell b0.out 3 _ rfl
  have x4 := blk_cell b0.out 4 _ rfl
  go_wp2_with fail
  refine (unhide HTw).mono ?_
  rintro e w2 ⟨⟨a2, c2, rfl, hi2, hf2, hc2⟩, hb⟩
  rw [LN.out] at hc2
  unfold unv
  rw [LN.out]
  replace b1 := hide (blk_below b1.out hb)
  replace hw0 := hw0.trans (hb.mono hw0.size)
  have HI2 := hide hi2
  clear hb HTw x0 x1 x2 x3 x4 hi2 hf2
  have hfld := unit_field a2 192 c2 u.fu u.n u.hv u.up
  go_upto_region 5 with fail
  clear hfld
  have S0 := hide (heap_alloc_last w2 (.cells #[.slice a2 192 c2, .int .i64 u.fu, .bool true, .int .i64 0, .int .i64 0] 29))
  have hb3 : Below w2.heap.size w2 (w2.alloc (.cells #[.slice a2 192 c2, .int .i64 u.fu, .bool true, .int .i64 0, .int .i64 0] 29)) := (Below.refl _ _).alloc (Nat.le_refl _) _
  have hX : w.heap.size + 1 < w2.heap.size := blk_lt b1.out
  have ho2 : Hid (Off w2.heap.size a2) := by
    rcases ints_off HI2.out w2.heap.size (Nat.le_refl _) with e | h
    · have := LN.out; rw [e] at this; simp at this
    · exact h
  replace HI2 := hide (HI2.out.below hb3)
  replace b1 := hide (blk_below b1.out hb3)
  have hB := hw0.size
  replace hw0 := hw0.trans (hb3.mono hw0.size)
  clear hb3
  generalize w2.heap.size = B at *
  generalize w2.alloc (.cells #[.slice a2 192 c2, .int .i64 u.fu, .bool true, .int .i64 0, .int .i64 0] 29) = W3 at *
  have s0 := blk_cell S0.out 0 _ rfl
  have s1 := blk_cell S0.out 1 _ rfl
  have r1 := blk_free S0.out 1
  go_upto_region 6 with fail
  clear s0 s1
  have S1 : Hid ((W3.setCell ⟨B, 1, none⟩ (.int .i64 (-1))).heap[B]? = some (.cells #[.slice a2 192 c2, .int .i64 (-1), .bool true, .int .i64 0, .int .i64 0] 29 (0, 0))) := by
    show _ = _
    have h0 := S0.out
    simp only [World.setCell, Array.getElem?_modify]
    simp [h0]
  have hg := turns_set1 W3 B 1 (.int .i64 (-1))
  replace b1 := hide (blk_turns b1.out hg (by omega))
  replace HI2 := hide (ints_turns HI2.out hg ho2.out)
  replace hw0 := hw0.setCell (p := ⟨B, 1, none⟩) hB (.int .i64 (-1))
  clear hg S0 r1 ho2
  generalize W3.setCell ⟨B, 1, none⟩ (.int .i64 (-1)) = W4 at *
  have s0 := blk_cell S1.out 0 _ rfl
  have s1 := blk_cell S1.out 1 _ rfl
  have s2 := blk_cell S1.out 2 _ rfl
  have s3 := blk_cell S1.out 3 _ rfl
  have s4 := blk_cell S1.out 4 _ rfl
  have y0 := blk_cell b1.out 0 _ rfl
  have y1 := blk_cell b1.out 1 _ rfl
  have y2 := blk_cell b1.out 2 _ rfl
  have y3 := blk_cell b1.out 3 _ rfl
  have y4 := blk_cell b1.out 4 _ rfl
  have f0 := blk_free b1.out 0
  have f1 := blk_free b1.out 1
  have f2 := blk_free b1.out 2
  have f3 := blk_free b1.out 3
  have f4 := blk_free b1.out 4
  go_wp2_with fail
  refine bodyPost_ret (v := .tuple #[unv ⟨u.ws, -1, true, 0, 0⟩ a2 192 c2, .int .i64 0]) (by simp [results, Tryz.results14, go_sem, unv, y0, y1, y2, y3, y4]) rfl ?_
  rw [HE.out]
  have hbw : BW W4 a2 192 c2 u.ws := ⟨HI2.out, LN.out, hc2, by decide⟩
  have ho := ints_unit HI2.out (.inr (by rw [LN.out]; decide)) b1.out rfl
  exact ⟨⟨a2, 192, c2, rfl, ((((hbw.ne ho _ _).ne ho _ _).ne ho _ _).ne ho _ _).ne ho _ _⟩, ((((hw0.setCell hx _).setCell hx _).setCell hx _).setCell hx _).setCell hx _⟩

set_option maxRecDepth 100000 in
theorem state_field (x y z : Int) (w : World) : (Instr.field 40 (.agg #[.int .i64 x, .int .i64 y, .int .i64 z]) 0).run Tryz.prog w = .ok (.int .i64 x) w := by
  simp [Instr.field, run_underlying Tryz.underlying40, part, go_sem, isAgg, asAgg]

/-- The document's Runs. -/
def runsS (u : Un) : List Int × Int × Int := if unE u ≠ 0 then ([], 0, unE u) else imgS u.ws u.fu (stOf u.ws).slot
theorem runsS_e {u : Un} (h : unE u ≠ 0) : runsS u = ([], 0, unE u) := by unfold runsS; rw [if_pos h]
theorem runsS_0 {u : Un} (h : unE u = 0) : runsS u = imgS u.ws u.fu (stOf u.ws).slot := by unfold runsS; rw [if_neg (by simpa using h)]

set_option maxRecDepth 100000 in
set_option maxHeartbeats 3200000 in
theorem unitRuns_any (u : Un) (a : Option Addr) (n c : Nat) (w : World) (h : BW w a n c u.ws) :
    Calls Tryz.prog 13 #[unv u a n c] w (Shows w (runsS u)) := by
  have hw0 : Below w.heap.size w (w.alloc (.cells #[.slice a n c, .int .i64 u.fu, .bool u.up, .int .i64 u.n, .int .i64 u.hv] 29)) := (Below.refl _ _).alloc (Nat.le_refl _) _
  have b0 := hide (heap_alloc_last w (.cells #[.slice a n c, .int .i64 u.fu, .bool u.up, .int .i64 u.n, .int .i64 u.hv] 29))
  have HC := hide (fun W (hW : Below w.heap.size w W) => unitCheck_any u a n c W (h.below hW))
  have HS := hide (fun (e1 : lchk u.ws u.fu = 0) W (hW : Below w.heap.size w W) => stateOf_any a n c u.ws u.fu W (h.below hW) e1)
  have HI := hide (fun W (hW : Below w.heap.size w W) => image_any a n c u.ws u.fu (stOf u.ws).slot W (h.below hW).at_ h.len h.max h.cap)
  have E1 := hide (fun h => runsS_e (u := u) h)
  have E0 := hide (fun h => runsS_0 (u := u) h)
  unfold unv at *
  clear h
  go_enter Tryz.func13, Tryz.ntmps13
  go_wp2_with fail
  generalize w.alloc (.cells #[.slice a n c, .int .i64 u.fu, .bool u.up, .int .i64 u.n, .int .i64 u.hv] 29) = W at *
  refine (unhide HC _ hw0).mono ?_
  rintro e w1 ⟨rfl, hb⟩
  replace b0 := hide (blk_below b0.out hb)
  replace hw0 := hw0.trans (hb.mono hw0.size)
  clear hb HC
  by_cases z1 : unE u = 0
  rotate_left
  · have HE := hide (E1.out z1)
    have d1 : (unE u != 0) = true := by simpa using z1
    clear z1
    generalize unE u = q at *
    go_wp2_with fail
    refine bodyPost_ret (v := .tuple #[.slice none 0 0, .int .i64 0, .int .i64 q]) (by simp [results, Tryz.results13, go_sem]) rfl ?_
    exact shows_err HE.out hw0
  have HE := hide (E0.out z1)
  replace HS := hide (HS.out (unE_ok z1).1)
  rw [z1]
  clear z1 E1 E0
  generalize imgS u.ws u.fu (stOf u.ws).slot = r at *
  generalize stOf u.ws = s at *
  go_upto_region 4 with fail
  refine wp_region_held_drew (S := fun W' => W'.cell? ⟨w.heap.size, 0, none⟩ = some (.slice a n c) ∧ W'.cell? ⟨w.heap.size, 1, none⟩ = some (.int .i64 u.fu)) (by kernel_rfl) ⟨blk_cell b0.out 0 _ rfl, blk_cell b0.out 1 _ rfl⟩ ?_
  intro hHeld
  refine wpAnyH_take (i := 0) (v := ?_) (by simp only [List.getElem?_toArray, List.getElem?_cons_zero]; rfl) (by kernel_rfl) (by kernel_rfl) (by kernel_rfl) (by exact fun _ _ _ h => h) (Or.inl ⟨by rfl, ?_⟩) (by assumption) ?_
  rotate_left
  · intro w hSw
    try dsimp only at hSw
    go_simp
    try with_reducible rfl
  try simp only [Act.put, List.setIfInBounds_toArray, List.set_cons_zero, List.set_cons_succ]
  refine wpAnyH_take (i := 1) (v := ?_) (by simp only [List.getElem?_toArray, List.getElem?_cons_zero, List.getElem?_cons_succ]; rfl) (by kernel_rfl) (by kernel_rfl) (by kernel_rfl) (by exact fun _ _ _ h => h) (Or.inl ⟨by rfl, ?_⟩) (by assumption) ?_
  rotate_left
  · intro w hSw
    try dsimp only at hSw
    go_simp
    try with_reducible rfl
  try simp only [Act.put, List.setIfInBounds_toArray, List.set_cons_zero, List.set_cons_succ]
  refine wpAnyH_take (i := 2) (v := ?_) (by simp only [List.getElem?_toArray, List.getElem?_cons_zero, List.getElem?_cons_succ]; rfl) (by kernel_rfl) (by kernel_rfl) (by kernel_rfl) (by exact fun _ _ _ h => h) (Or.inl ⟨by rfl, ?_⟩) (by assumption) ?_
  rotate_left
  · intro w hSw
    try dsimp only at hSw
    go_simp
    try with_reducible rfl
  try simp only [Act.put, List.setIfInBounds_toArray, List.set_cons_zero, List.set_cons_succ]
  refine wpAnyH_take (i := 3) (v := ?_) (by simp only [List.getElem?_toArray, List.getElem?_cons_zero, List.getElem?_cons_succ]; rfl) (by kernel_rfl) (by kernel_rfl) (by kernel_rfl) (by exact fun _ _ _ h => h) (Or.inl ⟨by rfl, ?_⟩) (by assumption) ?_
  rotate_left
  · intro w hSw
    try dsimp only at hSw
    go_simp
    try with_reducible rfl
  try simp only [Act.put, List.setIfInBounds_toArray, List.set_cons_zero, List.set_cons_succ]
  refine wpAnyH_ready (rs := [4]) (by kernel_rfl) (by simp) ?_
  refine AllReadyH.cons (by simp only [List.getElem?_toArray, List.getElem?_cons_zero, List.getElem?_cons_succ]; rfl) (fun K hK => ?_) AllReadyH.nil
  go_simp
  have hk0 : Below w.heap.size w w1.drew := hw0.drew
  replace b0 : Hid (w1.drew.heap[w.heap.size]? = some (.cells #[.slice a n c, .int .i64 u.fu, .bool u.up, .int .i64 u.n, .int .i64 u.hv] 29 (0, 0))) := b0.out
  refine (unhide HS _ hk0).mono ?_
  rintro e w2 ⟨rfl, hb⟩
  unfold usv
  replace b0 := hide (blk_below b0.out hb)
  replace hk0 := hk0.trans (hb.mono hk0.size)
  clear hb HS hw0
  have hfd := state_field s.slot s.by' s.rdy
  go_wp2_with fail
  refine hK.out _ _ ((show w2.cell? ⟨w.heap.size, 0, none⟩ = some (.slice a n c) ∧ w2.cell? ⟨w.heap.size, 1, none⟩ = some (.int .i64 u.fu) from ⟨blk_cell b0.out 0 _ rfl, blk_cell b0.out 1 _ rfl⟩)) (fun hHeld => ?_)
  clear hK K
  try simp only [Act.put, List.setIfInBounds_toArray, List.set_cons_zero, List.set_cons_succ]
  refine wpAnyH_take (i := 5) (v := ?_) (by simp only [List.getElem?_toArray, List.getElem?_cons_zero, List.getElem?_cons_succ]; rfl) (by kernel_rfl) (by kernel_rfl) (by kernel_rfl) (by exact fun _ _ _ h => h) (Or.inl ⟨by rfl, ?_⟩) (by assumption) ?_
  rotate_left
  · intro w hSw
    try dsimp only at hSw
    go_simp
    try with_reducible rfl
  try simp only [Act.put, List.setIfInBounds_toArray, List.set_cons_zero, List.set_cons_succ]
  refine wpAnyH_ready (rs := [6]) (by kernel_rfl) (by simp) ?_
  refine AllReadyH.cons (by simp only [List.getElem?_toArray, List.getElem?_cons_zero, List.getElem?_cons_succ]; rfl) (fun K hK => ?_) AllReadyH.nil
  go_simp
  refine (unhide HI _ hk0).mono ?_
  rintro e w3 ⟨⟨a3, n3, c3, rfl, hi3, hn3, hc3, hf3⟩, hb⟩
  replace b0 := hide (blk_below b0.out hb)
  have hk1 := hk0.trans (hb.mono hk0.size)
  have I3 := hide hi3
  have N3 := hide hn3
  have F3 := hide hf3
  clear hb HI hi3 hn3 hf3
  go_wp2_with fail
  refine hK.out _ _ ((show w3.cell? ⟨w.heap.size, 0, none⟩ = some (.slice a n c) ∧ w3.cell? ⟨w.heap.size, 1, none⟩ = some (.int .i64 u.fu) from ⟨blk_cell b0.out 0 _ rfl, blk_cell b0.out 1 _ rfl⟩)) (fun hHeld => ?_)
  clear hK K
  try simp only [Act.put, List.setIfInBounds_toArray, List.set_cons_zero, List.set_cons_succ]
  refine wpAnyH_take (i := 7) (v := ?_) (by simp only [List.getElem?_toArray, List.getElem?_cons_zero, List.getElem?_cons_succ]; rfl) (by kernel_rfl) (by kernel_rfl) (by kernel_rfl) (by exact fun _ _ _ h => h) (Or.inl ⟨by rfl, ?_⟩) (by assumption) ?_
  rotate_left
  · intro w hSw
    try dsimp only at hSw
    go_simp
    try with_reducible rfl
  try simp only [Act.put, List.setIfInBounds_toArray, List.set_cons_zero, List.set_cons_succ]
  refine wpAnyH_take (i := 8) (v := ?_) (by simp only [List.getElem?_toArray, List.getElem?_cons_zero, List.getElem?_cons_succ]; rfl) (by kernel_rfl) (by kernel_rfl) (by kernel_rfl) (by exact fun _ _ _ h => h) (Or.inl ⟨by rfl, ?_⟩) (by assumption) ?_
  rotate_left
  · intro w hSw
    try dsimp only at hSw
    go_simp
    try with_reducible rfl
  try simp only [Act.put, List.setIfInBounds_toArray, List.set_cons_zero, List.set_cons_succ]
  refine wpAnyH_take (i := 9) (v := ?_) (by simp only [List.getElem?_toArray, List.getElem?_cons_zero, List.getElem?_cons_succ]; rfl) (by kernel_rfl) (by kernel_rfl) (by kernel_rfl) (by exact fun _ _ _ h => h) (Or.inl ⟨by rfl, ?_⟩) (by assumption) ?_
  rotate_left
  · intro w hSw
    try dsimp only at hSw
    go_simp
    try with_reducible rfl
  try simp only [Act.put, List.setIfInBounds_toArray, List.set_cons_zero, List.set_cons_succ]
  refine wpAnyH_take (i := 10) (v := ?_) (by simp only [List.getElem?_toArray, List.getElem?_cons_zero, List.getElem?_cons_succ]; rfl) (by kernel_rfl) (by kernel_rfl) (by kernel_rfl) (by exact fun _ _ _ h => h) (Or.inl ⟨by rfl, ?_⟩) (by assumption) ?_
  rotate_left
  · intro w hSw
    try dsimp only at hSw
    go_simp
    try with_reducible rfl
  try simp only [Act.put, List.setIfInBounds_toArray, List.set_cons_zero, List.set_cons_succ]
  refine wpAnyH_take (i := 11) (v := ?_) (by simp only [List.getElem?_toArray, List.getElem?_cons_zero, List.getElem?_cons_succ]; rfl) (by kernel_rfl) (by kernel_rfl) (by kernel_rfl) (by exact fun _ _ _ h => h) (Or.inl ⟨by rfl, ?_⟩) (by assumption) ?_
  rotate_left
  · intro w hSw
    try dsimp only at hSw
    go_simp
    try with_reducible rfl
  try simp only [Act.put, List.setIfInBounds_toArray, List.set_cons_zero, List.set_cons_succ]
  refine wpAnyH_take (i := 12) (v := ?_) (by simp only [List.getElem?_toArray, List.getElem?_cons_zero, List.getElem?_cons_succ]; rfl) (by kernel_rfl) (by kernel_rfl) (by kernel_rfl) (by exact fun _ _ _ h => h) (Or.inl ⟨by rfl, ?_⟩) (by assumption) ?_
  rotate_left
  · intro w hSw
    try dsimp only at hSw
    go_simp
    try with_reducible rfl
  try simp only [Act.put, List.setIfInBounds_toArray, List.set_cons_zero, List.set_cons_succ]
  refine wpAnyH_done (by kernel_rfl) ?_ _
  clear hHeld
  go_wp2_with fail
  refine bodyPost_ret (v := .tuple #[.slice a3 n3 c3, .int .i64 r.2.1, .int .i64 r.2.2]) (by simp [results, Tryz.results13, go_sem]) rfl ?_
  rw [HE.out]
  exact ⟨⟨a3, n3, c3, rfl, I3.out, N3.out, hc3, fun ad e => by have := F3.out ad e; have := hk0.size; omega⟩, hk1⟩

end Go.Proofs.YtgngpmgjoifepaaGreatDoor

namespace Go.Proofs.YtgngpmgjoifepaaGreatDoor
open Go.RowKit

theorem chg_take {nx : Nat → Int → Int} {p k lo : Nat} {ws : List Int} (h : lo ≤ p) : (chg nx p k ws).take lo = ws.take lo := by
  apply ext_getD (by simp [chg_length])
  intro i hi
  have hi2 : i < lo ∧ i < ws.length := by simp [chg_length] at hi; omega
  have := chg_get nx p k i ws hi2.2
  rw [if_neg (by omega)] at this
  simpa [hi2.1] using this

theorem chg_drop {nx : Nat → Int → Int} {p k hi' : Nat} {ws : List Int} (h : p + k ≤ hi') : (chg nx p k ws).drop hi' = ws.drop hi' := by
  apply ext_getD (by simp [chg_length])
  intro i hi
  simp [chg_length] at hi
  have := chg_get nx p k (hi' + i) ws (by omega)
  rw [if_neg (by omega)] at this
  simpa using this

theorem chk_seven (ws : List Int) (fuel : Int) : chk ws fuel ≠ 7 := by
  unfold chk
  split
  · decide
  · split
    · decide
    · decide

/-- Where Program has done something: what it has done. -/
theorem prog_did {ws words : List Int} {fuel p : Int} (h : (progS ws fuel p words).2.2 = 0 ∨ (progS ws fuel p words).2.2 = 7) :
    chk ws fuel = 0 ∧ 0 ≤ p ∧ p + words.length ≤ ws.length ∧ okL words = true ∧ progS ws fuel p words = (chg (andW words) p.toNat (cnt fuel words.length) ws, burn fuel (cnt fuel words.length), perr fuel words.length) := by
  unfold progS at *
  split at h
  · rename_i c
    rcases h with h | h
    · exact absurd h c
    · exact absurd h (chk_seven _ _)
  · split at h
    · simp at h
    · split at h
      · simp at h
      · rename_i h1 h2 h3
        rw [if_neg h1, if_neg h2, if_neg h3]
        simp [fitB] at h2
        simp at h1 h3
        exact ⟨h1, by omega, by omega, h3, rfl⟩

theorem era_did {ws : List Int} {fuel s : Int} (h : (eraS ws fuel s).2.2 = 0 ∨ (eraS ws fuel s).2.2 = 7) :
    chk ws fuel = 0 ∧ 0 ≤ s ∧ s < (ws.length : Int) / 32 ∧ eraS ws fuel s = (chg (fun _ _ => 65535) (s.toNat * 32) (cnt fuel 32) ws, burn fuel (cnt fuel 32), perr fuel 32) := by
  unfold eraS at *
  split at h
  · rename_i c
    rcases h with h | h
    · exact absurd h c
    · exact absurd h (chk_seven _ _)
  · split at h
    · simp at h
    · rename_i h1 h2
      rw [if_neg h1, if_neg h2]
      simp at h1 h2
      exact ⟨h1, h2.1, h2.2, rfl⟩

/-- Of what has been done to a slot: outside it all is as it was. -/
def Apt (ws : List Int) (s : Int) (r : List Int × Int × Int) : Prop :=
  (r.2.2 = 0 ∨ r.2.2 = 7) → ws.length = 192 ∧ r.1.length = 192 ∧ r.1.take (64 + 64 * s).toNat = ws.take (64 + 64 * s).toNat ∧ r.1.drop (128 + 64 * s).toNat = ws.drop (128 + 64 * s).toNat

theorem slotE_seven (ws : List Int) (fuel s : Int) : slotE ws fuel s ≠ 7 := by
  unfold slotE
  split
  · exact chk_seven _ _
  · split
    · decide
    · split
      · decide
      · decide

theorem apt_err {ws : List Int} {s e : Int} (h0 : e ≠ 0) (h7 : e ≠ 7) : Apt ws s ([], 0, e) := by
  intro h
  rcases h with h | h
  · exact absurd h h0
  · exact absurd h h7

theorem apt_prog {ws words : List Int} {fuel s p : Int} (hl : ws.length = 192) (h0 : 64 + 64 * s ≤ p) (h1 : p + words.length ≤ 128 + 64 * s) (hs : 0 ≤ s) : Apt ws s (progS ws fuel p words) := by
  intro h
  obtain ⟨-, q0, q1, -, e⟩ := prog_did h
  rw [e]
  have := cnt_le fuel words.length
  refine ⟨hl, by rw [chg_length]; exact hl, chg_take (by omega), chg_drop (by omega)⟩

theorem apt_fill (ws : List Int) (fuel s at' : Int) (words : List Int) : Apt ws s (fillS ws fuel s at' words) := by
  unfold fillS
  split
  · rename_i c; exact apt_err c (slotE_seven _ _ _)
  · split
    · exact apt_err (by decide) (by decide)
    · rename_i h1 h2
      obtain ⟨-, hl, p0, p1⟩ := slotE_parts (show slotE ws fuel s = 0 by simpa using h1)
      simp [fillB, inB] at h2
      exact apt_prog hl (by omega) (by omega) p0

theorem apt_seal (ws : List Int) (fuel s long name : Int) : Apt ws s (sealS ws fuel s long name) := by
  unfold sealS
  split
  · rename_i c; exact apt_err c (slotE_seven _ _ _)
  · split
    · exact apt_err (by decide) (by decide)
    · rename_i h1 h2
      obtain ⟨-, hl, p0, p1⟩ := slotE_parts (show slotE ws fuel s = 0 by simpa using h1)
      refine apt_prog hl (by omega) ?_ p0
      show 64 + 64 * s + 4 ≤ _
      omega

theorem apt_clear (ws : List Int) (fuel s : Int) : Apt ws s (clrS ws fuel s) := by
  unfold clrS
  split
  · rename_i c; exact apt_err c (slotE_seven _ _ _)
  · rename_i h1
    obtain ⟨-, hl, p0, p1⟩ := slotE_parts (show slotE ws fuel s = 0 by simpa using h1)
    have key : ∀ k, k ≤ 2 → Apt ws s (clrAt ws fuel s k) := by
      intro k
      induction k with
      | zero => exact fun _ _ => ⟨hl, hl, rfl, rfl⟩
      | succ k ih =>
        intro hk
        by_cases e : (clrAt ws fuel s k).2.2 = 0
        · rw [clrAt_go e]
          intro h
          obtain ⟨q0, q1, q2, q3⟩ := ih (by omega) (.inl e)
          obtain ⟨-, r0, r1, r2⟩ := era_did h
          rw [r2]
          have := cnt_le (clrAt ws fuel s k).2.1 32
          refine ⟨hl, by rw [chg_length]; exact q1, ?_, ?_⟩
          · show (chg _ _ _ _).take _ = _
            rw [chg_take (by omega)]; exact q2
          · show (chg _ _ _ _).drop _ = _
            rw [chg_drop (by omega)]; exact q3
        · rw [clrAt_stay e]; exact ih (by omega)
    exact key 2 (Nat.le_refl _)

end Go.Proofs.YtgngpmgjoifepaaGreatDoor

namespace Go.Proofs.YtgngpmgjoifepaaGreatDoor
open Go.RowKit

theorem xorW_all : ∀ x : Fin 61, xorW ((x.val : Nat) : Int) = 65535 - ((x.val : Nat) : Int) := by decide +kernel
theorem xorW_small {x : Int} (h0 : 0 ≤ x) (h1 : x ≤ 60) : xorW x = 65535 - x := by
  obtain ⟨k, rfl⟩ := Int.eq_ofNat_of_zero_le h0
  exact xorW_all ⟨k, by omega⟩

/-- The words of a slot that was cleared, and of which k words are filled; all else as in ws. -/
structure Fld (ws words : List Int) (s k : Nat) (G : List Int) : Prop where
  len : G.length = 192
  ok : okL G = true
  at' : ∀ i, i < 192 → G.getD i 0 = if 64 + 64 * s ≤ i ∧ i < 128 + 64 * s then (if 68 + 64 * s ≤ i ∧ i < 68 + 64 * s + k then words.getD (i - (68 + 64 * s)) 0 else 65535) else ws.getD i 0

theorem Fld.chk {ws words G : List Int} {s k : Nat} (h : Fld ws words s k G) {f : Int} (h0 : -1 ≤ f) (h1 : f ≤ 100000) : chk G f = 0 := by
  apply chk_ok
  · rw [h.len]; rfl
  · unfold rangeB; rw [h.ok]; simp; omega

theorem slotE_ok {G : List Int} {f : Int} {s : Nat} (hc : chk G f = 0) (hl : G.length = 192) (hs : s ≤ 1) : slotE G f s = 0 := by
  unfold slotE
  rw [if_neg (by simpa using hc), if_neg (by simpa using hl), if_neg (by simp [inB]; omega)]

theorem Fld.slot {ws words G : List Int} {s k t : Nat} (h : Fld ws words s k G) {f : Int} (h0 : -1 ≤ f) (h1 : f ≤ 100000) (ht : t ≤ 1) : slotE G f t = 0 :=
  slotE_ok (h.chk h0 h1) h.len ht

theorem okW_full : okW 65535 = true := by decide

theorem chg_full_ok {ws : List Int} {p k : Nat} (h : okL ws = true) : okL (chg (fun _ _ => 65535) p k ws) = true := by
  apply okL_of
  intro i hi
  rw [chg_length] at hi
  rw [chg_get _ _ _ _ _ hi]
  split
  · exact okW_full
  · exact okL_get h i hi

theorem era_full {ws : List Int} {k : Nat} (hc : chk ws (-1) = 0) (hk : k < 6) (hl : ws.length = 192) : eraS ws (-1) k = (chg (fun _ _ => 65535) (k * 32) 32 ws, -1, 0) := by
  unfold eraS
  rw [if_neg (by simpa using hc), if_neg (by rw [hl]; omega), cnt_neg _ (by decide), burn_negf _ (by decide), perr_ok (cnt_neg _ (by decide)), Int.toNat_natCast]

/-- Where Clear says OK with power for all. -/
theorem clr_done {ws words : List Int} {s : Nat} (hs : s ≤ 1) (h : (clrS ws (-1) s).2.2 = 0) : ∃ G, clrS ws (-1) s = (G, -1, 0) ∧ slotE ws (-1) s = 0 ∧ Fld ws words s 0 G := by
  by_cases e : slotE ws (-1) s = 0
  · obtain ⟨hc, hl, -, -⟩ := slotE_parts e
    have q := chk_parts hc
    have e1 : clrAt ws (-1) s 1 = (chg (fun _ _ => 65535) ((2 + s * 2) * 32) 32 ws, -1, 0) := by
      rw [clrAt_go rfl]
      show eraS ws (-1) (2 + (s : Int) * 2 + ((0 : Nat) : Int)) = _
      rw [show 2 + (s : Int) * 2 + ((0 : Nat) : Int) = ((2 + s * 2 : Nat) : Int) by omega]
      exact era_full hc (by omega) hl
    have hc1 : chk (chg (fun _ _ => 65535) ((2 + s * 2) * 32) 32 ws) (-1) = 0 := chk_chg hc _ _ _ (chg_full_ok q.2.2.2) (by decide) (by decide)
    have e2 : clrAt ws (-1) s 2 = (chg (fun _ _ => 65535) ((3 + s * 2) * 32) 32 (chg (fun _ _ => 65535) ((2 + s * 2) * 32) 32 ws), -1, 0) := by
      have hl1 : (chg (fun _ _ => 65535) ((2 + s * 2) * 32) 32 ws).length = 192 := by rw [chg_length]; exact hl
      rw [clrAt_go (by rw [e1]), e1, show 2 + (s : Int) * 2 + ((1 : Nat) : Int) = ((3 + s * 2 : Nat) : Int) by omega]
      generalize chg (fun _ _ => 65535) ((2 + s * 2) * 32) 32 ws = X at *
      dsimp only
      exact era_full (k := 3 + s * 2) hc1 (by omega) hl1
    refine ⟨chg (fun _ _ => 65535) ((3 + s * 2) * 32) 32 (chg (fun _ _ => 65535) ((2 + s * 2) * 32) 32 ws), ?_, e, ⟨?_, ?_, ?_⟩⟩
    · unfold clrS; rw [if_neg (by simpa using e), e2]
    · rw [chg_length, chg_length]; exact hl
    · exact chg_full_ok (chg_full_ok q.2.2.2)
    · intro i hi
      rw [chg_get _ _ _ _ _ (by rw [chg_length, hl]; exact hi), chg_get _ _ _ _ _ (by rw [hl]; exact hi)]
      by_cases c1 : (3 + s * 2) * 32 ≤ i ∧ i < (3 + s * 2) * 32 + 32
      · rw [if_pos c1, if_pos (by omega), if_neg (by omega)]
      · rw [if_neg c1]
        by_cases c2 : (2 + s * 2) * 32 ≤ i ∧ i < (2 + s * 2) * 32 + 32
        · rw [if_pos c2, if_pos (by omega), if_neg (by omega)]
        · rw [if_neg c2, if_neg (by omega)]
  · unfold clrS at h
    rw [if_pos e] at h
    exact absurd h e

/-- A piece more. -/
theorem fill_step {ws words G : List Int} {s k l : Nat} (h : Fld ws words s k G) (hs : s ≤ 1) (hk : k + l ≤ words.length) (hm : words.length ≤ 40) :
    (okL ((words.drop k).take l) = false ∧ fillS G (-1) s k ((words.drop k).take l) = ([], 0, 3)) ∨
    (okL ((words.drop k).take l) = true ∧ ∃ G', fillS G (-1) s k ((words.drop k).take l) = (G', -1, 0) ∧ Fld ws words s (k + l) G') := by
  have hlen : ((words.drop k).take l).length = l := by simp; omega
  have hE := h.slot (f := -1) (t := s) (by decide) (by decide) hs
  have hB : fillB (k : Int) ((words.drop k).take l).length = true := by rw [hlen]; simp [fillB, inB]; omega
  have hp : (68 + 64 * (s : Int) + (k : Int)) = ((68 + 64 * s + k : Nat) : Int) := by omega
  have hc := h.chk (f := -1) (by decide) (by decide)
  have hfs : fillS G (-1) s k ((words.drop k).take l) = progS G (-1) ((68 + 64 * s + k : Nat) : Int) ((words.drop k).take l) := by
    unfold fillS
    rw [if_neg (by simpa using hE), if_neg (by rw [hB]; decide), hp]
  rw [hfs]
  cases hok : okL ((words.drop k).take l)
  · left
    refine ⟨rfl, ?_⟩
    unfold progS
    rw [if_neg (by simpa using hc), if_neg (by rw [hlen, h.len]; simp [fitB]; omega), if_pos hok]
  · right
    refine ⟨rfl, _, prog_full hc (by rw [hlen, h.len]; omega) hok, ⟨by rw [chg_length]; exact h.len, chg_ok h.ok hok (Nat.le_refl _) (by rw [hlen, h.len]; omega), ?_⟩⟩
    intro i hi
    rw [chg_get _ _ _ _ _ (by rw [h.len]; exact hi), hlen, h.at' i hi]
    by_cases c1 : 68 + 64 * s + k ≤ i ∧ i < 68 + 64 * s + k + l
    · rw [if_pos c1, if_pos (by omega), if_neg (by omega), if_pos (by omega), if_pos (by omega)]
      unfold andW
      have hw := okL_get hok (i - (68 + 64 * s + k)) (by rw [hlen]; omega)
      rw [and_full hw]
      have : i - (68 + 64 * s) = k + (i - (68 + 64 * s + k)) := by omega
      rw [this]
      simp [show i - (68 + 64 * s + k) < l by omega]
    · rw [if_neg c1]
      by_cases c2 : 64 + 64 * s ≤ i ∧ i < 128 + 64 * s
      · rw [if_pos c2, if_pos c2]
        by_cases c3 : 68 + 64 * s ≤ i ∧ i < 68 + 64 * s + k
        · rw [if_pos c3, if_pos (by omega)]
        · rw [if_neg c3, if_neg (by omega)]
      · rw [if_neg c2, if_neg c2]

theorem headL_len (a b : Int) : (headL a b).length = 4 := rfl

theorem headL_ok {m name : Int} (h : sealB m name = true) : okL (headL m name) = true := by
  simp [sealB, inB] at h
  have e1 := xorW_small (x := m) (by omega) (by omega)
  have e2 := xorW_small (x := name) (by omega) (by omega)
  unfold headL
  rw [e1, e2]
  simp [okL, okW]
  omega

/-- The words of a slot that is being sealed: k words of the head are there. -/
structure Sld (G : List Int) (s k : Nat) (m name : Int) (H : List Int) : Prop where
  len : H.length = 192
  ok : okL H = true
  at' : ∀ i, i < 192 → H.getD i 0 = if 64 + 64 * s ≤ i ∧ i < 64 + 64 * s + k then (headL m name).getD (i - (64 + 64 * s)) 0 else G.getD i 0

theorem seal_done {ws words G : List Int} {s k : Nat} {m name fu : Int} (h : Fld ws words s k G) (hs : s ≤ 1) (h0 : 0 ≤ fu) (h1 : fu ≤ 100000) :
    (sealB m name = false ∧ sealS G fu s m name = ([], 0, 3)) ∨
    (sealB m name = true ∧ ∃ H, sealS G fu s m name = (H, fu - (min 4 fu.toNat : Nat), perr fu 4) ∧ Sld G s (min 4 fu.toNat) m name H) := by
  have hE := h.slot (f := fu) (t := s) (by omega) h1 hs
  have hc := h.chk (f := fu) (by omega) h1
  cases hB : sealB m name
  · left
    refine ⟨rfl, ?_⟩
    unfold sealS
    rw [if_neg (by simpa using hE), if_pos hB]
  · right
    have hok := headL_ok hB
    have hp : (64 + 64 * (s : Int)) = ((64 + 64 * s : Nat) : Int) := by omega
    refine ⟨rfl, chg (andW (headL m name)) (64 + 64 * s) (cnt fu 4) G, ?_, ⟨?_, ?_, ?_⟩⟩
    · unfold sealS
      rw [if_neg (by simpa using hE), if_neg (by simp [hB]), hp, prog_ok hc (by rw [headL_len, h.len]; omega) hok, headL_len, burn_nn _ (by omega), cnt_nn _ (by omega)]
    · rw [chg_length]; exact h.len
    · exact chg_ok h.ok hok (by rw [headL_len]; exact cnt_le _ _) (by rw [h.len]; have := cnt_le fu 4; omega)
    · intro i hi
      rw [chg_get _ _ _ _ _ (by rw [h.len]; exact hi), cnt_nn _ (by omega)]
      by_cases c1 : 64 + 64 * s ≤ i ∧ i < 64 + 64 * s + min 4 fu.toNat
      · rw [if_pos c1, if_pos c1]
        rw [h.at' i hi, if_pos (by omega), if_neg (by omega)]
        unfold andW
        exact and_full (okL_get hok _ (by rw [headL_len]; omega))
      · rw [if_neg c1, if_neg c1]

theorem perr_four {fu : Int} (h0 : 0 ≤ fu) : perr fu 4 = if 4 ≤ fu then 0 else 7 := by
  unfold perr
  rw [cnt_nn _ (by omega)]
  by_cases c : 4 ≤ fu
  · rw [if_pos (by omega), if_pos c]
  · rw [if_neg (by omega), if_neg c]

/-- What Image says of a slot that is being sealed. -/
theorem seal_image {ws words G H : List Int} {s k : Nat} {name fu : Int} (h : Fld ws words s words.length G) (hH : Sld G s k words.length name H) (hs : s ≤ 1) (hk : k ≤ 4) (hB : sealB words.length name = true) (h0 : -1 ≤ fu) (h1 : fu ≤ 100000) :
    imgS H fu s = if k = 4 then (words, name, 0) else ([], 0, 4) := by
  have hB' : (1 ≤ (words.length : Int) ∧ (words.length : Int) ≤ 40) ∧ 1 ≤ name ∧ name ≤ 60 := by simpa [sealB, inB] using hB
  have x1 := xorW_small (x := (words.length : Int)) (by omega) (by omega)
  have x2 := xorW_small (x := name) (by omega) (by omega)
  have hc : chk H fu = 0 := by
    apply chk_ok
    · rw [hH.len]; rfl
    · unfold rangeB; rw [hH.ok]; simp; omega
  have hE := slotE_ok (s := s) hc hH.len hs
  have hp : (64 + 64 * (s : Int)).toNat = 64 + 64 * s := by omega
  have hp2 : (68 + 64 * (s : Int)).toNat = 68 + 64 * s := by omega
  have g : ∀ j, j < 4 → H.getD (64 + 64 * s + j) 0 = if j < k then (headL words.length name).getD j 0 else 65535 := by
    intro j hj
    rw [hH.at' _ (by omega)]
    by_cases c : j < k
    · rw [if_pos (by omega), if_pos c]
      congr 1
      omega
    · rw [if_neg (by omega), if_neg c, h.at' _ (by omega), if_pos (by omega), if_neg (by omega)]
  have g0 := g 0 (by omega)
  have g1 := g 1 (by omega)
  have g2 := g 2 (by omega)
  have g3 := g 3 (by omega)
  simp only [Nat.add_zero] at g0
  unfold imgS
  rw [if_neg (by simpa using hE), hp, hp2]
  by_cases c4 : k = 4
  · subst c4
    rw [if_pos (by omega)] at g0 g1 g2 g3
    have hh : headB H (64 + 64 * s) = true := by
      unfold headB
      rw [g0, g1, g2, g3]
      simp [headL, hB]
    rw [if_neg (by simp [hh]), if_pos rfl, g0, g1]
    have : (H.drop (68 + 64 * s)).take words.length = words := by
      apply ext_getD
      · simp [hH.len]; omega
      · intro i hi
        have hi2 : i < words.length := by simp [hH.len] at hi; omega
        have := hH.at' (68 + 64 * s + i) (by omega)
        rw [if_neg (by omega), h.at' _ (by omega), if_pos (by omega), if_pos (by omega)] at this
        have e : 68 + 64 * s + i - (68 + 64 * s) = i := by omega
        rw [e] at this
        rw [← this]
        simp [hi2]
    simp [headL, this]
  · rw [if_neg c4, if_pos ?_]
    unfold headB
    rw [g0, g1, g2, g3]
    rcases k with _ | _ | _ | _ | k
    · simp [sealB, inB]
    · simp [sealB, inB]
    · simp [headL, x1, x2]
      intro _
      omega
    · simp [headL, x1, x2]
      intro _
      omega
    · omega

/-- Image of a slot in two flashes that agree there. -/
theorem img_same {ws H : List Int} {f f' : Int} {t : Nat} (hE : slotE ws f t = 0) (hE' : slotE H f' t = 0) (ht : t ≤ 1) (hl : ws.length = 192) (hl' : H.length = 192) (hg : ∀ i, 64 + 64 * t ≤ i → i < 128 + 64 * t → H.getD i 0 = ws.getD i 0) : imgS H f' t = imgS ws f t := by
  have hp : (64 + 64 * (t : Int)).toNat = 64 + 64 * t := by omega
  have hp2 : (68 + 64 * (t : Int)).toNat = 68 + 64 * t := by omega
  have hh : headB H (64 + 64 * t) = headB ws (64 + 64 * t) := by
    unfold headB
    rw [hg _ (by omega) (by omega), hg _ (by omega) (by omega), hg _ (by omega) (by omega), hg _ (by omega) (by omega)]
  unfold imgS
  rw [if_neg (show ¬ slotE H f' t ≠ 0 by simpa using hE'), if_neg (show ¬ slotE ws f t ≠ 0 by simpa using hE), hp, hp2, hh, hg (64 + 64 * t) (by omega) (by omega), hg (64 + 64 * t + 1) (by omega) (by omega)]
  cases hb : headB ws (64 + 64 * t)
  · rfl
  · have hs : sealB (ws.getD (64 + 64 * t) 0) (ws.getD (64 + 64 * t + 1) 0) = true := by unfold headB at hb; simp only [Bool.and_eq_true] at hb; exact hb.1
    have hb2 : 1 ≤ ws.getD (64 + 64 * t) 0 ∧ ws.getD (64 + 64 * t) 0 ≤ 40 := by unfold sealB inB at hs; simp only [Bool.and_eq_true, decide_eq_true_eq] at hs; exact hs.1
    generalize ws.getD (64 + 64 * t) 0 = L at *
    have : (H.drop (68 + 64 * t)).take L.toNat = (ws.drop (68 + 64 * t)).take L.toNat := by
      apply ext_getD
      · simp [hl, hl']
      · intro i hi
        have hi2 : i < L.toNat := by simp at hi; omega
        have := hg (68 + 64 * t + i) (by omega) (by omega)
        simpa [hi2] using this
    rw [this]

end Go.Proofs.YtgngpmgjoifepaaGreatDoor
