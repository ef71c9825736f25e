/- The contracts of unit.Read, Runs, Boot; of the reference's SameUnit. Plain facts on units: what is done to the slot that a unit doesn't run, and to its log, leaves what it runs; what its records say behind it. No program in this text. -/
import Derived.Test.YtgngpmgjoifepaaGreatDoorPv25
import Derived.Test.YtgngpmgjoifepaaGreatDoorPv30
import Derived.Test.YtgngpmgjoifepaaGreatDoorPv9
import Derived.BigQuiet
import Derived.Test.YtgngpmgjoifepaaGreatDoorPv13
import Derived.Test.YtgngpmgjoifepaaGreatDoorPv23
namespace Go.Proofs.YtgngpmgjoifepaaGreatDoor
open Go.RowKit
attribute [local go_sem ↓] Go.wp_at_zero Go.wp_at_succ

def uReadS (u : Un) : Us × Int := if unE u ≠ 0 then (us0, unE u) else (stOf u.ws, 0)
theorem uReadS_e {u : Un} (h : unE u ≠ 0) : uReadS u = (us0, unE u) := by unfold uReadS; rw [if_pos h]
theorem uReadS_0 {u : Un} (h : unE u = 0) : uReadS u = (stOf u.ws, 0) := by unfold uReadS; rw [if_neg (by simpa using h)]

set_option maxRecDepth 100000 in
set_option maxHeartbeats 1600000 in
theorem unitRead_any (u : Un) (a : Option Addr) (n c : Nat) (w : World) (h : BW w a n c u.ws) :
    Calls Tryz.prog 12 #[unv u a n c] w fun e w' => e = .returned (.tuple #[usv (uReadS u).1, .int .i64 (uReadS u).2]) ∧ Below w.heap.size w w' := by
  have hw0 : Below w.heap.size w ((w.alloc (.cells #[.slice a n c, .int .i64 u.fu, .bool u.up, .int .i64 u.n, .int .i64 u.hv] 29)).alloc (.cells #[.int .i64 0, .int .i64 0, .int .i64 0] 40)) := ((Below.refl _ _).alloc (Nat.le_refl _) _).alloc (by simp) _
  have b0 : Hid (((w.alloc (.cells #[.slice a n c, .int .i64 u.fu, .bool u.up, .int .i64 u.n, .int .i64 u.hv] 29)).alloc (.cells #[.int .i64 0, .int .i64 0, .int .i64 0] 40)).heap[w.heap.size]? = some (.cells #[.slice a n c, .int .i64 u.fu, .bool u.up, .int .i64 u.n, .int .i64 u.hv] 29 (0, 0))) := blk_alloc (heap_alloc_last _ _) _
  have b1 : Hid (((w.alloc (.cells #[.slice a n c, .int .i64 u.fu, .bool u.up, .int .i64 u.n, .int .i64 u.hv] 29)).alloc (.cells #[.int .i64 0, .int .i64 0, .int .i64 0] 40)).heap[w.heap.size + 1]? = some (.cells #[.int .i64 0, .int .i64 0, .int .i64 0] 40 (0, 0))) := uLast1 _ _ _
  have HC := hide (fun W (hW : Below w.heap.size w W) => unitCheck_any u a n c W (h.below hW))
  have HS := hide (fun (e1 : lchk u.ws u.fu = 0) W (hW : Below w.heap.size w W) => stateOf_any a n c u.ws u.fu W (h.below hW) e1)
  have E1 := hide (fun h => uReadS_e (u := u) h)
  have E0 := hide (fun h => uReadS_0 (u := u) h)
  have hx : w.heap.size ≤ w.heap.size + 1 := by omega
  unfold unv at *
  clear h
  go_enter Tryz.func12, Tryz.ntmps12
  go_wp2_with fail
  generalize (w.alloc (.cells #[.slice a n c, .int .i64 u.fu, .bool u.up, .int .i64 u.n, .int .i64 u.hv] 29)).alloc (.cells #[.int .i64 0, .int .i64 0, .int .i64 0] 40) = W at *
  refine (unhide HC _ hw0).mono ?_
  rintro e w1 ⟨rfl, hb⟩
  replace b0 := hide (blk_below b0.out hb)
  replace b1 := hide (blk_below b1.out hb)
  replace hw0 := hw0.trans (hb.mono hw0.size)
  clear hb HC
  by_cases z1 : unE u = 0
  rotate_left
  {
  have HE := hide (E1.out z1)
  have d1 : (unE u != 0) = true := by simpa using z1
  have y0 := blk_cell b1.out 0 _ rfl
  have y1 := blk_cell b1.out 1 _ rfl
  have y2 := blk_cell b1.out 2 _ rfl
  have f0 := blk_free b1.out 0
  have f1 := blk_free b1.out 1
  have f2 := blk_free b1.out 2
  clear z1
  generalize unE u = q at *
  go_wp2_with fail
  refine bodyPost_ret (v := .tuple #[usv us0, .int .i64 q]) (by simp [results, Tryz.results12, go_sem, usv, us0, y0, y1, y2]) rfl ?_
  rw [HE.out]
  exact ⟨rfl, ((hw0.setCell hx _).setCell hx _).setCell hx _⟩
  }
  have HE := hide (E0.out z1)
  have HSt := hide (HS.out (unE_ok z1).1 _ hw0)
  rw [z1]
  clear z1 E1 E0 HS
  have x0 := blk_cell b0.out 0 _ rfl
  have x1 := blk_cell b0.out 1 _ rfl
  go_wp2_with fail
  refine (unhide HSt).mono ?_
  rintro e w2 ⟨rfl, hb⟩
  replace b1 := hide (blk_below b1.out hb)
  replace hw0 := hw0.trans (hb.mono hw0.size)
  clear hb HSt x0 x1
  have y0 := blk_cell b1.out 0 _ rfl
  have y1 := blk_cell b1.out 1 _ rfl
  have y2 := blk_cell b1.out 2 _ rfl
  have f0 := blk_free b1.out 0
  have f1 := blk_free b1.out 1
  have f2 := blk_free b1.out 2
  generalize stOf u.ws = s at *
  unfold usv
  go_wp2_with fail
  refine bodyPost_ret (v := .tuple #[usv s, .int .i64 0]) (by simp [results, Tryz.results12, go_sem, usv, y0, y1, y2]) rfl ?_
  rw [HE.out]
  exact ⟨rfl, ((hw0.setCell hx _).setCell hx _).setCell hx _⟩

theorem info_flash : (Tryz.prog.info? 27).map (fun i => (i.zero, i.size, i.bytes)) = some (some (.agg #[.slice none 0 0, .int .i64 0]), 2, 32) := by kernel_rfl
set_option maxRecDepth 100000 in
theorem unit_field (a : Option Addr) (n c : Nat) (fu x y : Int) (up : Bool) (w : World) :
    (Instr.field 29 (.agg #[.slice a n c, .int .i64 fu, .bool up, .int .i64 x, .int .i64 y]) 0).run Tryz.prog w = .ok (.agg #[.slice a n c, .int .i64 fu]) w := by
  obtain ⟨i0, hi0, hz0, hz1, hz2⟩ := info_parts info_flash
  simp [Instr.field, run_underlying Tryz.underlying29, part, go_sem, isAgg, sizeOf, typeInfo, asAgg, hi0, hz1]

def bootS (u : Un) : Un × Int := if unE u ≠ 0 then (un0, unE u) else (⟨u.ws, -1, true, 0, 0⟩, 0)
theorem bootS_e {u : Un} (h : unE u ≠ 0) : bootS u = (un0, unE u) := by unfold bootS; rw [if_pos h]
theorem bootS_0 {u : Un} (h : unE u = 0) : bootS u = (⟨u.ws, -1, true, 0, 0⟩, 0) := by unfold bootS; rw [if_neg (by simpa using h)]
def UnAns (w : World) (r : Un × Int) (e : Ending) (w' : World) : Prop :=
  (∃ a n c, e = .returned (.tuple #[unv r.1 a n c, .int .i64 r.2]) ∧ BW w' a n c r.1.ws) ∧ Below w.heap.size w w'

set_option maxRecDepth 100000 in
set_option maxHeartbeats 1600000 in
theorem unitBoot_any (u : Un) (a : Option Addr) (n c : Nat) (w : World) (h : BW w a n c u.ws) :
    Calls Tryz.prog 14 #[unv u a n c] w (UnAns w (bootS u)) := by
  have hw0 : Below w.heap.size w ((w.alloc (.cells #[.slice a n c, .int .i64 u.fu, .bool u.up, .int .i64 u.n, .int .i64 u.hv] 29)).alloc (.cells #[.slice none 0 0, .int .i64 0, .bool false, .int .i64 0, .int .i64 0] 29)) := ((Below.refl _ _).alloc (Nat.le_refl _) _).alloc (by simp) _
  have b0 : Hid (((w.alloc (.cells #[.slice a n c, .int .i64 u.fu, .bool u.up, .int .i64 u.n, .int .i64 u.hv] 29)).alloc (.cells #[.slice none 0 0, .int .i64 0, .bool false, .int .i64 0, .int .i64 0] 29)).heap[w.heap.size]? = some (.cells #[.slice a n c, .int .i64 u.fu, .bool u.up, .int .i64 u.n, .int .i64 u.hv] 29 (0, 0))) := blk_alloc (heap_alloc_last _ _) _
  have b1 : Hid (((w.alloc (.cells #[.slice a n c, .int .i64 u.fu, .bool u.up, .int .i64 u.n, .int .i64 u.hv] 29)).alloc (.cells #[.slice none 0 0, .int .i64 0, .bool false, .int .i64 0, .int .i64 0] 29)).heap[w.heap.size + 1]? = some (.cells #[.slice none 0 0, .int .i64 0, .bool false, .int .i64 0, .int .i64 0] 29 (0, 0))) := uLast1 _ _ _
  have HC := hide (fun W (hW : Below w.heap.size w W) => unitCheck_any u a n c W (h.below hW))
  have HT := hide (fun (hb : n * 8 ≤ 140737488355328) W (hW : Below w.heap.size w W) => unitTwin_any u a n c W (h.below hW) hb)
  have E1 := hide (fun h => bootS_e (u := u) h)
  have E0 := hide (fun h => bootS_0 (u := u) h)
  have hx : w.heap.size ≤ w.heap.size + 1 := by omega
  have HN := hide h.len
  unfold unv at *
  clear h
  go_enter Tryz.func14, Tryz.ntmps14
  go_wp2_with fail
  generalize (w.alloc (.cells #[.slice a n c, .int .i64 u.fu, .bool u.up, .int .i64 u.n, .int .i64 u.hv] 29)).alloc (.cells #[.slice none 0 0, .int .i64 0, .bool false, .int .i64 0, .int .i64 0] 29) = W at *
  refine (unhide HC _ hw0).mono ?_
  rintro e w1 ⟨rfl, hb⟩
  replace b0 := hide (blk_below b0.out hb)
  replace b1 := hide (blk_below b1.out hb)
  replace hw0 := hw0.trans (hb.mono hw0.size)
  clear hb HC
  by_cases z1 : unE u = 0
  rotate_left
  {
  have HE := hide (E1.out z1)
  have d1 : (unE u != 0) = true := by simpa using z1
  obtain ⟨y0, y1, y2, y3, y4⟩ := cl5 b1.out
  have f0 := blk_free b1.out 0
  have f1 := blk_free b1.out 1
  have f2 := blk_free b1.out 2
  have f3 := blk_free b1.out 3
  have f4 := blk_free b1.out 4
  clear z1
  generalize unE u = q at *
  go_wp2_with fail
  refine bodyPost_ret (v := .tuple #[unv un0 none 0 0, .int .i64 q]) (by simp [results, Tryz.results14, go_sem, unv, un0, y0, y1, y2, y3, y4]) rfl ?_
  rw [HE.out]
  exact ⟨⟨none, 0, 0, rfl, ⟨.inl rfl, rfl, Nat.le_refl _, by decide⟩⟩, ((((hw0.setCell hx _).setCell hx _).setCell hx _).setCell hx _).setCell hx _⟩
  }
  have HE := hide (E0.out z1)
  have LN := hide (unE_ok z1).2.1
  have HTw := hide (HT.out (by rw [← HN.out, LN.out]; decide) _ hw0)
  rw [z1]
  clear z1 E1 E0 HT
  obtain ⟨x0, x1, x2, x3, x4⟩ := cl5 b0.out
  go_wp2_with fail
  refine (unhide HTw).mono ?_
  rintro e w2 ⟨⟨a2, c2, rfl, hi2, hf2, hc2⟩, hb⟩
  rw [LN.out] at hc2
  unfold unv
  rw [LN.out]
  replace b1 := hide (blk_below b1.out hb)
  replace hw0 := hw0.trans (hb.mono hw0.size)
  have HI2 := hide hi2
  clear hb HTw x0 x1 x2 x3 x4 hi2 hf2
  have hfld := unit_field a2 192 c2 u.fu u.n u.hv u.up
  go_upto_region 5 with fail
  clear hfld
  have S0 := hide (heap_alloc_last w2 (.cells #[.slice a2 192 c2, .int .i64 u.fu, .bool true, .int .i64 0, .int .i64 0] 29))
  have hb3 : Below w2.heap.size w2 (w2.alloc (.cells #[.slice a2 192 c2, .int .i64 u.fu, .bool true, .int .i64 0, .int .i64 0] 29)) := (Below.refl _ _).alloc (Nat.le_refl _) _
  have hX : w.heap.size + 1 < w2.heap.size := blk_lt b1.out
  have ho2 : Hid (Off w2.heap.size a2) := by
    rcases ints_off HI2.out w2.heap.size (Nat.le_refl _) with e | h
    { have := LN.out; rw [e] at this; simp at this }
    { exact h }
  replace HI2 := hide (HI2.out.below hb3)
  replace b1 := hide (blk_below b1.out hb3)
  have hB := hw0.size
  replace hw0 := hw0.trans (hb3.mono hw0.size)
  clear hb3
  generalize w2.heap.size = B at *
  generalize w2.alloc (.cells #[.slice a2 192 c2, .int .i64 u.fu, .bool true, .int .i64 0, .int .i64 0] 29) = W3 at *
  have s0 := blk_cell S0.out 0 _ rfl
  have s1 := blk_cell S0.out 1 _ rfl
  have r1 := blk_free S0.out 1
  go_upto_region 6 with fail
  clear s0 s1
  have S1 : Hid ((W3.setCell ⟨B, 1, none⟩ (.int .i64 (-1))).heap[B]? = some (.cells #[.slice a2 192 c2, .int .i64 (-1), .bool true, .int .i64 0, .int .i64 0] 29 (0, 0))) := by
    show _ = _
    have h0 := S0.out
    simp only [World.setCell, Array.getElem?_modify]
    simp [h0]
  have hg := turns_set1 W3 B 1 (.int .i64 (-1))
  replace b1 := hide (blk_turns b1.out hg (by omega))
  replace HI2 := hide (ints_turns HI2.out hg ho2.out)
  replace hw0 := hw0.setCell (p := ⟨B, 1, none⟩) hB (.int .i64 (-1))
  clear hg S0 r1 ho2
  generalize W3.setCell ⟨B, 1, none⟩ (.int .i64 (-1)) = W4 at *
  obtain ⟨s0, s1, s2, s3, s4⟩ := cl5 S1.out
  obtain ⟨y0, y1, y2, y3, y4⟩ := cl5 b1.out
  have f0 := blk_free b1.out 0
  have f1 := blk_free b1.out 1
  have f2 := blk_free b1.out 2
  have f3 := blk_free b1.out 3
  have f4 := blk_free b1.out 4
  go_wp2_with fail
  refine bodyPost_ret (v := .tuple #[unv ⟨u.ws, -1, true, 0, 0⟩ a2 192 c2, .int .i64 0]) (by simp [results, Tryz.results14, go_sem, unv, y0, y1, y2, y3, y4]) rfl ?_
  rw [HE.out]
  have hbw : BW W4 a2 192 c2 u.ws := ⟨HI2.out, LN.out, hc2, by decide⟩
  have ho := ints_unit HI2.out (.inr (by rw [LN.out]; decide)) b1.out rfl
  exact ⟨⟨a2, 192, c2, rfl, ((((hbw.ne ho _ _).ne ho _ _).ne ho _ _).ne ho _ _).ne ho _ _⟩, ((((hw0.setCell hx _).setCell hx _).setCell hx _).setCell hx _).setCell hx _⟩

set_option maxRecDepth 100000 in
theorem state_field (x y z : Int) (w : World) : (Instr.field 40 (.agg #[.int .i64 x, .int .i64 y, .int .i64 z]) 0).run Tryz.prog w = .ok (.int .i64 x) w := by
  simp [Instr.field, run_underlying Tryz.underlying40, part, go_sem, isAgg, asAgg]

def runsS (u : Un) : List Int × Int × Int := if unE u ≠ 0 then ([], 0, unE u) else imgS u.ws u.fu (stOf u.ws).slot
theorem runsS_e {u : Un} (h : unE u ≠ 0) : runsS u = ([], 0, unE u) := by unfold runsS; rw [if_pos h]
theorem runsS_0 {u : Un} (h : unE u = 0) : runsS u = imgS u.ws u.fu (stOf u.ws).slot := by unfold runsS; rw [if_neg (by simpa using h)]

set_option maxRecDepth 100000 in
set_option maxHeartbeats 3200000 in
theorem unitRuns_any (u : Un) (a : Option Addr) (n c : Nat) (w : World) (h : BW w a n c u.ws) :
    Calls Tryz.prog 13 #[unv u a n c] w (Shows w (runsS u)) := by
  have hw0 : Below w.heap.size w (w.alloc (.cells #[.slice a n c, .int .i64 u.fu, .bool u.up, .int .i64 u.n, .int .i64 u.hv] 29)) := (Below.refl _ _).alloc (Nat.le_refl _) _
  have b0 := hide (heap_alloc_last w (.cells #[.slice a n c, .int .i64 u.fu, .bool u.up, .int .i64 u.n, .int .i64 u.hv] 29))
  have HC := hide (fun W (hW : Below w.heap.size w W) => unitCheck_any u a n c W (h.below hW))
  have HS := hide (fun (e1 : lchk u.ws u.fu = 0) W (hW : Below w.heap.size w W) => stateOf_any a n c u.ws u.fu W (h.below hW) e1)
  have HI := hide (fun W (hW : Below w.heap.size w W) => image_any a n c u.ws u.fu (stOf u.ws).slot W (h.below hW).at_ h.len h.max h.cap)
  have E1 := hide (fun h => runsS_e (u := u) h)
  have E0 := hide (fun h => runsS_0 (u := u) h)
  unfold unv at *
  clear h
  go_enter Tryz.func13, Tryz.ntmps13
  go_wp2_with fail
  generalize w.alloc (.cells #[.slice a n c, .int .i64 u.fu, .bool u.up, .int .i64 u.n, .int .i64 u.hv] 29) = W at *
  refine (unhide HC _ hw0).mono ?_
  rintro e w1 ⟨rfl, hb⟩
  replace b0 := hide (blk_below b0.out hb)
  replace hw0 := hw0.trans (hb.mono hw0.size)
  clear hb HC
  by_cases z1 : unE u = 0
  rotate_left
  {
  have HE := hide (E1.out z1)
  have d1 : (unE u != 0) = true := by simpa using z1
  clear z1
  generalize unE u = q at *
  go_wp2_with fail
  refine bodyPost_ret (v := .tuple #[.slice none 0 0, .int .i64 0, .int .i64 q]) (by simp [results, Tryz.results13, go_sem]) rfl ?_
  exact shows_err HE.out hw0
  }
  have HE := hide (E0.out z1)
  replace HS := hide (HS.out (unE_ok z1).1)
  rw [z1]
  clear z1 E1 E0
  generalize imgS u.ws u.fu (stOf u.ws).slot = r at *
  generalize stOf u.ws = s at *
  go_upto_region 4 with fail
  refine wp_region_held_drew (S := fun W' => W'.cell? ⟨w.heap.size, 0, none⟩ = some (.slice a n c) ∧ W'.cell? ⟨w.heap.size, 1, none⟩ = some (.int .i64 u.fu)) (by kernel_rfl) ⟨blk_cell b0.out 0 _ rfl, blk_cell b0.out 1 _ rfl⟩ ?_
  intro hHeld
  refine Htake (i := 0) (v := ?_) (by rfl) (by kernel_rfl) (by exact fun _ _ _ h => h) (Or.inl ⟨by rfl, ?_⟩) (by assumption) ?_
  rotate_left
  {
  intro w hSw
  try dsimp only at hSw
  go_simp
  try with_reducible rfl
  }
  try simp only [sq]
  refine Htake (i := 1) (v := ?_) (by rfl) (by kernel_rfl) (by exact fun _ _ _ h => h) (Or.inl ⟨by rfl, ?_⟩) (by assumption) ?_
  rotate_left
  {
  intro w hSw
  try dsimp only at hSw
  go_simp
  try with_reducible rfl
  }
  try simp only [sq]
  refine Htake (i := 2) (v := ?_) (by rfl) (by kernel_rfl) (by exact fun _ _ _ h => h) (Or.inl ⟨by rfl, ?_⟩) (by assumption) ?_
  rotate_left
  {
  intro w hSw
  try dsimp only at hSw
  go_simp
  try with_reducible rfl
  }
  try simp only [sq]
  refine Htake (i := 3) (v := ?_) (by rfl) (by kernel_rfl) (by exact fun _ _ _ h => h) (Or.inl ⟨by rfl, ?_⟩) (by assumption) ?_
  rotate_left
  {
  intro w hSw
  try dsimp only at hSw
  go_simp
  try with_reducible rfl
  }
  try simp only [sq]
  refine wpAnyH_ready (rs := [4]) (by kernel_rfl) (by simp) ?_
  refine AllReadyH.cons (by rfl) (fun K hK => ?_) AllReadyH.nil
  go_simp
  have hk0 : Below w.heap.size w w1.drew := hw0.drew
  replace b0 : Hid (w1.drew.heap[w.heap.size]? = some (.cells #[.slice a n c, .int .i64 u.fu, .bool u.up, .int .i64 u.n, .int .i64 u.hv] 29 (0, 0))) := b0.out
  refine (unhide HS _ hk0).mono ?_
  rintro e w2 ⟨rfl, hb⟩
  unfold usv
  replace b0 := hide (blk_below b0.out hb)
  replace hk0 := hk0.trans (hb.mono hk0.size)
  clear hb HS hw0
  have hfd := state_field s.slot s.by' s.rdy
  go_wp2_with fail
  refine hK.out _ _ ((show w2.cell? ⟨w.heap.size, 0, none⟩ = some (.slice a n c) ∧ w2.cell? ⟨w.heap.size, 1, none⟩ = some (.int .i64 u.fu) from ⟨blk_cell b0.out 0 _ rfl, blk_cell b0.out 1 _ rfl⟩)) (fun hHeld => ?_)
  clear hK K
  try simp only [sq]
  refine Htake (i := 5) (v := ?_) (by rfl) (by kernel_rfl) (by exact fun _ _ _ h => h) (Or.inl ⟨by rfl, ?_⟩) (by assumption) ?_
  rotate_left
  {
  intro w hSw
  try dsimp only at hSw
  go_simp
  try with_reducible rfl
  }
  try simp only [sq]
  refine wpAnyH_ready (rs := [6]) (by kernel_rfl) (by simp) ?_
  refine AllReadyH.cons (by rfl) (fun K hK => ?_) AllReadyH.nil
  go_simp
  refine (unhide HI _ hk0).mono ?_
  rintro e w3 ⟨⟨a3, n3, c3, rfl, hi3, hn3, hc3, hf3⟩, hb⟩
  replace b0 := hide (blk_below b0.out hb)
  have hk1 := hk0.trans (hb.mono hk0.size)
  have I3 := hide hi3
  have N3 := hide hn3
  have F3 := hide hf3
  clear hb HI hi3 hn3 hf3
  go_wp2_with fail
  refine hK.out _ _ ((show w3.cell? ⟨w.heap.size, 0, none⟩ = some (.slice a n c) ∧ w3.cell? ⟨w.heap.size, 1, none⟩ = some (.int .i64 u.fu) from ⟨blk_cell b0.out 0 _ rfl, blk_cell b0.out 1 _ rfl⟩)) (fun hHeld => ?_)
  clear hK K
  try simp only [sq]
  refine Htake (i := 7) (v := ?_) (by rfl) (by kernel_rfl) (by exact fun _ _ _ h => h) (Or.inl ⟨by rfl, ?_⟩) (by assumption) ?_
  rotate_left
  {
  intro w hSw
  try dsimp only at hSw
  go_simp
  try with_reducible rfl
  }
  try simp only [sq]
  refine Htake (i := 8) (v := ?_) (by rfl) (by kernel_rfl) (by exact fun _ _ _ h => h) (Or.inl ⟨by rfl, ?_⟩) (by assumption) ?_
  rotate_left
  {
  intro w hSw
  try dsimp only at hSw
  go_simp
  try with_reducible rfl
  }
  try simp only [sq]
  refine Htake (i := 9) (v := ?_) (by rfl) (by kernel_rfl) (by exact fun _ _ _ h => h) (Or.inl ⟨by rfl, ?_⟩) (by assumption) ?_
  rotate_left
  {
  intro w hSw
  try dsimp only at hSw
  go_simp
  try with_reducible rfl
  }
  try simp only [sq]
  refine Htake (i := 10) (v := ?_) (by rfl) (by kernel_rfl) (by exact fun _ _ _ h => h) (Or.inl ⟨by rfl, ?_⟩) (by assumption) ?_
  rotate_left
  {
  intro w hSw
  try dsimp only at hSw
  go_simp
  try with_reducible rfl
  }
  try simp only [sq]
  refine Htake (i := 11) (v := ?_) (by rfl) (by kernel_rfl) (by exact fun _ _ _ h => h) (Or.inl ⟨by rfl, ?_⟩) (by assumption) ?_
  rotate_left
  {
  intro w hSw
  try dsimp only at hSw
  go_simp
  try with_reducible rfl
  }
  try simp only [sq]
  refine Htake (i := 12) (v := ?_) (by rfl) (by kernel_rfl) (by exact fun _ _ _ h => h) (Or.inl ⟨by rfl, ?_⟩) (by assumption) ?_
  rotate_left
  {
  intro w hSw
  try dsimp only at hSw
  go_simp
  try with_reducible rfl
  }
  try simp only [sq]
  refine wpAnyH_done (by kernel_rfl) ?_ _
  clear hHeld
  go_wp2_with fail
  refine bodyPost_ret (v := .tuple #[.slice a3 n3 c3, .int .i64 r.2.1, .int .i64 r.2.2]) (by simp [results, Tryz.results13, go_sem]) rfl ?_
  rw [HE.out]
  exact ⟨⟨a3, n3, c3, rfl, I3.out, N3.out, hc3, fun ad e => by have := F3.out ad e; have := hk0.size; omega⟩, hk1⟩

end Go.Proofs.YtgngpmgjoifepaaGreatDoor

namespace Go.Proofs.YtgngpmgjoifepaaGreatDoor
open Go.RowKit

/-! ### What a step hands back is flash, too -/
def Fine (r : List Int × Int × Int) : Prop := (r.2.2 = 0 ∨ r.2.2 = 7) → okL r.1 = true ∧ -1 ≤ r.2.1 ∧ r.2.1 ≤ 100000
theorem fine_err {e : Int} (h0 : e ≠ 0) (h7 : e ≠ 7) : Fine ([], 0, e) := by
  intro h
  rcases h with h | h
  { exact absurd h h0 }
  { exact absurd h h7 }
theorem fine_prog (ws words : List Int) (f p : Int) : Fine (progS ws f p words) := by
  intro h
  obtain ⟨c, q0, q1, ok, e⟩ := prog_did h
  have q := chk_parts c
  have hle := cnt_le f words.length
  rw [e]
  exact ⟨chg_ok q.2.2.2 ok hle (by omega), burn_bounds (n := words.length) q.2.1 q.2.2.1 (Nat.le_refl _)⟩
theorem fine_era (ws : List Int) (f s : Int) : Fine (eraS ws f s) := by
  intro h
  obtain ⟨c, q0, q1, e⟩ := era_did h
  have q := chk_parts c
  rw [e]
  exact ⟨chg_full_ok q.2.2.2, burn_bounds (n := 32) q.2.1 q.2.2.1 (Nat.le_refl _)⟩
theorem fine_seal (ws : List Int) (f s l n : Int) : Fine (sealS ws f s l n) := by
  unfold sealS
  split
  { rename_i c; exact fine_err c (slotE_seven _ _ _) }
  {
  split
  { exact fine_err (by decide) (by decide) }
  { exact fine_prog _ _ _ _ }
  }
theorem fine_clr (ws : List Int) (f s : Int) : Fine (clrS ws f s) := by
  unfold clrS
  split
  { rename_i c; exact fine_err c (slotE_seven _ _ _) }
  {
  rename_i h1
  obtain ⟨hc, hl, p0, p1⟩ := slotE_parts (show slotE ws f s = 0 by simpa using h1)
  have q := chk_parts hc
  have key : ∀ k, Fine (clrAt ws f s k) := by
    intro k
    induction k with
    | zero => exact fun _ => ⟨q.2.2.2, q.2.1, q.2.2.1⟩
    | succ k ih =>
      by_cases e : (clrAt ws f s k).2.2 = 0
      { rw [clrAt_go e]; exact fine_era _ _ _ }
      { rw [clrAt_stay e]; exact ih }
  exact key 2

  }
/-! ### A step at a slot -/
def Far (t : Int) (ws us : List Int) : Prop := ∀ i : Nat, ((i : Int) < 64 + 64 * t ∨ 128 + 64 * t ≤ (i : Int)) → us.getD i 0 = ws.getD i 0
theorem Far.refl (t : Int) (ws : List Int) : Far t ws ws := fun _ _ => rfl
theorem Far.trans {t : Int} {a b c : List Int} (h : Far t a b) (h2 : Far t b c) : Far t a c := fun i hi => (h2 i hi).trans (h i hi)
theorem far_apt {ws : List Int} {t : Int} {r : List Int × Int × Int} (ht : 0 ≤ t) (h : Apt ws t r) (he : r.2.2 = 0 ∨ r.2.2 = 7) : Far t ws r.1 ∧ r.1.length = 192 := by
  obtain ⟨h1, h2, h3, h4⟩ := h he
  refine ⟨fun i hi => ?_, h2⟩
  rcases hi with hi | hi
  {
  have := congrArg (fun l => l.getD i 0) h3
  simp only [List.getD_eq_getElem?_getD, List.getElem?_take] at this ⊢
  rw [if_pos (by omega), if_pos (by omega)] at this
  exact this
  }
  {
  have := congrArg (fun l => l.getD (i - (128 + 64 * t).toNat) 0) h4
  simp only [List.getD_eq_getElem?_getD, List.getElem?_drop] at this ⊢
  rw [show (128 + 64 * t).toNat + (i - (128 + 64 * t).toNat) = i by omega] at this
  exact this

  }
theorem far_log {ws us : List Int} {t : Int} (ht : 0 ≤ t) (h : Far t ws us) (hl : us.length = ws.length) : logR us = logR ws := logR_ext hl (fun i hi => h i (.inl (by omega)))
theorem far_st {ws us : List Int} {t : Int} (ht : 0 ≤ t) (h : Far t ws us) (hl : us.length = ws.length) : stOf us = stOf ws := by unfold stOf; rw [far_log ht h hl]

structure Slt (t : Int) (u x : Un) (d : Bool) : Prop where
  ok : unE x = 0
  far : Far t u.ws x.ws
  st : stOf x.ws = stOf u.ws
  did : d = true → x.up = u.up ∧ x.n = u.n ∧ x.hv = u.hv

theorem slt_step {u : Un} {st : Stu} {t : Int} (hu : unE u = 0) (ht : 0 ≤ t) (hA : Apt u.ws t (doT st u.ws u.fu)) (hF : Fine (doT st u.ws u.fu)) : Slt t u (doV u st).1 (doV u st).2 := by
  obtain ⟨hk, hl, hn, hv⟩ := unE_ok hu
  unfold doV
  generalize doT st u.ws u.fu = R at *
  by_cases z7 : R.2.2 = 7
  {
  rw [doU_7 z7]
  have f := far_apt ht hA (.inr z7)
  have g := hF (.inr z7)
  refine ⟨unE_0 (lchk_ext hk (f.2.trans hl.symm) (fun i hi => f.1 i (.inl (by omega))) g.1 g.2.1 g.2.2) f.2 (by show (inB 0 0 8 && inB 0 0 40) = true; decide), f.1, far_st ht f.1 (f.2.trans hl.symm), fun h => by cases h⟩
  }
  {
  by_cases z0 : R.2.2 = 0
  {
  rw [doU_0 z0]
  have f := far_apt ht hA (.inl z0)
  have g := hF (.inl z0)
  refine ⟨unE_0 (lchk_ext hk (f.2.trans hl.symm) (fun i hi => f.1 i (.inl (by omega))) g.1 g.2.1 g.2.2) f.2 (by rw [inB_t hn.1 hn.2, inB_t hv.1 hv.2]; rfl), f.1, far_st ht f.1 (f.2.trans hl.symm), fun _ => ⟨rfl, rfl, rfl⟩⟩
  }
  {
  rw [doU_e z7 z0]
  exact ⟨hu, Far.refl _ _, rfl, fun h => by cases h⟩
  }
  }
theorem slt_clr {u : Un} {t : Int} (hu : unE u = 0) (ht : 0 ≤ t) : Slt t u (doV u (.clr t)).1 (doV u (.clr t)).2 := slt_step hu ht (apt_clear _ _ _) (fine_clr _ _ _)
theorem slt_sea {u : Un} {t l n : Int} (hu : unE u = 0) (ht : 0 ≤ t) : Slt t u (doV u (.sea t l n)).1 (doV u (.sea t l n)).2 := slt_step hu ht (apt_seal _ _ _ _ _) (fine_seal _ _ _ _ _)

/-! ### A record -/
theorem oth_0 {u : Un} (hu : unE u = 0) : 0 ≤ oth (stOf u.ws) ∧ oth (stOf u.ws) ≤ 1 := by
  have hs := stOf_slot (unE_ok hu).1
  unfold oth; omega

end Go.Proofs.YtgngpmgjoifepaaGreatDoor
