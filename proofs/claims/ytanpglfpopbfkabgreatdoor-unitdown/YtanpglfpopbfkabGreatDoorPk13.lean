/- The contracts of the small functions of package slot: within, sectorOf, headPlace, bodyPlace, sealable, headOf, check. The contract of slot.Fill. -/
import Derived.Test.YtanpglfpopbfkabGreatDoorPk3
import Derived.Test.YtanpglfpopbfkabGreatDoorPk4
namespace Go.Proofs.YtanpglfpopbfkabGreatDoor
open Go.RowKit

def inB (n lo hi : Int) : Bool := decide (lo ≤ n ∧ n ≤ hi)

set_option maxHeartbeats 400000 in
theorem slWithin_any (n lo hi : Int) (w : World) : Calls Tryz.prog 106 #[.int .i64 n, .int .i64 lo, .int .i64 hi] w fun e w' => e = .returned (.bool (inB n lo hi)) ∧ w' = w := by
  by_cases h0 : lo ≤ n
  · by_cases h1 : n ≤ hi
    · go_enter Tryz.func106, Tryz.ntmps106
      go_wp2
      go_ret
      exact ⟨ret_bool (by unfold inB; simp; omega), rfl⟩
    · have hd : decide (n ≤ hi) = false := by simp; omega
      go_enter Tryz.func106, Tryz.ntmps106
      go_wp2
      go_ret
      exact ⟨ret_bool (by unfold inB; simp; omega), rfl⟩
  · have hd : decide (lo ≤ n) = false := by simp; omega
    go_enter Tryz.func106, Tryz.ntmps106
    go_wp2
    go_ret
    exact ⟨ret_bool (by unfold inB; simp; omega), rfl⟩

set_option maxHeartbeats 400000 in
theorem sectorOf_any (s : Int) (w : World) (h0 : 0 ≤ s) (h1 : s ≤ 1) : Calls Tryz.prog 107 #[.int .i64 s] w fun e w' => e = .returned (.int .i64 (2 + s * 2)) ∧ w' = w := by
  go_enter Tryz.func107, Tryz.ntmps107
  go_wp2
  go_ret
  exact ⟨rfl, rfl⟩

set_option maxHeartbeats 400000 in
theorem headPlace_any (s : Int) (w : World) (h0 : 0 ≤ s) (h1 : s ≤ 1) : Calls Tryz.prog 65 #[.int .i64 s] w fun e w' => e = .returned (.int .i64 (64 + 64 * s)) ∧ w' = w := by
  go_enter Tryz.func65, Tryz.ntmps65
  go_wp2_with fail
  refine (sectorOf_any s _ h0 h1).mono ?_
  rintro e w1 ⟨rfl, rfl⟩
  go_wp2
  go_ret
  exact ⟨ret_intk (by omega), rfl⟩

set_option maxHeartbeats 400000 in
theorem bodyPlace_any (s : Int) (w : World) (h0 : 0 ≤ s) (h1 : s ≤ 1) : Calls Tryz.prog 108 #[.int .i64 s] w fun e w' => e = .returned (.int .i64 (68 + 64 * s)) ∧ w' = w := by
  go_enter Tryz.func108, Tryz.ntmps108
  go_wp2_with fail
  refine (headPlace_any s _ h0 h1).mono ?_
  rintro e w1 ⟨rfl, rfl⟩
  go_wp2
  go_ret
  exact ⟨ret_intk (by omega), rfl⟩

def sealB (long name : Int) : Bool := inB long 1 40 && inB name 1 60

set_option maxHeartbeats 400000 in
theorem sealable_any (long name : Int) (w : World) : Calls Tryz.prog 66 #[.int .i64 long, .int .i64 name] w fun e w' => e = .returned (.bool (sealB long name)) ∧ w' = w := by
  go_enter Tryz.func66, Tryz.ntmps66
  go_wp2_with fail
  refine (slWithin_any long 1 40 _).mono ?_
  rintro e w1 ⟨rfl, rfl⟩
  cases hb : inB long 1 40
  · have HB := hide hb
    clear hb
    go_wp2
    go_ret
    exact ⟨ret_bool (by unfold sealB; rw [HB.out]; rfl), rfl⟩
  · have HB := hide hb
    clear hb
    go_wp2_with fail
    refine (slWithin_any name 1 60 _).mono ?_
    rintro e w1 ⟨rfl, rfl⟩
    go_wp2
    go_ret
    exact ⟨ret_bool (by unfold sealB; rw [HB.out]; rfl), rfl⟩

/-- A word turned over. -/
def xorW (x : Int) : Int := bits .xor .i64 x 65535
/-- The head of a slot: four words. -/
def headL (long name : Int) : List Int := [long, name, xorW long, xorW name]

set_option maxHeartbeats 400000 in
theorem slHeadOf_any (long name : Int) (w : World) : Calls Tryz.prog 67 #[.int .i64 long, .int .i64 name] w fun e w' => e = .returned (.agg #[.int .i64 long, .int .i64 name, .int .i64 (xorW long), .int .i64 (xorW name)]) ∧ Below w.heap.size w w' := by
  go_enter Tryz.func67, Tryz.ntmps67
  go_wp2
  refine bodyPost_ret (v := .agg #[.int .i64 long, .int .i64 name, .int .i64 (xorW long), .int .i64 (xorW name)]) (by simp [results, Tryz.results67, go_sem, xorW]) rfl ?_
  exact ⟨rfl, ((Below.refl _ _).alloc (Nat.le_refl _) _)⟩

/-- The errors that all of package slot say first. -/
def slotE (ws : List Int) (fuel s : Int) : Int := if chk ws fuel ≠ 0 then chk ws fuel else if ws.length ≠ 192 then 4 else if inB s 0 1 = false then 5 else 0

theorem slotE_parts {ws : List Int} {fuel s : Int} (h : slotE ws fuel s = 0) : chk ws fuel = 0 ∧ ws.length = 192 ∧ 0 ≤ s ∧ s ≤ 1 := by
  unfold slotE at h
  split at h
  · rename_i c; exact absurd h c
  · split at h
    · simp at h
    · split at h
      · simp at h
      · rename_i h1 h2 h3
        simp [inB] at h3
        simp at h1 h2
        exact ⟨h1, h2, h3.1, h3.2⟩

set_option maxHeartbeats 400000 in
theorem slotCheck_any (a : Option Addr) (n c : Nat) (ws : List Int) (fuel s : Int) (w : World) (h : IsInts w a ws) (hn : ws.length = n) (hm : n ≤ maxLen) :
    Calls Tryz.prog 64 #[.agg #[.slice a n c, .int .i64 fuel], .int .i64 s] w fun e w' => e = .returned (.int .i64 (slotE ws fuel s)) ∧ Below w.heap.size w w' := by
  have hw : Below w.heap.size w (w.alloc (.cells #[.slice a n c, .int .i64 fuel] 48)) := (Below.refl _ _).alloc (Nat.le_refl _) _
  have B0 := hide (heap_alloc_last w (.cells #[.slice a n c, .int .i64 fuel] 48))
  have HC := hide (check_any a n c ws fuel _ (h.below hw) hn hm)
  have HN := hide hn
  clear hn
  go_enter Tryz.func64, Tryz.ntmps64
  go_wp2_with fail
  generalize w.alloc (.cells #[.slice a n c, .int .i64 fuel] 48) = W at *
  refine (unhide HC).mono ?_
  rintro e w1 ⟨rfl, hb1⟩
  have c00 := blk_cell (blk_below B0.out hb1) 0 _ rfl
  replace hw := hw.trans (hb1.mono hw.size)
  by_cases e1 : chk ws fuel = 0
  rotate_left
  · have e1' : (chk ws fuel != 0) = true := by simpa using e1
    have hr : Hid (slotE ws fuel s = chk ws fuel) := by show _ = _; unfold slotE; rw [if_pos e1]
    clear e1
    go_wp2
    go_ret
    exact ⟨ret_intk hr.out.symm, hw⟩
  have e1' : (chk ws fuel != 0) = false := by simpa using e1
  have E1 := hide e1
  clear e1
  by_cases e2 : n = 192
  rotate_left
  · have e2' : ((n : Int) != 192) = true := by simp; omega
    have hr : Hid (slotE ws fuel s = 4) := by show _ = _; unfold slotE; rw [if_neg (by simpa using E1.out), HN.out, if_pos e2]
    go_wp2
    go_ret
    exact ⟨ret_intk hr.out.symm, hw⟩
  subst e2
  go_wp2_with fail
  refine (slWithin_any s 0 1 _).mono ?_
  rintro e w2 ⟨rfl, rfl⟩
  cases e3 : inB s 0 1
  · have hr : Hid (slotE ws fuel s = 5) := by show _ = _; unfold slotE; rw [if_neg (by simpa using E1.out), HN.out, if_neg (by simp), if_pos e3]
    clear e3
    go_wp2
    go_ret
    exact ⟨ret_intk hr.out.symm, hw⟩
  · have hr : Hid (slotE ws fuel s = 0) := by show _ = _; unfold slotE; rw [if_neg (by simpa using E1.out), HN.out, if_neg (by simp), if_neg (by simp [e3])]
    clear e3
    go_wp2
    go_ret
    exact ⟨ret_intk hr.out.symm, hw⟩

end Go.Proofs.YtanpglfpopbfkabGreatDoor

namespace Go.Proofs.YtanpglfpopbfkabGreatDoor
open Go.RowKit
attribute [local go_sem ↓] Go.wp_at_zero Go.wp_at_succ


/-- Where words may not lie. -/
def fillB (at' : Int) (n : Nat) : Bool := inB at' 0 40 && decide ((n : Int) ≤ 40 - at')

/-- The document's Fill. -/
def fillS (ws : List Int) (fuel s at' : Int) (words : List Int) : List Int × Int × Int :=
  if slotE ws fuel s ≠ 0 then ([], 0, slotE ws fuel s) else if fillB at' words.length = false then ([], 0, 2) else progS ws fuel (68 + 64 * s + at') words

set_option maxRecDepth 100000 in
set_option maxHeartbeats 1000000 in
theorem fill_any (a : Option Addr) (n c : Nat) (ws : List Int) (fuel s at' : Int) (a2 : Option Addr) (n2 c2 : Nat) (words : List Int) (w : World)
    (h : IsInts w a ws) (hn : ws.length = n) (hm : n ≤ maxLen) (h2 : IsInts w a2 words) (hn2 : words.length = n2) (hm2 : n2 ≤ maxLen) :
    Calls Tryz.prog 135 #[.agg #[.slice a n c, .int .i64 fuel], .int .i64 s, .int .i64 at', .slice a2 n2 c2] w (Answers w (fillS ws fuel s at' words)) := by
  have HC := hide (fun W (h : IsInts W a ws) => slotCheck_any a n c ws fuel s W h hn hm)
  have HN := hide hn
  have HN2 := hide hn2
  clear hn hn2
  have b0 := hide (blk_alloc (heap_alloc_last w (.cells #[.slice a n c, .int .i64 fuel] 48)) (.cells #[.slice none 0 0, .int .i64 0] 48))
  have b1 : Hid (((w.alloc (.cells #[.slice a n c, .int .i64 fuel] 48)).alloc (.cells #[.slice none 0 0, .int .i64 0] 48)).heap[w.heap.size + 1]? = some (.cells #[.slice none 0 0, .int .i64 0] 48 (0, 0))) := by
    show _ = _
    simpa using heap_alloc_last (w.alloc _) _
  have hw : Below w.heap.size w ((w.alloc (.cells #[.slice a n c, .int .i64 fuel] 48)).alloc (.cells #[.slice none 0 0, .int .i64 0] 48)) :=
    ((Below.refl _ _).alloc (Nat.le_refl _) _).alloc (by simp) _
  have i0 := h.below hw
  have i1 := h2.below hw
  go_enter Tryz.func135, Tryz.ntmps135
  go_wp2_with fail
  generalize (w.alloc (.cells #[.slice a n c, .int .i64 fuel] 48)).alloc (.cells #[.slice none 0 0, .int .i64 0] 48) = W at *
  refine (unhide HC _ i0).mono ?_
  rintro e w1 ⟨rfl, hb1⟩
  replace b0 := hide (blk_below b0.out hb1)
  replace b1 := hide (blk_below b1.out hb1)
  replace i0 := i0.below hb1
  replace i1 := i1.below hb1
  replace hw := hw.trans (hb1.mono hw.size)
  clear hb1
  have x0 : w1.cell? ⟨w.heap.size, 0, none⟩ = some (.slice a n c) := blk_cell b0.out 0 _ rfl
  have x1 : w1.cell? ⟨w.heap.size, 1, none⟩ = some (.int .i64 fuel) := blk_cell b0.out 1 _ rfl
  have r0 := blk_cell b1.out 0 _ rfl
  have r1 := blk_cell b1.out 1 _ rfl
  have f0 := blk_free b1.out 0
  have f1 := blk_free b1.out 1
  have lt0 := blk_lt b0.out
  have lt1 := blk_lt b1.out
  by_cases e1 : slotE ws fuel s = 0
  rotate_left
  · have e1' : (slotE ws fuel s != 0) = true := by simpa using e1
    have hr : Hid (fillS ws fuel s at' words = ([], 0, slotE ws fuel s)) := by show _ = _; unfold fillS; rw [if_pos e1]
    go_wp2
    refine bodyPost_ret (v := .tuple #[.agg #[.slice none 0 0, .int .i64 0], .int .i64 (slotE ws fuel s)]) (by simp [results, Tryz.results135, go_sem, r0, r1]) rfl ?_
    exact answers_err hr.out ((hw.setCell (by simp) _).setCell (by simp) _)
  have e1' : (slotE ws fuel s != 0) = false := by simpa using e1
  have E1 := hide e1
  clear e1
  go_wp2_with fail
  refine (slWithin_any at' 0 40 _).mono ?_
  rintro e w2 ⟨rfl, rfl⟩
  cases e2 : inB at' 0 40
  · have hr : Hid (fillS ws fuel s at' words = ([], 0, 2)) := by show _ = _; unfold fillS; rw [if_neg (by simpa using E1.out), if_pos (by unfold fillB; rw [e2]; rfl)]
    clear e2
    go_wp2
    refine bodyPost_ret (v := .tuple #[.agg #[.slice none 0 0, .int .i64 0], .int .i64 2]) (by simp [results, Tryz.results135, go_sem, r0, r1]) rfl ?_
    exact answers_err hr.out ((hw.setCell (by simp) _).setCell (by simp) _)
  have q2 : 0 ≤ at' ∧ at' ≤ 40 := by unfold inB at e2; simpa using e2
  have E2 := hide e2
  clear e2
  unfold maxLen at hm2
  by_cases e3 : (n2 : Int) ≤ 40 - at'
  rotate_left
  · have hr : Hid (fillS ws fuel s at' words = ([], 0, 2)) := by show _ = _; unfold fillS; rw [if_neg (by simpa using E1.out), if_pos (by unfold fillB; rw [E2.out, HN2.out]; simp; omega)]
    have e3' : 40 - at' < (n2 : Int) := by omega
    go_wp2
    refine bodyPost_ret (v := .tuple #[.agg #[.slice none 0 0, .int .i64 0], .int .i64 2]) (by simp [results, Tryz.results135, go_sem, r0, r1]) rfl ?_
    exact answers_err hr.out ((hw.setCell (by simp) _).setCell (by simp) _)
  have hr : Hid (fillS ws fuel s at' words = progS ws fuel (68 + 64 * s + at') words) := by show _ = _; unfold fillS; rw [if_neg (by simpa using E1.out), if_neg (by unfold fillB; rw [E2.out, HN2.out]; simp; omega)]
  have e3' : decide (40 - at' < (n2 : Int)) = false := by simp; omega
  obtain ⟨-, -, p0, p1⟩ := slotE_parts E1.out
  have i3 : IntKind.i64.wrap (68 + 64 * s + at') = 68 + 64 * s + at' := by rw [IntKind.wrap_i64]; omega
  have HP := hide (fun W' (hb : Below w2.heap.size w2 W') => program_any a n c ws fuel (68 + 64 * s + at') a2 n2 c2 words W' (i0.below hb) HN.out hm (i1.below hb) HN2.out (by unfold maxLen; omega) (by omega))
  go_wp2_with fail
  go_region_held3 (fun w' => w'.cell? ⟨w.heap.size, 0, none⟩ = some (.slice a n c) ∧ w'.cell? ⟨w.heap.size, 1, none⟩ = some (.int .i64 fuel)) (first | exact ⟨by assumption, by assumption⟩ | go_keep)
    ((first | (go_at_call 108; refine (bodyPlace_any s _ p0 p1).mono ?_; rintro e w5 ⟨rfl, rfl⟩) | (go_at_call 171; refine (unhide HP _ ?_).mono ?_; exact (Below.refl _ _).drew; rintro e w6 ⟨⟨a6, n6, c6, rfl, hi6, hn6, hc6, hf6⟩, hb6⟩; have hb7 : Below w2.heap.size w2 w6 := (Below.trans (Below.refl _ w2).drew hb6); have y0 : w6.cell? ⟨w.heap.size, 0, none⟩ = some (.slice a n c) := (by rw [hb7.cell lt0]; exact x0); have y1 : w6.cell? ⟨w.heap.size, 1, none⟩ = some (.int .i64 fuel) := (by rw [hb7.cell lt0]; exact x1); have q0 := blk_cell (blk_below b1.out hb7) 0 _ rfl; have q1 := blk_cell (blk_below b1.out hb7) 1 _ rfl; have q2 := blk_free (blk_below b1.out hb7) 0; have q3 := blk_free (blk_below b1.out hb7) 1)))
  go_wp2
  refine bodyPost_ret (v := .tuple #[.agg #[.slice a6 n6 c6, .int .i64 (progS ws fuel (68 + 64 * s + at') words).2.1], .int .i64 (progS ws fuel (68 + 64 * s + at') words).2.2]) (by simp [results, Tryz.results135, go_sem, q0, q1]) rfl ?_
  rw [hr.out]
  have hw7 := hw.trans (hb7.mono hw.size)
  refine ⟨⟨a6, n6, c6, rfl, ?_, hn6, hc6, FreshA.mono hf6 hw.size⟩, (hw7.setCell (by simp) _).setCell (by simp) _⟩
  exact (hi6.other (B := w2.heap.size) hf6 lt1 0 _).other (B := w2.heap.size) hf6 lt1 1 _

end Go.Proofs.YtanpglfpopbfkabGreatDoor
