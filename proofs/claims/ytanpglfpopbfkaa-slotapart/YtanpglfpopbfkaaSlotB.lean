/- The contract of slot.Fill. -/
import Derived.Test.YtanpglfpopbfkaaSlotA
import Derived.Test.YtanpglfpopbfkaaParts0
namespace Go.Proofs.Ytanpglfpopbfkaa
open Go.RowKit
attribute [local go_sem ↓] Go.wp_at_zero Go.wp_at_succ


/-- Where words may not lie. -/
def fillB (at' : Int) (n : Nat) : Bool := inB at' 0 40 && decide ((n : Int) ≤ 40 - at')

/-- The document's Fill. -/
def fillS (ws : List Int) (fuel s at' : Int) (words : List Int) : List Int × Int × Int :=
  if slotE ws fuel s ≠ 0 then ([], 0, slotE ws fuel s) else if fillB at' words.length = false then ([], 0, 2) else progS ws fuel (68 + 64 * s + at') words

set_option maxRecDepth 100000 in
set_option maxHeartbeats 1000000 in
theorem fill_any (a : Option Addr) (n c : Nat) (ws : List Int) (fuel s at' : Int) (a2 : Option Addr) (n2 c2 : Nat) (words : List Int) (w : World)
    (h : IsInts w a ws) (hn : ws.length = n) (hm : n ≤ maxLen) (h2 : IsInts w a2 words) (hn2 : words.length = n2) (hm2 : n2 ≤ maxLen) :
    Calls Try.prog 43 #[.agg #[.slice a n c, .int .i64 fuel], .int .i64 s, .int .i64 at', .slice a2 n2 c2] w (Answers w (fillS ws fuel s at' words)) := by
  have HC := hide (fun W (h : IsInts W a ws) => slotCheck_any a n c ws fuel s W h hn hm)
  have HN := hide hn
  have HN2 := hide hn2
  clear hn hn2
  have b0 := hide (blk_alloc (heap_alloc_last w (.cells #[.slice a n c, .int .i64 fuel] 28)) (.cells #[.slice none 0 0, .int .i64 0] 28))
  have b1 : Hid (((w.alloc (.cells #[.slice a n c, .int .i64 fuel] 28)).alloc (.cells #[.slice none 0 0, .int .i64 0] 28)).heap[w.heap.size + 1]? = some (.cells #[.slice none 0 0, .int .i64 0] 28 (0, 0))) := by
    show _ = _
    simpa using heap_alloc_last (w.alloc _) _
  have hw : Below w.heap.size w ((w.alloc (.cells #[.slice a n c, .int .i64 fuel] 28)).alloc (.cells #[.slice none 0 0, .int .i64 0] 28)) :=
    ((Below.refl _ _).alloc (Nat.le_refl _) _).alloc (by simp) _
  have i0 := h.below hw
  have i1 := h2.below hw
  go_enter Try.func43, Try.ntmps43
  go_wp2_with fail
  generalize (w.alloc (.cells #[.slice a n c, .int .i64 fuel] 28)).alloc (.cells #[.slice none 0 0, .int .i64 0] 28) = W at *
  refine (unhide HC _ i0).mono ?_
  rintro e w1 ⟨rfl, hb1⟩
  replace b0 := hide (blk_below b0.out hb1)
  replace b1 := hide (blk_below b1.out hb1)
  replace i0 := i0.below hb1
  replace i1 := i1.below hb1
  replace hw := hw.trans (hb1.mono hw.size)
  clear hb1
  have x0 : w1.cell? ⟨w.heap.size, 0, none⟩ = some (.slice a n c) := blk_cell b0.out 0 _ rfl
  have x1 : w1.cell? ⟨w.heap.size, 1, none⟩ = some (.int .i64 fuel) := blk_cell b0.out 1 _ rfl
  have r0 := blk_cell b1.out 0 _ rfl
  have r1 := blk_cell b1.out 1 _ rfl
  have f0 := blk_free b1.out 0
  have f1 := blk_free b1.out 1
  have lt0 := blk_lt b0.out
  have lt1 := blk_lt b1.out
  by_cases e1 : slotE ws fuel s = 0
  rotate_left
  · have e1' : (slotE ws fuel s != 0) = true := by simpa using e1
    have hr : Hid (fillS ws fuel s at' words = ([], 0, slotE ws fuel s)) := by show _ = _; unfold fillS; rw [if_pos e1]
    go_wp2
    refine bodyPost_ret (v := .tuple #[.agg #[.slice none 0 0, .int .i64 0], .int .i64 (slotE ws fuel s)]) (by simp [results, Try.results43, go_sem, r0, r1]) rfl ?_
    exact answers_err hr.out ((hw.setCell (by simp) _).setCell (by simp) _)
  have e1' : (slotE ws fuel s != 0) = false := by simpa using e1
  have E1 := hide e1
  clear e1
  go_wp2_with fail
  refine (slWithin_any at' 0 40 _).mono ?_
  rintro e w2 ⟨rfl, rfl⟩
  cases e2 : inB at' 0 40
  · have hr : Hid (fillS ws fuel s at' words = ([], 0, 2)) := by show _ = _; unfold fillS; rw [if_neg (by simpa using E1.out), if_pos (by unfold fillB; rw [e2]; rfl)]
    clear e2
    go_wp2
    refine bodyPost_ret (v := .tuple #[.agg #[.slice none 0 0, .int .i64 0], .int .i64 2]) (by simp [results, Try.results43, go_sem, r0, r1]) rfl ?_
    exact answers_err hr.out ((hw.setCell (by simp) _).setCell (by simp) _)
  have q2 : 0 ≤ at' ∧ at' ≤ 40 := by unfold inB at e2; simpa using e2
  have E2 := hide e2
  clear e2
  unfold maxLen at hm2
  by_cases e3 : (n2 : Int) ≤ 40 - at'
  rotate_left
  · have hr : Hid (fillS ws fuel s at' words = ([], 0, 2)) := by show _ = _; unfold fillS; rw [if_neg (by simpa using E1.out), if_pos (by unfold fillB; rw [E2.out, HN2.out]; simp; omega)]
    have e3' : 40 - at' < (n2 : Int) := by omega
    go_wp2
    refine bodyPost_ret (v := .tuple #[.agg #[.slice none 0 0, .int .i64 0], .int .i64 2]) (by simp [results, Try.results43, go_sem, r0, r1]) rfl ?_
    exact answers_err hr.out ((hw.setCell (by simp) _).setCell (by simp) _)
  have hr : Hid (fillS ws fuel s at' words = progS ws fuel (68 + 64 * s + at') words) := by show _ = _; unfold fillS; rw [if_neg (by simpa using E1.out), if_neg (by unfold fillB; rw [E2.out, HN2.out]; simp; omega)]
  have e3' : decide (40 - at' < (n2 : Int)) = false := by simp; omega
  obtain ⟨-, -, p0, p1⟩ := slotE_parts E1.out
  have i3 : IntKind.i64.wrap (68 + 64 * s + at') = 68 + 64 * s + at' := by rw [IntKind.wrap_i64]; omega
  have HP := hide (fun W' (hb : Below w2.heap.size w2 W') => program_any a n c ws fuel (68 + 64 * s + at') a2 n2 c2 words W' (i0.below hb) HN.out hm (i1.below hb) HN2.out (by unfold maxLen; omega) (by omega))
  go_wp2_with fail
  go_region_held3 (fun w' => w'.cell? ⟨w.heap.size, 0, none⟩ = some (.slice a n c) ∧ w'.cell? ⟨w.heap.size, 1, none⟩ = some (.int .i64 fuel)) (first | exact ⟨by assumption, by assumption⟩ | go_keep)
    ((first | (go_at_call 83; refine (bodyPlace_any s _ p0 p1).mono ?_; rintro e w5 ⟨rfl, rfl⟩) | (go_at_call 19; refine (unhide HP _ ?_).mono ?_; exact (Below.refl _ _).drew; rintro e w6 ⟨⟨a6, n6, c6, rfl, hi6, hn6, hc6, hf6⟩, hb6⟩; have hb7 : Below w2.heap.size w2 w6 := (Below.trans (Below.refl _ w2).drew hb6); have y0 : w6.cell? ⟨w.heap.size, 0, none⟩ = some (.slice a n c) := (by rw [hb7.cell lt0]; exact x0); have y1 : w6.cell? ⟨w.heap.size, 1, none⟩ = some (.int .i64 fuel) := (by rw [hb7.cell lt0]; exact x1); have q0 := blk_cell (blk_below b1.out hb7) 0 _ rfl; have q1 := blk_cell (blk_below b1.out hb7) 1 _ rfl; have q2 := blk_free (blk_below b1.out hb7) 0; have q3 := blk_free (blk_below b1.out hb7) 1)))
  go_wp2
  refine bodyPost_ret (v := .tuple #[.agg #[.slice a6 n6 c6, .int .i64 (progS ws fuel (68 + 64 * s + at') words).2.1], .int .i64 (progS ws fuel (68 + 64 * s + at') words).2.2]) (by simp [results, Try.results43, go_sem, q0, q1]) rfl ?_
  rw [hr.out]
  have hw7 := hw.trans (hb7.mono hw.size)
  refine ⟨⟨a6, n6, c6, rfl, ?_, hn6, hc6, FreshA.mono hf6 hw.size⟩, (hw7.setCell (by simp) _).setCell (by simp) _⟩
  exact (hi6.other (B := w2.heap.size) hf6 lt1 0 _).other (B := w2.heap.size) hf6 lt1 1 _

end Go.Proofs.Ytanpglfpopbfkaa
