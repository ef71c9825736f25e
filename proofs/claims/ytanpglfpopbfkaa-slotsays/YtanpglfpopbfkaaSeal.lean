/- The contract of slot.Seal. -/
import Derived.Test.YtanpglfpopbfkaaSlotB
namespace Go.Proofs.Ytanpglfpopbfkaa
open Go.RowKit
attribute [local go_sem ↓] Go.wp_at_zero Go.wp_at_succ

/-- The document's Seal. -/
def sealS (ws : List Int) (fuel s long name : Int) : List Int × Int × Int :=
  if slotE ws fuel s ≠ 0 then ([], 0, slotE ws fuel s) else if sealB long name = false then ([], 0, 3) else progS ws fuel (64 + 64 * s) (headL long name)

theorem isInts_head {w : World} {b : Nat} {v0 v1 v2 v3 : Int} {t : TypeId} (h : w.heap[b]? = some (.cells #[.int .i64 v0, .int .i64 v1, .int .i64 v2, .int .i64 v3] t (0, 0))) : IsInts w (some ⟨b, 0, none⟩) [v0, v1, v2, v3] := by
  refine .inr ⟨b, 0, rfl, fun i hi => ?_⟩
  simp at hi
  rcases i with _ | _ | _ | _ | i
  · exact blk_cell h 0 _ rfl
  · exact blk_cell h 1 _ rfl
  · exact blk_cell h 2 _ rfl
  · exact blk_cell h 3 _ rfl
  · omega

set_option maxRecDepth 100000 in
set_option maxHeartbeats 1000000 in
theorem seal_any (a : Option Addr) (n c : Nat) (ws : List Int) (fuel s long name : Int) (w : World)
    (h : IsInts w a ws) (hn : ws.length = n) (hm : n ≤ maxLen) :
    Calls Try.prog 44 #[.agg #[.slice a n c, .int .i64 fuel], .int .i64 s, .int .i64 long, .int .i64 name] w (Answers w (sealS ws fuel s long name)) := by
  have HC := hide (fun W (h : IsInts W a ws) => slotCheck_any a n c ws fuel s W h hn hm)
  have HN := hide hn
  clear hn
  have b0 := hide (blk_alloc (heap_alloc_last w (.cells #[.slice a n c, .int .i64 fuel] 28)) (.cells #[.slice none 0 0, .int .i64 0] 28))
  have b1 : Hid (((w.alloc (.cells #[.slice a n c, .int .i64 fuel] 28)).alloc (.cells #[.slice none 0 0, .int .i64 0] 28)).heap[w.heap.size + 1]? = some (.cells #[.slice none 0 0, .int .i64 0] 28 (0, 0))) := by
    show _ = _
    simpa using heap_alloc_last (w.alloc _) _
  have hw : Below w.heap.size w ((w.alloc (.cells #[.slice a n c, .int .i64 fuel] 28)).alloc (.cells #[.slice none 0 0, .int .i64 0] 28)) :=
    ((Below.refl _ _).alloc (Nat.le_refl _) _).alloc (by simp) _
  have i0 := h.below hw
  go_enter Try.func44, Try.ntmps44
  go_wp2_with fail
  generalize (w.alloc (.cells #[.slice a n c, .int .i64 fuel] 28)).alloc (.cells #[.slice none 0 0, .int .i64 0] 28) = W at *
  refine (unhide HC _ i0).mono ?_
  rintro e w1 ⟨rfl, hb1⟩
  replace b0 := hide (blk_below b0.out hb1)
  replace b1 := hide (blk_below b1.out hb1)
  replace i0 := i0.below hb1
  replace hw := hw.trans (hb1.mono hw.size)
  clear hb1
  have r0 := blk_cell b1.out 0 _ rfl
  have r1 := blk_cell b1.out 1 _ rfl
  have f0 := blk_free b1.out 0
  have f1 := blk_free b1.out 1
  have lt0 := blk_lt b0.out
  have lt1 := blk_lt b1.out
  by_cases e1 : slotE ws fuel s = 0
  rotate_left
  · have e1' : (slotE ws fuel s != 0) = true := by simpa using e1
    have hr : Hid (sealS ws fuel s long name = ([], 0, slotE ws fuel s)) := by show _ = _; unfold sealS; rw [if_pos e1]
    go_wp2
    refine bodyPost_ret (v := .tuple #[.agg #[.slice none 0 0, .int .i64 0], .int .i64 (slotE ws fuel s)]) (by simp [results, Try.results44, go_sem, r0, r1]) rfl ?_
    exact answers_err hr.out ((hw.setCell (by simp) _).setCell (by simp) _)
  have e1' : (slotE ws fuel s != 0) = false := by simpa using e1
  have E1 := hide e1
  clear e1
  go_wp2_with fail
  refine (sealable_any long name _).mono ?_
  rintro e w2 ⟨rfl, rfl⟩
  cases e2 : sealB long name
  · have hr : Hid (sealS ws fuel s long name = ([], 0, 3)) := by show _ = _; unfold sealS; rw [if_neg (by simpa using E1.out), if_pos e2]
    clear e2
    go_wp2
    refine bodyPost_ret (v := .tuple #[.agg #[.slice none 0 0, .int .i64 0], .int .i64 3]) (by simp [results, Try.results44, go_sem, r0, r1]) rfl ?_
    exact answers_err hr.out ((hw.setCell (by simp) _).setCell (by simp) _)
  have hr : Hid (sealS ws fuel s long name = progS ws fuel (64 + 64 * s) (headL long name)) := by show _ = _; unfold sealS; rw [if_neg (by simpa using E1.out), if_neg (by simp [e2])]
  clear e2
  obtain ⟨-, -, p0, p1⟩ := slotE_parts E1.out
  clear r0 r1 f0 f1
  go_wp2_with fail
  refine (slHeadOf_any long name _).mono ?_
  rintro e w3 ⟨rfl, hb3⟩
  have hb4 := hb3.alloc hb3.size (.cells #[.int .i64 long, .int .i64 name, .int .i64 (xorW long), .int .i64 (xorW name)] 99)
  have B2 := hide (heap_alloc_last w3 (.cells #[.int .i64 long, .int .i64 name, .int .i64 (xorW long), .int .i64 (xorW name)] 99))
  replace b0 := hide (blk_below b0.out hb4)
  replace b1 := hide (blk_below b1.out hb4)
  replace i0 := i0.below hb4
  replace hw := hw.trans (hb4.mono hw.size)
  have hge := hb3.size
  clear hb3 hb4
  go_upto_region 7 with fail
  generalize w3.alloc (.cells #[.int .i64 long, .int .i64 name, .int .i64 (xorW long), .int .i64 (xorW name)] 99) = w4 at *
  have x0 : w4.cell? ⟨w.heap.size, 0, none⟩ = some (.slice a n c) := blk_cell b0.out 0 _ rfl
  have x1 : w4.cell? ⟨w.heap.size, 1, none⟩ = some (.int .i64 fuel) := blk_cell b0.out 1 _ rfl
  replace lt0 := blk_lt b0.out
  replace lt1 := blk_lt b1.out
  have i2 := isInts_head B2.out
  have HP := hide (fun W' (hb : Below w4.heap.size w4 W') => program_any a n c ws fuel (64 + 64 * s) (some ⟨w3.heap.size, 0, none⟩) 4 4 (headL long name) W' (i0.below hb) HN.out hm (i2.below hb) rfl (by decide) (by omega))
  go_region_held3 (fun w' => w'.cell? ⟨w.heap.size, 0, none⟩ = some (.slice a n c) ∧ w'.cell? ⟨w.heap.size, 1, none⟩ = some (.int .i64 fuel)) (first | exact ⟨by assumption, by assumption⟩ | go_keep)
    ((first | (go_at_call 86; refine (headPlace_any s _ p0 p1).mono ?_; rintro e w5 ⟨rfl, rfl⟩) | (go_at_call 19; refine (unhide HP _ ?_).mono ?_; exact (Below.refl _ _).drew; rintro e w6 ⟨⟨a6, n6, c6, rfl, hi6, hn6, hc6, hf6⟩, hb6⟩; have hb7 : Below w4.heap.size w4 w6 := (Below.trans (Below.refl _ w4).drew hb6); have y0 : w6.cell? ⟨w.heap.size, 0, none⟩ = some (.slice a n c) := (by rw [hb7.cell lt0]; exact x0); have y1 : w6.cell? ⟨w.heap.size, 1, none⟩ = some (.int .i64 fuel) := (by rw [hb7.cell lt0]; exact x1); have q0 := blk_cell (blk_below b1.out hb7) 0 _ rfl; have q1 := blk_cell (blk_below b1.out hb7) 1 _ rfl; have q2 := blk_free (blk_below b1.out hb7) 0; have q3 := blk_free (blk_below b1.out hb7) 1)))
  go_wp2
  refine bodyPost_ret (v := .tuple #[.agg #[.slice a6 n6 c6, .int .i64 (progS ws fuel (64 + 64 * s) (headL long name)).2.1], .int .i64 (progS ws fuel (64 + 64 * s) (headL long name)).2.2]) (by simp [results, Try.results44, go_sem, q0, q1]) rfl ?_
  rw [hr.out]
  have hw7 := hw.trans (hb7.mono hw.size)
  refine ⟨⟨a6, n6, c6, rfl, ?_, hn6, hc6, FreshA.mono hf6 hw.size⟩, (hw7.setCell (by simp) _).setCell (by simp) _⟩
  exact (hi6.other (B := w4.heap.size) hf6 lt1 0 _).other (B := w4.heap.size) hf6 lt1 1 _

end Go.Proofs.Ytanpglfpopbfkaa
