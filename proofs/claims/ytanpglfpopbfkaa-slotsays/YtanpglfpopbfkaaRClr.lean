/- The contract of wainwrightref.Cleared: the document's Clear, of right flash and slot. -/
import Derived.Test.YtanpglfpopbfkaaRSlot0
namespace Go.Proofs.Ytanpglfpopbfkaa
open Go.RowKit
attribute [local go_sem ↓] Go.wp_at_zero Go.wp_at_succ

theorem chgs_two {w0 w : World} {g cap sa sb : Nat} (h : w.ownsRow w0.heap.size 94 2 (.slice (some ⟨g, 0, none⟩) (32 + 32) cap) (32 + 32) (cells2 (eraL sa 32) ++ cells2 (eraL sb 32))) : IsChgs w (some ⟨g, 0, none⟩) (eraL sa 32 ++ eraL sb 32) := by
  rw [← cells2_append, show 32 + 32 = (eraL sa 32 ++ eraL sb 32).length by rw [List.length_append, eraL_length, eraL_length]] at h
  obtain ⟨a, c, hv, _, hl⟩ := chgs_of_row h ((eraL_caps w sa 32).append (eraL_caps w sb 32))
  cases hv
  exact hl

theorem cap_two {w0 w : World} {g cap : Nat} {xs : List Value} (h : w.ownsRow w0.heap.size 94 2 (.slice (some ⟨g, 0, none⟩) (32 + 32) cap) (32 + 32) xs) : 64 ≤ cap := by
  obtain ⟨_, ⟨hv, _⟩ | ⟨g', cap', cur, hv, hg, hh, hc, _⟩⟩ := h
  · cases hv
  · cases hv
    exact hc

set_option maxRecDepth 100000 in
set_option maxHeartbeats 2000000 in
theorem cleared_any (a : Option Addr) (c : Nat) (ws : List Int) (fuel : Int) (sn : Nat) (w : World) (h : IsInts w a ws) (hn : ws.length = 192) (hk : chk ws fuel = 0) (hs : sn ≤ 1) :
    Calls Try.prog 49 #[.agg #[.slice a 192 c, .int .i64 fuel], .int .i64 sn] w (Answers w (clrAt ws fuel sn 2)) := by
  obtain ⟨i0', hi0, hz0, hz1, hz2⟩ := info_parts info_change
  have parts := chk_parts hk
  have HTwo := hide (chgS_two hk hn hs)
  have HN := hide hn
  clear hn hk
  have hw : Below w.heap.size w ((w.alloc (.cells #[.slice a 192 c, .int .i64 fuel] 28)).alloc (.cells #[.slice none 0 0, .int .i64 0] 28)) :=
    ((Below.refl _ _).alloc (Nat.le_refl _) _).alloc (by simp) _
  have b0 := hide (blk_alloc (heap_alloc_last w (.cells #[.slice a 192 c, .int .i64 fuel] 28)) (.cells #[.slice none 0 0, .int .i64 0] 28))
  have b1 : Hid (((w.alloc (.cells #[.slice a 192 c, .int .i64 fuel] 28)).alloc (.cells #[.slice none 0 0, .int .i64 0] 28)).heap[w.heap.size + 1]? = some (.cells #[.slice none 0 0, .int .i64 0] 28 (0, 0))) := by
    show _ = _
    simpa using heap_alloc_last (w.alloc _) _
  have i0 := h.below hw
  obtain ⟨sa, hsa⟩ : ∃ sa, sa = 2 + 2 * sn := ⟨_, rfl⟩
  obtain ⟨sb, hsb⟩ : ∃ sb, sb = 3 + 2 * sn := ⟨_, rfl⟩
  rw [← hsa, ← hsb] at HTwo
  have ha6 : sa ≤ 4 := by omega
  have hb6 : sb ≤ 5 := by omega
  obtain ⟨d, hd⟩ : ∃ d : Int, d = 2 * (sn : Int) := ⟨_, rfl⟩
  have k1 : IntKind.i64.wrap (2 * (sn : Int)) = d := by rw [IntKind.wrap_i64]; omega
  have k2 : IntKind.i64.wrap (2 + d) = (sa : Int) := by rw [IntKind.wrap_i64]; omega
  have k3 : IntKind.i64.wrap (3 + d) = (sb : Int) := by rw [IntKind.wrap_i64]; omega
  clear hsa hsb hd hs
  have HCh := hide (fun W' (al : Option Addr) (cl : Nat) (hb : IsInts W' a ws) (hl : IsChgs W' al (eraL sa 32 ++ eraL sb 32)) (hcl : 64 ≤ cl) => changed_any a 192 c ws fuel al 64 cl (eraL sa 32 ++ eraL sb 32) W' hb HN.out (by omega) (by omega) (by omega) hl (by rw [List.length_append, eraL_length, eraL_length]) hcl (by omega) (by
    intro c hc
    rcases List.mem_append.1 hc with hc | hc
    · have := eraL_in hc; omega
    · have := eraL_in hc; omega))
  go_enter Try.func49, Try.ntmps49
  go_upto_region 1 with fail
  generalize (w.alloc (.cells #[.slice a 192 c, .int .i64 fuel] 28)).alloc (.cells #[.slice none 0 0, .int .i64 0] 28) = W at *
  have x0 : W.cell? ⟨w.heap.size, 0, none⟩ = some (.slice a 192 c) := blk_cell b0.out 0 _ rfl
  have x1 : W.cell? ⟨w.heap.size, 1, none⟩ = some (.int .i64 fuel) := blk_cell b0.out 1 _ rfl
  have lt0 := blk_lt b0.out
  have lt1 := blk_lt b1.out
  go_region_held3 (fun w' => w'.cell? ⟨w.heap.size, 0, none⟩ = some (.slice a 192 c) ∧ w'.cell? ⟨w.heap.size, 1, none⟩ = some (.int .i64 fuel)) (first | exact ⟨by assumption, by assumption⟩ | go_keep)
    ((first
      | (go_at_call_of 63 sa; refine (erases_row sa _ (by omega)).mono ?_; rintro e w5 ⟨g5, c5, rfl, ho5, hl5, hb5⟩; replace hb5 : Below W.heap.size W w5 := (Below.trans (Below.refl _ W).drew hb5); replace ho5 : w5.ownsRow W.heap.size 94 2 (.slice (some ⟨g5, 0, none⟩) 32 c5) 32 (cells2 (eraL sa 32)) := ho5; have z0 : w5.cell? ⟨w.heap.size, 0, none⟩ = some (.slice a 192 c) := (by rw [hb5.cell lt0]; exact x0); have z1 : w5.cell? ⟨w.heap.size, 1, none⟩ = some (.int .i64 fuel) := (by rw [hb5.cell lt0]; exact x1))
      | (go_at_call_of 63 sb; refine (erases_row sb _ (by omega)).mono ?_; rintro e w6 ⟨g6, c6, rfl, ho6, hl6, hb56⟩; have hb6 : Below W.heap.size W w6 := hb5.trans (hb56.mono hb5.size); have ho56 := ownsRow_keeps ho5 hb56; have y0 : w6.cell? ⟨w.heap.size, 0, none⟩ = some (.slice a 192 c) := (by rw [hb6.cell lt0]; exact x0); have y1 : w6.cell? ⟨w.heap.size, 1, none⟩ = some (.int .i64 fuel) := (by rw [hb6.cell lt0]; exact x1))
      | (refine step_append_lies _ (by rfl) _ _ _ (by rfl) W.heap.size 94 i0' _ 2 16 Try.underlying77 hi0 hz0 hz1 hz2 rfl (by omega) (.slice (some ⟨g5, 0, none⟩) 32 c5) 32 (cells2 (eraL sa 32)) (by rfl) ho56 ⟨g6, 0, none⟩ 32 c6 (cells2 (eraL sb 32)) (by rfl) (by rw [cells2_length, eraL_length]) (chgs_news hl6) (cells2_one _) (by omega) (by decide) (by omega) hb6.size w6.heap.size (by rfl) ?_; intro g cap w7 hown7 hgrow hat hlt; have hb7 : Below W.heap.size W w7 := (hb6.grown hgrow hb6.size (ownBlock_ge ho56)); have t0 : w7.cell? ⟨w.heap.size, 0, none⟩ = some (.slice a 192 c) := (by rw [hb7.cell lt0]; exact x0); have t1 : w7.cell? ⟨w.heap.size, 1, none⟩ = some (.int .i64 fuel) := (by rw [hb7.cell lt0]; exact x1))
      | (go_at_call 62; refine (unhide HCh _ _ _ ?_ ?_ ?_).mono ?_; exact i0.below hb7; exact (chgs_two hown7); exact (cap_two hown7); rintro e w8 ⟨⟨a8, n8, c8, rfl, hi8, hn8, hc8, hf8⟩, hb78⟩; have hb8 : Below W.heap.size W w8 := (hb7.trans (hb78.mono hb7.size)); have v0 : w8.cell? ⟨w.heap.size, 0, none⟩ = some (.slice a 192 c) := (by rw [hb8.cell lt0]; exact x0); have v1 : w8.cell? ⟨w.heap.size, 1, none⟩ = some (.int .i64 fuel) := (by rw [hb8.cell lt0]; exact x1); have q0 := blk_cell (blk_below b1.out hb8) 0 _ rfl; have q1 := blk_cell (blk_below b1.out hb8) 1 _ rfl; have q2 := blk_free (blk_below b1.out hb8) 0; have q3 := blk_free (blk_below b1.out hb8) 1)))
  go_wp2
  refine bodyPost_ret (v := .tuple #[.agg #[.slice a8 n8 c8, .int .i64 (chgS ws fuel (eraL sa 32 ++ eraL sb 32)).2.1], .int .i64 (chgS ws fuel (eraL sa 32 ++ eraL sb 32)).2.2]) (by simp [results, Try.results49, go_sem, q0, q1]) rfl ?_
  rw [← HTwo.out]
  have hw8 := hw.trans (hb8.mono hw.size)
  have hf9 : FreshA W.heap.size a8 := hf8.mono hb7.size
  refine ⟨⟨a8, n8, c8, rfl, (hi8.other hf9 lt1 0 _).other hf9 lt1 1 _, hn8, hc8, hf9.mono hw.size⟩, (hw8.setCell (by simp) _).setCell (by simp) _⟩

end Go.Proofs.Ytanpglfpopbfkaa
