/- The contracts of wainwrightref.Formatted, and the laws that Appended wants besides. -/
import Derived.Test.YtanpglfpopbfkaaRFmt0
namespace Go.Proofs.Ytanpglfpopbfkaa
open Go.RowKit
attribute [local go_sem ↓] Go.wp_at_zero Go.wp_at_succ

set_option maxRecDepth 100000 in
set_option maxHeartbeats 8000000 in
theorem formatted_any (a : Option Addr) (n c : Nat) (ws : List Int) (fuel : Int) (w : World) (h : IsInts w a ws) (hn : ws.length = n) (hk : chk ws fuel = 0) :
    Calls Try.prog 36 #[.agg #[.slice a n c, .int .i64 fuel]] w (Answers w (fmtS ws fuel)) := by
  have q := chk_parts hk
  rw [hn] at q
  have b0 : ((w.alloc (.cells #[.slice a n c, .int .i64 fuel] 28)).alloc (.cells #[.slice none 0 0, .int .i64 0] 28)).heap[w.heap.size]? = some (.cells #[.slice a n c, .int .i64 fuel] 28 (0, 0)) :=
    blk_alloc (heap_alloc_last _ _) _
  have b2 : ((w.alloc (.cells #[.slice a n c, .int .i64 fuel] 28)).alloc (.cells #[.slice none 0 0, .int .i64 0] 28)).heap[w.heap.size + 1]? = some (.cells #[.slice none 0 0, .int .i64 0] 28 (0, 0)) :=
    by simpa using heap_alloc_last (w.alloc _) _
  have hw : Below w.heap.size w ((w.alloc (.cells #[.slice a n c, .int .i64 fuel] 28)).alloc (.cells #[.slice none 0 0, .int .i64 0] 28)) :=
    ((Below.refl _ _).alloc (Nat.le_refl _) _).alloc (by simp) _
  have i0 := h.below hw
  have B0 := hide b0
  have B2 := hide b2
  have HN := hide hn
  have HK := hide hk
  clear b0 b2 hn hk h
  go_enter Try.func36, Try.ntmps36
  go_upto_region 1 with fail
  generalize (w.alloc (.cells #[.slice a n c, .int .i64 fuel] 28)).alloc (.cells #[.slice none 0 0, .int .i64 0] 28) = w1 at *
  have x0 := blk_cell B0.out 0 _ rfl
  have x1 := blk_cell B0.out 1 _ rfl
  have y0 := blk_cell B2.out 0 _ rfl
  have y1 := blk_cell B2.out 1 _ rfl
  have f0 := blk_free B2.out 0
  have f1 := blk_free B2.out 1
  have lt0 := blk_lt B0.out
  have lt1 := blk_lt B2.out
  by_cases h64 : n < 64
  · have hr : Hid (fmtS ws fuel = ([], 0, 4)) := by
      have : secS ws fuel = 4 := by unfold secS; rw [if_neg (by simpa using HK.out), if_pos (by rw [HN.out]; exact h64)]
      show _ = _
      unfold fmtS; rw [this, if_pos (by decide)]
    have h64' : (n : Int) < 64 := by omega
    go_wp2
    refine bodyPost_ret (v := .tuple #[.agg #[.slice none 0 0, .int .i64 0], .int .i64 4]) (by simp [results, Try.results36, go_sem, y0, y1]) rfl ?_
    exact answers_err hr.out ((hw.setCell (by simp) _).setCell (by simp) _)
  have h64' : ¬ (n : Int) < 64 := by omega
  have hr : Hid (fmtS ws fuel = chgS ws fuel (eraL 1 32 ++ eraL 0 32 ++ proC 0 [1])) := by
    have : secS ws fuel = 0 := by unfold secS; rw [if_neg (by simpa using HK.out), if_neg (by rw [HN.out]; exact h64)]
    show _ = _
    unfold fmtS
    rw [if_neg (by simpa using this), turn_chg _ _ _ HK.out]
    · simp [stC]
    · intro st hst
      simp only [List.mem_cons, List.not_mem_nil, or_false] at hst
      rcases hst with rfl | rfl | rfl
      · simp only [StOk]; rw [HN.out]; omega
      · simp only [StOk]; rw [HN.out]; omega
      · exact ⟨by rw [HN.out]; simp; omega, rfl⟩
  have HCh := hide (fun W al cl cs (h : IsInts W a ws) (hl : IsChgs W al cs) (hcl : cs.length ≤ cl) (hL : cs.length ≤ 100000) (hin : ∀ c ∈ cs, c.1 < n) => changed_any a n c ws fuel al cs.length cl cs W h HN.out (by omega) (by omega) (by omega) hl rfl hcl hL hin)
  have HIn : Hid (∀ cs7, ProL 0 [1] 1 cs7 → (flL [eraL 1 32, eraL 0 32, cs7]).length ≤ 100000 ∧ ∀ c ∈ flL [eraL 1 32, eraL 0 32, cs7], c.1 < n) := fun cs7 hp7 => by
    rw [flL3]
    refine ⟨by simp [eraL_length, hp7.1], fun c hc => ?_⟩
    simp only [List.mem_append] at hc
    rcases hc with (hc | hc) | hc
    · simp only [eraL, List.mem_map, List.mem_range] at hc; obtain ⟨i, hi, rfl⟩ := hc; simp only; omega
    · simp only [eraL, List.mem_map, List.mem_range] at hc; obtain ⟨i, hi, rfl⟩ := hc; simp only; omega
    · have := hp7.lt c hc; omega
  have HKey : Hid (∀ cs7, ProL 0 [1] 1 cs7 → chgS ws fuel (flL [eraL 1 32, eraL 0 32, cs7]) = fmtS ws fuel) := fun cs7 hp7 => by
    rw [hr.out, flL3]
    exact chgS_key (by simp only [List.map_append]; rw [pro_key hp7 rfl]) ws fuel
  have hW : Below w1.heap.size w1 w1 := Below.refl _ _
  have nn := World.new_ne w1 ⟨w.heap.size, 0, none⟩ x0
  go_wp2_with fail
  go_region_held3 (fun w' => w'.cell? ⟨w.heap.size, 0, none⟩ = some (.slice a n c) ∧ w'.cell? ⟨w.heap.size, 1, none⟩ = some (.int .i64 fuel)) (first | exact ⟨by assumption, by assumption⟩ | (refine keepBox ?_ lt0 x0 x1; (repeat (first | exact hW | exact Below.refl _ _ | refine Below.drew ?_ | refine Below.alloc ?_ (by have := hW.size; simp <;> omega) _)); done) | go_keep)
    ((first
      | (go_at_call_of 63 (Value.int .i64 1); refine (erasesI_from 1 _ (by decide)).mono ?_; rintro e w5 ⟨bb5, cl5, rfl, hc5, hl5, hb5⟩; replace hW : Below w1.heap.size w1 w5 := (by first | exact hb5 | exact Below.trans ((Below.refl _ w1).drew) hb5 | exact Below.trans ((Below.refl _ w1).alloc (Nat.le_refl _) _) (hb5.mono (by simp)) | exact Below.trans (((Below.refl _ w1).alloc (Nat.le_refl _) _).drew) (hb5.mono (by simp))); (try (have p5 : w5.cell? ⟨w1.heap.size, 0, none⟩ = some (.int .i64 1) := isInts_below_one (w := w1.alloc (.cells #[.int .i64 1] 3)) (cell_last rfl rfl) (by first | exact hb5 | exact Below.trans (Below.refl _ _).drew hb5))); have z0 : w5.cell? ⟨w.heap.size, 0, none⟩ = some (.slice a n c) := (by rw [hW.cell lt0]; exact x0); have z1 : w5.cell? ⟨w.heap.size, 1, none⟩ = some (.int .i64 fuel) := (by rw [hW.cell lt0]; exact x1); have nnw5 := World.new_ne w5 ⟨w.heap.size, 0, none⟩ z0)
      | (go_at_call 63; refine (erasesI_from 0 _ (by decide)).mono ?_; rintro e w6 ⟨bb6, cl6, rfl, hc6, hl6, hb6⟩; have hc56 : Below w5.heap.size w5 w6 := (by first | exact hb6 | exact Below.trans ((Below.refl _ w5).drew) hb6 | exact Below.trans ((Below.refl _ w5).alloc (Nat.le_refl _) _) (hb6.mono (by simp)) | exact Below.trans (((Below.refl _ w5).alloc (Nat.le_refl _) _).drew) (hb6.mono (by simp))); replace hW : Below w1.heap.size w1 w6 := hW.trans (hc56.mono hW.size); (try (have p5 := isInts_below_one p5 hc56)); (try (have p6 : w6.cell? ⟨w5.heap.size, 0, none⟩ = some (.int .i64 1) := isInts_below_one (w := w5.alloc (.cells #[.int .i64 1] 3)) (cell_last rfl rfl) hb6)); have z0 : w6.cell? ⟨w.heap.size, 0, none⟩ = some (.slice a n c) := (by rw [hW.cell lt0]; exact x0); have z1 : w6.cell? ⟨w.heap.size, 1, none⟩ = some (.int .i64 fuel) := (by rw [hW.cell lt0]; exact x1); have nnw6 := World.new_ne w6 ⟨w.heap.size, 0, none⟩ z0)
      | (go_at_call 64; refine (programsI_from 0 _ 1 1 [1] _ (isInts_one (by first | exact cell_last rfl rfl | exact p6 | exact p5)) rfl (by decide) (by decide) (by decide)).mono ?_; rintro e w7 ⟨bb7, cl7, cs7, rfl, hc7, hl7, hpl7, hb7, hmk7⟩; have hc67 : Below w6.heap.size w6 w7 := (by first | exact hb7 | exact Below.trans ((Below.refl _ w6).drew) hb7 | exact Below.trans ((Below.refl _ w6).alloc (Nat.le_refl _) _) (hb7.mono (by simp)) | exact Below.trans (((Below.refl _ w6).alloc (Nat.le_refl _) _).drew) (hb7.mono (by simp))); replace hW : Below w1.heap.size w1 w7 := hW.trans (hc67.mono hW.size); have z0 : w7.cell? ⟨w.heap.size, 0, none⟩ = some (.slice a n c) := (by rw [hW.cell lt0]; exact x0); have z1 : w7.cell? ⟨w.heap.size, 1, none⟩ = some (.int .i64 fuel) := (by rw [hW.cell lt0]; exact x1); have nnw7 := World.new_ne w7 ⟨w.heap.size, 0, none⟩ z0)
      | (go_at_call 76; refine (concat_any _ 3 _ [eraL 1 32, eraL 0 32, cs7] _ (isChgL3 (cell_last rfl rfl) (cell_last rfl rfl) (cell_last rfl rfl) (((hl5.below hc56).below hc67).below ((Below.refl _ _).alloc (Nat.le_refl _) _)) ((hl6.below hc67).below ((Below.refl _ _).alloc (Nat.le_refl _) _)) (hl7.below ((Below.refl _ _).alloc (Nat.le_refl _) _)) (eraL_length _ _) (eraL_length _ _) hpl7.1 (by decide) (by decide) (by decide)) rfl (by decide) (by rw [flL3]; simp [eraL_length, hpl7.1]) (by rw [flL3]; simp [eraL_length, hpl7.1])).mono ?_; rintro e w8 ⟨a8, c8, rfl, hc8, hl8, hb8⟩; have hc78 : Below w7.heap.size w7 w8 := (by first | exact hb8 | exact Below.trans ((Below.refl _ w7).drew) hb8 | exact Below.trans ((Below.refl _ w7).alloc (Nat.le_refl _) _) (hb8.mono (by simp)) | exact Below.trans (((Below.refl _ w7).alloc (Nat.le_refl _) _).drew) (hb8.mono (by simp))); replace hW : Below w1.heap.size w1 w8 := hW.trans (hc78.mono hW.size); have z0 : w8.cell? ⟨w.heap.size, 0, none⟩ = some (.slice a n c) := (by rw [hW.cell lt0]; exact x0); have z1 : w8.cell? ⟨w.heap.size, 1, none⟩ = some (.int .i64 fuel) := (by rw [hW.cell lt0]; exact x1); have nnw8 := World.new_ne w8 ⟨w.heap.size, 0, none⟩ z0)
      | (go_at_call 62; refine (unhide HCh _ _ _ _ (i0.below hW) hl8 hc8 (HIn.out cs7 hpl7).1 (HIn.out cs7 hpl7).2).mono ?_; rintro e w9 ⟨⟨a9, n9, c9, rfl, hi9, hn9, hc9, hf9⟩, hb9⟩; have hf9' : FreshA w1.heap.size a9 := FreshA.mono hf9 hW.size; replace hW : Below w1.heap.size w1 w9 := hW.trans (hb9.mono hW.size); have z0 : w9.cell? ⟨w.heap.size, 0, none⟩ = some (.slice a n c) := (by rw [hW.cell lt0]; exact x0); have z1 : w9.cell? ⟨w.heap.size, 1, none⟩ = some (.int .i64 fuel) := (by rw [hW.cell lt0]; exact x1); have nnw9 := World.new_ne w9 ⟨w.heap.size, 0, none⟩ z0; have q0 := blk_cell (blk_below B2.out hW) 0 _ rfl; have q1 := blk_cell (blk_below B2.out hW) 1 _ rfl; have q2 := blk_free (blk_below B2.out hW) 0; have q3 := blk_free (blk_below B2.out hW) 1)))
  all_goals
    go_wp2
    refine bodyPost_ret (v := .tuple #[.agg #[.slice a9 n9 c9, .int .i64 (chgS ws fuel (flL [eraL 1 32, eraL 0 32, cs7])).2.1], .int .i64 (chgS ws fuel (flL [eraL 1 32, eraL 0 32, cs7])).2.2]) (by simp [results, Try.results36, go_sem, q0, q1]) rfl ?_
    rw [← HKey.out cs7 hpl7]
    have hw9 := hw.trans (hW.mono hw.size)
    exact ⟨⟨a9, n9, c9, rfl, (hi9.other hf9' lt1 0 _).other hf9' lt1 1 _, hn9, hc9, FreshA.mono hf9' hw.size⟩, (hw9.setCell (by simp) _).setCell (by simp) _⟩

end Go.Proofs.Ytanpglfpopbfkaa
