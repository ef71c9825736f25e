/- The contract of wainwrightref.Erased: the document's Erase, of right flash. -/
import Derived.Test.YtanpglfpopbfkaaErased0
namespace Go.Proofs.Ytanpglfpopbfkaa
open Go.RowKit
attribute [local go_sem ↓] Go.wp_at_zero Go.wp_at_succ

set_option maxRecDepth 100000 in
set_option maxHeartbeats 2000000 in
theorem erased_any (a : Option Addr) (n c : Nat) (ws : List Int) (fuel s : Int) (w : World) (h : IsInts w a ws) (hn : ws.length = n) (hk : chk ws fuel = 0) (hs : -9223372036854775808 ≤ s ∧ s ≤ 9223372036854775807) :
    Calls Try.prog 27 #[.agg #[.slice a n c, .int .i64 fuel], .int .i64 s] w (Answers w (eraS ws fuel s)) := by
  have parts := chk_parts hk
  rw [hn] at parts
  have HN := hide hn
  have HK := hide hk
  clear hn hk
  have hw : Below w.heap.size w ((w.alloc (.cells #[.slice a n c, .int .i64 fuel] 28)).alloc (.cells #[.slice none 0 0, .int .i64 0] 28)) :=
    ((Below.refl _ _).alloc (Nat.le_refl _) _).alloc (by simp) _
  have b0 := hide (blk_alloc (heap_alloc_last w (.cells #[.slice a n c, .int .i64 fuel] 28)) (.cells #[.slice none 0 0, .int .i64 0] 28))
  have b1 : Hid (((w.alloc (.cells #[.slice a n c, .int .i64 fuel] 28)).alloc (.cells #[.slice none 0 0, .int .i64 0] 28)).heap[w.heap.size + 1]? = some (.cells #[.slice none 0 0, .int .i64 0] 28 (0, 0))) := by
    show _ = _
    simpa using heap_alloc_last (w.alloc _) _
  have i0 := h.below hw
  go_enter Try.func27, Try.ntmps27
  go_upto_region 1 with fail
  generalize (w.alloc (.cells #[.slice a n c, .int .i64 fuel] 28)).alloc (.cells #[.slice none 0 0, .int .i64 0] 28) = W at *
  have x0 : W.cell? ⟨w.heap.size, 0, none⟩ = some (.slice a n c) := blk_cell b0.out 0 _ rfl
  have x1 : W.cell? ⟨w.heap.size, 1, none⟩ = some (.int .i64 fuel) := blk_cell b0.out 1 _ rfl
  have r0 := blk_cell b1.out 0 _ rfl
  have r1 := blk_cell b1.out 1 _ rfl
  have f0 := blk_free b1.out 0
  have f1 := blk_free b1.out 1
  have lt0 := blk_lt b0.out
  have lt1 := blk_lt b1.out
  go_cut [20] (fun v20 wx => v20 = .bool (!decide (0 ≤ s ∧ s < (n : Int) / 32)) ∧ wx = W)
  case first =>
    by_cases s0 : s < 0
    · go_wp2_with fail
      go_meet
      case rel => exact ⟨congrArg Value.bool (by simp; omega), rfl⟩
    · have s0' : decide (s < 0) = false := by simp; omega
      by_cases s6 : s ≤ 6
      · have d6 : decide (6 < s) = false := by simp; omega
        by_cases s1 : 32 * (s + 1) ≤ (n : Int)
        · have d1 : decide ((n : Int) < 32 * (s + 1)) = false := by simp; omega
          go_wp2_with fail
          go_meet
          case rel => exact ⟨congrArg Value.bool (by simp; omega), rfl⟩
        · have d1 : (n : Int) < 32 * (s + 1) := by omega
          go_wp2_with fail
          go_meet
          case rel => exact ⟨congrArg Value.bool (by simp; omega), rfl⟩
      · have d6 : 6 < s := by omega
        go_wp2_with fail
        all_goals
          go_meet
          case rel => exact ⟨congrArg Value.bool (by simp; omega), rfl⟩
  case rest =>
    obtain ⟨rfl, hwc⟩ := hcut
    subst hwc
    by_cases hin : 0 ≤ s ∧ s < (n : Int) / 32
    rotate_left
    · have hd : decide (0 ≤ s ∧ s < (n : Int) / 32) = false := decide_eq_false hin
      have hr : Hid (eraS ws fuel s = ([], 0, 5)) := by show _ = _; unfold eraS; rw [if_neg (by simpa using HK.out), HN.out, if_pos hin]
      rw [hd]
      clear hin hd
      go_wp2
      refine bodyPost_ret (v := .tuple #[.agg #[.slice none 0 0, .int .i64 0], .int .i64 5]) (by simp [results, Try.results27, go_sem, r0, r1]) rfl ?_
      exact answers_err hr.out ((hw.setCell (by simp) _).setCell (by simp) _)
    have hd : decide (0 ≤ s ∧ s < (n : Int) / 32) = true := decide_eq_true hin
    rw [hd]
    obtain ⟨sn, rfl⟩ := Int.eq_ofNat_of_zero_le hin.1
    have hsn : sn ≤ 6 := by omega
    have HR := hide (chgS_era HK.out (show (sn : Int) < (ws.length : Int) / 32 by rw [HN.out]; exact hin.2))
    have HCh := hide (fun W' (al : Option Addr) (cl : Nat) (hb : Below wc.heap.size wc W') (hl : IsChgs W' al (eraL sn 32)) (hcl : 32 ≤ cl) => changed_any a n c ws fuel al 32 cl (eraL sn 32) W' (i0.below hb) HN.out (by omega) (by omega) (by omega) hl (eraL_length sn 32) hcl (by omega) (by
      intro c hc
      simp [eraL] at hc
      obtain ⟨i, hi, rfl⟩ := hc
      simp only
      omega))
    clear hd hin
    have B1 := b1
    go_wp2_with fail
    go_region_held3 (fun w' => w'.cell? ⟨w.heap.size, 0, none⟩ = some (.slice a n c) ∧ w'.cell? ⟨w.heap.size, 1, none⟩ = some (.int .i64 fuel)) (first | exact ⟨by assumption, by assumption⟩ | go_keep)
      ((first | (go_at_call 63; refine (erases_from sn _ hsn).mono ?_; rintro e w5 ⟨al, cl, rfl, hcl, hlc, hb5⟩; replace hb5 : Below wc.heap.size wc w5 := Below.trans (Below.refl _ wc).drew hb5; have z0 : w5.cell? ⟨w.heap.size, 0, none⟩ = some (.slice a n c) := (by rw [hb5.cell lt0]; exact x0); have z1 : w5.cell? ⟨w.heap.size, 1, none⟩ = some (.int .i64 fuel) := (by rw [hb5.cell lt0]; exact x1)) | (go_at_call 62; refine (unhide HCh _ _ _ ?_ ?_ ?_).mono ?_; exact hb5; exact hlc; exact hcl; rintro e w6 ⟨⟨a6, n6, c6, rfl, hi6, hn6, hc6, hf6⟩, hb6⟩; have hb7 : Below wc.heap.size wc w6 := (Below.trans (b := w5) hb5 (hb6.mono hb5.size)); have y0 : w6.cell? ⟨w.heap.size, 0, none⟩ = some (.slice a n c) := (by rw [hb7.cell lt0]; exact x0); have y1 : w6.cell? ⟨w.heap.size, 1, none⟩ = some (.int .i64 fuel) := (by rw [hb7.cell lt0]; exact x1); have q0 := blk_cell (blk_below B1.out hb7) 0 _ rfl; have q1 := blk_cell (blk_below B1.out hb7) 1 _ rfl; have q2 := blk_free (blk_below B1.out hb7) 0; have q3 := blk_free (blk_below B1.out hb7) 1)))
    go_wp2
    refine bodyPost_ret (v := .tuple #[.agg #[.slice a6 n6 c6, .int .i64 (chgS ws fuel (eraL sn 32)).2.1], .int .i64 (chgS ws fuel (eraL sn 32)).2.2]) (by simp [results, Try.results27, go_sem, q0, q1]) rfl ?_
    rw [← HR.out]
    have hw7 := hw.trans (hb7.mono hw.size)
    refine ⟨⟨a6, n6, c6, rfl, ?_, hn6, hc6, FreshA.mono hf6 (by have := hw.size; have := hb5.size; omega)⟩, (hw7.setCell (by simp) _).setCell (by simp) _⟩
    exact (hi6.other (B := wc.heap.size) (FreshA.mono hf6 hb5.size) lt1 0 _).other (B := wc.heap.size) (FreshA.mono hf6 hb5.size) lt1 1 _

end Go.Proofs.Ytanpglfpopbfkaa
