/- The contract of wainwrightref.Programmed. -/
import Derived.Test.YtanpglfpopbfkaaProgrammed0
import Derived.Test.YtanpglfpopbfkaaErased0
namespace Go.Proofs.Ytanpglfpopbfkaa
open Go.RowKit
attribute [local go_sem ↓] Go.wp_at_zero Go.wp_at_succ

set_option maxRecDepth 100000 in
set_option maxHeartbeats 2000000 in
theorem programmed_any (a : Option Addr) (n c : Nat) (ws : List Int) (fuel p : Int) (a2 : Option Addr) (n2 c2 : Nat) (words : List Int) (w : World) (h : IsInts w a ws) (hn : ws.length = n) (hk : chk ws fuel = 0) (h2 : IsInts w a2 words) (hn2 : words.length = n2) (hm2 : n2 ≤ maxLen) (hp : -9223372036854775808 ≤ p ∧ p ≤ 9223372036854775807) :
    Calls Try.prog 28 #[.agg #[.slice a n c, .int .i64 fuel], .int .i64 p, .slice a2 n2 c2] w (Answers w (progS ws fuel p words)) := by
  have parts := chk_parts hk
  rw [hn] at parts
  have HA := hide (fun W (h : IsInts W a2 words) => refAllWords_any a2 n2 c2 words W h hn2 hm2)
  unfold maxLen at hm2
  have HN := hide hn
  have HN2 := hide hn2
  have HK := hide hk
  clear hn hn2 hk
  have hw : Below w.heap.size w ((w.alloc (.cells #[.slice a n c, .int .i64 fuel] 28)).alloc (.cells #[.slice none 0 0, .int .i64 0] 28)) :=
    ((Below.refl _ _).alloc (Nat.le_refl _) _).alloc (by simp) _
  have b0 := hide (blk_alloc (heap_alloc_last w (.cells #[.slice a n c, .int .i64 fuel] 28)) (.cells #[.slice none 0 0, .int .i64 0] 28))
  have b1 : Hid (((w.alloc (.cells #[.slice a n c, .int .i64 fuel] 28)).alloc (.cells #[.slice none 0 0, .int .i64 0] 28)).heap[w.heap.size + 1]? = some (.cells #[.slice none 0 0, .int .i64 0] 28 (0, 0))) := by
    show _ = _
    simpa using heap_alloc_last (w.alloc _) _
  have i0 := h.below hw
  have i2 := h2.below hw
  go_enter Try.func28, Try.ntmps28
  go_upto_region 1 with fail
  generalize (w.alloc (.cells #[.slice a n c, .int .i64 fuel] 28)).alloc (.cells #[.slice none 0 0, .int .i64 0] 28) = W at *
  have x0 : W.cell? ⟨w.heap.size, 0, none⟩ = some (.slice a n c) := blk_cell b0.out 0 _ rfl
  have x1 : W.cell? ⟨w.heap.size, 1, none⟩ = some (.int .i64 fuel) := blk_cell b0.out 1 _ rfl
  have r0 := blk_cell b1.out 0 _ rfl
  have r1 := blk_cell b1.out 1 _ rfl
  have f0 := blk_free b1.out 0
  have f1 := blk_free b1.out 1
  have lt0 := blk_lt b0.out
  have lt1 := blk_lt b1.out
  go_cut [26] (fun v26 wx => v26 = .bool (!fitB n p n2) ∧ wx = W)
  case first =>
    by_cases s0 : p < 0
    · go_wp2_with fail
      go_meet
      case rel => exact ⟨congrArg Value.bool (by unfold fitB; simp; omega), rfl⟩
    · have s0' : decide (p < 0) = false := by simp; omega
      by_cases s1 : (n : Int) < p
      · go_wp2_with fail
        go_meet
        case rel => exact ⟨congrArg Value.bool (by unfold fitB; simp; omega), rfl⟩
      · have s1' : decide ((n : Int) < p) = false := by simp; omega
        by_cases s2 : (n : Int) - p < (n2 : Int)
        · go_wp2_with fail
          go_meet
          case rel => exact ⟨congrArg Value.bool (by unfold fitB; simp; omega), rfl⟩
        · have s2' : decide ((n : Int) - p < (n2 : Int)) = false := by simp; omega
          go_wp2_with fail
          go_meet
          case rel => exact ⟨congrArg Value.bool (by unfold fitB; simp; omega), rfl⟩
  case rest =>
    obtain ⟨rfl, hwc⟩ := hcut
    subst hwc
    cases hin : fitB n p n2
    · have hr : Hid (progS ws fuel p words = ([], 0, 5)) := by show _ = _; unfold progS; rw [if_neg (by simpa using HK.out), HN.out, HN2.out, if_pos hin]
      clear hin
      go_wp2
      refine bodyPost_ret (v := .tuple #[.agg #[.slice none 0 0, .int .i64 0], .int .i64 5]) (by simp [results, Try.results28, go_sem, r0, r1]) rfl ?_
      exact answers_err hr.out ((hw.setCell (by simp) _).setCell (by simp) _)
    have hfit : 0 ≤ p ∧ (n2 : Int) ≤ (n : Int) - p := by unfold fitB at hin; simp at hin; omega
    obtain ⟨pn, rfl⟩ := Int.eq_ofNat_of_zero_le hfit.1
    have HFit := hide hin
    clear hin
    go_wp2_with fail
    refine (unhide HA _ i2).mono ?_
    rintro e wv ⟨rfl, rfl⟩
    cases hok : okL words
    · have hr : Hid (progS ws fuel pn words = ([], 0, 3)) := by show _ = _; unfold progS; rw [if_neg (by simpa using HK.out), HN.out, HN2.out, if_neg (by simp [HFit.out]), if_pos hok]
      clear hok
      go_wp2
      refine bodyPost_ret (v := .tuple #[.agg #[.slice none 0 0, .int .i64 0], .int .i64 3]) (by simp [results, Try.results28, go_sem, r0, r1]) rfl ?_
      exact answers_err hr.out ((hw.setCell (by simp) _).setCell (by simp) _)
    have HR := hide (fun cs (hp : ProL pn words n2 cs) => chgS_pro (cs := cs) HK.out (by rw [HN2.out]; exact hp) (by rw [HN.out, HN2.out]; omega) hok)
    have HCh := hide (fun W' (al : Option Addr) (cl : Nat) (cs : List (Nat × Option (Nat × Int))) (hb : Below wv.heap.size wv W') (hl : IsChgs W' al cs) (hp : ProL pn words n2 cs) (hcl : n2 ≤ cl) => changed_any a n c ws fuel al n2 cl cs W' (i0.below hb) HN.out (by omega) (by omega) (by omega) hl hp.1 hcl (by omega) (fun c hc => by have := hp.lt c hc; omega))
    clear hok
    have HP := hide (fun W' (hb : Below wv.heap.size wv W') => programs_from pn a2 n2 c2 words W' (i2.below hb) HN2.out (by omega) (by omega))
    go_wp2_with fail
    go_region_held3 (fun w' => w'.cell? ⟨w.heap.size, 0, none⟩ = some (.slice a n c) ∧ w'.cell? ⟨w.heap.size, 1, none⟩ = some (.int .i64 fuel)) (first | exact ⟨by assumption, by assumption⟩ | go_keep)
      ((first | (go_at_call 64; refine (unhide HP _ ?_).mono ?_; exact (Below.refl _ _).drew; rintro e w5 ⟨al, cl, cs, rfl, hcl, hlc, hpl, hb5⟩; replace hb5 : Below wv.heap.size wv w5 := Below.trans (Below.refl _ wv).drew hb5; have z0 : w5.cell? ⟨w.heap.size, 0, none⟩ = some (.slice a n c) := (by rw [hb5.cell lt0]; exact x0); have z1 : w5.cell? ⟨w.heap.size, 1, none⟩ = some (.int .i64 fuel) := (by rw [hb5.cell lt0]; exact x1)) | (go_at_call 62; refine (unhide HCh _ _ _ cs ?_ ?_ ?_ ?_).mono ?_; exact hb5; exact hlc; exact hpl; exact hcl; rintro e w6 ⟨⟨a6, n6, c6, rfl, hi6, hn6, hc6, hf6⟩, hb6⟩; have hb7 : Below wv.heap.size wv w6 := (Below.trans (b := w5) hb5 (hb6.mono hb5.size)); have y0 : w6.cell? ⟨w.heap.size, 0, none⟩ = some (.slice a n c) := (by rw [hb7.cell lt0]; exact x0); have y1 : w6.cell? ⟨w.heap.size, 1, none⟩ = some (.int .i64 fuel) := (by rw [hb7.cell lt0]; exact x1); have q0 := blk_cell (blk_below b1.out hb7) 0 _ rfl; have q1 := blk_cell (blk_below b1.out hb7) 1 _ rfl; have q2 := blk_free (blk_below b1.out hb7) 0; have q3 := blk_free (blk_below b1.out hb7) 1)))
    go_wp2
    refine bodyPost_ret (v := .tuple #[.agg #[.slice a6 n6 c6, .int .i64 (chgS ws fuel cs).2.1], .int .i64 (chgS ws fuel cs).2.2]) (by simp [results, Try.results28, go_sem, q0, q1]) rfl ?_
    rw [← HR.out cs hpl]
    have hw7 := hw.trans (hb7.mono hw.size)
    refine ⟨⟨a6, n6, c6, rfl, ?_, hn6, hc6, FreshA.mono hf6 (by have := hw.size; have := hb5.size; omega)⟩, (hw7.setCell (by simp) _).setCell (by simp) _⟩
    exact (hi6.other (B := wv.heap.size) (FreshA.mono hf6 hb5.size) lt1 0 _).other (B := wv.heap.size) (FreshA.mono hf6 hb5.size) lt1 1 _

end Go.Proofs.Ytanpglfpopbfkaa
