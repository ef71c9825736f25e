/- The contracts of wainwrightref.Filled and SealedIn: the document's Fill and Seal, of right flash and slot. -/
import Derived.Test.YtanpglfpopbfkaaSlotQ
import Derived.Test.YtanpglfpopbfkaaProgrammed
namespace Go.Proofs.Ytanpglfpopbfkaa
open Go.RowKit
attribute [local go_sem ↓] Go.wp_at_zero Go.wp_at_succ

theorem fillS_right {ws : List Int} {fuel s at' : Int} {words : List Int} (h : slotE ws fuel s = 0) : fillS ws fuel s at' words = if fillB at' words.length = false then ([], 0, 2) else progS ws fuel (68 + 64 * s + at') words := by
  unfold fillS; rw [if_neg (by simpa using h)]

theorem sealS_right {ws : List Int} {fuel s long name : Int} (h : slotE ws fuel s = 0) : sealS ws fuel s long name = if sealB long name = false then ([], 0, 3) else progS ws fuel (64 + 64 * s) (headL long name) := by
  unfold sealS; rw [if_neg (by simpa using h)]

set_option maxRecDepth 100000 in
set_option maxHeartbeats 2000000 in
theorem filled_any (a : Option Addr) (c : Nat) (ws : List Int) (fuel : Int) (sn : Nat) (at' : Int) (a2 : Option Addr) (n2 c2 : Nat) (words : List Int) (w : World) (h : IsInts w a ws) (hn : ws.length = 192) (hk : chk ws fuel = 0) (hs : sn ≤ 1) (h2 : IsInts w a2 words) (hn2 : words.length = n2) (hm2 : n2 ≤ maxLen) :
    Calls Try.prog 50 #[.agg #[.slice a 192 c, .int .i64 fuel], .int .i64 sn, .int .i64 at', .slice a2 n2 c2] w (Answers w (fillS ws fuel sn at' words)) := by
  have HS := hide (fillS_right (at' := at') (words := words) (slotE_ok hk hn hs))
  have HN := hide hn
  have HN2 := hide hn2
  have HK := hide hk
  clear hn hn2 hk
  have hw : Below w.heap.size w ((w.alloc (.cells #[.slice a 192 c, .int .i64 fuel] 28)).alloc (.cells #[.slice none 0 0, .int .i64 0] 28)) :=
    ((Below.refl _ _).alloc (Nat.le_refl _) _).alloc (by simp) _
  have b0 := hide (blk_alloc (heap_alloc_last w (.cells #[.slice a 192 c, .int .i64 fuel] 28)) (.cells #[.slice none 0 0, .int .i64 0] 28))
  have b1 : Hid (((w.alloc (.cells #[.slice a 192 c, .int .i64 fuel] 28)).alloc (.cells #[.slice none 0 0, .int .i64 0] 28)).heap[w.heap.size + 1]? = some (.cells #[.slice none 0 0, .int .i64 0] 28 (0, 0))) := by
    show _ = _
    simpa using heap_alloc_last (w.alloc _) _
  have i0 := h.below hw
  have i2 := h2.below hw
  have hm3 := hm2
  unfold maxLen at hm3
  go_enter Try.func50, Try.ntmps50
  go_upto_region 1 with fail
  generalize (w.alloc (.cells #[.slice a 192 c, .int .i64 fuel] 28)).alloc (.cells #[.slice none 0 0, .int .i64 0] 28) = W at *
  have x0 : W.cell? ⟨w.heap.size, 0, none⟩ = some (.slice a 192 c) := blk_cell b0.out 0 _ rfl
  have x1 : W.cell? ⟨w.heap.size, 1, none⟩ = some (.int .i64 fuel) := blk_cell b0.out 1 _ rfl
  have r0 := blk_cell b1.out 0 _ rfl
  have r1 := blk_cell b1.out 1 _ rfl
  have f0 := blk_free b1.out 0
  have f1 := blk_free b1.out 1
  have lt0 := blk_lt b0.out
  have lt1 := blk_lt b1.out
  go_cut [22] (fun v22 wx => v22 = .bool (!fillB at' n2) ∧ wx = W)
  case first =>
    by_cases s0 : at' < 0
    · go_wp2_with fail
      go_meet
      case rel => exact ⟨congrArg Value.bool (by unfold fillB inB; simp; omega), rfl⟩
    · have s0' : decide (at' < 0) = false := by simp; omega
      by_cases s1 : 40 < at'
      · go_wp2_with fail
        go_meet
        case rel => exact ⟨congrArg Value.bool (by unfold fillB inB; simp; omega), rfl⟩
      · have s1' : decide (40 < at') = false := by simp; omega
        by_cases s2 : 40 - at' < (n2 : Int)
        · go_wp2_with fail
          go_meet
          case rel => exact ⟨congrArg Value.bool (by unfold fillB inB; simp; omega), rfl⟩
        · have s2' : decide (40 - at' < (n2 : Int)) = false := by simp; omega
          go_wp2_with fail
          go_meet
          case rel => exact ⟨congrArg Value.bool (by unfold fillB inB; simp; omega), rfl⟩
  case rest =>
    obtain ⟨rfl, hwc⟩ := hcut
    subst hwc
    cases hin : fillB at' n2
    · have hr : Hid (fillS ws fuel sn at' words = ([], 0, 2)) := by show _ = _; rw [HS.out, HN2.out, if_pos hin]
      clear hin
      go_wp2
      refine bodyPost_ret (v := .tuple #[.agg #[.slice none 0 0, .int .i64 0], .int .i64 2]) (by simp [results, Try.results50, go_sem, r0, r1]) rfl ?_
      exact answers_err hr.out ((hw.setCell (by simp) _).setCell (by simp) _)
    have q : 0 ≤ at' ∧ at' ≤ 40 := by unfold fillB inB at hin; simp at hin; omega
    have hr : Hid (fillS ws fuel sn at' words = progS ws fuel (64 + 64 * (sn : Int) + 4 + at') words) := by
      show _ = _
      rw [HS.out, HN2.out, if_neg (by simp [hin]), show 68 + 64 * (sn : Int) + at' = 64 + 64 * (sn : Int) + 4 + at' by omega]
    clear hin
    have HP := hide (programmed_any a 192 c ws fuel (64 + 64 * (sn : Int) + 4 + at') a2 n2 c2 words wc i0 HN.out HK.out i2 HN2.out hm2 (by omega))
    clear r0 r1 f0 f1
    go_wp2_with fail
    refine (unhide HP).mono ?_
    rintro e w6 ⟨⟨a6, n6, c6, rfl, hi6, hn6, hc6, hf6⟩, hb6⟩
    have q0 := blk_cell (blk_below b1.out hb6) 0 _ rfl
    have q1 := blk_cell (blk_below b1.out hb6) 1 _ rfl
    have q2 := blk_free (blk_below b1.out hb6) 0
    have q3 := blk_free (blk_below b1.out hb6) 1
    have HN6 := hide hn6
    clear hn6
    go_wp2
    refine bodyPost_ret (v := .tuple #[.agg #[.slice a6 n6 c6, .int .i64 (progS ws fuel (64 + 64 * (sn : Int) + 4 + at') words).2.1], .int .i64 (progS ws fuel (64 + 64 * (sn : Int) + 4 + at') words).2.2]) (by simp [results, Try.results50, go_sem, q0, q1]) rfl ?_
    rw [hr.out]
    have hw7 := hw.trans (hb6.mono hw.size)
    refine ⟨⟨a6, n6, c6, rfl, ?_, HN6.out, hc6, FreshA.mono hf6 hw.size⟩, (hw7.setCell (by simp) _).setCell (by simp) _⟩
    exact (hi6.other (B := wc.heap.size) hf6 lt1 0 _).other (B := wc.heap.size) hf6 lt1 1 _

theorem headL_sub {long name : Int} (h : sealB long name = true) : headL long name = [long, name, 65535 - long, 65535 - name] := by
  simp [sealB, inB] at h
  unfold headL
  rw [xorW_small (by omega) (by omega), xorW_small (by omega) (by omega)]

set_option maxRecDepth 100000 in
set_option maxHeartbeats 2000000 in
theorem sealedIn_any (a : Option Addr) (c : Nat) (ws : List Int) (fuel : Int) (sn : Nat) (long name : Int) (w : World) (h : IsInts w a ws) (hn : ws.length = 192) (hk : chk ws fuel = 0) (hs : sn ≤ 1) :
    Calls Try.prog 51 #[.agg #[.slice a 192 c, .int .i64 fuel], .int .i64 sn, .int .i64 long, .int .i64 name] w (Answers w (sealS ws fuel sn long name)) := by
  have HS := hide (sealS_right (long := long) (name := name) (slotE_ok hk hn hs))
  have HN := hide hn
  have HK := hide hk
  clear hn hk
  have hw : Below w.heap.size w ((w.alloc (.cells #[.slice a 192 c, .int .i64 fuel] 28)).alloc (.cells #[.slice none 0 0, .int .i64 0] 28)) :=
    ((Below.refl _ _).alloc (Nat.le_refl _) _).alloc (by simp) _
  have b0 := hide (blk_alloc (heap_alloc_last w (.cells #[.slice a 192 c, .int .i64 fuel] 28)) (.cells #[.slice none 0 0, .int .i64 0] 28))
  have b1 : Hid (((w.alloc (.cells #[.slice a 192 c, .int .i64 fuel] 28)).alloc (.cells #[.slice none 0 0, .int .i64 0] 28)).heap[w.heap.size + 1]? = some (.cells #[.slice none 0 0, .int .i64 0] 28 (0, 0))) := by
    show _ = _
    simpa using heap_alloc_last (w.alloc _) _
  have i0 := h.below hw
  go_enter Try.func51, Try.ntmps51
  go_upto_region 1 with fail
  generalize (w.alloc (.cells #[.slice a 192 c, .int .i64 fuel] 28)).alloc (.cells #[.slice none 0 0, .int .i64 0] 28) = W at *
  have x0 : W.cell? ⟨w.heap.size, 0, none⟩ = some (.slice a 192 c) := blk_cell b0.out 0 _ rfl
  have x1 : W.cell? ⟨w.heap.size, 1, none⟩ = some (.int .i64 fuel) := blk_cell b0.out 1 _ rfl
  have r0 := blk_cell b1.out 0 _ rfl
  have r1 := blk_cell b1.out 1 _ rfl
  have f0 := blk_free b1.out 0
  have f1 := blk_free b1.out 1
  have lt0 := blk_lt b0.out
  have lt1 := blk_lt b1.out
  go_cut [23] (fun v23 wx => v23 = .bool (!sealB long name) ∧ wx = W)
  case first =>
    by_cases s0 : long < 1
    · go_wp2_with fail
      go_meet
      case rel => exact ⟨congrArg Value.bool (by unfold sealB inB; simp; omega), rfl⟩
    · have s0' : decide (long < 1) = false := by simp; omega
      by_cases s1 : 40 < long
      · go_wp2_with fail
        go_meet
        case rel => exact ⟨congrArg Value.bool (by unfold sealB inB; simp; omega), rfl⟩
      · have s1' : decide (40 < long) = false := by simp; omega
        by_cases s2 : name < 1
        · go_wp2_with fail
          go_meet
          case rel => exact ⟨congrArg Value.bool (by unfold sealB inB; simp; omega), rfl⟩
        · have s2' : decide (name < 1) = false := by simp; omega
          by_cases s3 : 60 < name
          · go_wp2_with fail
            go_meet
            case rel => exact ⟨congrArg Value.bool (by unfold sealB inB; simp; omega), rfl⟩
          · have s3' : decide (60 < name) = false := by simp; omega
            go_wp2_with fail
            go_meet
            case rel => exact ⟨congrArg Value.bool (by unfold sealB inB; simp; omega), rfl⟩
  case rest =>
    obtain ⟨rfl, hwc⟩ := hcut
    subst hwc
    cases hin : sealB long name
    · have hr : Hid (sealS ws fuel sn long name = ([], 0, 3)) := by show _ = _; rw [HS.out, if_pos hin]
      clear hin
      go_wp2
      refine bodyPost_ret (v := .tuple #[.agg #[.slice none 0 0, .int .i64 0], .int .i64 3]) (by simp [results, Try.results51, go_sem, r0, r1]) rfl ?_
      exact answers_err hr.out ((hw.setCell (by simp) _).setCell (by simp) _)
    have q : 1 ≤ long ∧ long ≤ 40 ∧ 1 ≤ name ∧ name ≤ 60 := by unfold sealB inB at hin; simp at hin; omega
    have hr : Hid (sealS ws fuel sn long name = progS ws fuel (64 + 64 * (sn : Int)) [long, name, 65535 - long, 65535 - name]) := by
      show _ = _
      rw [HS.out, if_neg (by simp [hin]), headL_sub hin]
    clear hin
    have i2 := isInts_at wc wc.heap.size [long, name, 65535 - long, 65535 - name] #[.int .i64 long, .int .i64 name, .int .i64 (65535 - long), .int .i64 (65535 - name)] 3 rfl rfl
    have hba : Below wc.heap.size wc (wc.alloc (.cells #[.int .i64 long, .int .i64 name, .int .i64 (65535 - long), .int .i64 (65535 - name)] 3)) := (Below.refl _ _).alloc (Nat.le_refl _) _
    have HP := hide (programmed_any a 192 c ws fuel (64 + 64 * (sn : Int)) (some ⟨wc.heap.size, 0, none⟩) 4 4 [long, name, 65535 - long, 65535 - name] _ (i0.below hba) HN.out HK.out i2 rfl (by decide) (by omega))
    clear r0 r1 f0 f1
    go_wp2_with fail
    refine (unhide HP).mono ?_
    rintro e w6 ⟨⟨a6, n6, c6, rfl, hi6, hn6, hc6, hf6⟩, hb6⟩
    replace hf6 : FreshA wc.heap.size a6 := hf6.mono (by simp)
    replace hb6 : Below wc.heap.size wc w6 := hba.trans (hb6.mono hba.size)
    have q0 := blk_cell (blk_below b1.out hb6) 0 _ rfl
    have q1 := blk_cell (blk_below b1.out hb6) 1 _ rfl
    have q2 := blk_free (blk_below b1.out hb6) 0
    have q3 := blk_free (blk_below b1.out hb6) 1
    have HN6 := hide hn6
    clear hn6
    go_wp2
    refine bodyPost_ret (v := .tuple #[.agg #[.slice a6 n6 c6, .int .i64 (progS ws fuel (64 + 64 * (sn : Int)) [long, name, 65535 - long, 65535 - name]).2.1], .int .i64 (progS ws fuel (64 + 64 * (sn : Int)) [long, name, 65535 - long, 65535 - name]).2.2]) (by simp [results, Try.results51, go_sem, q0, q1]) rfl ?_
    rw [hr.out]
    have hw7 := hw.trans (hb6.mono hw.size)
    refine ⟨⟨a6, n6, c6, rfl, ?_, HN6.out, hc6, FreshA.mono hf6 hw.size⟩, (hw7.setCell (by simp) _).setCell (by simp) _⟩
    exact (hi6.other (B := wc.heap.size) hf6 lt1 0 _).other (B := wc.heap.size) hf6 lt1 1 _

end Go.Proofs.Ytanpglfpopbfkaa
