/- The contract of slot.Clear. -/
import Derived.Test.YtanpglfpopbfkaaSlotB
namespace Go.Proofs.Ytanpglfpopbfkaa
open Go.RowKit
attribute [local go_sem ↓] Go.wp_at_zero Go.wp_at_succ

/-- The first k of the sectors of a slot, erased. -/
def clrAt (ws : List Int) (fuel s : Int) : Nat → List Int × Int × Int
  | 0 => (ws, fuel, 0)
  | k + 1 => if (clrAt ws fuel s k).2.2 ≠ 0 then clrAt ws fuel s k else eraS (clrAt ws fuel s k).1 (clrAt ws fuel s k).2.1 (2 + s * 2 + k)

theorem clrAt_go {ws : List Int} {fuel s : Int} {k : Nat} (h : (clrAt ws fuel s k).2.2 = 0) : clrAt ws fuel s (k + 1) = eraS (clrAt ws fuel s k).1 (clrAt ws fuel s k).2.1 (2 + s * 2 + k) := by
  show (if _ then _ else _) = _
  rw [if_neg (by simpa using h)]

theorem clrAt_stay {ws : List Int} {fuel s : Int} {k : Nat} (h : (clrAt ws fuel s k).2.2 ≠ 0) : clrAt ws fuel s (k + 1) = clrAt ws fuel s k := by
  show (if _ then _ else _) = _
  rw [if_pos h]

theorem eraS_len (ws : List Int) (fuel s : Int) : (eraS ws fuel s).1.length ≤ ws.length := by
  unfold eraS
  split
  · simp
  · split
    · simp
    · rw [chg_length]; exact Nat.le_refl _

theorem clrAt_len (ws : List Int) (fuel s : Int) (k : Nat) : (clrAt ws fuel s k).1.length ≤ ws.length := by
  induction k with
  | zero => exact Nat.le_refl _
  | succ k ih =>
    show (if _ then _ else _ : List Int × Int × Int).1.length ≤ _
    split
    · exact ih
    · exact Nat.le_trans (eraS_len _ _ _) ih

/-- The document's Clear. -/
def clrS (ws : List Int) (fuel s : Int) : List Int × Int × Int :=
  if slotE ws fuel s ≠ 0 then ([], 0, slotE ws fuel s) else clrAt ws fuel s 2

/-- What lies in the variables of Clear behind k sectors. -/
def ClrInv (w : World) (ws : List Int) (fuel s : Int) (k : Nat) (wr : World) : Prop :=
  ∃ a n c, wr.heap[w.heap.size]? = some (.cells #[.slice a n c, .int .i64 (clrAt ws fuel s k).2.1] 28 (0, 0)) ∧ wr.heap[w.heap.size + 1]? = some (.cells #[.slice none 0 0, .int .i64 0] 28 (0, 0))
    ∧ IsInts wr a (clrAt ws fuel s k).1 ∧ (clrAt ws fuel s k).1.length = n ∧ n ≤ maxLen ∧ n ≤ c ∧ (k = 0 ∨ FreshA (w.heap.size + 2) a) ∧ Below w.heap.size w wr ∧ (clrAt ws fuel s k).2.2 = 0

set_option maxRecDepth 100000 in
set_option maxHeartbeats 1000000 in
theorem clear_any (a : Option Addr) (n c : Nat) (ws : List Int) (fuel s : Int) (w : World)
    (h : IsInts w a ws) (hn : ws.length = n) (hm : n ≤ maxLen) (hcap : n ≤ c) :
    Calls Try.prog 42 #[.agg #[.slice a n c, .int .i64 fuel], .int .i64 s] w (Answers w (clrS ws fuel s)) := by
  have HC := hide (fun W (h : IsInts W a ws) => slotCheck_any a n c ws fuel s W h hn hm)
  have HN := hide hn
  clear hn
  have b0 := hide (blk_alloc (heap_alloc_last w (.cells #[.slice a n c, .int .i64 fuel] 28)) (.cells #[.slice none 0 0, .int .i64 0] 28))
  have b1 : Hid (((w.alloc (.cells #[.slice a n c, .int .i64 fuel] 28)).alloc (.cells #[.slice none 0 0, .int .i64 0] 28)).heap[w.heap.size + 1]? = some (.cells #[.slice none 0 0, .int .i64 0] 28 (0, 0))) := by
    show _ = _
    simpa using heap_alloc_last (w.alloc _) _
  have hw : Below w.heap.size w ((w.alloc (.cells #[.slice a n c, .int .i64 fuel] 28)).alloc (.cells #[.slice none 0 0, .int .i64 0] 28)) :=
    ((Below.refl _ _).alloc (Nat.le_refl _) _).alloc (by simp) _
  have i0 := h.below hw
  go_enter Try.func42, Try.ntmps42
  go_wp2_with fail
  generalize (w.alloc (.cells #[.slice a n c, .int .i64 fuel] 28)).alloc (.cells #[.slice none 0 0, .int .i64 0] 28) = W at *
  refine (unhide HC _ i0).mono ?_
  rintro e w1 ⟨rfl, hb1⟩
  replace b0 := hide (blk_below b0.out hb1)
  replace b1 := hide (blk_below b1.out hb1)
  replace i0 := i0.below hb1
  replace hw := hw.trans (hb1.mono hw.size)
  clear hb1
  by_cases e1 : slotE ws fuel s = 0
  rotate_left
  · have r0 := blk_cell b1.out 0 _ rfl
    have r1 := blk_cell b1.out 1 _ rfl
    have f0 := blk_free b1.out 0
    have f1 := blk_free b1.out 1
    have e1' : (slotE ws fuel s != 0) = true := by simpa using e1
    have hr : Hid (clrS ws fuel s = ([], 0, slotE ws fuel s)) := by show _ = _; unfold clrS; rw [if_pos e1]
    go_wp2
    refine bodyPost_ret (v := .tuple #[.agg #[.slice none 0 0, .int .i64 0], .int .i64 (slotE ws fuel s)]) (by simp [results, Try.results42, go_sem, r0, r1]) rfl ?_
    exact answers_err hr.out ((hw.setCell (by simp) _).setCell (by simp) _)
  have e1' : (slotE ws fuel s != 0) = false := by simpa using e1
  have hr : Hid (clrS ws fuel s = clrAt ws fuel s 2) := by show _ = _; unfold clrS; rw [if_neg (by simpa using e1)]
  obtain ⟨-, -, p0, p1⟩ := slotE_parts e1
  clear e1
  go_wp2
  go_loopw [16] (fun i wr => ∃ k : Nat, k ≤ 2 ∧ i = .int .i64 k ∧ ClrInv w ws fuel s k wr) (fun i _ => 2 - (intOf i).toNat)
  case atStart => exact ⟨0, Nat.zero_le _, rfl, a, n, c, b0.out, b1.out, i0, HN.out, hm, hcap, .inl rfl, hw, rfl⟩
  case round =>
    obtain ⟨k, hk, rfl, a4, n4, c4, B0, B1, hi4, hn4, hm4, hc4, hf4, hw4, he4⟩ := hrel
    by_cases hlt : k < 2
    · have x0 : wr.cell? ⟨w.heap.size, 0, none⟩ = some (.slice a4 n4 c4) := blk_cell B0 0 _ rfl
      have x1 : wr.cell? ⟨w.heap.size, 1, none⟩ = some (.int .i64 (clrAt ws fuel s k).2.1) := blk_cell B0 1 _ rfl
      have y0 := blk_free B0 0
      have y1 := blk_free B0 1
      have lt0 := blk_lt B0
      have lt1 := blk_lt B1
      have HG := hide (clrAt_go he4)
      have HE := hide (fun W' (hb : Below wr.heap.size wr W') => erase_any a4 n4 c4 (clrAt ws fuel s k).1 (clrAt ws fuel s k).2.1 (2 + s * 2 + k) W' (hi4.below hb) hn4 hm4)
      rw [← HG.out] at HE
      have hB0 := hide B0
      have hB1 := hide B1
      generalize (clrAt ws fuel s k).2.1 = f4 at *
      clear B0 B1 hn4 he4 hi4
      have i3 : IntKind.i64.wrap (2 + s * 2 + (k : Int)) = 2 + s * 2 + (k : Int) := by rw [IntKind.wrap_i64]; omega
      go_upto_region 8 with fail
      go_cut [8] (fun v8 wc => v8 = .int .i64 (clrAt ws fuel s (k + 1)).2.2 ∧ ∃ a5 n5 c5, wc.heap[w.heap.size]? = some (.cells #[.slice a5 n5 c5, .int .i64 (clrAt ws fuel s (k + 1)).2.1] 28 (0, 0)) ∧ wc.heap[w.heap.size + 1]? = some (.cells #[.slice none 0 0, .int .i64 0] 28 (0, 0)) ∧ IsInts wc a5 (clrAt ws fuel s (k + 1)).1 ∧ (clrAt ws fuel s (k + 1)).1.length = n5 ∧ n5 ≤ c5 ∧ FreshA (w.heap.size + 2) a5 ∧ Below w.heap.size w wc)
      case first =>
        go_region_with ((first | (go_at_call 81; refine (sectorOf_any s _ p0 p1).mono ?_; rintro e w5 ⟨rfl, rfl⟩) | (go_at_call 18; refine (unhide HE _ ?_).mono ?_; exact (Below.refl _ _).drew; rintro e w6 ⟨⟨a6, n6, c6, rfl, hi6, hn6, hc6, hf6⟩, hb6⟩; have hb7 : Below wr.heap.size wr w6 := (Below.trans (Below.refl _ wr).drew hb6); have q0 := blk_cell (blk_below hB0.out hb7) 0 _ rfl; have q1 := blk_cell (blk_below hB0.out hb7) 1 _ rfl; have q2 := blk_free (blk_below hB0.out hb7) 0; have q3 := blk_free (blk_below hB0.out hb7) 1)))
        all_goals
          go_wp2_with fail
          go_meet
          case rel =>
            have lt2 : w.heap.size + 2 ≤ wr.heap.size := by omega
            refine ⟨rfl, a6, n6, c6, ?_, ?_, (hi6.other (B := wr.heap.size) hf6 lt0 0 _).other (B := wr.heap.size) hf6 lt0 1 _, hn6, hc6, FreshA.mono hf6 lt2, ((hw4.trans (hb7.mono hw4.size)).setCell (p := ⟨w.heap.size, 0, none⟩) (Nat.le_refl _) _).setCell (p := ⟨w.heap.size, 1, none⟩) (Nat.le_refl _) _⟩
            · have := blk_below hB0.out hb7
              simp only [World.setCell, Array.getElem?_modify]
              simp [this]
            · rw [Below.heap_setCell _ _ _ _ (by simp), Below.heap_setCell _ _ _ _ (by simp)]
              exact blk_below hB1.out hb7
      case rest =>
        obtain ⟨rfl, a5, n5, c5, C0, C1, hi5, hn5, hc5, hf5, hw5⟩ := hcut
        have hC0 := hide C0
        have hC1 := hide C1
        have hn5' : n5 ≤ maxLen := by rw [← hn5]; exact Nat.le_trans (clrAt_len _ _ _ _) (by rw [HN.out]; exact hm)
        have x0 : wc.cell? ⟨w.heap.size, 0, none⟩ = some (.slice a5 n5 c5) := blk_cell C0 0 _ rfl
        have x1 : wc.cell? ⟨w.heap.size, 1, none⟩ = some (.int .i64 (clrAt ws fuel s (k + 1)).2.1) := blk_cell C0 1 _ rfl
        have r0 := blk_cell C1 0 _ rfl
        have r1 := blk_cell C1 1 _ rfl
        have f0 := blk_free C1 0
        have f1 := blk_free C1 1
        clear C0 C1
        have HN5 := hide hn5
        clear hn5
        by_cases e5 : (clrAt ws fuel s (k + 1)).2.2 = 0
        · have e5' : ((clrAt ws fuel s (k + 1)).2.2 != 0) = false := by simpa using e5
          have E5 := hide e5
          clear e5
          go_wp2
          go_roundw
          case rel => exact ⟨k + 1, by omega, by go_num, a5, n5, c5, hC0.out, hC1.out, hi5, HN5.out, hn5', hc5, .inr hf5, hw5, E5.out⟩
          case measure => simp [intOf]; omega
        · have e5' : ((clrAt ws fuel s (k + 1)).2.2 != 0) = true := by simpa using e5
          have hend : Hid (clrS ws fuel s = clrAt ws fuel s (k + 1)) := by
            show _ = _
            rw [hr.out]
            rcases k with _ | _ | k
            · exact clrAt_stay e5
            · rfl
            · omega
          clear e5
          go_wp2
          refine bodyPost_ret (v := .tuple #[.agg #[.slice a5 n5 c5, .int .i64 (clrAt ws fuel s (k + 1)).2.1], .int .i64 (clrAt ws fuel s (k + 1)).2.2]) (by simp [results, Try.results42, go_sem, r0, r1]) rfl ?_
          rw [hend.out]
          refine ⟨⟨a5, n5, c5, rfl, ?_, HN5.out, hc5, hf5.mono (by omega)⟩, (hw5.setCell (by simp) _).setCell (by simp) _⟩
          exact (hi5.other hf5 (by omega) 0 _).other hf5 (by omega) 1 _
    · have x0 : wr.cell? ⟨w.heap.size, 0, none⟩ = some (.slice a4 n4 c4) := blk_cell B0 0 _ rfl
      have x1 : wr.cell? ⟨w.heap.size, 1, none⟩ = some (.int .i64 (clrAt ws fuel s k).2.1) := blk_cell B0 1 _ rfl
      have r0 := blk_cell B1 0 _ rfl
      have r1 := blk_cell B1 1 _ rfl
      have f0 := blk_free B1 0
      have f1 := blk_free B1 1
      obtain rfl : k = 2 := by omega
      have hf5 : FreshA (w.heap.size + 2) a4 := by rcases hf4 with e | e; (· omega); exact e
      have HN5 := hide hn4
      have HE4 := hide he4
      clear B0 B1 hn4 he4
      go_wp2
      refine bodyPost_ret (v := .tuple #[.agg #[.slice a4 n4 c4, .int .i64 (clrAt ws fuel s 2).2.1], .int .i64 0]) (by simp [results, Try.results42, go_sem, r0, r1]) rfl ?_
      rw [hr.out]
      refine ⟨⟨a4, n4, c4, by rw [HE4.out], ?_, HN5.out, hc4, hf5.mono (by omega)⟩, (hw4.setCell (by simp) _).setCell (by simp) _⟩
      exact (hi4.other hf5 (by omega) 0 _).other hf5 (by omega) 1 _

end Go.Proofs.Ytanpglfpopbfkaa
