/- The contract of flash.New, and of wainwrightref.SameFlash. -/
import Derived.Test.YtanpglfpopbfkaaRead0
namespace Go.Proofs.Ytanpglfpopbfkaa
open Go.RowKit

set_option maxHeartbeats 400000 in
theorem refSame_any (a : Option Addr) (n c : Nat) (xs : List Int) (fuel : Int) (a2 : Option Addr) (n2 c2 : Nat) (ys : List Int) (fuel2 : Int) (w : World)
    (h : IsInts w a xs) (hn : xs.length = n) (hm : n ≤ maxLen) (h2 : IsInts w a2 ys) (hn2 : ys.length = n2) (hm2 : n2 ≤ maxLen) :
    Calls Try.prog 25 #[.agg #[.slice a n c, .int .i64 fuel], .agg #[.slice a2 n2 c2, .int .i64 fuel2]] w fun e w' => e = .returned (.bool (decide (fuel = fuel2) && eqL xs ys)) ∧ Below w.heap.size w w' := by
  have HE := hide (fun W (h : IsInts W a xs) (h2 : IsInts W a2 ys) => equal_at a a2 n n2 c c2 xs ys _ W h h2 hn hn2 rfl hm hm2)
  have hw : Below w.heap.size w ((w.alloc (.cells #[.slice a n c, .int .i64 fuel] 28)).alloc (.cells #[.slice a2 n2 c2, .int .i64 fuel2] 28)) :=
    ((Below.refl _ _).alloc (Nat.le_refl _) _).alloc (by simp) _
  have i0 := h.below hw
  have i1 := h2.below hw
  clear hn hn2
  by_cases e1 : fuel = fuel2
  · subst e1
    go_enter Try.func25, Try.ntmps25
    go_wp2_with fail
    refine (unhide HE _ i0 i1).mono ?_
    rintro e w1 ⟨rfl, m, rfl⟩
    go_wp2
    go_ret
    exact ⟨ret_bool (by simp), below_drewN hw m⟩
  · have e1' : (fuel == fuel2) = false := by simpa using e1
    go_enter Try.func25, Try.ntmps25
    go_wp2
    go_ret
    exact ⟨ret_bool (by simp [e1]), hw⟩

/-- The document's New. -/
def newS (s : Int) : List Int × Int × Int := if s < 1 ∨ 6 < s then ([], 0, 3) else (List.replicate (s.toNat * 32) 65535, -1, 0)

def fillTo (L j : Nat) : List Int := List.replicate j 65535 ++ List.replicate (L - j) 0
theorem fillTo_length {L j : Nat} (h : j ≤ L) : (fillTo L j).length = L := by simp [fillTo]; omega
theorem fillTo_step {L j : Nat} (h : j < L) : (fillTo L j).set j 65535 = fillTo L (j + 1) := by
  unfold fillTo
  obtain ⟨r, hr⟩ : ∃ r, L - j = r + 1 := ⟨L - j - 1, by omega⟩
  rw [List.set_append_right _ _ (by simp), hr, show L - (j + 1) = r by omega]
  rw [List.replicate_succ' (n := j)]
  simp [List.replicate_succ]
theorem fillTo_end (L : Nat) : fillTo L L = List.replicate L 65535 := by simp [fillTo]

set_option maxHeartbeats 1000000 in
theorem new_any (s : Int) (w : World) : Calls Try.prog 17 #[.int .i64 s] w (Answers w (newS s)) := by
  have hw : Below w.heap.size w (w.alloc (.cells #[.slice none 0 0, .int .i64 0] 28)) := (Below.refl _ _).alloc (Nat.le_refl _) _
  by_cases s0 : s < 1
  · have hr : Hid (newS s = ([], 0, 3)) := by show _ = _; unfold newS; rw [if_pos (by omega)]
    go_enter Try.func17, Try.ntmps17
    go_wp2
    refine bodyPost_ret (v := .tuple #[.agg #[.slice none 0 0, .int .i64 0], .int .i64 3]) (by simp [results, Try.results17, go_sem]) rfl ?_
    exact answers_err hr.out hw
  by_cases s1 : s ≤ 6
  rotate_left
  · have hr : Hid (newS s = ([], 0, 3)) := by show _ = _; unfold newS; rw [if_pos (by omega)]
    go_enter Try.func17, Try.ntmps17
    go_wp2
    refine bodyPost_ret (v := .tuple #[.agg #[.slice none 0 0, .int .i64 0], .int .i64 3]) (by simp [results, Try.results17, go_sem]) rfl ?_
    exact answers_err hr.out hw
  have s1' : decide (6 < s) = false := by simp; omega
  obtain ⟨k, rfl⟩ := Int.eq_ofNat_of_zero_le (show 0 ≤ s by omega)
  have hr : Hid (newS k = (List.replicate (k * 32) 65535, -1, 0)) := by show _ = _; unfold newS; rw [if_neg (by omega), Int.toNat_natCast]
  have hmk := make_ints (k * 32) (w.alloc (.cells #[.slice none 0 0, .int .i64 0] 28)) (by omega)
  rw [show ((k * 32 : Nat) : Int) = (k : Int) * 32 from by omega] at hmk
  have hb1 : (w.alloc (.cells #[.slice none 0 0, .int .i64 0] 28)).heap[w.heap.size]? = some (.cells #[.slice none 0 0, .int .i64 0] 28 (0, 0)) := heap_alloc_last _ _
  have HB := hide hb1
  clear hb1
  go_enter Try.func17, Try.ntmps17
  go_wp2
  go_loopw [18] (fun i wr => ∃ j : Nat, j ≤ k * 32 ∧ i = .int .i64 j ∧ OwnInts wr (w.heap.size + 1) (fillTo (k * 32) j) ∧ Below (w.heap.size + 1) (w.alloc (.cells #[.slice none 0 0, .int .i64 0] 28)) wr) (fun i _ => k * 32 - (intOf i).toNat)
  case atStart =>
    refine ⟨0, Nat.zero_le _, rfl, ?_, (Below.refl _ _).alloc (by simp) _⟩
    have := heap_alloc_last (w.alloc (.cells #[.slice none 0 0, .int .i64 0] 28)) (.cells (vals (List.replicate (k * 32) 0)).toArray 3)
    simpa [OwnInts, fillTo] using this
  case round =>
    obtain ⟨j, hj, rfl, how, hbe⟩ := hrel
    by_cases hlt : j < k * 32
    · have hjl : j < (fillTo (k * 32) j).length := by rw [fillTo_length hj]; exact hlt
      have cw := how.cell j hjl
      have fw := how.free j
      have i1 : (j : Int) < (k : Int) * 32 := by omega
      go_wp2
      go_roundw
      case rel => exact ⟨j + 1, by omega, by go_num, by rw [← fillTo_step hlt]; exact how.set j 65535, hbe.setCell (by simp) _⟩
      case measure => simp [intOf]; omega
    · have i1 : ¬ (j : Int) < (k : Int) * 32 := by omega
      have hb2 := blk_lt HB.out
      have D := hide (show wr.heap[w.heap.size]? = _ from (hbe.block _ (by omega)).trans HB.out)
      have c0 := blk_cell D.out 0 _ rfl
      have c1 := blk_cell D.out 1 _ rfl
      have f0 := blk_free D.out 0
      have f1 := blk_free D.out 1
      go_wp2
      refine bodyPost_ret (v := .tuple #[.agg #[.slice (some ⟨w.heap.size + 1, 0, none⟩) (k * 32) (k * 32), .int .i64 (-1)], .int .i64 0]) (by simp [results, Try.results17, go_sem, c0, c1]) rfl ?_
      refine ⟨⟨some ⟨w.heap.size + 1, 0, none⟩, k * 32, k * 32, by rw [hr.out], ?_, by rw [hr.out]; simp, Nat.le_refl _, FreshA.here (by omega) 0⟩, ?_⟩
      · rw [hr.out]
        obtain rfl : j = k * 32 := by omega
        rw [fillTo_end] at how
        exact ((how.other _ 0 _ (by omega)).other _ 1 _ (by omega)).isInts
      · exact ((hw.trans (hbe.mono (by omega))).setCell (by simp) _).setCell (by simp) _

end Go.Proofs.Ytanpglfpopbfkaa
