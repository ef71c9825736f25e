/- The contract of flash.Read. -/
import Derived.Test.YtanpglfpopbfkaaRead0
namespace Go.Proofs.Ytanpglfpopbfkaa
open Go.RowKit

set_option maxHeartbeats 1000000 in
theorem read_any (a : Option Addr) (n c : Nat) (ws : List Int) (fuel p m : Int) (w : World)
    (h : IsInts w a ws) (hn : ws.length = n) (hm : n ≤ maxLen) (hcap : n ≤ c) (hm2 : -9223372036854775808 ≤ m ∧ m ≤ 9223372036854775807) (hp : -9223372036854775808 ≤ p ∧ p ≤ 9223372036854775807) :
    Calls Try.prog 20 #[.agg #[.slice a n c, .int .i64 fuel], .int .i64 p, .int .i64 m] w (Reads w (readS ws fuel p m)) := by
  have HC := hide (fun W (h : IsInts W a ws) => check_any a n c ws fuel W h hn hm)
  have HF := hide (fun W => flFits_any a n c fuel p m W hm hm2 hp)
  have HN := hide hn
  clear hn
  have b0 : (w.alloc (.cells #[.slice a n c, .int .i64 fuel] 28)).heap[w.heap.size]? = some (.cells #[.slice a n c, .int .i64 fuel] 28 (0, 0)) := heap_alloc_last _ _
  have hw : Below w.heap.size w (w.alloc (.cells #[.slice a n c, .int .i64 fuel] 28)) := (Below.refl _ _).alloc (Nat.le_refl _) _
  have i0 := h.below hw
  have B0 := hide b0
  clear b0
  go_enter Try.func20, Try.ntmps20
  go_wp2_with fail
  generalize w.alloc (.cells #[.slice a n c, .int .i64 fuel] 28) = W at *
  refine (unhide HC _ i0).mono ?_
  rintro e w1 ⟨rfl, hb1⟩
  replace B0 := hide (blk_below B0.out hb1)
  replace i0 := i0.below hb1
  replace hw := hw.trans (hb1.mono hw.size)
  clear hb1
  have c00 := blk_cell B0.out 0 _ rfl
  have c01 := blk_cell B0.out 1 _ rfl
  by_cases e1 : chk ws fuel = 0
  rotate_left
  · have e1' : (chk ws fuel != 0) = true := by simpa using e1
    have hr : Hid (readS ws fuel p m = ([], chk ws fuel)) := by show _ = _; unfold readS; rw [if_pos e1]
    go_wp2
    go_ret2
    exact reads_err hr.out hw
  have e1' : (chk ws fuel != 0) = false := by simpa using e1
  have E1 := hide e1
  clear e1
  go_wp2_with fail
  refine (unhide HF _).mono ?_
  rintro e w2 ⟨rfl, hb1⟩
  replace B0 := hide (blk_below B0.out hb1)
  replace i0 := i0.below hb1
  replace hw := hw.trans (hb1.mono hw.size)
  clear hb1
  replace c00 := blk_cell B0.out 0 _ rfl
  replace c01 := blk_cell B0.out 1 _ rfl
  cases e2 : fitB n p m
  · have hr : Hid (readS ws fuel p m = ([], 5)) := by show _ = _; unfold readS; rw [if_neg (by simpa using E1.out), HN.out, if_pos e2]
    clear e2
    go_wp2
    go_ret2
    exact reads_err hr.out hw
  have parts := chk_parts E1.out
  rw [HN.out] at parts
  have fitP : 0 ≤ p ∧ 0 ≤ m ∧ m ≤ (n : Int) - p := by have := e2; unfold fitB at this; simpa using this
  have hr : Hid (readS ws fuel p m = ((ws.drop p.toNat).take m.toNat, 0)) := by show _ = _; unfold readS; rw [if_neg (by simpa using E1.out), HN.out, if_neg (by simp [e2])]
  clear e2
  obtain ⟨k, rfl⟩ := Int.eq_ofNat_of_zero_le fitP.1
  obtain ⟨j, rfl⟩ := Int.eq_ofNat_of_zero_le fitP.2.1
  unfold maxLen at hm
  rcases i0 with rfl | ⟨bb, off, rfl, hc0⟩
  · have := HN.out; simp at this; omega
  have hlen : ((ws.drop k).take j).length = j := by have := HN.out; simp; omega
  have hi : IsInts w2 (some ⟨bb, off + k, none⟩) ((ws.drop k).take j) := by
    refine .inr ⟨bb, off + k, rfl, fun i hi => ?_⟩
    rw [hlen] at hi
    have := hc0 (k + i) (by have := HN.out; omega)
    rw [Nat.add_assoc, this]
    simp [hi]
  have hi0 : k = c → IsInts w2 (some ⟨bb, off, none⟩) ((ws.drop k).take j) := fun e => .inl (by
    have : j = 0 := by omega
    rw [this]; rfl)
  rw [Int.toNat_natCast, Int.toNat_natCast] at hr
  obtain ⟨xs, hxs⟩ : ∃ xs, xs = (ws.drop k).take j := ⟨_, rfl⟩
  rw [← hxs] at hlen hi hi0 hr
  clear hxs
  have HL := hide hlen
  have HI := hide hi
  have HI0 := hide hi0
  clear hlen hi hi0 hc0
  go_wp2_with fail
  all_goals
    refine (twinWords_any _ j _ xs _ (by first | exact HI.out | exact HI0.out (by omega)) HL.out (by omega)).mono ?_
    rintro e w3 ⟨rfl, ho, hb3⟩
    go_wp2
    go_ret2
    refine ⟨⟨some ⟨w2.heap.size, 0, none⟩, j, j, by rw [hr.out]; rfl, by rw [hr.out]; exact ho.isInts, by rw [hr.out]; exact HL.out, Nat.le_refl _, FreshA.here hw.size 0⟩, hw.trans (hb3.mono hw.size)⟩

end Go.Proofs.Ytanpglfpopbfkaa
