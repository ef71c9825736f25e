/- The contract of wainwrightref.CheckSlot. -/
import Derived.Test.YtanpglfpopbfkaaRSlot0
namespace Go.Proofs.Ytanpglfpopbfkaa
open Go.RowKit
attribute [local go_sem ↓] Go.wp_at_zero Go.wp_at_succ

set_option maxRecDepth 100000 in
set_option maxHeartbeats 400000 in
theorem refCheckSlot_any (a : Option Addr) (n c : Nat) (ws : List Int) (fuel s : Int) (w : World) (h : IsInts w a ws) (hn : ws.length = n) (hm : n ≤ maxLen) :
    Calls Try.prog 47 #[.agg #[.slice a n c, .int .i64 fuel], .int .i64 s] w fun e w' => e = .returned (.int .i64 (slotE ws fuel s)) ∧ Below w.heap.size w w' := by
  have hw : Below w.heap.size w (w.alloc (.cells #[.slice a n c, .int .i64 fuel] 28)) := (Below.refl _ _).alloc (Nat.le_refl _) _
  have B0 := hide (heap_alloc_last w (.cells #[.slice a n c, .int .i64 fuel] 28))
  have HC := hide (refCheck_any a n c ws fuel _ (h.below hw) hn hm)
  have HN := hide hn
  clear hn
  go_enter Try.func47, Try.ntmps47
  go_wp2_with fail
  generalize w.alloc (.cells #[.slice a n c, .int .i64 fuel] 28) = W at *
  refine (unhide HC).mono ?_
  rintro e w1 ⟨rfl, hb1⟩
  have c00 := blk_cell (blk_below B0.out hb1) 0 _ rfl
  replace hw := hw.trans (hb1.mono hw.size)
  by_cases e1 : chk ws fuel = 0
  rotate_left
  · have e1' : (chk ws fuel != 0) = true := by simpa using e1
    have hr : Hid (slotE ws fuel s = chk ws fuel) := by show _ = _; unfold slotE; rw [if_pos e1]
    clear e1
    go_wp2
    go_ret
    exact ⟨ret_intk hr.out.symm, hw⟩
  have e1' : (chk ws fuel != 0) = false := by simpa using e1
  have E1 := hide e1
  clear e1
  by_cases e2 : n = 192
  rotate_left
  · have e2' : ((n : Int) != 192) = true := by simp; omega
    have hr : Hid (slotE ws fuel s = 4) := by show _ = _; unfold slotE; rw [if_neg (by simpa using E1.out), HN.out, if_pos e2]
    go_wp2
    go_ret
    exact ⟨ret_intk hr.out.symm, hw⟩
  subst e2
  by_cases s0 : s < 0
  · have hr : Hid (slotE ws fuel s = 5) := by show _ = _; unfold slotE; rw [if_neg (by simpa using E1.out), HN.out, if_neg (by simp), if_pos (by unfold inB; simp; omega)]
    go_wp2
    go_ret
    exact ⟨ret_intk hr.out.symm, hw⟩
  · have s0' : decide (s < 0) = false := by simp; omega
    by_cases s1 : 1 < s
    · have hr : Hid (slotE ws fuel s = 5) := by show _ = _; unfold slotE; rw [if_neg (by simpa using E1.out), HN.out, if_neg (by simp), if_pos (by unfold inB; simp; omega)]
      go_wp2
      go_ret
      exact ⟨ret_intk hr.out.symm, hw⟩
    · have s1' : decide (1 < s) = false := by simp; omega
      have hr : Hid (slotE ws fuel s = 0) := by show _ = _; unfold slotE; rw [if_neg (by simpa using E1.out), HN.out, if_neg (by simp), if_neg (by unfold inB; simp; omega)]
      go_wp2
      go_ret
      exact ⟨ret_intk hr.out.symm, hw⟩

end Go.Proofs.Ytanpglfpopbfkaa
