/- The contracts of the small functions of package slot: within, sectorOf, headPlace, bodyPlace, sealable, headOf, check. -/
import Derived.Test.YtanpglfpopbfkaaErase
namespace Go.Proofs.Ytanpglfpopbfkaa
open Go.RowKit

def inB (n lo hi : Int) : Bool := decide (lo ≤ n ∧ n ≤ hi)

set_option maxHeartbeats 400000 in
theorem slWithin_any (n lo hi : Int) (w : World) : Calls Try.prog 82 #[.int .i64 n, .int .i64 lo, .int .i64 hi] w fun e w' => e = .returned (.bool (inB n lo hi)) ∧ w' = w := by
  by_cases h0 : lo ≤ n
  · by_cases h1 : n ≤ hi
    · go_enter Try.func82, Try.ntmps82
      go_wp2
      go_ret
      exact ⟨ret_bool (by unfold inB; simp; omega), rfl⟩
    · have hd : decide (n ≤ hi) = false := by simp; omega
      go_enter Try.func82, Try.ntmps82
      go_wp2
      go_ret
      exact ⟨ret_bool (by unfold inB; simp; omega), rfl⟩
  · have hd : decide (lo ≤ n) = false := by simp; omega
    go_enter Try.func82, Try.ntmps82
    go_wp2
    go_ret
    exact ⟨ret_bool (by unfold inB; simp; omega), rfl⟩

set_option maxHeartbeats 400000 in
theorem sectorOf_any (s : Int) (w : World) (h0 : 0 ≤ s) (h1 : s ≤ 1) : Calls Try.prog 81 #[.int .i64 s] w fun e w' => e = .returned (.int .i64 (2 + s * 2)) ∧ w' = w := by
  go_enter Try.func81, Try.ntmps81
  go_wp2
  go_ret
  exact ⟨rfl, rfl⟩

set_option maxHeartbeats 400000 in
theorem headPlace_any (s : Int) (w : World) (h0 : 0 ≤ s) (h1 : s ≤ 1) : Calls Try.prog 86 #[.int .i64 s] w fun e w' => e = .returned (.int .i64 (64 + 64 * s)) ∧ w' = w := by
  go_enter Try.func86, Try.ntmps86
  go_wp2_with fail
  refine (sectorOf_any s _ h0 h1).mono ?_
  rintro e w1 ⟨rfl, rfl⟩
  go_wp2
  go_ret
  exact ⟨ret_intk (by omega), rfl⟩

set_option maxHeartbeats 400000 in
theorem bodyPlace_any (s : Int) (w : World) (h0 : 0 ≤ s) (h1 : s ≤ 1) : Calls Try.prog 83 #[.int .i64 s] w fun e w' => e = .returned (.int .i64 (68 + 64 * s)) ∧ w' = w := by
  go_enter Try.func83, Try.ntmps83
  go_wp2_with fail
  refine (headPlace_any s _ h0 h1).mono ?_
  rintro e w1 ⟨rfl, rfl⟩
  go_wp2
  go_ret
  exact ⟨ret_intk (by omega), rfl⟩

def sealB (long name : Int) : Bool := inB long 1 40 && inB name 1 60

set_option maxHeartbeats 400000 in
theorem sealable_any (long name : Int) (w : World) : Calls Try.prog 84 #[.int .i64 long, .int .i64 name] w fun e w' => e = .returned (.bool (sealB long name)) ∧ w' = w := by
  go_enter Try.func84, Try.ntmps84
  go_wp2_with fail
  refine (slWithin_any long 1 40 _).mono ?_
  rintro e w1 ⟨rfl, rfl⟩
  cases hb : inB long 1 40
  · have HB := hide hb
    clear hb
    go_wp2
    go_ret
    exact ⟨ret_bool (by unfold sealB; rw [HB.out]; rfl), rfl⟩
  · have HB := hide hb
    clear hb
    go_wp2_with fail
    refine (slWithin_any name 1 60 _).mono ?_
    rintro e w1 ⟨rfl, rfl⟩
    go_wp2
    go_ret
    exact ⟨ret_bool (by unfold sealB; rw [HB.out]; rfl), rfl⟩

/-- A word turned over. -/
def xorW (x : Int) : Int := bits .xor .i64 x 65535
/-- The head of a slot: four words. -/
def headL (long name : Int) : List Int := [long, name, xorW long, xorW name]

set_option maxHeartbeats 400000 in
theorem slHeadOf_any (long name : Int) (w : World) : Calls Try.prog 85 #[.int .i64 long, .int .i64 name] w fun e w' => e = .returned (.agg #[.int .i64 long, .int .i64 name, .int .i64 (xorW long), .int .i64 (xorW name)]) ∧ Below w.heap.size w w' := by
  go_enter Try.func85, Try.ntmps85
  go_wp2
  refine bodyPost_ret (v := .agg #[.int .i64 long, .int .i64 name, .int .i64 (xorW long), .int .i64 (xorW name)]) (by simp [results, Try.results85, go_sem, xorW]) rfl ?_
  exact ⟨rfl, ((Below.refl _ _).alloc (Nat.le_refl _) _)⟩

/-- The errors that all of package slot say first. -/
def slotE (ws : List Int) (fuel s : Int) : Int := if chk ws fuel ≠ 0 then chk ws fuel else if ws.length ≠ 192 then 4 else if inB s 0 1 = false then 5 else 0

theorem slotE_parts {ws : List Int} {fuel s : Int} (h : slotE ws fuel s = 0) : chk ws fuel = 0 ∧ ws.length = 192 ∧ 0 ≤ s ∧ s ≤ 1 := by
  unfold slotE at h
  split at h
  · rename_i c; exact absurd h c
  · split at h
    · simp at h
    · split at h
      · simp at h
      · rename_i h1 h2 h3
        simp [inB] at h3
        simp at h1 h2
        exact ⟨h1, h2, h3.1, h3.2⟩

set_option maxHeartbeats 400000 in
theorem slotCheck_any (a : Option Addr) (n c : Nat) (ws : List Int) (fuel s : Int) (w : World) (h : IsInts w a ws) (hn : ws.length = n) (hm : n ≤ maxLen) :
    Calls Try.prog 80 #[.agg #[.slice a n c, .int .i64 fuel], .int .i64 s] w fun e w' => e = .returned (.int .i64 (slotE ws fuel s)) ∧ Below w.heap.size w w' := by
  have hw : Below w.heap.size w (w.alloc (.cells #[.slice a n c, .int .i64 fuel] 28)) := (Below.refl _ _).alloc (Nat.le_refl _) _
  have B0 := hide (heap_alloc_last w (.cells #[.slice a n c, .int .i64 fuel] 28))
  have HC := hide (check_any a n c ws fuel _ (h.below hw) hn hm)
  have HN := hide hn
  clear hn
  go_enter Try.func80, Try.ntmps80
  go_wp2_with fail
  generalize w.alloc (.cells #[.slice a n c, .int .i64 fuel] 28) = W at *
  refine (unhide HC).mono ?_
  rintro e w1 ⟨rfl, hb1⟩
  have c00 := blk_cell (blk_below B0.out hb1) 0 _ rfl
  replace hw := hw.trans (hb1.mono hw.size)
  by_cases e1 : chk ws fuel = 0
  rotate_left
  · have e1' : (chk ws fuel != 0) = true := by simpa using e1
    have hr : Hid (slotE ws fuel s = chk ws fuel) := by show _ = _; unfold slotE; rw [if_pos e1]
    clear e1
    go_wp2
    go_ret
    exact ⟨ret_intk hr.out.symm, hw⟩
  have e1' : (chk ws fuel != 0) = false := by simpa using e1
  have E1 := hide e1
  clear e1
  by_cases e2 : n = 192
  rotate_left
  · have e2' : ((n : Int) != 192) = true := by simp; omega
    have hr : Hid (slotE ws fuel s = 4) := by show _ = _; unfold slotE; rw [if_neg (by simpa using E1.out), HN.out, if_pos e2]
    go_wp2
    go_ret
    exact ⟨ret_intk hr.out.symm, hw⟩
  subst e2
  go_wp2_with fail
  refine (slWithin_any s 0 1 _).mono ?_
  rintro e w2 ⟨rfl, rfl⟩
  cases e3 : inB s 0 1
  · have hr : Hid (slotE ws fuel s = 5) := by show _ = _; unfold slotE; rw [if_neg (by simpa using E1.out), HN.out, if_neg (by simp), if_pos e3]
    clear e3
    go_wp2
    go_ret
    exact ⟨ret_intk hr.out.symm, hw⟩
  · have hr : Hid (slotE ws fuel s = 0) := by show _ = _; unfold slotE; rw [if_neg (by simpa using E1.out), HN.out, if_neg (by simp), if_neg (by simp [e3])]
    clear e3
    go_wp2
    go_ret
    exact ⟨ret_intk hr.out.symm, hw⟩

end Go.Proofs.Ytanpglfpopbfkaa
