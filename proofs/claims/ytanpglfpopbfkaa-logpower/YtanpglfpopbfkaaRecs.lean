/- The contract of log.Records. -/
import Derived.Test.YtanpglfpopbfkaaFmt
import Derived.Test.YtanpglfpopbfkaaLaid
namespace Go.Proofs.Ytanpglfpopbfkaa
open Go.RowKit
attribute [local go_sem ↓] Go.wp_at_zero Go.wp_at_succ

/-- The records of a log, and what is behind them. -/
def logR (ws : List Int) : List (List Int) := (parseS (secL ws (secN ws))).1
def restS (ws : List Int) : List Int := (parseS (secL ws (secN ws))).2
/-- The document's Records. -/
def recsS (ws : List Int) (fuel : Int) : List (List Int) × Int := if lchk ws fuel ≠ 0 then ([], lchk ws fuel) else (logR ws, 0)

def RecsAns (w : World) (r : List (List Int) × Int) (e : Ending) (w' : World) : Prop :=
  (∃ a n c, e = .returned (.tuple #[.slice a n c, .int .i64 r.2]) ∧ IsRecs w' a r.1 ∧ r.1.length = n ∧ n ≤ c ∧ c ≤ maxLen) ∧ Below w.heap.size w w'

theorem lchk_parts {ws : List Int} {fuel : Int} (h : lchk ws fuel = 0) : chk ws fuel = 0 ∧ 64 ≤ ws.length ∧ ws.length ≤ 192 ∧ okL ws = true ∧ genN ws ≠ 0 ∧ genN ws ≤ 60000 := by
  unfold lchk at h
  split at h
  · rename_i h1; exact absurd h h1
  · rename_i h1
    split at h
    · simp at h
    · rename_i h2
      have h3 : secS ws fuel = 0 := by simpa using h1
      unfold secS at h3
      split at h3
      · rename_i h4; exact absurd h3 h4
      · rename_i h4
        split at h3
        · simp at h3
        · have h5 : chk ws fuel = 0 := by simpa using h4
          have q := chk_parts h5
          exact ⟨h5, by omega, by omega, q.2.2.2, by omega, by omega⟩

theorem secN_01 (ws : List Int) : secN ws = 0 ∨ secN ws = 1 := by unfold secN; split <;> simp

set_option maxRecDepth 100000 in
set_option maxHeartbeats 1000000 in
theorem records_any (a : Option Addr) (n c : Nat) (ws : List Int) (fuel : Int) (w : World) (h : IsInts w a ws) (hn : ws.length = n) (hcap : n ≤ c) (hm : n ≤ maxLen) :
    Calls Try.prog 31 #[.agg #[.slice a n c, .int .i64 fuel]] w (RecsAns w (recsS ws fuel)) := by
  have hw : Below w.heap.size w (w.alloc (.cells #[.slice a n c, .int .i64 fuel] 28)) := (Below.refl _ _).alloc (Nat.le_refl _) _
  have i0 := h.below hw
  have HS := hide (fun W (h : IsInts W a ws) => logCheck_any a n c ws fuel W h hn hm)
  have HG := hide (fun W (h : IsInts W a ws) (h64 : 64 ≤ n) => counting_any a n c ws fuel W h hn hm h64)
  have HP := hide (fun W (h : IsInts W a ws) (hm : n ≤ 192) (hok : okL ws = true) (h64 : 64 ≤ n) => parse_any a n c ws fuel (secN ws) W h hn hcap hm hok (secN_01 ws) h64)
  have B0 := hide (heap_alloc_last w (.cells #[.slice a n c, .int .i64 fuel] 28))
  have HN := hide hn
  clear hn
  go_enter Try.func31, Try.ntmps31
  go_wp2_with fail
  generalize w.alloc (.cells #[.slice a n c, .int .i64 fuel] 28) = W at *
  refine (unhide HS _ i0).mono ?_
  rintro e w1 ⟨rfl, hb1⟩
  have hw1 := hw.trans (hb1.mono hw.size)
  by_cases e1 : lchk ws fuel = 0
  rotate_left
  · have e1' : (lchk ws fuel != 0) = true := by simpa using e1
    have hr : Hid (recsS ws fuel = ([], lchk ws fuel)) := by show _ = _; unfold recsS; rw [if_pos e1]
    go_wp2
    go_ret2
    rw [hr.out]
    exact ⟨⟨none, 0, 0, rfl, .inl rfl, rfl, Nat.le_refl _, by unfold maxLen; omega⟩, hw1⟩
  have e1' : (lchk ws fuel != 0) = false := by simpa using e1
  have hr : Hid (recsS ws fuel = (logR ws, 0)) := by show _ = _; unfold recsS; rw [if_neg (by simpa using e1)]
  have parts := lchk_parts e1
  rw [HN.out] at parts
  clear e1
  have c00 := blk_cell (blk_below B0.out hb1) 0 _ rfl
  have c01 := blk_cell (blk_below B0.out hb1) 1 _ rfl
  go_wp2_with fail
  refine (unhide HG _ (i0.below hb1) parts.2.1).mono ?_
  rintro e w2 ⟨rfl, hb2⟩
  have hw2 := hw1.trans (hb2.mono hw1.size)
  have c10 := blk_cell (blk_below (blk_below B0.out hb1) hb2) 0 _ rfl
  have c11 := blk_cell (blk_below (blk_below B0.out hb1) hb2) 1 _ rfl
  go_wp2_with fail
  refine (unhide HP _ ((i0.below hb1).below hb2) parts.2.2.1 parts.2.2.2.1 parts.2.1).mono ?_
  rintro e w3 ⟨⟨v, a3, m3, cc3, rfl, hmk, hi3, hn3, hm3, hok3⟩, hb3⟩
  obtain ⟨av, cv, rfl, q1, q2, q3⟩ := hmk.isRecs
  have HQ := hide q3
  clear hmk hn3
  have hw3 := hw2.trans (hb3.mono hw2.size)
  go_wp2
  go_ret2
  rw [hr.out]
  exact ⟨⟨av, _, cv, rfl, HQ.out, rfl, q1, q2⟩, hw3⟩

end Go.Proofs.Ytanpglfpopbfkaa
