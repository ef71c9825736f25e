/- The contracts of flash.twin, flash.fits, flash.Check. The contract of flash.twin. -/
import Derived.Test.YtanpglfpopbfkabGreatDoorPk0
import Derived.Deep.RegionHeld3
namespace Go.Proofs.YtanpglfpopbfkabGreatDoor
open Go.RowKit

def fitB (L : Nat) (at' n : Int) : Bool := decide (0 ≤ at' ∧ 0 ≤ n ∧ n ≤ (L : Int) - at')

set_option maxHeartbeats 400000 in
theorem flFits_any (a : Option Addr) (L c : Nat) (fuel at' n : Int) (w : World) (hL : L ≤ maxLen) (hn : -9223372036854775808 ≤ n ∧ n ≤ 9223372036854775807) (ha : -9223372036854775808 ≤ at' ∧ at' ≤ 9223372036854775807) :
    Calls Tryz.prog 188 #[.agg #[.slice a L c, .int .i64 fuel], .int .i64 at', .int .i64 n] w fun e w' => e = .returned (.bool (fitB L at' n)) ∧ Below w.heap.size w w' := by
  unfold maxLen at hL
  have hb : Below w.heap.size w (w.alloc (.cells #[.slice a L c, .int .i64 fuel] 48)) := (Below.refl _ _).alloc (Nat.le_refl _) _
  by_cases h0 : 0 ≤ at'
  · by_cases h1 : 0 ≤ n
    · by_cases h2 : n ≤ (L : Int) - at'
      · go_enter Tryz.func188, Tryz.ntmps188
        go_wp2
        go_ret
        exact ⟨ret_bool (by unfold fitB; simp; omega), hb⟩
      · have hd : decide (n ≤ (L : Int) - at') = false := by simp; omega
        go_enter Tryz.func188, Tryz.ntmps188
        go_wp2
        go_ret
        exact ⟨ret_bool (by unfold fitB; simp; omega), hb⟩
    · go_enter Tryz.func188, Tryz.ntmps188
      go_wp2
      go_ret
      exact ⟨ret_bool (by unfold fitB; simp; omega), hb⟩
  · go_enter Tryz.func188, Tryz.ntmps188
    go_wp2
    go_ret
    exact ⟨ret_bool (by unfold fitB; simp; omega), hb⟩

def formB (L : Nat) : Bool := decide (L % 32 = 0 ∧ 0 < L ∧ L ≤ 192)
def rangeB (xs : List Int) (fuel : Int) : Bool := decide (-1 ≤ fuel ∧ fuel ≤ 100000) && okL xs
/-- The document's Check: 4 ErrForm, 3 ErrRange, 0 OK. -/
def chk (xs : List Int) (fuel : Int) : Int := if formB xs.length = false then 4 else if rangeB xs fuel = false then 3 else 0

theorem chk_form {xs : List Int} {fuel : Int} (h : formB xs.length = false) : chk xs fuel = 4 := by unfold chk; rw [if_pos h]
theorem chk_range {xs : List Int} {fuel : Int} (h : formB xs.length = true) (h2 : rangeB xs fuel = false) : chk xs fuel = 3 := by unfold chk; rw [if_neg (by simp [h]), if_pos h2]
theorem chk_ok {xs : List Int} {fuel : Int} (h : formB xs.length = true) (h2 : rangeB xs fuel = true) : chk xs fuel = 0 := by unfold chk; rw [if_neg (by simp [h]), if_neg (by simp [h2])]
theorem ret_intk {k : IntKind} {a b : Int} (h : a = b) : Ending.returned (.int k a) = .returned (.int k b) := by rw [h]

set_option maxHeartbeats 400000 in
theorem check_any (a : Option Addr) (n c : Nat) (xs : List Int) (fuel : Int) (w : World) (h : IsInts w a xs) (hn : xs.length = n) (hm : n ≤ maxLen) :
    Calls Tryz.prog 105 #[.agg #[.slice a n c, .int .i64 fuel]] w fun e w' => e = .returned (.int .i64 (chk xs fuel)) ∧ Below w.heap.size w w' := by
  have hal := fun W (h : IsInts W a xs) => allWords_any a n c xs W h hn hm
  have HA := hide hal
  clear hal
  have h1 := h.alloc (.cells #[.slice a n c, .int .i64 fuel] 48)
  unfold maxLen at hm
  have hb : Below w.heap.size w (w.alloc (.cells #[.slice a n c, .int .i64 fuel] 48)) := (Below.refl _ _).alloc (Nat.le_refl _) _
  have HN := hide hn
  clear hn
  by_cases c1 : n = 0
  · subst c1
    go_enter Tryz.func105, Tryz.ntmps105
    go_wp2
    go_ret
    exact ⟨ret_intk (chk_form (by rw [HN.out]; rfl)).symm, hb⟩
  have c1' : ((n : Int) == 0) = false := by simp; omega
  by_cases c2 : n % 32 = 0
  rotate_left
  · have c2' : ((n : Int) % 32 != 0) = true := by simp; omega
    go_enter Tryz.func105, Tryz.ntmps105
    go_wp2
    go_ret
    exact ⟨ret_intk (chk_form (by rw [HN.out]; unfold formB; simp; omega)).symm, hb⟩
  have c2' : ((n : Int) % 32 != 0) = false := by simp; omega
  by_cases c3 : n ≤ 192
  rotate_left
  · go_enter Tryz.func105, Tryz.ntmps105
    go_wp2
    go_ret
    exact ⟨ret_intk (chk_form (by rw [HN.out]; unfold formB; simp; omega)).symm, hb⟩
  have hform : Hid (formB xs.length = true) := by rw [HN.out]; exact decide_eq_true ⟨c2, by omega, c3⟩
  have c3' : decide (192 < (n : Int)) = false := by simp; omega
  clear c2 c1
  by_cases c4 : fuel < -1
  · have hr : Hid (rangeB xs fuel = false) := by show _ = _; unfold rangeB; simp; omega
    go_enter Tryz.func105, Tryz.ntmps105
    go_wp2
    go_ret
    exact ⟨ret_intk (chk_range hform.out hr.out).symm, hb⟩
  have c4' : decide (fuel < -1) = false := by simp; omega
  by_cases c5 : fuel ≤ 100000
  rotate_left
  · have hr : Hid (rangeB xs fuel = false) := by show _ = _; unfold rangeB; simp; omega
    go_enter Tryz.func105, Tryz.ntmps105
    go_wp2
    go_ret
    exact ⟨ret_intk (chk_range hform.out hr.out).symm, hb⟩
  have c5' : decide (100000 < fuel) = false := by simp; omega
  cases hok : okL xs
  · have hr : Hid (rangeB xs fuel = false) := by show _ = _; unfold rangeB; simp [hok]
    have HO := hide hok
    clear hok
    go_enter Tryz.func105, Tryz.ntmps105
    go_wp2_with fail
    refine (unhide HA _ h1).mono ?_
    rintro e w' ⟨rfl, rfl⟩
    rw [HO.out]
    go_wp2
    go_ret
    exact ⟨ret_intk (chk_range hform.out hr.out).symm, hb⟩
  · have hr : Hid (rangeB xs fuel = true) := by show _ = _; unfold rangeB; simp [hok]; omega
    have HO := hide hok
    clear hok
    go_enter Tryz.func105, Tryz.ntmps105
    go_wp2_with fail
    refine (unhide HA _ h1).mono ?_
    rintro e w' ⟨rfl, rfl⟩
    rw [HO.out]
    go_wp2
    go_ret
    exact ⟨ret_intk (chk_ok hform.out hr.out).symm, hb⟩

end Go.Proofs.YtanpglfpopbfkabGreatDoor

namespace Go.Proofs.YtanpglfpopbfkabGreatDoor
open Go.RowKit

set_option maxHeartbeats 400000 in
theorem twin_any (a : Option Addr) (n c : Nat) (xs : List Int) (fuel : Int) (w : World) (h : IsInts w a xs) (hn : xs.length = n) (hsz : n * 8 ≤ 140737488351232) :
    Calls Tryz.prog 185 #[.agg #[.slice a n c, .int .i64 fuel]] w fun e w' => ∃ g, w.heap.size ≤ g ∧ e = .returned (.agg #[.slice (some ⟨g, 0, none⟩) n n, .int .i64 fuel]) ∧ OwnInts w' g xs ∧ Below w.heap.size w w' := by
  have htw := fun W (h : IsInts W a xs) => twinWords_any a n c xs W h hn hsz
  have HT := hide htw
  clear htw
  have h1 := (h.alloc (.cells #[.slice a n c, .int .i64 fuel] 48)).alloc (.cells #[.slice none 0 0, .int .i64 0] 48)
  go_enter Tryz.func185, Tryz.ntmps185
  go_wp2_with fail
  go_region_held3 (fun w' => w'.cell? ⟨w.heap.size, 0, none⟩ = some (.slice a n c) ∧ w'.cell? ⟨w.heap.size, 1, none⟩ = some (.int .i64 fuel)) (first | exact ⟨by assumption, by assumption⟩ | go_keep)
    ((go_at_call 192; refine (unhide HT _ ?_).mono ?_; exact h1; rintro e w1 ⟨rfl, ho1, hb1⟩; have q0 : w1.cell? ⟨w.heap.size, 0, none⟩ = some (.slice a n c) := (by rw [hb1.cell (by simp; omega)]; simp); have q1 : w1.cell? ⟨w.heap.size, 1, none⟩ = some (.int .i64 fuel) := (by rw [hb1.cell (by simp; omega)]; simp);
      have q2 : w1.cell? ⟨w.heap.size + 1, 0, none⟩ = some (.slice none 0 0) := (by rw [hb1.cell (by simp)]; simp); have q3 : w1.cell? ⟨w.heap.size + 1, 1, none⟩ = some (.int .i64 0) := (by rw [hb1.cell (by simp)]; simp);
      have q4 : w1.frozen? ⟨w.heap.size + 1, 0, none⟩ = false := (by rw [hb1.frozen (by simp)]; simp); have q5 : w1.frozen? ⟨w.heap.size + 1, 1, none⟩ = false := (by rw [hb1.frozen (by simp)]; simp)))
  go_wp2
  refine bodyPost_ret (v := .agg #[.slice (some ⟨w.heap.size + 1 + 1, 0, none⟩) n n, .int .i64 fuel]) (by simp [results, Tryz.results185, go_sem, q2, q3]) rfl ⟨w.heap.size + 1 + 1, by omega, rfl, ?_, ?_⟩
  · simp at ho1
    unfold OwnInts
    rw [Below.heap_setCell _ _ _ _ (by simp), Below.heap_setCell _ _ _ _ (by simp)]
    exact ho1
  · refine Below.setCell (Below.setCell ?_ (by simp) _) (by simp) _
    have hb0 : Below w.heap.size w ((w.alloc (.cells #[.slice a n c, .int .i64 fuel] 48)).alloc (.cells #[.slice none 0 0, .int .i64 0] 48)) := ((Below.refl _ _).alloc (Nat.le_refl _) _).alloc (by simp) _
    exact hb0.drew.trans (hb1.mono (by simp; omega))

end Go.Proofs.YtanpglfpopbfkabGreatDoor
