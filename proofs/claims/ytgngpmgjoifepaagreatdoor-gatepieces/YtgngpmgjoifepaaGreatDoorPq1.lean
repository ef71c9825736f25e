/- The contract of flash.twin. -/
import Derived.Test.YtgngpmgjoifepaaGreatDoorPq0
import Derived.Deep.RegionHeld3
namespace Go.Proofs.YtgngpmgjoifepaaGreatDoor
open Go.RowKit

set_option maxHeartbeats 400000 in
theorem twin_any (a : Option Addr) (n c : Nat) (xs : List Int) (fuel : Int) (w : World) (h : IsInts w a xs) (hn : xs.length = n) (hsz : n * 8 ≤ 140737488351232) :
    Calls Tryz.prog 197 #[.agg #[.slice a n c, .int .i64 fuel]] w fun e w' => ∃ g, w.heap.size ≤ g ∧ e = .returned (.agg #[.slice (some ⟨g, 0, none⟩) n n, .int .i64 fuel]) ∧ OwnInts w' g xs ∧ Below w.heap.size w w' := by
  have htw := fun W (h : IsInts W a xs) => twinWords_any a n c xs W h hn hsz
  have HT := hide htw
  clear htw
  have h1 := (h.alloc (.cells #[.slice a n c, .int .i64 fuel] 27)).alloc (.cells #[.slice none 0 0, .int .i64 0] 27)
  go_enter Tryz.func197, Tryz.ntmps197
  go_wp2_with fail
  go_region_held3 (fun w' => w'.cell? ⟨w.heap.size, 0, none⟩ = some (.slice a n c) ∧ w'.cell? ⟨w.heap.size, 1, none⟩ = some (.int .i64 fuel)) (first | exact ⟨by assumption, by assumption⟩ | go_keep)
    ((go_at_call 217; refine (unhide HT _ ?_).mono ?_; exact h1; rintro e w1 ⟨rfl, ho1, hb1⟩; have q0 : w1.cell? ⟨w.heap.size, 0, none⟩ = some (.slice a n c) := (by rw [hb1.cell (by simp; omega)]; simp); have q1 : w1.cell? ⟨w.heap.size, 1, none⟩ = some (.int .i64 fuel) := (by rw [hb1.cell (by simp; omega)]; simp);
      have q2 : w1.cell? ⟨w.heap.size + 1, 0, none⟩ = some (.slice none 0 0) := (by rw [hb1.cell (by simp)]; simp); have q3 : w1.cell? ⟨w.heap.size + 1, 1, none⟩ = some (.int .i64 0) := (by rw [hb1.cell (by simp)]; simp);
      have q4 : w1.frozen? ⟨w.heap.size + 1, 0, none⟩ = false := (by rw [hb1.frozen (by simp)]; simp); have q5 : w1.frozen? ⟨w.heap.size + 1, 1, none⟩ = false := (by rw [hb1.frozen (by simp)]; simp)))
  go_wp2
  refine bodyPost_ret (v := .agg #[.slice (some ⟨w.heap.size + 1 + 1, 0, none⟩) n n, .int .i64 fuel]) (by simp [results, Tryz.results197, go_sem, q2, q3]) rfl ⟨w.heap.size + 1 + 1, by omega, rfl, ?_, ?_⟩
  · simp at ho1
    unfold OwnInts
    rw [Below.heap_setCell _ _ _ _ (by simp), Below.heap_setCell _ _ _ _ (by simp)]
    exact ho1
  · refine Below.setCell (Below.setCell ?_ (by simp) _) (by simp) _
    have hb0 : Below w.heap.size w ((w.alloc (.cells #[.slice a n c, .int .i64 fuel] 27)).alloc (.cells #[.slice none 0 0, .int .i64 0] 27)) := ((Below.refl _ _).alloc (Nat.le_refl _) _).alloc (by simp) _
    exact hb0.drew.trans (hb1.mono (by simp; omega))

end Go.Proofs.YtgngpmgjoifepaaGreatDoor
