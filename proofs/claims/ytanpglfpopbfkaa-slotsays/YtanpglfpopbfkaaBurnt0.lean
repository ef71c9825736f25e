/- The contract of wainwrightlaw.at. -/
import Derived.Test.YtanpglfpopbfkaaNew0
namespace Go.Proofs.Ytanpglfpopbfkaa
open Go.RowKit

set_option maxHeartbeats 400000 in
theorem at_any (k n : Int) (w : World) (h0 : 0 < n) (h1 : n ≤ 9223372036854775807) (hk : -9223372036854775808 ≤ k ∧ k ≤ 9223372036854775807) :
    Calls Try.prog 29 #[.int .i64 k, .int .i64 n] w fun e w' => e = .returned (.int .i64 (k % n)) ∧ w' = w := by
  have hz : (n == 0) = false := by simp; omega
  have t1 := Int.emod_nonneg k (show n ≠ 0 by omega)
  have t2 := Int.emod_lt_of_pos k h0
  by_cases c : 0 ≤ k
  · have ht : k.tmod n = k % n := Int.tmod_eq_emod_of_nonneg c
    go_enter Try.func29, Try.ntmps29
    go_wp2
    go_ret
    exact ⟨rfl, rfl⟩
  · by_cases d : n ∣ k
    · have ht : k.tmod n = k % n := by rw [Int.tmod_eq_emod, if_pos (Or.inr d)]; omega
      go_enter Try.func29, Try.ntmps29
      go_wp2
      go_ret
      exact ⟨rfl, rfl⟩
    · have ht : k.tmod n = k % n - n := by rw [Int.tmod_eq_emod, if_neg (by simp [d]; omega)]; omega
      have hneg : k % n - n < 0 := by omega
      go_enter Try.func29, Try.ntmps29
      go_wp2
      go_ret
      exact ⟨ret_intk (by omega), rfl⟩

theorem Answers.opened {w : World} {r : List Int × Int × Int} {e : Ending} {w' : World} {ws : List Int} {fuel err : Int} (h : Answers w r e w') (hr : r = (ws, fuel, err)) :
    ∃ a n c, e = .returned (.tuple #[.agg #[.slice a n c, .int .i64 fuel], .int .i64 err]) ∧ IsInts w' a ws ∧ ws.length = n ∧ n ≤ c ∧ FreshA w.heap.size a ∧ Below w.heap.size w w' := by
  subst hr
  obtain ⟨⟨a, n, c, h1, h2, h3, h4, h6⟩, h5⟩ := h
  exact ⟨a, n, c, h1, h2, h3, h4, h6, h5⟩

theorem Reads.opened {w : World} {r : List Int × Int} {e : Ending} {w' : World} {ws : List Int} {err : Int} (h : Reads w r e w') (hr : r = (ws, err)) :
    ∃ a n c, e = .returned (.tuple #[.slice a n c, .int .i64 err]) ∧ IsInts w' a ws ∧ ws.length = n ∧ n ≤ c ∧ FreshA w.heap.size a ∧ Below w.heap.size w w' := by
  subst hr
  obtain ⟨⟨a, n, c, h1, h2, h3, h4, h6⟩, h5⟩ := h
  exact ⟨a, n, c, h1, h2, h3, h4, h6, h5⟩

end Go.Proofs.Ytanpglfpopbfkaa
