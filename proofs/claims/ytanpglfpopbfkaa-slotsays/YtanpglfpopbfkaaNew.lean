/- The contract of flash.Same. -/
import Derived.Test.YtanpglfpopbfkaaRead
import Derived.Test.YtanpglfpopbfkaaNew0
namespace Go.Proofs.Ytanpglfpopbfkaa
open Go.RowKit

set_option maxHeartbeats 400000 in
theorem same_any (a : Option Addr) (n c : Nat) (xs : List Int) (fuel : Int) (a2 : Option Addr) (n2 c2 : Nat) (ys : List Int) (fuel2 : Int) (w : World)
    (h : IsInts w a xs) (hn : xs.length = n) (hm : n ≤ maxLen) (h2 : IsInts w a2 ys) (hn2 : ys.length = n2) (hm2 : n2 ≤ maxLen) :
    Calls Try.prog 24 #[.agg #[.slice a n c, .int .i64 fuel], .agg #[.slice a2 n2 c2, .int .i64 fuel2]] w fun e w' => e = .returned (.bool (decide (fuel = fuel2) && eqL xs ys)) ∧ Below w.heap.size w w' := by
  have HE := hide (fun W (h : IsInts W a xs) (h2 : IsInts W a2 ys) => equal_at a a2 n n2 c c2 xs ys _ W h h2 hn hn2 rfl hm hm2)
  have hw : Below w.heap.size w ((w.alloc (.cells #[.slice a n c, .int .i64 fuel] 28)).alloc (.cells #[.slice a2 n2 c2, .int .i64 fuel2] 28)) :=
    ((Below.refl _ _).alloc (Nat.le_refl _) _).alloc (by simp) _
  have i0 := h.below hw
  have i1 := h2.below hw
  clear hn hn2
  by_cases e1 : fuel = fuel2
  · subst e1
    go_enter Try.func24, Try.ntmps24
    go_wp2_with fail
    refine (unhide HE _ i0 i1).mono ?_
    rintro e w1 ⟨rfl, m, rfl⟩
    go_wp2
    go_ret
    exact ⟨ret_bool (by simp), below_drewN hw m⟩
  · have e1' : (fuel == fuel2) = false := by simpa using e1
    go_enter Try.func24, Try.ntmps24
    go_wp2
    go_ret
    exact ⟨ret_bool (by simp [e1]), hw⟩

end Go.Proofs.Ytanpglfpopbfkaa
