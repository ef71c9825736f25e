/- That slices.Equal says whether two slices of ints hold the same. -/
import Derived.Test.YtanpglfpopbfkabDoorBase0
namespace Go.Proofs.YtanpglfpopbfkabDoor
open Go.RowKit

set_option maxHeartbeats 400000 in
theorem equal_any (a0 a1 : Option Addr) (c0 c1 : Nat) (xs ys : List Int) (w : World) (h0 : IsInts w a0 xs) (h1 : IsInts w a1 ys) (hx : xs.length ≤ maxLen) (hy : ys.length ≤ maxLen) :
    Calls Tryd.prog 21 #[.slice a0 xs.length c0, .slice a1 ys.length c1] w fun e w' => e = .returned (.bool (eqL xs ys)) ∧ ∃ n, w' = w.drewN n := by
  unfold maxLen at hx hy
  by_cases hl : xs.length = ys.length
  · have hbl : ((xs.length : Int) != (ys.length : Int)) = false := by simp [hl]
    have HL : Hid (xs.length = ys.length) := hl
    clear hl
    go_enter Tryd.func21, Tryd.ntmps21
    go_wp2
    go_loopw [13] (fun i wr => ∃ k : Nat, k ≤ xs.length ∧ i = .int .i64 k ∧ xs.take k = ys.take k ∧ ∃ n, wr = w.drewN n) (fun i _ => xs.length - (intOf i).toNat)
    case atStart => exact ⟨0, Nat.zero_le _, rfl, rfl, 0, rfl⟩
    case round =>
      obtain ⟨k, hk, rfl, ht, n, rfl⟩ := hrel
      have HT : Hid (xs.take k = ys.take k) := ht
      clear ht
      by_cases hlt : k < xs.length
      · have hlt2 : k < ys.length := by have := HL.out; omega
        rcases h0 with rfl | ⟨b0, o0, rfl, hc0⟩
        · simp at hlt
        rcases h1 with rfl | ⟨b1, o1, rfl, hc1⟩
        · simp at hlt2
        have e0 := hc0 k hlt
        have e1 := hc1 k hlt2
        clear hc0 hc1
        by_cases he : xs[k] = ys[k]
        · have hbe : (xs[k] != ys[k]) = false := by simp [he]
          have HE : Hid (xs[k] = ys[k]) := he
          clear he
          go_wp2
          go_quiet (fail)
          go_wp2
          go_roundw
          case rel => exact ⟨k + 1, by omega, by go_num, take_step hlt hlt2 HT.out HE.out, n + nq, rfl⟩
          case measure => simp [intOf]; omega
        · have hbe : (xs[k] != ys[k]) = true := by simpa using he
          go_wp2
          go_quiet (fail)
          go_wp2
          go_ret
          exact ⟨ret_bool (eqL_ne hlt hlt2 he).symm, n + nq, by simp⟩
      · go_wp2
        go_ret
        exact ⟨ret_bool (eqL_take HL.out (by omega) HT.out).symm, n, rfl⟩
  · have hbl : ((xs.length : Int) != (ys.length : Int)) = true := by simp; omega
    go_enter Tryd.func21, Tryd.ntmps21
    go_wp2
    go_ret
    exact ⟨ret_bool (eqL_len hl).symm, 0, rfl⟩

/-- The same, the lengths and the answer by themselves. -/
theorem equal_at (a0 a1 : Option Addr) (n0 n1 c0 c1 : Nat) (xs ys : List Int) (q : Bool) (w : World) (h0 : IsInts w a0 xs) (h1 : IsInts w a1 ys) (e0 : xs.length = n0) (e1 : ys.length = n1) (hq : eqL xs ys = q) (hx : n0 ≤ maxLen) (hy : n1 ≤ maxLen) :
    Calls Tryd.prog 21 #[.slice a0 n0 c0, .slice a1 n1 c1] w fun e w' => e = .returned (.bool q) ∧ ∃ n, w' = w.drewN n := by
  subst e0 e1 hq
  exact equal_any a0 a1 c0 c1 xs ys w h0 h1 hx hy

end Go.Proofs.YtanpglfpopbfkabDoor
