/- The contract of wainwrightref.SameRecords: do two lists of records hold the same? -/
import Derived.Test.YtanpglfpopbfkaaRecs
namespace Go.Proofs.Ytanpglfpopbfkaa
open Go.RowKit

set_option maxRecDepth 100000 in
set_option maxHeartbeats 400000 in
theorem equalRec_any (a0 a1 : Option Addr) (n0 n1 c0 c1 : Nat) (xs ys : List Int) (w : World) (h0 : IsInts w a0 xs) (h1 : IsInts w a1 ys) (e0 : xs.length = n0) (e1 : ys.length = n1) (hx : n0 ≤ maxLen) (hy : n1 ≤ maxLen) :
    Calls Try.prog 41 #[.slice a0 n0 c0, .slice a1 n1 c1] w fun e w' => e = .returned (.bool (eqL xs ys)) ∧ ∃ n, w' = w.drewN n := by
  subst e0 e1
  unfold maxLen at hx hy
  by_cases hl : xs.length = ys.length
  · have hbl : ((xs.length : Int) != (ys.length : Int)) = false := by simp [hl]
    have HL : Hid (xs.length = ys.length) := hl
    clear hl
    go_enter Try.func41, Try.ntmps41
    go_wp2
    go_loopw [13] (fun i wr => ∃ k : Nat, k ≤ xs.length ∧ i = .int .i64 k ∧ xs.take k = ys.take k ∧ ∃ n, wr = w.drewN n) (fun i _ => xs.length - (intOf i).toNat)
    case atStart => exact ⟨0, Nat.zero_le _, rfl, rfl, 0, rfl⟩
    case round =>
      obtain ⟨k, hk, rfl, ht, n, rfl⟩ := hrel
      have HT : Hid (xs.take k = ys.take k) := ht
      clear ht
      by_cases hlt : k < xs.length
      · have hlt2 : k < ys.length := by have := HL.out; omega
        rcases h0 with rfl | ⟨b0, o0, rfl, hc0⟩
        · simp at hlt
        rcases h1 with rfl | ⟨b1, o1, rfl, hc1⟩
        · simp at hlt2
        have e0 := hc0 k hlt
        have e1 := hc1 k hlt2
        clear hc0 hc1
        by_cases he : xs[k] = ys[k]
        · have hbe : (xs[k] != ys[k]) = false := by simp [he]
          have HE : Hid (xs[k] = ys[k]) := he
          clear he
          go_wp2
          go_quiet (fail)
          go_wp2
          go_roundw
          case rel => exact ⟨k + 1, by omega, by go_num, take_step hlt hlt2 HT.out HE.out, n + nq, rfl⟩
          case measure => simp [intOf]; omega
        · have hbe : (xs[k] != ys[k]) = true := by simpa using he
          go_wp2
          go_quiet (fail)
          go_wp2
          go_ret
          exact ⟨ret_bool (eqL_ne hlt hlt2 he).symm, n + nq, by simp⟩
      · go_wp2
        go_ret
        exact ⟨ret_bool (eqL_take HL.out (by omega) HT.out).symm, n, rfl⟩
  · have hbl : ((xs.length : Int) != (ys.length : Int)) = true := by simp; omega
    go_enter Try.func41, Try.ntmps41
    go_wp2
    go_ret
    exact ⟨ret_bool (eqL_len hl).symm, 0, rfl⟩

set_option maxRecDepth 100000 in
set_option maxHeartbeats 400000 in
theorem sameFn_any (a0 a1 : Option Addr) (n0 n1 c0 c1 : Nat) (xs ys : List Int) (w : World) (h0 : IsInts w a0 xs) (h1 : IsInts w a1 ys) (e0 : xs.length = n0) (e1 : ys.length = n1) (hx : n0 ≤ maxLen) (hy : n1 ≤ maxLen) :
    Calls Try.prog 79 #[.slice a0 n0 c0, .slice a1 n1 c1] w fun e w' => e = .returned (.bool (eqL xs ys)) ∧ ∃ n, w' = w.drewN n := by
  have HE := hide (equalRec_any a0 a1 n0 n1 c0 c1 xs ys w h0 h1 e0 e1 hx hy)
  clear e0 e1
  go_enter Try.func79, Try.ntmps79
  go_wp2_with fail
  refine (unhide HE).mono ?_
  rintro e w1 ⟨rfl, m, rfl⟩
  go_wp2
  go_ret
  exact ⟨rfl, m, rfl⟩

def eqR (xs ys : List (List Int)) : Bool := decide (xs = ys)
theorem eqR_len {xs ys : List (List Int)} (h : xs.length ≠ ys.length) : eqR xs ys = false := by
  unfold eqR; simp; intro e; exact h (by rw [e])
theorem eqR_take {xs ys : List (List Int)} {k : Nat} (hl : xs.length = ys.length) (hk : xs.length ≤ k) (h : xs.take k = ys.take k) : eqR xs ys = true := by
  unfold eqR
  rw [List.take_of_length_le hk, List.take_of_length_le (by omega)] at h
  simp [h]
theorem eqR_ne {xs ys : List (List Int)} {k : Nat} (hx : k < xs.length) (hy : k < ys.length) (h : ¬ xs[k] = ys[k]) : eqR xs ys = false := by
  unfold eqR; simp; intro e; subst e; exact h rfl
theorem takeR_step {xs ys : List (List Int)} {k : Nat} (hx : k < xs.length) (hy : k < ys.length) (h : xs.take k = ys.take k) (he : xs[k] = ys[k]) : xs.take (k + 1) = ys.take (k + 1) := by
  rw [List.take_succ_eq_append_getElem hx, List.take_succ_eq_append_getElem hy, h, he]

set_option maxRecDepth 100000 in
set_option maxHeartbeats 1000000 in
theorem equalFunc_any (a0 a1 : Option Addr) (n0 n1 c0 c1 : Nat) (xs ys : List (List Int)) (w : World) (h0 : IsRecs w a0 xs) (h1 : IsRecs w a1 ys) (e0 : xs.length = n0) (e1 : ys.length = n1) (hx : n0 ≤ maxLen) (hy : n1 ≤ maxLen) :
    Calls Try.prog 78 #[.slice a0 n0 c0, .slice a1 n1 c1, .func (.func 79) #[] #[]] w fun e w' => e = .returned (.bool (eqR xs ys)) ∧ ∃ n, w' = w.drewN n := by
  subst e0 e1
  have HS := hide sameFn_any
  unfold maxLen at hx hy
  by_cases hl : xs.length = ys.length
  · have hbl : ((xs.length : Int) != (ys.length : Int)) = false := by simp [hl]
    have HL : Hid (xs.length = ys.length) := hl
    clear hl
    go_enter Try.func78, Try.ntmps78
    go_wp2
    go_loopw [17] (fun i wr => ∃ k : Nat, k ≤ xs.length ∧ i = .int .i64 k ∧ Hid (xs.take k = ys.take k) ∧ ∃ n, wr = w.drewN n) (fun i _ => xs.length - (intOf i).toNat)
    case atStart => exact ⟨0, Nat.zero_le _, rfl, rfl, 0, rfl⟩
    case round =>
      obtain ⟨k, hk, rfl, HT, n, rfl⟩ := hrel
      by_cases hlt : k < xs.length
      · have hlt2 : k < ys.length := by have := HL.out; omega
        rcases h0 with rfl | ⟨b0, o0, rfl, hc0⟩
        · simp at hlt
        rcases h1 with rfl | ⟨b1, o1, rfl, hc1⟩
        · simp at hlt2
        obtain ⟨p, hp⟩ : ∃ p, p = xs[k] := ⟨_, rfl⟩
        obtain ⟨q, hq⟩ : ∃ q, q = ys[k] := ⟨_, rfl⟩
        obtain ⟨ai, ci, k1, k2, k3, k4⟩ := hc0 k p (by rw [hp]; exact List.getElem?_eq_getElem hlt)
        obtain ⟨aj, cj, l1, l2, l3, l4⟩ := hc1 k q (by rw [hq]; exact List.getElem?_eq_getElem hlt2)
        have HPQ : Hid (p = xs[k] ∧ q = ys[k]) := ⟨hp, hq⟩
        clear hc0 hc1 hp hq
        go_wp2_with fail
        refine (unhide HS _ _ _ _ _ _ p q _ (k2.drewN n) (l2.drewN n) rfl rfl (by omega) (by omega)).mono ?_
        rintro e w1 ⟨rfl, m, rfl⟩
        by_cases he : p = q
        · have hb : eqL p q = true := by unfold eqL; simp [he]
          have HE : Hid (xs[k] = ys[k]) := by show _ = _; rw [← HPQ.out.1, ← HPQ.out.2]; exact he
          rw [hb]
          clear he hb
          go_wp2
          go_roundw
          case rel => exact ⟨k + 1, by omega, by go_num, takeR_step hlt hlt2 HT.out HE.out, n + m, by simp⟩
          case measure => simp [intOf]; omega
        · have hb : eqL p q = false := by unfold eqL; simp [he]
          have HE : Hid (¬ xs[k] = ys[k]) := by show ¬ _; rw [← HPQ.out.1, ← HPQ.out.2]; exact he
          rw [hb]
          clear he hb
          go_wp2
          go_ret
          exact ⟨ret_bool (eqR_ne hlt hlt2 HE.out).symm, n + m, by simp⟩
      · go_wp2
        go_ret
        exact ⟨ret_bool (eqR_take HL.out (by omega) HT.out).symm, n, rfl⟩
  · have hbl : ((xs.length : Int) != (ys.length : Int)) = true := by simp; omega
    go_enter Try.func78, Try.ntmps78
    go_wp2
    go_ret
    exact ⟨ret_bool (eqR_len hl).symm, 0, rfl⟩

set_option maxRecDepth 100000 in
set_option maxHeartbeats 400000 in
theorem sameRecs_any (a0 a1 : Option Addr) (n0 n1 c0 c1 : Nat) (xs ys : List (List Int)) (w : World) (h0 : IsRecs w a0 xs) (h1 : IsRecs w a1 ys) (e0 : xs.length = n0) (e1 : ys.length = n1) (hx : n0 ≤ maxLen) (hy : n1 ≤ maxLen) :
    Calls Try.prog 39 #[.slice a0 n0 c0, .slice a1 n1 c1] w fun e w' => e = .returned (.bool (eqR xs ys)) ∧ ∃ n, w' = w.drewN n := by
  have HE := hide (equalFunc_any a0 a1 n0 n1 c0 c1 xs ys w h0 h1 e0 e1 hx hy)
  clear e0 e1
  go_enter Try.func39, Try.ntmps39
  go_wp2_with fail
  refine (unhide HE).mono ?_
  rintro e w1 ⟨rfl, m, rfl⟩
  go_wp2
  go_ret
  exact ⟨rfl, m, rfl⟩

end Go.Proofs.Ytanpglfpopbfkaa
