/- slices.Equal at targets; the ref's SameRelease. -/
import Derived.Test.YtanpglfpopbfkabGreatDoorPm7
import Derived.Laws.StructEq
namespace Go.Proofs.YtanpglfpopbfkabGreatDoor
open Go.RowKit

set_option maxRecDepth 100000 in
theorem tgt_guard : Tryz.prog.eqGuardType Tryz.prog.depth 78 = false := by kernel_rfl

def tsEq (a b : List T3) : Bool := decide (a = b)
theorem tsEq_len {xs ys : List T3} (h : xs.length ≠ ys.length) : tsEq xs ys = false := by
  unfold tsEq; simp; intro e; exact h (by rw [e])
theorem tsEq_take {xs ys : List T3} {k : Nat} (hl : xs.length = ys.length) (hk : xs.length ≤ k) (h : xs.take k = ys.take k) : tsEq xs ys = true := by
  unfold tsEq
  rw [List.take_of_length_le hk, List.take_of_length_le (by omega)] at h
  simp [h]
theorem tsEq_ne {xs ys : List T3} {k : Nat} (hx : k < xs.length) (hy : k < ys.length) (h : ¬ xs[k] = ys[k]) : tsEq xs ys = false := by
  unfold tsEq; simp; intro e; subst e; exact h rfl
theorem t_step {xs ys : List T3} {k : Nat} (hx : k < xs.length) (hy : k < ys.length) (h : xs.take k = ys.take k) (he : xs[k] = ys[k]) : xs.take (k + 1) = ys.take (k + 1) := by
  rw [List.take_succ_eq_append_getElem hx, List.take_succ_eq_append_getElem hy, h, he]

set_option maxHeartbeats 800000 in
set_option maxRecDepth 100000 in
theorem equal_tgts (a0 a1 : Option Addr) (n0 n1 c0 c1 : Nat) (xs ys : List T3) (w : World) (h0 : IsTgts w a0 xs) (h1 : IsTgts w a1 ys) (e0 : xs.length = n0) (e1 : ys.length = n1) (hx : n0 ≤ maxLen) :
    Calls Tryz.prog 48 #[.slice a0 n0 c0, .slice a1 n1 c1] w fun e w' => e = .returned (.bool (tsEq xs ys)) ∧ ∃ n, w' = w.drewN n := by
  unfold maxLen at hx
  have hg := tgt_guard
  have E0 := hide e0
  have E1 := hide e1
  by_cases hl : n0 = n1
  · have hbl : ((n0 : Int) != (n1 : Int)) = false := by simp [hl]
    have HL := hide (show xs.length = ys.length by omega)
    clear hl e0 e1
    go_enter Tryz.func48, Tryz.ntmps48
    go_wp2
    go_loopw [13] (fun i wr => ∃ k : Nat, k ≤ n0 ∧ i = .int .i64 k ∧ Hid (xs.take k = ys.take k) ∧ ∃ n, wr = w.drewN n) (fun i _ => n0 - (intOf i).toNat)
    case atStart => exact ⟨0, Nat.zero_le _, rfl, rfl, 0, rfl⟩
    case round =>
      obtain ⟨k, hk, rfl, HT, n, rfl⟩ := hrel
      by_cases hlt : k < n0
      · have hlt1 : k < xs.length := by rw [E0.out]; exact hlt
        have hlt2 : k < ys.length := by rw [← HL.out]; exact hlt1
        have hltn : k < n1 := by rw [← E1.out]; exact hlt2
        rcases h0 with rfl | ⟨b0, o0, rfl, hc0⟩
        · simp at hlt1
        rcases h1 with rfl | ⟨b1, o1, rfl, hc1⟩
        · simp at hlt2
        obtain ⟨p0, p1, p2⟩ := hc0 k xs[k] (List.getElem?_eq_getElem hlt1)
        obtain ⟨r0, r1, r2⟩ := hc1 k ys[k] (List.getElem?_eq_getElem hlt2)
        clear hc0 hc1
        by_cases he : xs[k] = ys[k]
        · have HE := hide (t_step hlt1 hlt2 HT.out he)
          rw [← he] at r0 r1 r2
          clear he
          generalize xs[k] = x at *
          go_wp2
          go_quiet (fail)
          go_wp2
          go_roundw
          case rel => exact ⟨k + 1, by omega, by go_num, HE.out, n + nq, rfl⟩
          case measure => simp [intOf]; omega
        · have HE := hide (tsEq_ne hlt1 hlt2 he)
          generalize xs[k] = x at *
          generalize ys[k] = y at *
          obtain ⟨x0, x1, x2⟩ := x
          obtain ⟨y0, y1, y2⟩ := y
          simp only at p0 p1 p2 r0 r1 r2
          by_cases d0 : x0 = y0
          · by_cases d1 : x1 = y1
            · have d2 : ¬ x2 = y2 := fun e => he (by rw [d0, d1, e])
              subst d0 d1
              clear he
              go_wp2
              go_quiet (fail)
              go_wp2
              go_ret
              exact ⟨ret_bool HE.out.symm, n + nq, by simp⟩
            · subst d0
              clear he
              go_wp2
              go_quiet (fail)
              go_wp2
              go_ret
              exact ⟨ret_bool HE.out.symm, n + nq, by simp⟩
          · clear he
            go_wp2
            go_quiet (fail)
            go_wp2
            go_ret
            exact ⟨ret_bool HE.out.symm, n + nq, by simp⟩
      · go_wp2
        go_ret
        exact ⟨ret_bool (tsEq_take HL.out (by rw [E0.out]; omega) HT.out).symm, n, rfl⟩
  · have hbl : ((n0 : Int) != (n1 : Int)) = true := by simp; omega
    have HE := hide (tsEq_len (xs := xs) (ys := ys) (by omega))
    clear e0 e1
    go_enter Tryz.func48, Tryz.ntmps48
    go_wp2
    go_ret
    exact ⟨ret_bool HE.out.symm, 0, rfl⟩

def sameB (v u : Int) (ts : List T3) (v' u' : Int) (ts' : List T3) : Bool := decide (v = v' ∧ u = u' ∧ ts = ts')

set_option maxHeartbeats 800000 in
set_option maxRecDepth 100000 in
theorem sameRelease_any (v u : Int) (a : Option Addr) (n c : Nat) (ts : List T3) (v' u' : Int) (a' : Option Addr) (n' c' : Nat) (ts' : List T3) (w : World) (h : IsTgts w a ts) (hn : ts.length = n) (hm : n ≤ maxLen) (h' : IsTgts w a' ts') (hn' : ts'.length = n') :
    Calls Tryz.prog 23 #[relv v u a n c, relv v' u' a' n' c'] w fun e w' => e = .returned (.bool (sameB v u ts v' u' ts')) ∧ Below w.heap.size w w' := by
  have hw0 : Below w.heap.size w ((w.alloc (.cells #[.int .i64 v, .int .i64 u, .slice a n c] 27)).alloc (.cells #[.int .i64 v', .int .i64 u', .slice a' n' c'] 27)) := ((Below.refl _ _).alloc (Nat.le_refl _) _).alloc (by simp) _
  have HE := hide (equal_tgts a a' n n' c c' ts ts' _ (h.below hw0) (h'.below hw0) hn hn' hm)
  unfold relv
  clear hn hn'
  by_cases e1 : v = v'
  · by_cases e2 : u = u'
    · have q1 : (v == v') = true := by simpa using e1
      have q2 : (u == u') = true := by simpa using e2
      have HB := hide (show sameB v u ts v' u' ts' = tsEq ts ts' by unfold sameB tsEq; simp [e1, e2])
      clear e1 e2
      generalize tsEq ts ts' = q at *
      go_enter Tryz.func23, Tryz.ntmps23
      go_wp2_with (go_at_call 48; refine (unhide HE).mono ?_; rintro e w1 ⟨rfl, nq, rfl⟩)
      go_ret
      exact ⟨ret_bool HB.out.symm, below_drewN hw0 nq⟩
    · have q1 : (v == v') = true := by simpa using e1
      have q2 : (u == u') = false := by simpa using e2
      have HB := hide (show sameB v u ts v' u' ts' = false by unfold sameB; simp [e2])
      clear e1 e2
      go_enter Tryz.func23, Tryz.ntmps23
      go_wp2_with fail
      go_ret
      exact ⟨ret_bool HB.out.symm, hw0⟩
  · have q1 : (v == v') = false := by simpa using e1
    have HB := hide (show sameB v u ts v' u' ts' = false by unfold sameB; simp [e1])
    clear e1
    go_enter Tryz.func23, Tryz.ntmps23
    go_wp2_with fail
    go_ret
    exact ⟨ret_bool HB.out.symm, hw0⟩

end Go.Proofs.YtanpglfpopbfkabGreatDoor
