/- The ref's CheckRoot, CheckRelease. -/
import Derived.Test.YtanpglfpopbfkabGreatDoorPm7
namespace Go.Proofs.YtanpglfpopbfkabGreatDoor
open Go.RowKit

set_option maxHeartbeats 1600000 in
set_option maxRecDepth 100000 in
theorem refCheckRoot_any (v : Int) (a : Option Addr) (n c : Nat) (t : Int) (xs : List Int) (w : World) (h : IsInts w a xs) (hn : xs.length = n) (hm : n ≤ maxLen) :
    Calls Tryz.prog 13 #[rv v a n c t] w fun e w' => e = .returned (.int .i64 (rootE v xs t)) ∧ Below w.heap.size w w' := by
  have HN := hide hn
  unfold maxLen at hm
  unfold rv
  have hw0 : Below w.heap.size w (w.alloc (.cells #[.int .i64 v, .slice a n c, .int .i64 t] 24)) := (Below.refl _ _).alloc (Nat.le_refl _) _
  have i0 := h.below hw0
  by_cases h1 : v < 1
  · have HE := hide (rootE_1 (ks := xs) (t := t) (inR_lo (n := v) (a := 1) (b := 1000) (by omega)))
    clear hn
    go_enter Tryz.func13, Tryz.ntmps13
    go_wp2_with fail
    go_ret
    exact ⟨ret_int HE.out.symm, hw0⟩
  have d1 : decide (v < 1) = false := by simp; omega
  by_cases h2 : 1000 < v
  · have HE := hide (rootE_1 (ks := xs) (t := t) (inR_hi (n := v) (a := 1) (b := 1000) (by omega)))
    clear hn
    go_enter Tryz.func13, Tryz.ntmps13
    go_wp2_with fail
    go_ret
    exact ⟨ret_int HE.out.symm, hw0⟩
  have d2 : decide (1000 < v) = false := by simp; omega
  have q1 : inR v 1 1000 = true := inR_t (by omega) (by omega)
  by_cases h3 : n < 1
  · have HE := hide (rootE_2 (t := t) q1 (ks := xs) (inR_lo (by omega)))
    have d3 : decide ((n : Int) < 1) = true := by simp; omega
    clear hn
    go_enter Tryz.func13, Tryz.ntmps13
    go_wp2_with fail
    go_ret
    exact ⟨ret_int HE.out.symm, hw0⟩
  have d3 : decide ((n : Int) < 1) = false := by simp; omega
  by_cases h4 : 6 < n
  · have HE := hide (rootE_2 (t := t) q1 (ks := xs) (inR_hi (by omega)))
    have d4 : decide ((6 : Int) < (n : Int)) = true := by simp; omega
    clear hn
    go_enter Tryz.func13, Tryz.ntmps13
    go_wp2_with fail
    go_ret
    exact ⟨ret_int HE.out.symm, hw0⟩
  have d4 : decide ((6 : Int) < (n : Int)) = false := by simp; omega
  have q2 : inR xs.length 1 6 = true := inR_t (by omega) (by omega)
  have HE3 := hide (rootE_3 (t := t) q1 q2)
  have HE4 := hide (rootE_4 (t := t) q1 q2)
  have HE0 := hide (rootE_0 (t := t) q1 q2)
  clear hn q1 q2 h1 h2 h3 h4
  go_enter Tryz.func13, Tryz.ntmps13
  go_wp2_with fail
  go_loopw [4, 27] (fun p i wr => ∃ (k : Nat) (q : Int), k ≤ n ∧ p = .int .i64 q ∧ i = .int .i64 k ∧ wr = w.alloc (.cells #[.int .i64 v, .slice a n c, .int .i64 t] 24) ∧ Hid ((k = 0 → q = 0) ∧ keysE q (xs.drop k) = keysE 0 xs)) (fun _ i _ => n - (intOf i).toNat)
  case atStart => exact ⟨0, 0, Nat.zero_le _, rfl, rfl, rfl, ⟨fun _ => rfl, rfl⟩⟩
  case round =>
    obtain ⟨k, q, hk, rfl, rfl, rfl, ht⟩ := hrel
    by_cases hlt : k < n
    · rcases i0 with rfl | ⟨b0, o0, rfl, hc0⟩
      · have := HN.out
        simp at this
        omega
      have hkx : k < xs.length := by rw [HN.out]; exact hlt
      have e0 := hc0 k hkx
      rw [show xs.getD k 0 = xs[k] by simp [hkx]] at e0
      have K1 := hide (keysE_bad hkx q)
      have K2 := hide (keysE_two hkx q)
      have K3 := hide (keysE_next hkx q)
      clear hc0
      generalize xs[k] = x at *
      by_cases g1 : x < 1
      · have HZ := hide (K1.out (inR_lo (by omega)))
        have hne : Hid (keysE 0 xs = 3) := by show _ = _; rw [← ht.out.2, HZ.out]
        go_wp2_with fail
        go_ret
        exact ⟨ret_int (by rw [HE3.out (by rw [hne.out]; decide), hne.out]), hw0⟩
      · have f1 : decide (x < 1) = false := by simp; omega
        by_cases g2 : 50 < x
        · have HZ := hide (K1.out (inR_hi (by omega)))
          have hne : Hid (keysE 0 xs = 3) := by show _ = _; rw [← ht.out.2, HZ.out]
          clear g1
          go_wp2_with fail
          go_ret
          exact ⟨ret_int (by rw [HE3.out (by rw [hne.out]; decide), hne.out]), hw0⟩
        · have f2 : decide (50 < x) = false := by simp; omega
          have hin : inR x 1 50 = true := inR_t (by omega) (by omega)
          by_cases g3 : x ≤ q
          · have hk0 : 0 < k := by
              rcases Nat.eq_zero_or_pos k with h0 | h0
              · have := ht.out.1 h0
                omega
              · exact h0
            have HZ := hide (K2.out hin g3)
            have hne : Hid (keysE 0 xs = 6) := by show _ = _; rw [← ht.out.2, HZ.out]
            have f3 : decide ((0 : Int) < (k : Int)) = true := by simp; omega
            have f4 : decide (x ≤ q) = true := by simp; omega
            clear g1 g2 g3 hin
            go_wp2_with fail
            go_ret
            exact ⟨ret_int (by rw [HE3.out (by rw [hne.out]; decide), hne.out]), hw0⟩
          · have HZ := hide (K3.out hin (by omega))
            have f4 : decide (x ≤ q) = false := by simp; omega
            by_cases hk0 : 0 < k
            · have f3 : decide ((0 : Int) < (k : Int)) = true := by simp; omega
              clear g1 g2 g3 hin
              go_wp2_with fail
              go_roundw
              case rel => exact ⟨k + 1, x, by omega, rfl, by go_num, trivial, ⟨fun h => by omega, by rw [← ht.out.2, HZ.out]⟩⟩
              case measure => simp [intOf]; omega
            · have f3 : decide ((0 : Int) < (k : Int)) = false := by simp; omega
              clear g1 g2 g3 hin
              go_wp2_with fail
              go_roundw
              case rel => exact ⟨k + 1, x, by omega, rfl, by go_num, trivial, ⟨fun h => by omega, by rw [← ht.out.2, HZ.out]⟩⟩
              case measure => simp [intOf]; omega
    · have hx := ht.out.2
      rw [List.drop_eq_nil_of_le (by rw [HN.out]; omega)] at hx
      have hz := hide (show keysE 0 xs = 0 by rw [← hx]; rfl)
      clear hx
      by_cases g1 : t < 1
      · have HZ := hide (HE4.out hz.out (inR_lo (by omega)))
        go_wp2_with fail
        go_ret
        exact ⟨ret_int HZ.out.symm, hw0⟩
      · have f1 : decide (t < 1) = false := by simp; omega
        by_cases g2 : (n : Int) < t
        · have HZ := hide (HE4.out hz.out (inR_hi (by rw [HN.out]; omega)))
          clear g1
          go_wp2_with fail
          go_ret
          exact ⟨ret_int HZ.out.symm, hw0⟩
        · have f2 : decide ((n : Int) < t) = false := by simp; omega
          have HZ := hide (HE0.out hz.out (inR_t (by omega) (by rw [HN.out]; omega)))
          clear g1 g2
          go_wp2_with fail
          go_ret
          exact ⟨ret_int HZ.out.symm, hw0⟩

set_option maxHeartbeats 1600000 in
set_option maxRecDepth 100000 in
theorem refCheckRelease_any (v u : Int) (a : Option Addr) (n c : Nat) (ts : List T3) (w : World) (h : IsTgts w a ts) (hn : ts.length = n) (hm : n ≤ maxLen) :
    Calls Tryz.prog 14 #[relv v u a n c] w fun e w' => e = .returned (.int .i64 (relE v u ts)) ∧ Below w.heap.size w w' := by
  have HN := hide hn
  unfold maxLen at hm
  unfold relv
  have hw0 : Below w.heap.size w (w.alloc (.cells #[.int .i64 v, .int .i64 u, .slice a n c] 27)) := (Below.refl _ _).alloc (Nat.le_refl _) _
  by_cases h1 : v < 1
  · have HE := hide (relE_1 (u := u) (ts := ts) (inR_lo (n := v) (a := 1) (b := 1000) (by omega)))
    clear hn
    go_enter Tryz.func14, Tryz.ntmps14
    go_wp2_with fail
    go_ret
    exact ⟨ret_int HE.out.symm, hw0⟩
  have dh1 : decide (v < 1) = false := by simp; omega
  by_cases h2 : 1000 < v
  · have HE := hide (relE_1 (u := u) (ts := ts) (inR_hi (n := v) (a := 1) (b := 1000) (by omega)))
    clear hn
    go_enter Tryz.func14, Tryz.ntmps14
    go_wp2_with fail
    go_ret
    exact ⟨ret_int HE.out.symm, hw0⟩
  have dh2 : decide (1000 < v) = false := by simp; omega
  by_cases h3 : u < 0
  · have HE := hide (relE_2 (v := v) (ts := ts) (inR_lo (n := u) (a := 0) (b := 100000) (by omega)))
    clear hn
    go_enter Tryz.func14, Tryz.ntmps14
    go_wp2_with fail
    go_ret
    exact ⟨ret_int HE.out.symm, hw0⟩
  have dh3 : decide (u < 0) = false := by simp; omega
  by_cases h4 : 100000 < u
  · have HE := hide (relE_2 (v := v) (ts := ts) (inR_hi (n := u) (a := 0) (b := 100000) (by omega)))
    clear hn
    go_enter Tryz.func14, Tryz.ntmps14
    go_wp2_with fail
    go_ret
    exact ⟨ret_int HE.out.symm, hw0⟩
  have dh4 : decide (100000 < u) = false := by simp; omega
  have q1 : inR v 1 1000 = true := inR_t (by omega) (by omega)
  have q2 : inR u 0 100000 = true := inR_t (by omega) (by omega)
  by_cases h5 : n < 1
  · have HE := hide (relE_3 q1 q2 (ts := ts) (inR_lo (by omega)))
    have d : decide ((n : Int) < 1) = true := by simp; omega
    clear hn
    go_enter Tryz.func14, Tryz.ntmps14
    go_wp2_with fail
    go_ret
    exact ⟨ret_int HE.out.symm, hw0⟩
  have dh5 : decide ((n : Int) < 1) = false := by simp; omega
  by_cases h6 : 4 < n
  · have HE := hide (relE_3 q1 q2 (ts := ts) (inR_hi (by omega)))
    have d : decide ((4 : Int) < (n : Int)) = true := by simp; omega
    clear hn
    go_enter Tryz.func14, Tryz.ntmps14
    go_wp2_with fail
    go_ret
    exact ⟨ret_int HE.out.symm, hw0⟩
  have dh6 : decide ((4 : Int) < (n : Int)) = false := by simp; omega
  have HE := hide (relE_4 q1 q2 (ts := ts) (inR_t (by omega) (by omega)))
  clear hn q1 q2 h1 h2 h3 h4 h5 h6
  go_enter Tryz.func14, Tryz.ntmps14
  go_wp2_with fail
  go_loopw [36] (fun i wr => ∃ k : Nat, k ≤ n ∧ i = .int .i64 k ∧ Below w.heap.size w wr ∧ Hid (tgtsE k (ts.drop k) = tgtsE 0 ts)) (fun i _ => n - (intOf i).toNat)
  case atStart => exact ⟨0, Nat.zero_le _, rfl, hw0, rfl⟩
  case round =>
    clear hw0
    obtain ⟨k, hk, rfl, hw, ht⟩ := hrel
    by_cases hlt : k < n
    · have i1 := h.below hw
      rcases i1 with rfl | ⟨b0, o0, rfl, hc0⟩
      · have := HN.out
        simp at this
        omega
      have hkx : k < ts.length := by rw [HN.out]; exact hlt
      obtain ⟨e0, e1, e2⟩ := hc0 k ts[k] (List.getElem?_eq_getElem hkx)
      clear hc0
      have hw1 := hw.alloc hw.size (.cells #[.int .i64 ts[k].1, .int .i64 ts[k].2.1, .int .i64 ts[k].2.2] 78)
      have HB := hide (fun (hb : tOK k ts[k] = false) => show Ending.returned (.int .i64 3) = .returned (.int .i64 (relE v u ts)) from ret_int (by rw [HE.out, ← ht.out, tgtsE_bad hkx hb]))
      have HX := hide (tgtsE_next hkx)
      generalize ts[k] = tk at *
      obtain ⟨t0, t1, t2⟩ := tk
      simp only at e0 e1 e2 hw1
      by_cases a1 : ¬ t0 = (k : Int)
      · have HZ := hide (HB.out (by simp [tOK, inR]; omega))
        have f1 : (t0 != (k : Int)) = true := by simpa using a1
        clear a1
        go_wp2_with fail
        go_ret
        exact ⟨HZ.out, hw1⟩
      have f1 : (t0 != (k : Int)) = false := by simpa using a1
      by_cases a2 : t1 < 1
      · have HZ := hide (HB.out (by simp [tOK, inR]; omega))
        have f2 : decide (t1 < 1) = true := by simp; omega
        clear a1 a2
        go_wp2_with fail
        go_ret
        exact ⟨HZ.out, hw1⟩
      have f2 : decide (t1 < 1) = false := by simp; omega
      by_cases a3 : 60 < t1
      · have HZ := hide (HB.out (by simp [tOK, inR]; omega))
        have f3 : decide (60 < t1) = true := by simp; omega
        clear a1 a2 a3
        go_wp2_with fail
        go_ret
        exact ⟨HZ.out, hw1⟩
      have f3 : decide (60 < t1) = false := by simp; omega
      by_cases a4 : t2 < 1
      · have HZ := hide (HB.out (by simp [tOK, inR]; omega))
        have f4 : decide (t2 < 1) = true := by simp; omega
        clear a1 a2 a3 a4
        go_wp2_with fail
        go_ret
        exact ⟨HZ.out, hw1⟩
      have f4 : decide (t2 < 1) = false := by simp; omega
      by_cases a5 : 40 < t2
      · have HZ := hide (HB.out (by simp [tOK, inR]; omega))
        have f5 : decide (40 < t2) = true := by simp; omega
        clear a1 a2 a3 a4 a5
        go_wp2_with fail
        go_ret
        exact ⟨HZ.out, hw1⟩
      have f5 : decide (40 < t2) = false := by simp; omega
      have HZ := hide (HX.out (by simp [tOK, inR]; omega))
      clear a1 a2 a3 a4 a5
      go_wp2_with fail
      go_roundw
      case rel => exact ⟨k + 1, by omega, by go_num, hw1, by show _ = _; rw [← ht.out, HZ.out]⟩
      case measure => simp [intOf]; omega
    · go_wp2_with fail
      go_ret
      have hx := ht.out
      rw [List.drop_eq_nil_of_le (by rw [HN.out]; omega)] at hx
      exact ⟨ret_int (by rw [HE.out, ← hx]; rfl), hw⟩

end Go.Proofs.YtanpglfpopbfkabGreatDoor
