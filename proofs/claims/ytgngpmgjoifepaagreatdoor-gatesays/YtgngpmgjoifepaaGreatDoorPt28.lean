/- The contracts of wainwrightref.generation, counts, CheckLog, checkRecord: the same as the program's. The ref's CheckRoot, CheckRelease. -/
import Derived.Test.YtgngpmgjoifepaaGreatDoorPt7
import Derived.Test.YtgngpmgjoifepaaGreatDoorPt10
import Derived.Test.YtgngpmgjoifepaaGreatDoorPt9
namespace Go.Proofs.YtgngpmgjoifepaaGreatDoor
open Go.RowKit
attribute [local go_sem ↓] Go.wp_at_zero Go.wp_at_succ

set_option maxRecDepth 100000 in
set_option maxHeartbeats 400000 in
theorem refGen_any (a : Option Addr) (n c : Nat) (ws : List Int) (fuel : Int) (s : Nat) (w : World) (h : IsInts w a ws) (hn : ws.length = n) (hm : n ≤ maxLen) (hs : s * 32 < n) :
    Calls Tryz.prog 173 #[.agg #[.slice a n c, .int .i64 fuel], .int .i64 s] w fun e w' => e = .returned (.int .i64 (genS ws s)) ∧ Below w.heap.size w w' := by
  have hw : Below w.heap.size w (w.alloc (.cells #[.slice a n c, .int .i64 fuel] 27)) := (Below.refl _ _).alloc (Nat.le_refl _) _
  have i0 := h.below hw
  have HN := hide hn
  have hs2 : s * 32 < ws.length := by omega
  clear hn
  unfold maxLen at hm
  rcases i0 with rfl | ⟨b, off, rfl, hc⟩
  { simp at hs2 }
  have e0 := hc (s * 32) hs2
  clear hc
  have i1 : (0 : Int) ≤ 32 * (s : Int) := by omega
  have i2 : 32 * (s : Int) < (n : Int) := by omega
  have i4 : (32 * (s : Int)).toNat = s * 32 := by omega
  obtain ⟨g, hg⟩ : ∃ g, g = ws.getD (s * 32) 0 := ⟨_, rfl⟩
  rw [← hg] at e0
  by_cases hz : g = 65535
  {
  have hr : Hid (genS ws s = 0) := by show _ = _; unfold genS; rw [← hg, if_pos hz]
  subst hz
  clear hg
  go_enter Tryz.func173, Tryz.ntmps173
  go_wp2
  go_ret
  exact ⟨ret_intk hr.out.symm, hw⟩
  }
  {
  have hr : Hid (genS ws s = g) := by show _ = _; unfold genS; rw [← hg, if_neg hz]
  have hz' : (g != 65535) = true := by simpa using hz
  clear hg
  go_enter Tryz.func173, Tryz.ntmps173
  go_wp2
  go_ret
  exact ⟨ret_intk hr.out.symm, hw⟩

  }
theorem refGenI_any (a : Option Addr) (n c : Nat) (ws : List Int) (fuel : Int) (s : Int) (w : World) (h : IsInts w a ws) (hn : ws.length = n) (hm : n ≤ maxLen) (hs : 0 ≤ s ∧ s < 2) (h64 : 64 ≤ n) :
    Calls Tryz.prog 173 #[.agg #[.slice a n c, .int .i64 fuel], .int .i64 s] w fun e w' => e = .returned (.int .i64 (genI ws s)) ∧ Below w.heap.size w w' := by
  obtain ⟨k, rfl⟩ := Int.eq_ofNat_of_zero_le hs.1
  exact refGen_any a n c ws fuel k w h hn hm (by omega)

set_option maxRecDepth 100000 in
set_option maxHeartbeats 1000000 in
theorem refCounts_any (a : Option Addr) (n c : Nat) (ws : List Int) (fuel : Int) (w : World) (h : IsInts w a ws) (hn : ws.length = n) (hm : n ≤ maxLen) (h64 : 64 ≤ n) :
    Calls Tryz.prog 126 #[.agg #[.slice a n c, .int .i64 fuel]] w (CountsAns w ws) := by
  have hw : Below w.heap.size w (w.alloc (.cells #[.slice a n c, .int .i64 fuel] 27)) := (Below.refl _ _).alloc (Nat.le_refl _) _
  have i0 := h.below hw
  have HG := hide (fun W (s : Int) (h : IsInts W a ws) (hs : 0 ≤ s ∧ s < 2) => refGenI_any a n c ws fuel s W h hn hm hs h64)
  have B0 := hide (heap_alloc_last w (.cells #[.slice a n c, .int .i64 fuel] 27))
  clear hn
  unfold maxLen at hm
  go_enter Tryz.func126, Tryz.ntmps126
  go_upto_region 1 with fail
  generalize w.alloc (.cells #[.slice a n c, .int .i64 fuel] 27) = W at *
  have x0 : W.cell? ⟨w.heap.size, 0, none⟩ = some (.slice a n c) := blk_cell B0.out 0 _ rfl
  have x1 : W.cell? ⟨w.heap.size, 1, none⟩ = some (.int .i64 fuel) := blk_cell B0.out 1 _ rfl
  have lt0 := blk_lt B0.out
  go_cut [4, 5] (fun v4 v5 wx => v4 = .int .i64 (genI ws 0) ∧ v5 = .int .i64 (genI ws 1) ∧ Below W.heap.size W wx)
  case first =>
    have hW : Below W.heap.size W W := Below.refl _ _
    go_wp2_with fail
    go_region_held3 (fun w' => w'.cell? ⟨w.heap.size, 0, none⟩ = some (.slice a n c) ∧ w'.cell? ⟨w.heap.size, 1, none⟩ = some (.int .i64 fuel)) (first | exact ⟨by assumption, by assumption⟩ | go_keep)
      ((go_at_call 173; refine (unhide HG _ _ ?_ ?_).mono ?_; (first | exact i0 | exact i0.below hW); decide; rintro e w1 ⟨rfl, hb1⟩; replace hW : Below W.heap.size W w1 := (by first | exact hW.drew.trans (hb1.mono hW.drew.size) | exact hW.trans (hb1.mono hW.size)); have z0 : w1.cell? ⟨w.heap.size, 0, none⟩ = some (.slice a n c) := (by rw [hW.cell lt0]; exact x0); have z1 : w1.cell? ⟨w.heap.size, 1, none⟩ = some (.int .i64 fuel) := (by rw [hW.cell lt0]; exact x1)))
    all_goals
      go_wp2
      go_meet
      case rel => exact ⟨rfl, rfl, hW⟩
  case rest =>
    obtain ⟨rfl, rfl, hW⟩ := hcut
    obtain ⟨wB, rfl⟩ : ∃ wB : World, wB = wc := ⟨_, rfl⟩
    have hwB := hw.trans (hW.mono hw.size)
    obtain ⟨g0, hg0⟩ : ∃ g, g = genI ws 0 := ⟨_, rfl⟩
    obtain ⟨g1, hg1⟩ : ∃ g, g = genI ws 1 := ⟨_, rfl⟩
    rw [← hg0, ← hg1]
    by_cases hlt : g1 ≤ g0
    {
    have hr : Hid (secN ws = 0 ∧ genN ws = g0) := by show _ ∧ _; unfold secN genN; rw [show genS ws 0 = g0 from hg0.symm, show genS ws 1 = g1 from hg1.symm, if_neg (by omega), if_neg (by omega)]; exact ⟨rfl, rfl⟩
    clear hg0 hg1
    go_wp2
    go_ret2
    exact ⟨ret_two (by rw [hr.out.1]; rfl) hr.out.2.symm, hwB⟩
    }
    {
    have hr : Hid (secN ws = 1 ∧ genN ws = g1) := by show _ ∧ _; unfold secN genN; rw [show genS ws 0 = g0 from hg0.symm, show genS ws 1 = g1 from hg1.symm, if_pos (by omega), if_pos (by omega)]; exact ⟨rfl, rfl⟩
    have hlt' : decide (g1 ≤ g0) = false := by simpa using hlt
    clear hg0 hg1
    go_wp2
    go_ret2
    exact ⟨ret_two (by rw [hr.out.1]; rfl) hr.out.2.symm, hwB⟩

    }
set_option maxRecDepth 100000 in
set_option maxHeartbeats 1000000 in
theorem refCheckLog_any (a : Option Addr) (n c : Nat) (ws : List Int) (fuel : Int) (w : World) (h : IsInts w a ws) (hn : ws.length = n) (hm : n ≤ maxLen) :
    Calls Tryz.prog 63 #[.agg #[.slice a n c, .int .i64 fuel]] w fun e w' => e = .returned (.int .i64 (lchk ws fuel)) ∧ Below w.heap.size w w' := by
  have hw : Below w.heap.size w (w.alloc (.cells #[.slice a n c, .int .i64 fuel] 27)) := (Below.refl _ _).alloc (Nat.le_refl _) _
  have i0 := h.below hw
  have HS := hide (fun W (h : IsInts W a ws) => refCheck_any a n c ws fuel W h hn hm)
  have HG := hide (fun W (h : IsInts W a ws) (h64 : 64 ≤ n) => refCounts_any a n c ws fuel W h hn hm h64)
  have B0 := hide (heap_alloc_last w (.cells #[.slice a n c, .int .i64 fuel] 27))
  have HN := hide hn
  clear hn
  go_enter Tryz.func63, Tryz.ntmps63
  go_wp2_with fail
  generalize w.alloc (.cells #[.slice a n c, .int .i64 fuel] 27) = W at *
  refine (unhide HS _ i0).mono ?_
  rintro e w1 ⟨rfl, hb1⟩
  have hw1 := hw.trans (hb1.mono hw.size)
  by_cases e1 : chk ws fuel = 0
  rotate_left
  {
  have e1' : (chk ws fuel != 0) = true := by simpa using e1
  have hr : Hid (lchk ws fuel = chk ws fuel) := by
    have : secS ws fuel = chk ws fuel := by unfold secS; rw [if_pos e1]
    show _ = _
    unfold lchk; rw [this, if_pos e1]
  go_wp2
  go_ret
  exact ⟨ret_intk hr.out.symm, hw1⟩
  }
  have e1' : (chk ws fuel != 0) = false := by simpa using e1
  have E1 := hide e1
  have parts := chk_parts e1
  rw [HN.out] at parts
  clear e1
  have c00 := blk_cell (blk_below B0.out hb1) 0 _ rfl
  have c01 := blk_cell (blk_below B0.out hb1) 1 _ rfl
  by_cases h32 : n = 32
  {
  subst h32
  have hr : Hid (lchk ws fuel = 4) := by
    have : secS ws fuel = 4 := by unfold secS; rw [if_neg (by simpa using E1.out), if_pos (by rw [HN.out]; decide)]
    show _ = _
    unfold lchk; rw [this, if_pos (by decide)]
  go_wp2
  go_ret
  exact ⟨ret_intk hr.out.symm, hw1⟩
  }
  have h32' : ((n : Int) == 32) = false := by simp; omega
  have h64 : 64 ≤ n := by omega
  have hs0 : Hid (secS ws fuel = 0) := by show _ = _; unfold secS; rw [if_neg (by simpa using E1.out), if_neg (by rw [HN.out]; omega)]
  clear h32
  go_wp2_with fail
  refine (unhide HG _ (i0.below hb1) h64).mono ?_
  rintro e w2 ⟨rfl, hb2⟩
  have hw2 := hw1.trans (hb2.mono hw1.size)
  obtain ⟨g, hg⟩ : ∃ g, g = genN ws := ⟨_, rfl⟩
  rw [← hg]
  by_cases g0 : g = 0
  {
  have hr : Hid (lchk ws fuel = 5) := by show _ = _; unfold lchk; rw [if_neg (by simpa using hs0.out), if_pos (by rw [← hg]; exact .inl g0)]
  subst g0
  clear hg
  go_wp2
  go_ret
  exact ⟨ret_intk hr.out.symm, hw2⟩
  }
  have g0' : (g == 0) = false := by simpa using g0
  by_cases g1 : 60000 < g
  {
  have hr : Hid (lchk ws fuel = 5) := by show _ = _; unfold lchk; rw [if_neg (by simpa using hs0.out), if_pos (by rw [← hg]; exact .inr g1)]
  clear hg
  go_wp2
  go_ret
  exact ⟨ret_intk hr.out.symm, hw2⟩
  }
  {
  have hr : Hid (lchk ws fuel = 0) := by show _ = _; unfold lchk; rw [if_neg (by simpa using hs0.out), if_neg (by rw [← hg]; omega)]
  have g1' : decide (60000 < g) = false := by simpa using g1
  clear hg
  go_wp2
  go_ret
  exact ⟨ret_intk hr.out.symm, hw2⟩

  }
set_option maxRecDepth 100000 in
set_option maxHeartbeats 400000 in
theorem refCheckRecord_any (a : Option Addr) (n c : Nat) (r : List Int) (w : World) (h : IsInts w a r) (hn : r.length = n) (hm : n ≤ maxLen) :
    Calls Tryz.prog 181 #[.slice a n c] w fun e w' => e = .returned (.int .i64 (recE r)) ∧ w' = w := by
  have HA := hide (refAllWords_any a n c r w h hn hm)
  have HN := hide hn
  clear hn
  unfold maxLen at hm
  by_cases c1 : n < 1
  {
  have hr : Hid (recE r = 2) := by show _ = _; unfold recE; rw [HN.out, if_pos (.inl c1)]
  have c1' : (n : Int) < 1 := by omega
  go_enter Tryz.func181, Tryz.ntmps181
  go_wp2
  go_ret
  exact ⟨ret_intk hr.out.symm, rfl⟩
  }
  have c1' : decide ((n : Int) < 1) = false := by simp; omega
  by_cases c2 : 4 < n
  {
  have hr : Hid (recE r = 2) := by show _ = _; unfold recE; rw [HN.out, if_pos (.inr c2)]
  go_enter Tryz.func181, Tryz.ntmps181
  go_wp2
  go_ret
  exact ⟨ret_intk hr.out.symm, rfl⟩
  }
  have c2' : decide (4 < (n : Int)) = false := by simp; omega
  cases hok : okL r
  {
  have hr : Hid (recE r = 3) := by show _ = _; unfold recE; rw [HN.out, if_neg (by omega), if_pos hok]
  have HO := hide hok
  clear hok
  go_enter Tryz.func181, Tryz.ntmps181
  go_wp2_with fail
  refine (unhide HA).mono ?_
  rintro e w' ⟨rfl, rfl⟩
  rw [HO.out]
  go_wp2
  go_ret
  exact ⟨ret_intk hr.out.symm, rfl⟩
  }
  {
  have hr : Hid (recE r = 0) := by show _ = _; unfold recE; rw [HN.out, if_neg (by omega), if_neg (by simp [hok])]
  have HO := hide hok
  clear hok
  go_enter Tryz.func181, Tryz.ntmps181
  go_wp2_with fail
  refine (unhide HA).mono ?_
  rintro e w' ⟨rfl, rfl⟩
  rw [HO.out]
  go_wp2
  go_ret
  exact ⟨ret_intk hr.out.symm, rfl⟩

  }
end Go.Proofs.YtgngpmgjoifepaaGreatDoor

namespace Go.Proofs.YtgngpmgjoifepaaGreatDoor
open Go.RowKit

set_option maxHeartbeats 1600000 in
set_option maxRecDepth 100000 in
theorem refCheckRoot_any (v : Int) (a : Option Addr) (n c : Nat) (t : Int) (xs : List Int) (w : World) (h : IsInts w a xs) (hn : xs.length = n) (hm : n ≤ maxLen) :
    Calls Tryz.prog 39 #[rv v a n c t] w fun e w' => e = .returned (.int .i64 (rootE v xs t)) ∧ Below w.heap.size w w' := by
  have HN := hide hn
  unfold maxLen at hm
  unfold rv
  have hw0 : Below w.heap.size w (w.alloc (.cells #[.int .i64 v, .slice a n c, .int .i64 t] 63)) := (Below.refl _ _).alloc (Nat.le_refl _) _
  have i0 := h.below hw0
  by_cases h1 : v < 1
  {
  have HE := hide (rootE_1 (ks := xs) (t := t) (inR_lo (n := v) (a := 1) (b := 1000) (by omega)))
  clear hn
  go_enter Tryz.func39, Tryz.ntmps39
  go_wp2_with fail
  go_ret
  exact ⟨ret_int HE.out.symm, hw0⟩
  }
  have d1 : decide (v < 1) = false := by simp; omega
  by_cases h2 : 1000 < v
  {
  have HE := hide (rootE_1 (ks := xs) (t := t) (inR_hi (n := v) (a := 1) (b := 1000) (by omega)))
  clear hn
  go_enter Tryz.func39, Tryz.ntmps39
  go_wp2_with fail
  go_ret
  exact ⟨ret_int HE.out.symm, hw0⟩
  }
  have d2 : decide (1000 < v) = false := by simp; omega
  have q1 : inR v 1 1000 = true := inR_t (by omega) (by omega)
  by_cases h3 : n < 1
  {
  have HE := hide (rootE_2 (t := t) q1 (ks := xs) (inR_lo (by omega)))
  have d3 : decide ((n : Int) < 1) = true := by simp; omega
  clear hn
  go_enter Tryz.func39, Tryz.ntmps39
  go_wp2_with fail
  go_ret
  exact ⟨ret_int HE.out.symm, hw0⟩
  }
  have d3 : decide ((n : Int) < 1) = false := by simp; omega
  by_cases h4 : 6 < n
  {
  have HE := hide (rootE_2 (t := t) q1 (ks := xs) (inR_hi (by omega)))
  have d4 : decide ((6 : Int) < (n : Int)) = true := by simp; omega
  clear hn
  go_enter Tryz.func39, Tryz.ntmps39
  go_wp2_with fail
  go_ret
  exact ⟨ret_int HE.out.symm, hw0⟩
  }
  have d4 : decide ((6 : Int) < (n : Int)) = false := by simp; omega
  have q2 : inR xs.length 1 6 = true := inR_t (by omega) (by omega)
  have HE3 := hide (rootE_3 (t := t) q1 q2)
  have HE4 := hide (rootE_4 (t := t) q1 q2)
  have HE0 := hide (rootE_0 (t := t) q1 q2)
  clear hn q1 q2 h1 h2 h3 h4
  go_enter Tryz.func39, Tryz.ntmps39
  go_wp2_with fail
  go_loopw [4, 27] (fun p i wr => ∃ (k : Nat) (q : Int), k ≤ n ∧ p = .int .i64 q ∧ i = .int .i64 k ∧ wr = w.alloc (.cells #[.int .i64 v, .slice a n c, .int .i64 t] 63) ∧ Hid ((k = 0 → q = 0) ∧ keysE q (xs.drop k) = keysE 0 xs)) (fun _ i _ => n - (intOf i).toNat)
  case atStart => exact ⟨0, 0, Nat.zero_le _, rfl, rfl, rfl, ⟨fun _ => rfl, rfl⟩⟩
  case round =>
    obtain ⟨k, q, hk, rfl, rfl, rfl, ht⟩ := hrel
    by_cases hlt : k < n
    {
    rcases i0 with rfl | ⟨b0, o0, rfl, hc0⟩
    {
    have := HN.out
    simp at this
    omega
    }
    have hkx : k < xs.length := by rw [HN.out]; exact hlt
    have e0 := hc0 k hkx
    rw [show xs.getD k 0 = xs[k] by simp [hkx]] at e0
    have K1 := hide (keysE_bad hkx q)
    have K2 := hide (keysE_two hkx q)
    have K3 := hide (keysE_next hkx q)
    clear hc0
    generalize xs[k] = x at *
    by_cases g1 : x < 1
    {
    have HZ := hide (K1.out (inR_lo (by omega)))
    have hne : Hid (keysE 0 xs = 3) := by show _ = _; rw [← ht.out.2, HZ.out]
    go_wp2_with fail
    go_ret
    exact ⟨ret_int (by rw [HE3.out (by rw [hne.out]; decide), hne.out]), hw0⟩
    }
    {
    have f1 : decide (x < 1) = false := by simp; omega
    by_cases g2 : 50 < x
    {
    have HZ := hide (K1.out (inR_hi (by omega)))
    have hne : Hid (keysE 0 xs = 3) := by show _ = _; rw [← ht.out.2, HZ.out]
    clear g1
    go_wp2_with fail
    go_ret
    exact ⟨ret_int (by rw [HE3.out (by rw [hne.out]; decide), hne.out]), hw0⟩
    }
    {
    have f2 : decide (50 < x) = false := by simp; omega
    have hin : inR x 1 50 = true := inR_t (by omega) (by omega)
    by_cases g3 : x ≤ q
    {
    have hk0 : 0 < k := by
      rcases Nat.eq_zero_or_pos k with h0 | h0
      {
      have := ht.out.1 h0
      omega
      }
      { exact h0 }
    have HZ := hide (K2.out hin g3)
    have hne : Hid (keysE 0 xs = 6) := by show _ = _; rw [← ht.out.2, HZ.out]
    have f3 : decide ((0 : Int) < (k : Int)) = true := by simp; omega
    have f4 : decide (x ≤ q) = true := by simp; omega
    clear g1 g2 g3 hin
    go_wp2_with fail
    go_ret
    exact ⟨ret_int (by rw [HE3.out (by rw [hne.out]; decide), hne.out]), hw0⟩
    }
    {
    have HZ := hide (K3.out hin (by omega))
    have f4 : decide (x ≤ q) = false := by simp; omega
    by_cases hk0 : 0 < k
    {
    have f3 : decide ((0 : Int) < (k : Int)) = true := by simp; omega
    clear g1 g2 g3 hin
    go_wp2_with fail
    go_roundw
    case rel => exact ⟨k + 1, x, by omega, rfl, by go_num, trivial, ⟨fun h => by omega, by rw [← ht.out.2, HZ.out]⟩⟩
    case measure => simp [intOf]; omega
    }
    {
    have f3 : decide ((0 : Int) < (k : Int)) = false := by simp; omega
    clear g1 g2 g3 hin
    go_wp2_with fail
    go_roundw
    case rel => exact ⟨k + 1, x, by omega, rfl, by go_num, trivial, ⟨fun h => by omega, by rw [← ht.out.2, HZ.out]⟩⟩
    case measure => simp [intOf]; omega
    }
    }
    }
    }
    }
    {
    have hx := ht.out.2
    rw [List.drop_eq_nil_of_le (by rw [HN.out]; omega)] at hx
    have hz := hide (show keysE 0 xs = 0 by rw [← hx]; rfl)
    clear hx
    by_cases g1 : t < 1
    {
    have HZ := hide (HE4.out hz.out (inR_lo (by omega)))
    go_wp2_with fail
    go_ret
    exact ⟨ret_int HZ.out.symm, hw0⟩
    }
    {
    have f1 : decide (t < 1) = false := by simp; omega
    by_cases g2 : (n : Int) < t
    {
    have HZ := hide (HE4.out hz.out (inR_hi (by rw [HN.out]; omega)))
    clear g1
    go_wp2_with fail
    go_ret
    exact ⟨ret_int HZ.out.symm, hw0⟩
    }
    {
    have f2 : decide ((n : Int) < t) = false := by simp; omega
    have HZ := hide (HE0.out hz.out (inR_t (by omega) (by rw [HN.out]; omega)))
    clear g1 g2
    go_wp2_with fail
    go_ret
    exact ⟨ret_int HZ.out.symm, hw0⟩

    }
    }
    }
set_option maxHeartbeats 1600000 in
set_option maxRecDepth 100000 in
theorem refCheckRelease_any (v u : Int) (a : Option Addr) (n c : Nat) (ts : List T3) (w : World) (h : IsTgts w a ts) (hn : ts.length = n) (hm : n ≤ maxLen) :
    Calls Tryz.prog 149 #[relv v u a n c] w fun e w' => e = .returned (.int .i64 (relE v u ts)) ∧ Below w.heap.size w w' := by
  have HN := hide hn
  unfold maxLen at hm
  unfold relv
  have hw0 : Below w.heap.size w (w.alloc (.cells #[.int .i64 v, .int .i64 u, .slice a n c] 73)) := (Below.refl _ _).alloc (Nat.le_refl _) _
  by_cases h1 : v < 1
  {
  have HE := hide (relE_1 (u := u) (ts := ts) (inR_lo (n := v) (a := 1) (b := 1000) (by omega)))
  clear hn
  go_enter Tryz.func149, Tryz.ntmps149
  go_wp2_with fail
  go_ret
  exact ⟨ret_int HE.out.symm, hw0⟩
  }
  have dh1 : decide (v < 1) = false := by simp; omega
  by_cases h2 : 1000 < v
  {
  have HE := hide (relE_1 (u := u) (ts := ts) (inR_hi (n := v) (a := 1) (b := 1000) (by omega)))
  clear hn
  go_enter Tryz.func149, Tryz.ntmps149
  go_wp2_with fail
  go_ret
  exact ⟨ret_int HE.out.symm, hw0⟩
  }
  have dh2 : decide (1000 < v) = false := by simp; omega
  by_cases h3 : u < 0
  {
  have HE := hide (relE_2 (v := v) (ts := ts) (inR_lo (n := u) (a := 0) (b := 100000) (by omega)))
  clear hn
  go_enter Tryz.func149, Tryz.ntmps149
  go_wp2_with fail
  go_ret
  exact ⟨ret_int HE.out.symm, hw0⟩
  }
  have dh3 : decide (u < 0) = false := by simp; omega
  by_cases h4 : 100000 < u
  {
  have HE := hide (relE_2 (v := v) (ts := ts) (inR_hi (n := u) (a := 0) (b := 100000) (by omega)))
  clear hn
  go_enter Tryz.func149, Tryz.ntmps149
  go_wp2_with fail
  go_ret
  exact ⟨ret_int HE.out.symm, hw0⟩
  }
  have dh4 : decide (100000 < u) = false := by simp; omega
  have q1 : inR v 1 1000 = true := inR_t (by omega) (by omega)
  have q2 : inR u 0 100000 = true := inR_t (by omega) (by omega)
  by_cases h5 : n < 1
  {
  have HE := hide (relE_3 q1 q2 (ts := ts) (inR_lo (by omega)))
  have d : decide ((n : Int) < 1) = true := by simp; omega
  clear hn
  go_enter Tryz.func149, Tryz.ntmps149
  go_wp2_with fail
  go_ret
  exact ⟨ret_int HE.out.symm, hw0⟩
  }
  have dh5 : decide ((n : Int) < 1) = false := by simp; omega
  by_cases h6 : 4 < n
  {
  have HE := hide (relE_3 q1 q2 (ts := ts) (inR_hi (by omega)))
  have d : decide ((4 : Int) < (n : Int)) = true := by simp; omega
  clear hn
  go_enter Tryz.func149, Tryz.ntmps149
  go_wp2_with fail
  go_ret
  exact ⟨ret_int HE.out.symm, hw0⟩
  }
  have dh6 : decide ((4 : Int) < (n : Int)) = false := by simp; omega
  have HE := hide (relE_4 q1 q2 (ts := ts) (inR_t (by omega) (by omega)))
  clear hn q1 q2 h1 h2 h3 h4 h5 h6
  go_enter Tryz.func149, Tryz.ntmps149
  go_wp2_with fail
  go_loopw [36] (fun i wr => ∃ k : Nat, k ≤ n ∧ i = .int .i64 k ∧ Below w.heap.size w wr ∧ Hid (tgtsE k (ts.drop k) = tgtsE 0 ts)) (fun i _ => n - (intOf i).toNat)
  case atStart => exact ⟨0, Nat.zero_le _, rfl, hw0, rfl⟩
  case round =>
    clear hw0
    obtain ⟨k, hk, rfl, hw, ht⟩ := hrel
    by_cases hlt : k < n
    {
    have i1 := h.below hw
    rcases i1 with rfl | ⟨b0, o0, rfl, hc0⟩
    {
    have := HN.out
    simp at this
    omega
    }
    have hkx : k < ts.length := by rw [HN.out]; exact hlt
    obtain ⟨e0, e1, e2⟩ := hc0 k ts[k] (List.getElem?_eq_getElem hkx)
    clear hc0
    have hw1 := hw.alloc hw.size (.cells #[.int .i64 ts[k].1, .int .i64 ts[k].2.1, .int .i64 ts[k].2.2] 104)
    have HB := hide (fun (hb : tOK k ts[k] = false) => show Ending.returned (.int .i64 3) = .returned (.int .i64 (relE v u ts)) from ret_int (by rw [HE.out, ← ht.out, tgtsE_bad hkx hb]))
    have HX := hide (tgtsE_next hkx)
    generalize ts[k] = tk at *
    obtain ⟨t0, t1, t2⟩ := tk
    simp only at e0 e1 e2 hw1
    by_cases a1 : ¬ t0 = (k : Int)
    {
    have HZ := hide (HB.out (by simp [tOK, inR]; omega))
    have f1 : (t0 != (k : Int)) = true := by simpa using a1
    clear a1
    go_wp2_with fail
    go_ret
    exact ⟨HZ.out, hw1⟩
    }
    have f1 : (t0 != (k : Int)) = false := by simpa using a1
    by_cases a2 : t1 < 1
    {
    have HZ := hide (HB.out (by simp [tOK, inR]; omega))
    have f2 : decide (t1 < 1) = true := by simp; omega
    clear a1 a2
    go_wp2_with fail
    go_ret
    exact ⟨HZ.out, hw1⟩
    }
    have f2 : decide (t1 < 1) = false := by simp; omega
    by_cases a3 : 60 < t1
    {
    have HZ := hide (HB.out (by simp [tOK, inR]; omega))
    have f3 : decide (60 < t1) = true := by simp; omega
    clear a1 a2 a3
    go_wp2_with fail
    go_ret
    exact ⟨HZ.out, hw1⟩
    }
    have f3 : decide (60 < t1) = false := by simp; omega
    by_cases a4 : t2 < 1
    {
    have HZ := hide (HB.out (by simp [tOK, inR]; omega))
    have f4 : decide (t2 < 1) = true := by simp; omega
    clear a1 a2 a3 a4
    go_wp2_with fail
    go_ret
    exact ⟨HZ.out, hw1⟩
    }
    have f4 : decide (t2 < 1) = false := by simp; omega
    by_cases a5 : 40 < t2
    {
    have HZ := hide (HB.out (by simp [tOK, inR]; omega))
    have f5 : decide (40 < t2) = true := by simp; omega
    clear a1 a2 a3 a4 a5
    go_wp2_with fail
    go_ret
    exact ⟨HZ.out, hw1⟩
    }
    have f5 : decide (40 < t2) = false := by simp; omega
    have HZ := hide (HX.out (by simp [tOK, inR]; omega))
    clear a1 a2 a3 a4 a5
    go_wp2_with fail
    go_roundw
    case rel => exact ⟨k + 1, by omega, by go_num, hw1, by show _ = _; rw [← ht.out, HZ.out]⟩
    case measure => simp [intOf]; omega
    }
    {
    go_wp2_with fail
    go_ret
    have hx := ht.out
    rw [List.drop_eq_nil_of_le (by rw [HN.out]; omega)] at hx
    exact ⟨ret_int (by rw [HE.out, ← hx]; rfl), hw⟩

    }
end Go.Proofs.YtgngpmgjoifepaaGreatDoor
