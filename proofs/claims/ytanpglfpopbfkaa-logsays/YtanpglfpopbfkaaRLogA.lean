/- The contracts of wainwrightref.generation, counts, CheckLog, checkRecord: the same as the program's. -/
import Derived.Test.YtanpglfpopbfkaaApnd
import Derived.Test.YtanpglfpopbfkaaRefCheck
namespace Go.Proofs.Ytanpglfpopbfkaa
open Go.RowKit
attribute [local go_sem ↓] Go.wp_at_zero Go.wp_at_succ

set_option maxRecDepth 100000 in
set_option maxHeartbeats 400000 in
theorem refGen_any (a : Option Addr) (n c : Nat) (ws : List Int) (fuel : Int) (s : Nat) (w : World) (h : IsInts w a ws) (hn : ws.length = n) (hm : n ≤ maxLen) (hs : s * 32 < n) :
    Calls Try.prog 102 #[.agg #[.slice a n c, .int .i64 fuel], .int .i64 s] w fun e w' => e = .returned (.int .i64 (genS ws s)) ∧ Below w.heap.size w w' := by
  have hw : Below w.heap.size w (w.alloc (.cells #[.slice a n c, .int .i64 fuel] 28)) := (Below.refl _ _).alloc (Nat.le_refl _) _
  have i0 := h.below hw
  have HN := hide hn
  have hs2 : s * 32 < ws.length := by omega
  clear hn
  unfold maxLen at hm
  rcases i0 with rfl | ⟨b, off, rfl, hc⟩
  · simp at hs2
  have e0 := hc (s * 32) hs2
  clear hc
  have i1 : (0 : Int) ≤ 32 * (s : Int) := by omega
  have i2 : 32 * (s : Int) < (n : Int) := by omega
  have i4 : (32 * (s : Int)).toNat = s * 32 := by omega
  obtain ⟨g, hg⟩ : ∃ g, g = ws.getD (s * 32) 0 := ⟨_, rfl⟩
  rw [← hg] at e0
  by_cases hz : g = 65535
  · have hr : Hid (genS ws s = 0) := by show _ = _; unfold genS; rw [← hg, if_pos hz]
    subst hz
    clear hg
    go_enter Try.func102, Try.ntmps102
    go_wp2
    go_ret
    exact ⟨ret_intk hr.out.symm, hw⟩
  · have hr : Hid (genS ws s = g) := by show _ = _; unfold genS; rw [← hg, if_neg hz]
    have hz' : (g != 65535) = true := by simpa using hz
    clear hg
    go_enter Try.func102, Try.ntmps102
    go_wp2
    go_ret
    exact ⟨ret_intk hr.out.symm, hw⟩

theorem refGenI_any (a : Option Addr) (n c : Nat) (ws : List Int) (fuel : Int) (s : Int) (w : World) (h : IsInts w a ws) (hn : ws.length = n) (hm : n ≤ maxLen) (hs : 0 ≤ s ∧ s < 2) (h64 : 64 ≤ n) :
    Calls Try.prog 102 #[.agg #[.slice a n c, .int .i64 fuel], .int .i64 s] w fun e w' => e = .returned (.int .i64 (genI ws s)) ∧ Below w.heap.size w w' := by
  obtain ⟨k, rfl⟩ := Int.eq_ofNat_of_zero_le hs.1
  exact refGen_any a n c ws fuel k w h hn hm (by omega)

set_option maxRecDepth 100000 in
set_option maxHeartbeats 1000000 in
theorem refCounts_any (a : Option Addr) (n c : Nat) (ws : List Int) (fuel : Int) (w : World) (h : IsInts w a ws) (hn : ws.length = n) (hm : n ≤ maxLen) (h64 : 64 ≤ n) :
    Calls Try.prog 75 #[.agg #[.slice a n c, .int .i64 fuel]] w (CountsAns w ws) := by
  have hw : Below w.heap.size w (w.alloc (.cells #[.slice a n c, .int .i64 fuel] 28)) := (Below.refl _ _).alloc (Nat.le_refl _) _
  have i0 := h.below hw
  have HG := hide (fun W (s : Int) (h : IsInts W a ws) (hs : 0 ≤ s ∧ s < 2) => refGenI_any a n c ws fuel s W h hn hm hs h64)
  have B0 := hide (heap_alloc_last w (.cells #[.slice a n c, .int .i64 fuel] 28))
  clear hn
  unfold maxLen at hm
  go_enter Try.func75, Try.ntmps75
  go_upto_region 1 with fail
  generalize w.alloc (.cells #[.slice a n c, .int .i64 fuel] 28) = W at *
  have x0 : W.cell? ⟨w.heap.size, 0, none⟩ = some (.slice a n c) := blk_cell B0.out 0 _ rfl
  have x1 : W.cell? ⟨w.heap.size, 1, none⟩ = some (.int .i64 fuel) := blk_cell B0.out 1 _ rfl
  have lt0 := blk_lt B0.out
  go_cut [4, 5] (fun v4 v5 wx => v4 = .int .i64 (genI ws 0) ∧ v5 = .int .i64 (genI ws 1) ∧ Below W.heap.size W wx)
  case first =>
    have hW : Below W.heap.size W W := Below.refl _ _
    go_wp2_with fail
    go_region_held3 (fun w' => w'.cell? ⟨w.heap.size, 0, none⟩ = some (.slice a n c) ∧ w'.cell? ⟨w.heap.size, 1, none⟩ = some (.int .i64 fuel)) (first | exact ⟨by assumption, by assumption⟩ | go_keep)
      ((go_at_call 102; refine (unhide HG _ _ ?_ ?_).mono ?_; (first | exact i0 | exact i0.below hW); decide; rintro e w1 ⟨rfl, hb1⟩; replace hW : Below W.heap.size W w1 := (by first | exact hW.drew.trans (hb1.mono hW.drew.size) | exact hW.trans (hb1.mono hW.size)); have z0 : w1.cell? ⟨w.heap.size, 0, none⟩ = some (.slice a n c) := (by rw [hW.cell lt0]; exact x0); have z1 : w1.cell? ⟨w.heap.size, 1, none⟩ = some (.int .i64 fuel) := (by rw [hW.cell lt0]; exact x1)))
    all_goals
      go_wp2
      go_meet
      case rel => exact ⟨rfl, rfl, hW⟩
  case rest =>
    obtain ⟨rfl, rfl, hW⟩ := hcut
    obtain ⟨wB, rfl⟩ : ∃ wB : World, wB = wc := ⟨_, rfl⟩
    have hwB := hw.trans (hW.mono hw.size)
    obtain ⟨g0, hg0⟩ : ∃ g, g = genI ws 0 := ⟨_, rfl⟩
    obtain ⟨g1, hg1⟩ : ∃ g, g = genI ws 1 := ⟨_, rfl⟩
    rw [← hg0, ← hg1]
    by_cases hlt : g1 ≤ g0
    · have hr : Hid (secN ws = 0 ∧ genN ws = g0) := by show _ ∧ _; unfold secN genN; rw [show genS ws 0 = g0 from hg0.symm, show genS ws 1 = g1 from hg1.symm, if_neg (by omega), if_neg (by omega)]; exact ⟨rfl, rfl⟩
      clear hg0 hg1
      go_wp2
      go_ret2
      exact ⟨ret_two (by rw [hr.out.1]; rfl) hr.out.2.symm, hwB⟩
    · have hr : Hid (secN ws = 1 ∧ genN ws = g1) := by show _ ∧ _; unfold secN genN; rw [show genS ws 0 = g0 from hg0.symm, show genS ws 1 = g1 from hg1.symm, if_pos (by omega), if_pos (by omega)]; exact ⟨rfl, rfl⟩
      have hlt' : decide (g1 ≤ g0) = false := by simpa using hlt
      clear hg0 hg1
      go_wp2
      go_ret2
      exact ⟨ret_two (by rw [hr.out.1]; rfl) hr.out.2.symm, hwB⟩

set_option maxRecDepth 100000 in
set_option maxHeartbeats 1000000 in
theorem refCheckLog_any (a : Option Addr) (n c : Nat) (ws : List Int) (fuel : Int) (w : World) (h : IsInts w a ws) (hn : ws.length = n) (hm : n ≤ maxLen) :
    Calls Try.prog 33 #[.agg #[.slice a n c, .int .i64 fuel]] w fun e w' => e = .returned (.int .i64 (lchk ws fuel)) ∧ Below w.heap.size w w' := by
  have hw : Below w.heap.size w (w.alloc (.cells #[.slice a n c, .int .i64 fuel] 28)) := (Below.refl _ _).alloc (Nat.le_refl _) _
  have i0 := h.below hw
  have HS := hide (fun W (h : IsInts W a ws) => refCheck_any a n c ws fuel W h hn hm)
  have HG := hide (fun W (h : IsInts W a ws) (h64 : 64 ≤ n) => refCounts_any a n c ws fuel W h hn hm h64)
  have B0 := hide (heap_alloc_last w (.cells #[.slice a n c, .int .i64 fuel] 28))
  have HN := hide hn
  clear hn
  go_enter Try.func33, Try.ntmps33
  go_wp2_with fail
  generalize w.alloc (.cells #[.slice a n c, .int .i64 fuel] 28) = W at *
  refine (unhide HS _ i0).mono ?_
  rintro e w1 ⟨rfl, hb1⟩
  have hw1 := hw.trans (hb1.mono hw.size)
  by_cases e1 : chk ws fuel = 0
  rotate_left
  · have e1' : (chk ws fuel != 0) = true := by simpa using e1
    have hr : Hid (lchk ws fuel = chk ws fuel) := by
      have : secS ws fuel = chk ws fuel := by unfold secS; rw [if_pos e1]
      show _ = _
      unfold lchk; rw [this, if_pos e1]
    go_wp2
    go_ret
    exact ⟨ret_intk hr.out.symm, hw1⟩
  have e1' : (chk ws fuel != 0) = false := by simpa using e1
  have E1 := hide e1
  have parts := chk_parts e1
  rw [HN.out] at parts
  clear e1
  have c00 := blk_cell (blk_below B0.out hb1) 0 _ rfl
  have c01 := blk_cell (blk_below B0.out hb1) 1 _ rfl
  by_cases h32 : n = 32
  · subst h32
    have hr : Hid (lchk ws fuel = 4) := by
      have : secS ws fuel = 4 := by unfold secS; rw [if_neg (by simpa using E1.out), if_pos (by rw [HN.out]; decide)]
      show _ = _
      unfold lchk; rw [this, if_pos (by decide)]
    go_wp2
    go_ret
    exact ⟨ret_intk hr.out.symm, hw1⟩
  have h32' : ((n : Int) == 32) = false := by simp; omega
  have h64 : 64 ≤ n := by omega
  have hs0 : Hid (secS ws fuel = 0) := by show _ = _; unfold secS; rw [if_neg (by simpa using E1.out), if_neg (by rw [HN.out]; omega)]
  clear h32
  go_wp2_with fail
  refine (unhide HG _ (i0.below hb1) h64).mono ?_
  rintro e w2 ⟨rfl, hb2⟩
  have hw2 := hw1.trans (hb2.mono hw1.size)
  obtain ⟨g, hg⟩ : ∃ g, g = genN ws := ⟨_, rfl⟩
  rw [← hg]
  by_cases g0 : g = 0
  · have hr : Hid (lchk ws fuel = 5) := by show _ = _; unfold lchk; rw [if_neg (by simpa using hs0.out), if_pos (by rw [← hg]; exact .inl g0)]
    subst g0
    clear hg
    go_wp2
    go_ret
    exact ⟨ret_intk hr.out.symm, hw2⟩
  have g0' : (g == 0) = false := by simpa using g0
  by_cases g1 : 60000 < g
  · have hr : Hid (lchk ws fuel = 5) := by show _ = _; unfold lchk; rw [if_neg (by simpa using hs0.out), if_pos (by rw [← hg]; exact .inr g1)]
    clear hg
    go_wp2
    go_ret
    exact ⟨ret_intk hr.out.symm, hw2⟩
  · have hr : Hid (lchk ws fuel = 0) := by show _ = _; unfold lchk; rw [if_neg (by simpa using hs0.out), if_neg (by rw [← hg]; omega)]
    have g1' : decide (60000 < g) = false := by simpa using g1
    clear hg
    go_wp2
    go_ret
    exact ⟨ret_intk hr.out.symm, hw2⟩

set_option maxRecDepth 100000 in
set_option maxHeartbeats 400000 in
theorem refCheckRecord_any (a : Option Addr) (n c : Nat) (r : List Int) (w : World) (h : IsInts w a r) (hn : r.length = n) (hm : n ≤ maxLen) :
    Calls Try.prog 77 #[.slice a n c] w fun e w' => e = .returned (.int .i64 (recE r)) ∧ w' = w := by
  have HA := hide (refAllWords_any a n c r w h hn hm)
  have HN := hide hn
  clear hn
  unfold maxLen at hm
  by_cases c1 : n < 1
  · have hr : Hid (recE r = 2) := by show _ = _; unfold recE; rw [HN.out, if_pos (.inl c1)]
    have c1' : (n : Int) < 1 := by omega
    go_enter Try.func77, Try.ntmps77
    go_wp2
    go_ret
    exact ⟨ret_intk hr.out.symm, rfl⟩
  have c1' : decide ((n : Int) < 1) = false := by simp; omega
  by_cases c2 : 4 < n
  · have hr : Hid (recE r = 2) := by show _ = _; unfold recE; rw [HN.out, if_pos (.inr c2)]
    go_enter Try.func77, Try.ntmps77
    go_wp2
    go_ret
    exact ⟨ret_intk hr.out.symm, rfl⟩
  have c2' : decide (4 < (n : Int)) = false := by simp; omega
  cases hok : okL r
  · have hr : Hid (recE r = 3) := by show _ = _; unfold recE; rw [HN.out, if_neg (by omega), if_pos hok]
    have HO := hide hok
    clear hok
    go_enter Try.func77, Try.ntmps77
    go_wp2_with fail
    refine (unhide HA).mono ?_
    rintro e w' ⟨rfl, rfl⟩
    rw [HO.out]
    go_wp2
    go_ret
    exact ⟨ret_intk hr.out.symm, rfl⟩
  · have hr : Hid (recE r = 0) := by show _ = _; unfold recE; rw [HN.out, if_neg (by omega), if_neg (by simp [hok])]
    have HO := hide hok
    clear hok
    go_enter Try.func77, Try.ntmps77
    go_wp2_with fail
    refine (unhide HA).mono ?_
    rintro e w' ⟨rfl, rfl⟩
    rw [HO.out]
    go_wp2
    go_ret
    exact ⟨ret_intk hr.out.symm, rfl⟩

end Go.Proofs.Ytanpglfpopbfkaa
