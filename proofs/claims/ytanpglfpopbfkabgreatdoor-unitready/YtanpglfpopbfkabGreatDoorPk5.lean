/- The contracts of log.checkSectors, generationOf, counting, Check: what a log's two sectors say. -/
import Derived.Test.YtanpglfpopbfkabGreatDoorPk4
namespace Go.Proofs.YtanpglfpopbfkabGreatDoor
open Go.RowKit
attribute [local go_sem ↓] Go.wp_at_zero Go.wp_at_succ

/-- The document's first errors of a log. -/
def secS (ws : List Int) (fuel : Int) : Int := if chk ws fuel ≠ 0 then chk ws fuel else if ws.length < 64 then 4 else 0
/-- A sector's generation. -/
def genS (ws : List Int) (s : Nat) : Int := if ws.getD (s * 32) 0 = 65535 then 0 else ws.getD (s * 32) 0
/-- The sector that counts, and its generation. -/
def secN (ws : List Int) : Nat := if genS ws 0 < genS ws 1 then 1 else 0
def genN (ws : List Int) : Int := if genS ws 0 < genS ws 1 then genS ws 1 else genS ws 0
/-- The document's Check of a log. -/
def lchk (ws : List Int) (fuel : Int) : Int := if secS ws fuel ≠ 0 then secS ws fuel else if genN ws = 0 ∨ 60000 < genN ws then 5 else 0

set_option maxRecDepth 100000 in
set_option maxHeartbeats 400000 in
theorem checkSectors_any (a : Option Addr) (n c : Nat) (ws : List Int) (fuel : Int) (w : World) (h : IsInts w a ws) (hn : ws.length = n) (hm : n ≤ maxLen) :
    Calls Tryz.prog 103 #[.agg #[.slice a n c, .int .i64 fuel]] w fun e w' => e = .returned (.int .i64 (secS ws fuel)) ∧ Below w.heap.size w w' := by
  have HC := hide (fun W (h : IsInts W a ws) => check_any a n c ws fuel W h hn hm)
  have hw : Below w.heap.size w (w.alloc (.cells #[.slice a n c, .int .i64 fuel] 48)) := (Below.refl _ _).alloc (Nat.le_refl _) _
  have B0 := hide (heap_alloc_last w (.cells #[.slice a n c, .int .i64 fuel] 48))
  have i0 := h.below hw
  have HN := hide hn
  clear hn
  unfold maxLen at hm
  go_enter Tryz.func103, Tryz.ntmps103
  go_wp2_with fail
  generalize w.alloc (.cells #[.slice a n c, .int .i64 fuel] 48) = W at *
  refine (unhide HC _ i0).mono ?_
  rintro e w1 ⟨rfl, hb1⟩
  have hw1 := hw.trans (hb1.mono hw.size)
  by_cases e1 : chk ws fuel = 0
  rotate_left
  · have e1' : (chk ws fuel != 0) = true := by simpa using e1
    have hr : Hid (secS ws fuel = chk ws fuel) := by show _ = _; unfold secS; rw [if_pos e1]
    go_wp2
    go_ret
    exact ⟨ret_intk hr.out.symm, hw1⟩
  have e1' : (chk ws fuel != 0) = false := by simpa using e1
  have E1 := hide e1
  clear e1
  have c00 := blk_cell (blk_below B0.out hb1) 0 _ rfl
  by_cases hl : n < 64
  · have hr : Hid (secS ws fuel = 4) := by show _ = _; unfold secS; rw [if_neg (by simpa using E1.out), if_pos (by rw [HN.out]; exact hl)]
    go_wp2
    go_ret
    exact ⟨ret_intk hr.out.symm, hw1⟩
  · have hr : Hid (secS ws fuel = 0) := by show _ = _; unfold secS; rw [if_neg (by simpa using E1.out), if_neg (by rw [HN.out]; exact hl)]
    have hl' : ¬ (n : Int) < 64 := by omega
    go_wp2
    go_ret
    exact ⟨ret_intk hr.out.symm, hw1⟩

set_option maxRecDepth 100000 in
set_option maxHeartbeats 400000 in
theorem generationOf_any (a : Option Addr) (n c : Nat) (ws : List Int) (fuel : Int) (s : Nat) (w : World) (h : IsInts w a ws) (hn : ws.length = n) (hm : n ≤ maxLen) (hs : s * 32 < n) :
    Calls Tryz.prog 147 #[.agg #[.slice a n c, .int .i64 fuel], .int .i64 s] w fun e w' => e = .returned (.int .i64 (genS ws s)) ∧ Below w.heap.size w w' := by
  have hw : Below w.heap.size w (w.alloc (.cells #[.slice a n c, .int .i64 fuel] 48)) := (Below.refl _ _).alloc (Nat.le_refl _) _
  have i0 := h.below hw
  have HN := hide hn
  have hs2 : s * 32 < ws.length := by omega
  clear hn
  unfold maxLen at hm
  rcases i0 with rfl | ⟨b, off, rfl, hc⟩
  · simp at hs2
  have e0 := hc (s * 32) hs2
  clear hc
  have i1 : (0 : Int) ≤ (s : Int) * 32 := by omega
  have i2 : (s : Int) * 32 < (n : Int) := by omega
  have i4 : ((s : Int) * 32).toNat = s * 32 := by omega
  obtain ⟨g, hg⟩ : ∃ g, g = ws.getD (s * 32) 0 := ⟨_, rfl⟩
  rw [← hg] at e0
  by_cases hz : g = 65535
  · have hr : Hid (genS ws s = 0) := by show _ = _; unfold genS; rw [← hg, if_pos hz]
    subst hz
    clear hg
    go_enter Tryz.func147, Tryz.ntmps147
    go_wp2
    go_ret
    exact ⟨ret_intk hr.out.symm, hw⟩
  · have hr : Hid (genS ws s = g) := by show _ = _; unfold genS; rw [← hg, if_neg hz]
    have hz' : (g != 65535) = true := by simpa using hz
    clear hg
    go_enter Tryz.func147, Tryz.ntmps147
    go_wp2
    go_ret
    exact ⟨ret_intk hr.out.symm, hw⟩

def genI (ws : List Int) (s : Int) : Int := genS ws s.toNat
theorem generationI_any (a : Option Addr) (n c : Nat) (ws : List Int) (fuel : Int) (s : Int) (w : World) (h : IsInts w a ws) (hn : ws.length = n) (hm : n ≤ maxLen) (hs : 0 ≤ s ∧ s < 2) (h64 : 64 ≤ n) :
    Calls Tryz.prog 147 #[.agg #[.slice a n c, .int .i64 fuel], .int .i64 s] w fun e w' => e = .returned (.int .i64 (genI ws s)) ∧ Below w.heap.size w w' := by
  obtain ⟨k, rfl⟩ := Int.eq_ofNat_of_zero_le hs.1
  exact generationOf_any a n c ws fuel k w h hn hm (by omega)

def CountsAns (w : World) (ws : List Int) (e : Ending) (w' : World) : Prop :=
  e = .returned (.tuple #[.int .i64 (secN ws), .int .i64 (genN ws)]) ∧ Below w.heap.size w w'

theorem ret_two {a b c d : Int} (h1 : a = c) (h2 : b = d) : Ending.returned (.tuple #[.int .i64 a, .int .i64 b]) = .returned (.tuple #[.int .i64 c, .int .i64 d]) := by rw [h1, h2]

set_option maxRecDepth 100000 in
set_option maxHeartbeats 1000000 in
theorem counting_any (a : Option Addr) (n c : Nat) (ws : List Int) (fuel : Int) (w : World) (h : IsInts w a ws) (hn : ws.length = n) (hm : n ≤ maxLen) (h64 : 64 ≤ n) :
    Calls Tryz.prog 104 #[.agg #[.slice a n c, .int .i64 fuel]] w (CountsAns w ws) := by
  have hw : Below w.heap.size w (w.alloc (.cells #[.slice a n c, .int .i64 fuel] 48)) := (Below.refl _ _).alloc (Nat.le_refl _) _
  have i0 := h.below hw
  have HG := hide (fun W (s : Int) (h : IsInts W a ws) (hs : 0 ≤ s ∧ s < 2) => generationI_any a n c ws fuel s W h hn hm hs h64)
  have B0 := hide (heap_alloc_last w (.cells #[.slice a n c, .int .i64 fuel] 48))
  have HN := hide hn
  clear hn
  unfold maxLen at hm
  go_enter Tryz.func104, Tryz.ntmps104
  go_upto_region 1 with fail
  generalize w.alloc (.cells #[.slice a n c, .int .i64 fuel] 48) = W at *
  have x0 : W.cell? ⟨w.heap.size, 0, none⟩ = some (.slice a n c) := blk_cell B0.out 0 _ rfl
  have x1 : W.cell? ⟨w.heap.size, 1, none⟩ = some (.int .i64 fuel) := blk_cell B0.out 1 _ rfl
  have lt0 := blk_lt B0.out
  go_cut [4, 5] (fun v4 v5 wx => v4 = .int .i64 (genI ws 0) ∧ v5 = .int .i64 (genI ws 1) ∧ Below W.heap.size W wx)
  case first =>
    have hW : Below W.heap.size W W := Below.refl _ _
    go_wp2_with fail
    go_region_held3 (fun w' => w'.cell? ⟨w.heap.size, 0, none⟩ = some (.slice a n c) ∧ w'.cell? ⟨w.heap.size, 1, none⟩ = some (.int .i64 fuel)) (first | exact ⟨by assumption, by assumption⟩ | go_keep)
      ((go_at_call 147; refine (unhide HG _ _ ?_ ?_).mono ?_; (first | exact i0 | exact i0.below hW); decide; rintro e w1 ⟨rfl, hb1⟩; replace hW : Below W.heap.size W w1 := (by first | exact hW.drew.trans (hb1.mono hW.drew.size) | exact hW.trans (hb1.mono hW.size)); have z0 : w1.cell? ⟨w.heap.size, 0, none⟩ = some (.slice a n c) := (by rw [hW.cell lt0]; exact x0); have z1 : w1.cell? ⟨w.heap.size, 1, none⟩ = some (.int .i64 fuel) := (by rw [hW.cell lt0]; exact x1)))
    all_goals
      go_wp2
      go_meet
      case rel => exact ⟨rfl, rfl, hW⟩
  case rest =>
    obtain ⟨rfl, rfl, hW⟩ := hcut
    obtain ⟨wB, rfl⟩ : ∃ wB : World, wB = wc := ⟨_, rfl⟩
    have hwB := hw.trans (hW.mono hw.size)
    obtain ⟨g0, hg0⟩ : ∃ g, g = genI ws 0 := ⟨_, rfl⟩
    obtain ⟨g1, hg1⟩ : ∃ g, g = genI ws 1 := ⟨_, rfl⟩
    rw [← hg0, ← hg1]
    by_cases hlt : g0 < g1
    · have hr : Hid (secN ws = 1 ∧ genN ws = g1) := by show _ ∧ _; unfold secN genN; rw [show genS ws 0 = g0 from hg0.symm, show genS ws 1 = g1 from hg1.symm, if_pos hlt, if_pos hlt]; exact ⟨rfl, rfl⟩
      clear hg0 hg1
      go_wp2
      go_ret2
      exact ⟨ret_two (by rw [hr.out.1]; rfl) hr.out.2.symm, hwB⟩
    · have hr : Hid (secN ws = 0 ∧ genN ws = g0) := by show _ ∧ _; unfold secN genN; rw [show genS ws 0 = g0 from hg0.symm, show genS ws 1 = g1 from hg1.symm, if_neg hlt, if_neg hlt]; exact ⟨rfl, rfl⟩
      have hlt' : decide (g0 < g1) = false := by simpa using hlt
      clear hg0 hg1
      go_wp2
      go_ret2
      exact ⟨ret_two (by rw [hr.out.1]; rfl) hr.out.2.symm, hwB⟩

set_option maxRecDepth 100000 in
set_option maxHeartbeats 1000000 in
theorem logCheck_any (a : Option Addr) (n c : Nat) (ws : List Int) (fuel : Int) (w : World) (h : IsInts w a ws) (hn : ws.length = n) (hm : n ≤ maxLen) :
    Calls Tryz.prog 62 #[.agg #[.slice a n c, .int .i64 fuel]] w fun e w' => e = .returned (.int .i64 (lchk ws fuel)) ∧ Below w.heap.size w w' := by
  have hw : Below w.heap.size w (w.alloc (.cells #[.slice a n c, .int .i64 fuel] 48)) := (Below.refl _ _).alloc (Nat.le_refl _) _
  have i0 := h.below hw
  have HS := hide (fun W (h : IsInts W a ws) => checkSectors_any a n c ws fuel W h hn hm)
  have HG := hide (fun W (h : IsInts W a ws) (h64 : 64 ≤ n) => counting_any a n c ws fuel W h hn hm h64)
  have B0 := hide (heap_alloc_last w (.cells #[.slice a n c, .int .i64 fuel] 48))
  have HN := hide hn
  clear hn
  go_enter Tryz.func62, Tryz.ntmps62
  go_wp2_with fail
  generalize w.alloc (.cells #[.slice a n c, .int .i64 fuel] 48) = W at *
  refine (unhide HS _ i0).mono ?_
  rintro e w1 ⟨rfl, hb1⟩
  have hw1 := hw.trans (hb1.mono hw.size)
  by_cases e1 : secS ws fuel = 0
  rotate_left
  · have e1' : (secS ws fuel != 0) = true := by simpa using e1
    have hr : Hid (lchk ws fuel = secS ws fuel) := by show _ = _; unfold lchk; rw [if_pos e1]
    go_wp2
    go_ret
    exact ⟨ret_intk hr.out.symm, hw1⟩
  have e1' : (secS ws fuel != 0) = false := by simpa using e1
  have E1 := hide e1
  have h64 : 64 ≤ n := by
    rw [← HN.out]
    unfold secS at e1
    split at e1
    · rename_i h; exact absurd e1 h
    · split at e1
      · simp at e1
      · omega
  clear e1
  have c00 := blk_cell (blk_below B0.out hb1) 0 _ rfl
  have c01 := blk_cell (blk_below B0.out hb1) 1 _ rfl
  go_wp2_with fail
  refine (unhide HG _ (i0.below hb1) h64).mono ?_
  rintro e w2 ⟨rfl, hb2⟩
  have hw2 := hw1.trans (hb2.mono hw1.size)
  obtain ⟨g, hg⟩ : ∃ g, g = genN ws := ⟨_, rfl⟩
  rw [← hg]
  by_cases g0 : g = 0
  · have hr : Hid (lchk ws fuel = 5) := by show _ = _; unfold lchk; rw [if_neg (by simpa using E1.out), if_pos (by rw [← hg]; exact .inl g0)]
    subst g0
    clear hg
    go_wp2
    go_ret
    exact ⟨ret_intk hr.out.symm, hw2⟩
  have g0' : (g == 0) = false := by simpa using g0
  by_cases g1 : 60000 < g
  · have hr : Hid (lchk ws fuel = 5) := by show _ = _; unfold lchk; rw [if_neg (by simpa using E1.out), if_pos (by rw [← hg]; exact .inr g1)]
    clear hg
    go_wp2
    go_ret
    exact ⟨ret_intk hr.out.symm, hw2⟩
  · have hr : Hid (lchk ws fuel = 0) := by show _ = _; unfold lchk; rw [if_neg (by simpa using E1.out), if_neg (by rw [← hg]; omega)]
    have g1' : decide (60000 < g) = false := by simpa using g1
    clear hg
    go_wp2
    go_ret
    exact ⟨ret_intk hr.out.symm, hw2⟩

end Go.Proofs.YtanpglfpopbfkabGreatDoor
