/- The contracts of log.checkSectors, generationOf, counting, Check: what a log's two sectors say. The contracts of log.longOf, headOf, clean, checkRecord. -/
import Derived.Test.YtgngpmgjoifepaaGreatDoorPv2
namespace Go.Proofs.YtgngpmgjoifepaaGreatDoor
open Go.RowKit
attribute [local go_sem ↓] Go.wp_at_zero Go.wp_at_succ

def secS (ws : List Int) (fuel : Int) : Int := if chk ws fuel ≠ 0 then chk ws fuel else if ws.length < 64 then 4 else 0
def genS (ws : List Int) (s : Nat) : Int := if ws.getD (s * 32) 0 = 65535 then 0 else ws.getD (s * 32) 0
def secN (ws : List Int) : Nat := if genS ws 0 < genS ws 1 then 1 else 0
def genN (ws : List Int) : Int := if genS ws 0 < genS ws 1 then genS ws 1 else genS ws 0
def lchk (ws : List Int) (fuel : Int) : Int := if secS ws fuel ≠ 0 then secS ws fuel else if genN ws = 0 ∨ 60000 < genN ws then 5 else 0

set_option maxRecDepth 100000 in
set_option maxHeartbeats 400000 in
theorem checkSectors_any (a : Option Addr) (n c : Nat) (ws : List Int) (fuel : Int) (w : World) (h : IsInts w a ws) (hn : ws.length = n) (hm : n ≤ maxLen) :
    Calls Tryz.prog 108 #[.agg #[.slice a n c, .int .i64 fuel]] w fun e w' => e = .returned (.int .i64 (secS ws fuel)) ∧ Below w.heap.size w w' := by
  have HC := hide (fun W (h : IsInts W a ws) => check_any a n c ws fuel W h hn hm)
  have hw : Below w.heap.size w (w.alloc (.cells #[.slice a n c, .int .i64 fuel] 27)) := (Below.refl _ _).alloc (Nat.le_refl _) _
  have B0 := hide (heap_alloc_last w (.cells #[.slice a n c, .int .i64 fuel] 27))
  have i0 := h.below hw
  have HN := hide hn
  clear hn
  unfold maxLen at hm
  go_enter Tryz.func108, Tryz.ntmps108
  go_wp2_with fail
  generalize w.alloc (.cells #[.slice a n c, .int .i64 fuel] 27) = W at *
  refine (unhide HC _ i0).mono ?_
  rintro e w1 ⟨rfl, hb1⟩
  have hw1 := hw.trans (hb1.mono hw.size)
  by_cases e1 : chk ws fuel = 0
  rotate_left
  {
  have e1' : (chk ws fuel != 0) = true := by simpa using e1
  have hr : Hid (secS ws fuel = chk ws fuel) := by show _ = _; unfold secS; rw [if_pos e1]
  go_wp2
  go_ret
  exact ⟨ret_intk hr.out.symm, hw1⟩
  }
  have e1' : (chk ws fuel != 0) = false := by simpa using e1
  have E1 := hide e1
  clear e1
  have c00 := blk_cell (blk_below B0.out hb1) 0 _ rfl
  by_cases hl : n < 64
  {
  have hr : Hid (secS ws fuel = 4) := by show _ = _; unfold secS; rw [if_neg (by simpa using E1.out), if_pos (by rw [HN.out]; exact hl)]
  go_wp2
  go_ret
  exact ⟨ret_intk hr.out.symm, hw1⟩
  }
  {
  have hr : Hid (secS ws fuel = 0) := by show _ = _; unfold secS; rw [if_neg (by simpa using E1.out), if_neg (by rw [HN.out]; exact hl)]
  have hl' : ¬ (n : Int) < 64 := by omega
  go_wp2
  go_ret
  exact ⟨ret_intk hr.out.symm, hw1⟩

  }
set_option maxRecDepth 100000 in
set_option maxHeartbeats 400000 in
theorem generationOf_any (a : Option Addr) (n c : Nat) (ws : List Int) (fuel : Int) (s : Nat) (w : World) (h : IsInts w a ws) (hn : ws.length = n) (hm : n ≤ maxLen) (hs : s * 32 < n) :
    Calls Tryz.prog 174 #[.agg #[.slice a n c, .int .i64 fuel], .int .i64 s] w fun e w' => e = .returned (.int .i64 (genS ws s)) ∧ Below w.heap.size w w' := by
  have hw : Below w.heap.size w (w.alloc (.cells #[.slice a n c, .int .i64 fuel] 27)) := (Below.refl _ _).alloc (Nat.le_refl _) _
  have i0 := h.below hw
  have HN := hide hn
  have hs2 : s * 32 < ws.length := by omega
  clear hn
  unfold maxLen at hm
  rcases i0 with rfl | ⟨b, off, rfl, hc⟩
  { simp at hs2 }
  have e0 := hc (s * 32) hs2
  clear hc
  have i1 : (0 : Int) ≤ (s : Int) * 32 := by omega
  have i2 : (s : Int) * 32 < (n : Int) := by omega
  have i4 : ((s : Int) * 32).toNat = s * 32 := by omega
  obtain ⟨g, hg⟩ : ∃ g, g = ws.getD (s * 32) 0 := ⟨_, rfl⟩
  rw [← hg] at e0
  by_cases hz : g = 65535
  {
  have hr : Hid (genS ws s = 0) := by show _ = _; unfold genS; rw [← hg, if_pos hz]
  subst hz
  clear hg
  go_enter Tryz.func174, Tryz.ntmps174
  go_wp2
  go_ret
  exact ⟨ret_intk hr.out.symm, hw⟩
  }
  {
  have hr : Hid (genS ws s = g) := by show _ = _; unfold genS; rw [← hg, if_neg hz]
  have hz' : (g != 65535) = true := by simpa using hz
  clear hg
  go_enter Tryz.func174, Tryz.ntmps174
  go_wp2
  go_ret
  exact ⟨ret_intk hr.out.symm, hw⟩

  }
def genI (ws : List Int) (s : Int) : Int := genS ws s.toNat
theorem generationI_any (a : Option Addr) (n c : Nat) (ws : List Int) (fuel : Int) (s : Int) (w : World) (h : IsInts w a ws) (hn : ws.length = n) (hm : n ≤ maxLen) (hs : 0 ≤ s ∧ s < 2) (h64 : 64 ≤ n) :
    Calls Tryz.prog 174 #[.agg #[.slice a n c, .int .i64 fuel], .int .i64 s] w fun e w' => e = .returned (.int .i64 (genI ws s)) ∧ Below w.heap.size w w' := by
  obtain ⟨k, rfl⟩ := Int.eq_ofNat_of_zero_le hs.1
  exact generationOf_any a n c ws fuel k w h hn hm (by omega)

def CountsAns (w : World) (ws : List Int) (e : Ending) (w' : World) : Prop :=
  e = .returned (.tuple #[.int .i64 (secN ws), .int .i64 (genN ws)]) ∧ Below w.heap.size w w'

theorem ret_two {a b c d : Int} (h1 : a = c) (h2 : b = d) : Ending.returned (.tuple #[.int .i64 a, .int .i64 b]) = .returned (.tuple #[.int .i64 c, .int .i64 d]) := by rw [h1, h2]

set_option maxRecDepth 100000 in
set_option maxHeartbeats 1000000 in
theorem counting_any (a : Option Addr) (n c : Nat) (ws : List Int) (fuel : Int) (w : World) (h : IsInts w a ws) (hn : ws.length = n) (hm : n ≤ maxLen) (h64 : 64 ≤ n) :
    Calls Tryz.prog 127 #[.agg #[.slice a n c, .int .i64 fuel]] w (CountsAns w ws) := by
  have hw : Below w.heap.size w (w.alloc (.cells #[.slice a n c, .int .i64 fuel] 27)) := (Below.refl _ _).alloc (Nat.le_refl _) _
  have i0 := h.below hw
  have HG := hide (fun W (s : Int) (h : IsInts W a ws) (hs : 0 ≤ s ∧ s < 2) => generationI_any a n c ws fuel s W h hn hm hs h64)
  have B0 := hide (heap_alloc_last w (.cells #[.slice a n c, .int .i64 fuel] 27))
  have HN := hide hn
  clear hn
  unfold maxLen at hm
  go_enter Tryz.func127, Tryz.ntmps127
  go_upto_region 1 with fail
  generalize w.alloc (.cells #[.slice a n c, .int .i64 fuel] 27) = W at *
  have x0 : W.cell? ⟨w.heap.size, 0, none⟩ = some (.slice a n c) := blk_cell B0.out 0 _ rfl
  have x1 : W.cell? ⟨w.heap.size, 1, none⟩ = some (.int .i64 fuel) := blk_cell B0.out 1 _ rfl
  have lt0 := blk_lt B0.out
  go_cut [4, 5] (fun v4 v5 wx => v4 = .int .i64 (genI ws 0) ∧ v5 = .int .i64 (genI ws 1) ∧ Below W.heap.size W wx)
  case first =>
    have hW : Below W.heap.size W W := Below.refl _ _
    go_wp2_with fail
    go_region_held3 (fun w' => w'.cell? ⟨w.heap.size, 0, none⟩ = some (.slice a n c) ∧ w'.cell? ⟨w.heap.size, 1, none⟩ = some (.int .i64 fuel)) (first | exact ⟨by assumption, by assumption⟩ | go_keep)
      ((go_at_call 174; refine (unhide HG _ _ ?_ ?_).mono ?_; (first | exact i0 | exact i0.below hW); decide; rintro e w1 ⟨rfl, hb1⟩; replace hW : Below W.heap.size W w1 := (by first | exact hW.drew.trans (hb1.mono hW.drew.size) | exact hW.trans (hb1.mono hW.size)); have z0 : w1.cell? ⟨w.heap.size, 0, none⟩ = some (.slice a n c) := (by rw [hW.cell lt0]; exact x0); have z1 : w1.cell? ⟨w.heap.size, 1, none⟩ = some (.int .i64 fuel) := (by rw [hW.cell lt0]; exact x1)))
    all_goals
      go_wp2
      go_meet
      case rel => exact ⟨rfl, rfl, hW⟩
  case rest =>
    obtain ⟨rfl, rfl, hW⟩ := hcut
    obtain ⟨wB, rfl⟩ : ∃ wB : World, wB = wc := ⟨_, rfl⟩
    have hwB := hw.trans (hW.mono hw.size)
    obtain ⟨g0, hg0⟩ : ∃ g, g = genI ws 0 := ⟨_, rfl⟩
    obtain ⟨g1, hg1⟩ : ∃ g, g = genI ws 1 := ⟨_, rfl⟩
    rw [← hg0, ← hg1]
    by_cases hlt : g0 < g1
    {
    have hr : Hid (secN ws = 1 ∧ genN ws = g1) := by show _ ∧ _; unfold secN genN; rw [show genS ws 0 = g0 from hg0.symm, show genS ws 1 = g1 from hg1.symm, if_pos hlt, if_pos hlt]; exact ⟨rfl, rfl⟩
    clear hg0 hg1
    go_wp2
    go_ret2
    exact ⟨ret_two (by rw [hr.out.1]; rfl) hr.out.2.symm, hwB⟩
    }
    {
    have hr : Hid (secN ws = 0 ∧ genN ws = g0) := by show _ ∧ _; unfold secN genN; rw [show genS ws 0 = g0 from hg0.symm, show genS ws 1 = g1 from hg1.symm, if_neg hlt, if_neg hlt]; exact ⟨rfl, rfl⟩
    have hlt' : decide (g0 < g1) = false := by simpa using hlt
    clear hg0 hg1
    go_wp2
    go_ret2
    exact ⟨ret_two (by rw [hr.out.1]; rfl) hr.out.2.symm, hwB⟩

    }
set_option maxRecDepth 100000 in
set_option maxHeartbeats 1000000 in
theorem logCheck_any (a : Option Addr) (n c : Nat) (ws : List Int) (fuel : Int) (w : World) (h : IsInts w a ws) (hn : ws.length = n) (hm : n ≤ maxLen) :
    Calls Tryz.prog 65 #[.agg #[.slice a n c, .int .i64 fuel]] w fun e w' => e = .returned (.int .i64 (lchk ws fuel)) ∧ Below w.heap.size w w' := by
  have hw : Below w.heap.size w (w.alloc (.cells #[.slice a n c, .int .i64 fuel] 27)) := (Below.refl _ _).alloc (Nat.le_refl _) _
  have i0 := h.below hw
  have HS := hide (fun W (h : IsInts W a ws) => checkSectors_any a n c ws fuel W h hn hm)
  have HG := hide (fun W (h : IsInts W a ws) (h64 : 64 ≤ n) => counting_any a n c ws fuel W h hn hm h64)
  have B0 := hide (heap_alloc_last w (.cells #[.slice a n c, .int .i64 fuel] 27))
  have HN := hide hn
  clear hn
  go_enter Tryz.func65, Tryz.ntmps65
  go_wp2_with fail
  generalize w.alloc (.cells #[.slice a n c, .int .i64 fuel] 27) = W at *
  refine (unhide HS _ i0).mono ?_
  rintro e w1 ⟨rfl, hb1⟩
  have hw1 := hw.trans (hb1.mono hw.size)
  by_cases e1 : secS ws fuel = 0
  rotate_left
  {
  have e1' : (secS ws fuel != 0) = true := by simpa using e1
  have hr : Hid (lchk ws fuel = secS ws fuel) := by show _ = _; unfold lchk; rw [if_pos e1]
  go_wp2
  go_ret
  exact ⟨ret_intk hr.out.symm, hw1⟩
  }
  have e1' : (secS ws fuel != 0) = false := by simpa using e1
  have E1 := hide e1
  have h64 : 64 ≤ n := by
    rw [← HN.out]
    unfold secS at e1
    split at e1
    { rename_i h; exact absurd e1 h }
    {
    split at e1
    { simp at e1 }
    { omega }
    }
  clear e1
  have c00 := blk_cell (blk_below B0.out hb1) 0 _ rfl
  have c01 := blk_cell (blk_below B0.out hb1) 1 _ rfl
  go_wp2_with fail
  refine (unhide HG _ (i0.below hb1) h64).mono ?_
  rintro e w2 ⟨rfl, hb2⟩
  have hw2 := hw1.trans (hb2.mono hw1.size)
  obtain ⟨g, hg⟩ : ∃ g, g = genN ws := ⟨_, rfl⟩
  rw [← hg]
  by_cases g0 : g = 0
  {
  have hr : Hid (lchk ws fuel = 5) := by show _ = _; unfold lchk; rw [if_neg (by simpa using E1.out), if_pos (by rw [← hg]; exact .inl g0)]
  subst g0
  clear hg
  go_wp2
  go_ret
  exact ⟨ret_intk hr.out.symm, hw2⟩
  }
  have g0' : (g == 0) = false := by simpa using g0
  by_cases g1 : 60000 < g
  {
  have hr : Hid (lchk ws fuel = 5) := by show _ = _; unfold lchk; rw [if_neg (by simpa using E1.out), if_pos (by rw [← hg]; exact .inr g1)]
  clear hg
  go_wp2
  go_ret
  exact ⟨ret_intk hr.out.symm, hw2⟩
  }
  {
  have hr : Hid (lchk ws fuel = 0) := by show _ = _; unfold lchk; rw [if_neg (by simpa using E1.out), if_neg (by rw [← hg]; omega)]
  have g1' : decide (60000 < g) = false := by simpa using g1
  clear hg
  go_wp2
  go_ret
  exact ⟨ret_intk hr.out.symm, hw2⟩

  }
end Go.Proofs.YtgngpmgjoifepaaGreatDoor

namespace Go.Proofs.YtgngpmgjoifepaaGreatDoor
open Go.RowKit
attribute [local go_sem ↓] Go.wp_at_zero Go.wp_at_succ

def longS (l : List Int) : Nat := match l with
  | [] => 0
  | x :: r => if 42241 ≤ x ∧ x ≤ 42244 ∧ x - 42240 ≤ r.length then (x - 42240).toNat else 0

theorem longS_no {l : List Int} (h : l = [] ∨ ¬ (42241 ≤ l.getD 0 0 ∧ l.getD 0 0 ≤ 42244 ∧ l.getD 0 0 - 42240 < l.length)) : longS l = 0 := by
  cases l with
  | nil => rfl
  | cons x r =>
    rcases h with h | h
    { cases h }
    {
    simp at h
    simp only [longS]
    rw [if_neg (by omega)]

    }
theorem longS_yes {l : List Int} (h0 : l ≠ []) (h : 42241 ≤ l.getD 0 0 ∧ l.getD 0 0 ≤ 42244 ∧ l.getD 0 0 - 42240 < l.length) : (longS l : Int) = l.getD 0 0 - 42240 := by
  cases l with
  | nil => exact absurd rfl h0
  | cons x r =>
    simp at h ⊢
    simp only [longS]
    rw [if_pos (by omega)]
    omega

theorem longS_le (l : List Int) : longS l ≤ 4 := by
  unfold longS
  split
  { omega }
  {
  split <;> omega

  }
theorem longS_lt {l : List Int} (h : 0 < longS l) : longS l < l.length := by
  cases l with
  | nil => simp [longS] at h
  | cons x r =>
    simp only [longS] at h ⊢
    split at h
    {
    rename_i hc
    rw [if_pos hc]
    simp
    omega
    }
    {
    omega

    }
set_option maxRecDepth 100000 in
set_option maxHeartbeats 1000000 in
theorem longOf_any (a : Option Addr) (n c : Nat) (l : List Int) (w : World) (h : IsInts w a l) (hn : l.length = n) (hm : n ≤ 192) (hok : okL l = true) :
    Calls Tryz.prog 203 #[.slice a n c] w fun e w' => e = .returned (.int .i64 (longS l)) ∧ w' = w := by
  have HN := hide hn
  by_cases h0 : n = 0
  {
  subst h0
  have hr : Hid (longS l = 0) := longS_no (.inl (List.eq_nil_of_length_eq_zero hn))
  clear hn
  go_enter Tryz.func203, Tryz.ntmps203
  go_wp2
  go_ret
  exact ⟨ret_intk (by rw [hr.out]; rfl), rfl⟩
  }
  have h0' : ((n : Int) == 0) = false := by simp; omega
  rcases h with rfl | ⟨b, off, rfl, hc⟩
  { simp at hn; omega }
  have e0 := hc 0 (by omega)
  rw [Nat.add_zero] at e0
  have hw0 := okL_get hok 0 (by omega)
  have HL : Hid (l ≠ [] ∧ l.length = n) := ⟨fun e => by subst e; simp at hn; omega, hn⟩
  have HNo := hide (@longS_no l)
  have HYes := hide (@longS_yes l)
  obtain ⟨x, hx⟩ : ∃ x, x = l.getD 0 0 := ⟨_, rfl⟩
  rw [← hx] at e0 hw0
  rw [← hx] at HNo HYes
  simp [okW] at hw0
  clear hn hc hx hok
  have hn0 : (0 : Int) < (n : Int) := by omega
  by_cases c1 : x - 42240 < 1
  {
  have hr : Hid (longS l = 0) := HNo.out (.inr (by omega))
  go_enter Tryz.func203, Tryz.ntmps203
  go_wp2
  go_ret
  exact ⟨ret_intk (by rw [hr.out]; rfl), rfl⟩
  }
  have c1' : decide (x - 42240 < 1) = false := by simpa using c1
  by_cases c2 : 4 < x - 42240
  {
  have hr : Hid (longS l = 0) := HNo.out (.inr (by omega))
  go_enter Tryz.func203, Tryz.ntmps203
  go_wp2
  go_ret
  exact ⟨ret_intk (by rw [hr.out]; rfl), rfl⟩
  }
  have c2' : decide (4 < x - 42240) = false := by simpa using c2
  by_cases c3 : (n : Int) ≤ x - 42240
  {
  have hr : Hid (longS l = 0) := HNo.out (.inr (by rw [HL.out.2]; omega))
  go_enter Tryz.func203, Tryz.ntmps203
  go_wp2
  go_ret
  exact ⟨ret_intk (by rw [hr.out]; rfl), rfl⟩
  }
  {
  have c3' : decide ((n : Int) ≤ x - 42240) = false := by simpa using c3
  have hr : Hid ((longS l : Int) = x - 42240) := HYes.out HL.out.1 (by rw [HL.out.2]; omega)
  go_enter Tryz.func203, Tryz.ntmps203
  go_wp2
  go_ret
  exact ⟨ret_intk hr.out.symm, rfl⟩

  }
def headS (n : Nat) : Int := 42240 + n

theorem or_head (n : Nat) (h : n ≤ 4) : bits .or .i64 42240 (n : Int) = headS n := by
  have : n = 0 ∨ n = 1 ∨ n = 2 ∨ n = 3 ∨ n = 4 := by omega
  rcases this with rfl | rfl | rfl | rfl | rfl <;> decide +kernel

set_option maxRecDepth 100000 in
set_option maxHeartbeats 400000 in
theorem headOf_any (a : Option Addr) (n c : Nat) (w : World) (hm : n ≤ 4) :
    Calls Tryz.prog 171 #[.slice a n c] w fun e w' => e = .returned (.int .i64 (headS n)) ∧ w' = w := by
  have ho := or_head n hm
  go_enter Tryz.func171, Tryz.ntmps171
  go_wp2
  go_ret
  exact ⟨rfl, rfl⟩

def cleanS (l : List Int) : Bool := l.all (fun x => x == 65535)

set_option maxRecDepth 100000 in
set_option maxHeartbeats 400000 in
theorem cleanFn_any (v : Int) (w : World) : Calls Tryz.prog 204 #[.int .i64 v] w fun e w' => e = .returned (.bool (v != 65535)) ∧ w' = w := by
  go_enter Tryz.func204, Tryz.ntmps204
  go_wp2
  go_ret
  exact ⟨rfl, rfl⟩

theorem cleanS_step {xs : List Int} {k : Nat} (hk : k < xs.length) (h : cleanS (xs.take k) = true) (hv : (xs[k] != 65535) = false) : cleanS (xs.take (k + 1)) = true := by
  unfold cleanS at h ⊢
  rw [List.take_succ_eq_append_getElem hk, List.all_append, h]
  simpa using hv

theorem cleanS_stop {xs : List Int} {k : Nat} (hk : k < xs.length) (hv : (xs[k] != 65535) = true) : cleanS xs = false := by
  unfold cleanS
  rw [List.all_eq_false]
  exact ⟨xs[k], List.getElem_mem hk, by simpa using hv⟩

set_option maxRecDepth 100000 in
set_option maxHeartbeats 400000 in
theorem indexFunc_clean (a : Option Addr) (n c : Nat) (xs : List Int) (w : World) (h : IsInts w a xs) (hn : xs.length = n) (hm : n ≤ maxLen) :
    Calls Tryz.prog 175 #[.slice a n c, .func (.func 204) #[] #[]] w fun e w' => (∃ q : Int, e = .returned (.int .i64 q) ∧ decide (0 ≤ q) = !cleanS xs) ∧ w' = w := by
  have HP := hide cleanFn_any
  unfold maxLen at hm
  have HN : Hid (xs.length = n) := hn
  go_enter Tryz.func175, Tryz.ntmps175
  go_wp2
  go_loop [8] (fun i => ∃ k : Nat, k ≤ n ∧ i = .int .i64 k ∧ Hid (cleanS (xs.take k) = true)) (fun i => n - (intOf i).toNat)
  case atStart => exact ⟨0, Nat.zero_le _, rfl, rfl⟩
  case round =>
    obtain ⟨k, hk, rfl, ht⟩ := hrel
    by_cases hlt : k < n
    {
    rcases h with rfl | ⟨b0, o0, rfl, hc0⟩
    { simp at hn; omega }
    have hkx : k < xs.length := by omega
    have e0 := hc0 k hkx
    clear hn hc0
    go_wp2_with fail
    refine (unhide HP _ _).mono ?_
    rintro e w' ⟨rfl, rfl⟩
    cases hv : (xs[k] != 65535)
    {
    have HV : Hid ((xs[k] != 65535) = false) := hv
    clear hv
    go_wp2
    go_round
    case rel => exact ⟨k + 1, by omega, by go_num, cleanS_step hkx ht.out HV.out⟩
    case measure => simp [intOf]; omega
    }
    {
    have HV : Hid ((xs[k] != 65535) = true) := hv
    clear hv
    go_wp2
    go_ret
    exact ⟨⟨k, rfl, by rw [cleanS_stop hkx HV.out]; simp⟩, rfl⟩
    }
    }
    {
    go_wp2
    go_ret
    have hx := ht.out
    rw [List.take_of_length_le (by omega)] at hx
    exact ⟨⟨-1, rfl, by rw [hx]; rfl⟩, rfl⟩

    }
set_option maxRecDepth 100000 in
set_option maxHeartbeats 400000 in
theorem containsFunc_clean (a : Option Addr) (n c : Nat) (xs : List Int) (w : World) (h : IsInts w a xs) (hn : xs.length = n) (hm : n ≤ maxLen) :
    Calls Tryz.prog 128 #[.slice a n c, .func (.func 204) #[] #[]] w fun e w' => e = .returned (.bool (!cleanS xs)) ∧ w' = w := by
  have hc := hide (indexFunc_clean a n c xs w h hn hm)
  clear hn
  go_enter Tryz.func128, Tryz.ntmps128
  go_wp2_with fail
  refine (unhide hc).mono ?_
  rintro e w' ⟨⟨q, rfl, hq⟩, rfl⟩
  go_wp2
  go_ret
  exact ⟨rfl, rfl⟩

set_option maxRecDepth 100000 in
set_option maxHeartbeats 400000 in
theorem clean_any (a : Option Addr) (n c : Nat) (xs : List Int) (w : World) (h : IsInts w a xs) (hn : xs.length = n) (hm : n ≤ maxLen) :
    Calls Tryz.prog 170 #[.slice a n c] w fun e w' => e = .returned (.bool (cleanS xs)) ∧ w' = w := by
  have hc := hide (containsFunc_clean a n c xs w h hn hm)
  clear hn
  go_enter Tryz.func170, Tryz.ntmps170
  go_wp2_with fail
  refine (unhide hc).mono ?_
  rintro e w' ⟨rfl, rfl⟩
  go_wp2
  go_ret
  exact ⟨ret_bool (by simp), rfl⟩

def recE (r : List Int) : Int := if r.length < 1 ∨ 4 < r.length then 2 else if okL r = false then 3 else 0

set_option maxRecDepth 100000 in
set_option maxHeartbeats 400000 in
theorem checkRecord_any (a : Option Addr) (n c : Nat) (r : List Int) (w : World) (h : IsInts w a r) (hn : r.length = n) (hm : n ≤ maxLen) :
    Calls Tryz.prog 167 #[.slice a n c] w fun e w' => e = .returned (.int .i64 (recE r)) ∧ w' = w := by
  have HA := hide (allWords_any a n c r w h hn hm)
  have HN := hide hn
  clear hn
  unfold maxLen at hm
  by_cases c1 : n < 1
  {
  have hr : Hid (recE r = 2) := by show _ = _; unfold recE; rw [HN.out, if_pos (.inl c1)]
  have c1' : (n : Int) < 1 := by omega
  go_enter Tryz.func167, Tryz.ntmps167
  go_wp2
  go_ret
  exact ⟨ret_intk hr.out.symm, rfl⟩
  }
  have c1' : decide ((n : Int) < 1) = false := by simp; omega
  by_cases c2 : 4 < n
  {
  have hr : Hid (recE r = 2) := by show _ = _; unfold recE; rw [HN.out, if_pos (.inr c2)]
  go_enter Tryz.func167, Tryz.ntmps167
  go_wp2
  go_ret
  exact ⟨ret_intk hr.out.symm, rfl⟩
  }
  have c2' : decide (4 < (n : Int)) = false := by simp; omega
  cases hok : okL r
  {
  have hr : Hid (recE r = 3) := by show _ = _; unfold recE; rw [HN.out, if_neg (by omega), if_pos hok]
  have HO := hide hok
  clear hok
  go_enter Tryz.func167, Tryz.ntmps167
  go_wp2_with fail
  refine (unhide HA).mono ?_
  rintro e w' ⟨rfl, rfl⟩
  rw [HO.out]
  go_wp2
  go_ret
  exact ⟨ret_intk hr.out.symm, rfl⟩
  }
  {
  have hr : Hid (recE r = 0) := by show _ = _; unfold recE; rw [HN.out, if_neg (by omega), if_neg (by simp [hok])]
  have HO := hide hok
  clear hok
  go_enter Tryz.func167, Tryz.ntmps167
  go_wp2_with fail
  refine (unhide HA).mono ?_
  rintro e w' ⟨rfl, rfl⟩
  rw [HO.out]
  go_wp2
  go_ret
  exact ⟨ret_intk hr.out.symm, rfl⟩

  }
end Go.Proofs.YtgngpmgjoifepaaGreatDoor
