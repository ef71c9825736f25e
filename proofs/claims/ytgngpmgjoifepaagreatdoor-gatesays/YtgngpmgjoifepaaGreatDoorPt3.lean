/- The contracts of log.checkSectors, generationOf, counting, Check: what a log's two sectors say. The contracts of log.longOf, headOf, clean, checkRecord. The contract of wainwrightref.OwnFlash: a flash in memory of its own. -/
import Derived.Test.YtgngpmgjoifepaaGreatDoorPt2
import Derived.Deep.AppendLies
namespace Go.Proofs.YtgngpmgjoifepaaGreatDoor
open Go.RowKit
attribute [local go_sem ↓] Go.wp_at_zero Go.wp_at_succ

def secS (ws : List Int) (fuel : Int) : Int := if chk ws fuel ≠ 0 then chk ws fuel else if ws.length < 64 then 4 else 0
def genS (ws : List Int) (s : Nat) : Int := if ws.getD (s * 32) 0 = 65535 then 0 else ws.getD (s * 32) 0
def secN (ws : List Int) : Nat := if genS ws 0 < genS ws 1 then 1 else 0
def genN (ws : List Int) : Int := if genS ws 0 < genS ws 1 then genS ws 1 else genS ws 0
def lchk (ws : List Int) (fuel : Int) : Int := if secS ws fuel ≠ 0 then secS ws fuel else if genN ws = 0 ∨ 60000 < genN ws then 5 else 0

set_option maxRecDepth 100000 in
set_option maxHeartbeats 400000 in
theorem checkSectors_any (a : Option Addr) (n c : Nat) (ws : List Int) (fuel : Int) (w : World) (h : IsInts w a ws) (hn : ws.length = n) (hm : n ≤ maxLen) :
    Calls Tryz.prog 108 #[.agg #[.slice a n c, .int .i64 fuel]] w fun e w' => e = .returned (.int .i64 (secS ws fuel)) ∧ Below w.heap.size w w' := by
  have HC := hide (fun W (h : IsInts W a ws) => check_any a n c ws fuel W h hn hm)
  have hw : Below w.heap.size w (w.alloc (.cells #[.slice a n c, .int .i64 fuel] 27)) := (Below.refl _ _).alloc (Nat.le_refl _) _
  have B0 := hide (heap_alloc_last w (.cells #[.slice a n c, .int .i64 fuel] 27))
  have i0 := h.below hw
  have HN := hide hn
  clear hn
  unfold maxLen at hm
  go_enter Tryz.func108, Tryz.ntmps108
  go_wp2_with fail
  generalize w.alloc (.cells #[.slice a n c, .int .i64 fuel] 27) = W at *
  refine (unhide HC _ i0).mono ?_
  rintro e w1 ⟨rfl, hb1⟩
  have hw1 := hw.trans (hb1.mono hw.size)
  by_cases e1 : chk ws fuel = 0
  rotate_left
  {
  have e1' : (chk ws fuel != 0) = true := by simpa using e1
  have hr : Hid (secS ws fuel = chk ws fuel) := by show _ = _; unfold secS; rw [if_pos e1]
  go_wp2
  go_ret
  exact ⟨ret_intk hr.out.symm, hw1⟩
  }
  have e1' : (chk ws fuel != 0) = false := by simpa using e1
  have E1 := hide e1
  clear e1
  have c00 := blk_cell (blk_below B0.out hb1) 0 _ rfl
  by_cases hl : n < 64
  {
  have hr : Hid (secS ws fuel = 4) := by show _ = _; unfold secS; rw [if_neg (by simpa using E1.out), if_pos (by rw [HN.out]; exact hl)]
  go_wp2
  go_ret
  exact ⟨ret_intk hr.out.symm, hw1⟩
  }
  {
  have hr : Hid (secS ws fuel = 0) := by show _ = _; unfold secS; rw [if_neg (by simpa using E1.out), if_neg (by rw [HN.out]; exact hl)]
  have hl' : ¬ (n : Int) < 64 := by omega
  go_wp2
  go_ret
  exact ⟨ret_intk hr.out.symm, hw1⟩

  }
set_option maxRecDepth 100000 in
set_option maxHeartbeats 400000 in
theorem generationOf_any (a : Option Addr) (n c : Nat) (ws : List Int) (fuel : Int) (s : Nat) (w : World) (h : IsInts w a ws) (hn : ws.length = n) (hm : n ≤ maxLen) (hs : s * 32 < n) :
    Calls Tryz.prog 174 #[.agg #[.slice a n c, .int .i64 fuel], .int .i64 s] w fun e w' => e = .returned (.int .i64 (genS ws s)) ∧ Below w.heap.size w w' := by
  have hw : Below w.heap.size w (w.alloc (.cells #[.slice a n c, .int .i64 fuel] 27)) := (Below.refl _ _).alloc (Nat.le_refl _) _
  have i0 := h.below hw
  have HN := hide hn
  have hs2 : s * 32 < ws.length := by omega
  clear hn
  unfold maxLen at hm
  rcases i0 with rfl | ⟨b, off, rfl, hc⟩
  { simp at hs2 }
  have e0 := hc (s * 32) hs2
  clear hc
  have i1 : (0 : Int) ≤ (s : Int) * 32 := by omega
  have i2 : (s : Int) * 32 < (n : Int) := by omega
  have i4 : ((s : Int) * 32).toNat = s * 32 := by omega
  obtain ⟨g, hg⟩ : ∃ g, g = ws.getD (s * 32) 0 := ⟨_, rfl⟩
  rw [← hg] at e0
  by_cases hz : g = 65535
  {
  have hr : Hid (genS ws s = 0) := by show _ = _; unfold genS; rw [← hg, if_pos hz]
  subst hz
  clear hg
  go_enter Tryz.func174, Tryz.ntmps174
  go_wp2
  go_ret
  exact ⟨ret_intk hr.out.symm, hw⟩
  }
  {
  have hr : Hid (genS ws s = g) := by show _ = _; unfold genS; rw [← hg, if_neg hz]
  have hz' : (g != 65535) = true := by simpa using hz
  clear hg
  go_enter Tryz.func174, Tryz.ntmps174
  go_wp2
  go_ret
  exact ⟨ret_intk hr.out.symm, hw⟩

  }
def genI (ws : List Int) (s : Int) : Int := genS ws s.toNat
theorem generationI_any (a : Option Addr) (n c : Nat) (ws : List Int) (fuel : Int) (s : Int) (w : World) (h : IsInts w a ws) (hn : ws.length = n) (hm : n ≤ maxLen) (hs : 0 ≤ s ∧ s < 2) (h64 : 64 ≤ n) :
    Calls Tryz.prog 174 #[.agg #[.slice a n c, .int .i64 fuel], .int .i64 s] w fun e w' => e = .returned (.int .i64 (genI ws s)) ∧ Below w.heap.size w w' := by
  obtain ⟨k, rfl⟩ := Int.eq_ofNat_of_zero_le hs.1
  exact generationOf_any a n c ws fuel k w h hn hm (by omega)

def CountsAns (w : World) (ws : List Int) (e : Ending) (w' : World) : Prop :=
  e = .returned (.tuple #[.int .i64 (secN ws), .int .i64 (genN ws)]) ∧ Below w.heap.size w w'

theorem ret_two {a b c d : Int} (h1 : a = c) (h2 : b = d) : Ending.returned (.tuple #[.int .i64 a, .int .i64 b]) = .returned (.tuple #[.int .i64 c, .int .i64 d]) := by rw [h1, h2]

set_option maxRecDepth 100000 in
set_option maxHeartbeats 1000000 in
theorem counting_any (a : Option Addr) (n c : Nat) (ws : List Int) (fuel : Int) (w : World) (h : IsInts w a ws) (hn : ws.length = n) (hm : n ≤ maxLen) (h64 : 64 ≤ n) :
    Calls Tryz.prog 127 #[.agg #[.slice a n c, .int .i64 fuel]] w (CountsAns w ws) := by
  have hw : Below w.heap.size w (w.alloc (.cells #[.slice a n c, .int .i64 fuel] 27)) := (Below.refl _ _).alloc (Nat.le_refl _) _
  have i0 := h.below hw
  have HG := hide (fun W (s : Int) (h : IsInts W a ws) (hs : 0 ≤ s ∧ s < 2) => generationI_any a n c ws fuel s W h hn hm hs h64)
  have B0 := hide (heap_alloc_last w (.cells #[.slice a n c, .int .i64 fuel] 27))
  have HN := hide hn
  clear hn
  unfold maxLen at hm
  go_enter Tryz.func127, Tryz.ntmps127
  go_upto_region 1 with fail
  generalize w.alloc (.cells #[.slice a n c, .int .i64 fuel] 27) = W at *
  have x0 : W.cell? ⟨w.heap.size, 0, none⟩ = some (.slice a n c) := blk_cell B0.out 0 _ rfl
  have x1 : W.cell? ⟨w.heap.size, 1, none⟩ = some (.int .i64 fuel) := blk_cell B0.out 1 _ rfl
  have lt0 := blk_lt B0.out
  go_cut [4, 5] (fun v4 v5 wx => v4 = .int .i64 (genI ws 0) ∧ v5 = .int .i64 (genI ws 1) ∧ Below W.heap.size W wx)
  case first =>
    have hW : Below W.heap.size W W := Below.refl _ _
    go_wp2_with fail
    go_region_held3 (fun w' => w'.cell? ⟨w.heap.size, 0, none⟩ = some (.slice a n c) ∧ w'.cell? ⟨w.heap.size, 1, none⟩ = some (.int .i64 fuel)) (first | exact ⟨by assumption, by assumption⟩ | go_keep)
      ((go_at_call 174; refine (unhide HG _ _ ?_ ?_).mono ?_; (first | exact i0 | exact i0.below hW); decide; rintro e w1 ⟨rfl, hb1⟩; replace hW : Below W.heap.size W w1 := (by first | exact hW.drew.trans (hb1.mono hW.drew.size) | exact hW.trans (hb1.mono hW.size)); have z0 : w1.cell? ⟨w.heap.size, 0, none⟩ = some (.slice a n c) := (by rw [hW.cell lt0]; exact x0); have z1 : w1.cell? ⟨w.heap.size, 1, none⟩ = some (.int .i64 fuel) := (by rw [hW.cell lt0]; exact x1)))
    all_goals
      go_wp2
      go_meet
      case rel => exact ⟨rfl, rfl, hW⟩
  case rest =>
    obtain ⟨rfl, rfl, hW⟩ := hcut
    obtain ⟨wB, rfl⟩ : ∃ wB : World, wB = wc := ⟨_, rfl⟩
    have hwB := hw.trans (hW.mono hw.size)
    obtain ⟨g0, hg0⟩ : ∃ g, g = genI ws 0 := ⟨_, rfl⟩
    obtain ⟨g1, hg1⟩ : ∃ g, g = genI ws 1 := ⟨_, rfl⟩
    rw [← hg0, ← hg1]
    by_cases hlt : g0 < g1
    {
    have hr : Hid (secN ws = 1 ∧ genN ws = g1) := by show _ ∧ _; unfold secN genN; rw [show genS ws 0 = g0 from hg0.symm, show genS ws 1 = g1 from hg1.symm, if_pos hlt, if_pos hlt]; exact ⟨rfl, rfl⟩
    clear hg0 hg1
    go_wp2
    go_ret2
    exact ⟨ret_two (by rw [hr.out.1]; rfl) hr.out.2.symm, hwB⟩
    }
    {
    have hr : Hid (secN ws = 0 ∧ genN ws = g0) := by show _ ∧ _; unfold secN genN; rw [show genS ws 0 = g0 from hg0.symm, show genS ws 1 = g1 from hg1.symm, if_neg hlt, if_neg hlt]; exact ⟨rfl, rfl⟩
    have hlt' : decide (g0 < g1) = false := by simpa using hlt
    clear hg0 hg1
    go_wp2
    go_ret2
    exact ⟨ret_two (by rw [hr.out.1]; rfl) hr.out.2.symm, hwB⟩

    }
set_option maxRecDepth 100000 in
set_option maxHeartbeats 1000000 in
theorem logCheck_any (a : Option Addr) (n c : Nat) (ws : List Int) (fuel : Int) (w : World) (h : IsInts w a ws) (hn : ws.length = n) (hm : n ≤ maxLen) :
    Calls Tryz.prog 65 #[.agg #[.slice a n c, .int .i64 fuel]] w fun e w' => e = .returned (.int .i64 (lchk ws fuel)) ∧ Below w.heap.size w w' := by
  have hw : Below w.heap.size w (w.alloc (.cells #[.slice a n c, .int .i64 fuel] 27)) := (Below.refl _ _).alloc (Nat.le_refl _) _
  have i0 := h.below hw
  have HS := hide (fun W (h : IsInts W a ws) => checkSectors_any a n c ws fuel W h hn hm)
  have HG := hide (fun W (h : IsInts W a ws) (h64 : 64 ≤ n) => counting_any a n c ws fuel W h hn hm h64)
  have B0 := hide (heap_alloc_last w (.cells #[.slice a n c, .int .i64 fuel] 27))
  have HN := hide hn
  clear hn
  go_enter Tryz.func65, Tryz.ntmps65
  go_wp2_with fail
  generalize w.alloc (.cells #[.slice a n c, .int .i64 fuel] 27) = W at *
  refine (unhide HS _ i0).mono ?_
  rintro e w1 ⟨rfl, hb1⟩
  have hw1 := hw.trans (hb1.mono hw.size)
  by_cases e1 : secS ws fuel = 0
  rotate_left
  {
  have e1' : (secS ws fuel != 0) = true := by simpa using e1
  have hr : Hid (lchk ws fuel = secS ws fuel) := by show _ = _; unfold lchk; rw [if_pos e1]
  go_wp2
  go_ret
  exact ⟨ret_intk hr.out.symm, hw1⟩
  }
  have e1' : (secS ws fuel != 0) = false := by simpa using e1
  have E1 := hide e1
  have h64 : 64 ≤ n := by
    rw [← HN.out]
    unfold secS at e1
    split at e1
    { rename_i h; exact absurd e1 h }
    {
    split at e1
    { simp at e1 }
    { omega }
    }
  clear e1
  have c00 := blk_cell (blk_below B0.out hb1) 0 _ rfl
  have c01 := blk_cell (blk_below B0.out hb1) 1 _ rfl
  go_wp2_with fail
  refine (unhide HG _ (i0.below hb1) h64).mono ?_
  rintro e w2 ⟨rfl, hb2⟩
  have hw2 := hw1.trans (hb2.mono hw1.size)
  obtain ⟨g, hg⟩ : ∃ g, g = genN ws := ⟨_, rfl⟩
  rw [← hg]
  by_cases g0 : g = 0
  {
  have hr : Hid (lchk ws fuel = 5) := by show _ = _; unfold lchk; rw [if_neg (by simpa using E1.out), if_pos (by rw [← hg]; exact .inl g0)]
  subst g0
  clear hg
  go_wp2
  go_ret
  exact ⟨ret_intk hr.out.symm, hw2⟩
  }
  have g0' : (g == 0) = false := by simpa using g0
  by_cases g1 : 60000 < g
  {
  have hr : Hid (lchk ws fuel = 5) := by show _ = _; unfold lchk; rw [if_neg (by simpa using E1.out), if_pos (by rw [← hg]; exact .inr g1)]
  clear hg
  go_wp2
  go_ret
  exact ⟨ret_intk hr.out.symm, hw2⟩
  }
  {
  have hr : Hid (lchk ws fuel = 0) := by show _ = _; unfold lchk; rw [if_neg (by simpa using E1.out), if_neg (by rw [← hg]; omega)]
  have g1' : decide (60000 < g) = false := by simpa using g1
  clear hg
  go_wp2
  go_ret
  exact ⟨ret_intk hr.out.symm, hw2⟩

  }
end Go.Proofs.YtgngpmgjoifepaaGreatDoor

namespace Go.Proofs.YtgngpmgjoifepaaGreatDoor
open Go.RowKit
attribute [local go_sem ↓] Go.wp_at_zero Go.wp_at_succ

def longS (l : List Int) : Nat := match l with
  | [] => 0
  | x :: r => if 42241 ≤ x ∧ x ≤ 42244 ∧ x - 42240 ≤ r.length then (x - 42240).toNat else 0

theorem longS_no {l : List Int} (h : l = [] ∨ ¬ (42241 ≤ l.getD 0 0 ∧ l.getD 0 0 ≤ 42244 ∧ l.getD 0 0 - 42240 < l.length)) : longS l = 0 := by
  cases l with
  | nil => rfl
  | cons x r =>
    rcases h with h | h
    { cases h }
    {
    simp at h
    simp only [longS]
    rw [if_neg (by omega)]

    }
theorem longS_yes {l : List Int} (h0 : l ≠ []) (h : 42241 ≤ l.getD 0 0 ∧ l.getD 0 0 ≤ 42244 ∧ l.getD 0 0 - 42240 < l.length) : (longS l : Int) = l.getD 0 0 - 42240 := by
  cases l with
  | nil => exact absurd rfl h0
  | cons x r =>
    simp at h ⊢
    simp only [longS]
    rw [if_pos (by omega)]
    omega

theorem longS_le (l : List Int) : longS l ≤ 4 := by
  unfold longS
  split
  { omega }
  {
  split <;> omega

  }
theorem longS_lt {l : List Int} (h : 0 < longS l) : longS l < l.length := by
  cases l with
  | nil => simp [longS] at h
  | cons x r =>
    simp only [longS] at h ⊢
    split at h
    {
    rename_i hc
    rw [if_pos hc]
    simp
    omega
    }
    {
    omega

    }
set_option maxRecDepth 100000 in
set_option maxHeartbeats 1000000 in
theorem longOf_any (a : Option Addr) (n c : Nat) (l : List Int) (w : World) (h : IsInts w a l) (hn : l.length = n) (hm : n ≤ 192) (hok : okL l = true) :
    Calls Tryz.prog 203 #[.slice a n c] w fun e w' => e = .returned (.int .i64 (longS l)) ∧ w' = w := by
  have HN := hide hn
  by_cases h0 : n = 0
  {
  subst h0
  have hr : Hid (longS l = 0) := longS_no (.inl (List.eq_nil_of_length_eq_zero hn))
  clear hn
  go_enter Tryz.func203, Tryz.ntmps203
  go_wp2
  go_ret
  exact ⟨ret_intk (by rw [hr.out]; rfl), rfl⟩
  }
  have h0' : ((n : Int) == 0) = false := by simp; omega
  rcases h with rfl | ⟨b, off, rfl, hc⟩
  { simp at hn; omega }
  have e0 := hc 0 (by omega)
  rw [Nat.add_zero] at e0
  have hw0 := okL_get hok 0 (by omega)
  have HL : Hid (l ≠ [] ∧ l.length = n) := ⟨fun e => by subst e; simp at hn; omega, hn⟩
  have HNo := hide (@longS_no l)
  have HYes := hide (@longS_yes l)
  obtain ⟨x, hx⟩ : ∃ x, x = l.getD 0 0 := ⟨_, rfl⟩
  rw [← hx] at e0 hw0
  rw [← hx] at HNo HYes
  simp [okW] at hw0
  clear hn hc hx hok
  have hn0 : (0 : Int) < (n : Int) := by omega
  by_cases c1 : x - 42240 < 1
  {
  have hr : Hid (longS l = 0) := HNo.out (.inr (by omega))
  go_enter Tryz.func203, Tryz.ntmps203
  go_wp2
  go_ret
  exact ⟨ret_intk (by rw [hr.out]; rfl), rfl⟩
  }
  have c1' : decide (x - 42240 < 1) = false := by simpa using c1
  by_cases c2 : 4 < x - 42240
  {
  have hr : Hid (longS l = 0) := HNo.out (.inr (by omega))
  go_enter Tryz.func203, Tryz.ntmps203
  go_wp2
  go_ret
  exact ⟨ret_intk (by rw [hr.out]; rfl), rfl⟩
  }
  have c2' : decide (4 < x - 42240) = false := by simpa using c2
  by_cases c3 : (n : Int) ≤ x - 42240
  {
  have hr : Hid (longS l = 0) := HNo.out (.inr (by rw [HL.out.2]; omega))
  go_enter Tryz.func203, Tryz.ntmps203
  go_wp2
  go_ret
  exact ⟨ret_intk (by rw [hr.out]; rfl), rfl⟩
  }
  {
  have c3' : decide ((n : Int) ≤ x - 42240) = false := by simpa using c3
  have hr : Hid ((longS l : Int) = x - 42240) := HYes.out HL.out.1 (by rw [HL.out.2]; omega)
  go_enter Tryz.func203, Tryz.ntmps203
  go_wp2
  go_ret
  exact ⟨ret_intk hr.out.symm, rfl⟩

  }
def headS (n : Nat) : Int := 42240 + n

theorem or_head (n : Nat) (h : n ≤ 4) : bits .or .i64 42240 (n : Int) = headS n := by
  have : n = 0 ∨ n = 1 ∨ n = 2 ∨ n = 3 ∨ n = 4 := by omega
  rcases this with rfl | rfl | rfl | rfl | rfl <;> decide +kernel

set_option maxRecDepth 100000 in
set_option maxHeartbeats 400000 in
theorem headOf_any (a : Option Addr) (n c : Nat) (w : World) (hm : n ≤ 4) :
    Calls Tryz.prog 171 #[.slice a n c] w fun e w' => e = .returned (.int .i64 (headS n)) ∧ w' = w := by
  have ho := or_head n hm
  go_enter Tryz.func171, Tryz.ntmps171
  go_wp2
  go_ret
  exact ⟨rfl, rfl⟩

def cleanS (l : List Int) : Bool := l.all (fun x => x == 65535)

set_option maxRecDepth 100000 in
set_option maxHeartbeats 400000 in
theorem cleanFn_any (v : Int) (w : World) : Calls Tryz.prog 204 #[.int .i64 v] w fun e w' => e = .returned (.bool (v != 65535)) ∧ w' = w := by
  go_enter Tryz.func204, Tryz.ntmps204
  go_wp2
  go_ret
  exact ⟨rfl, rfl⟩

theorem cleanS_step {xs : List Int} {k : Nat} (hk : k < xs.length) (h : cleanS (xs.take k) = true) (hv : (xs[k] != 65535) = false) : cleanS (xs.take (k + 1)) = true := by
  unfold cleanS at h ⊢
  rw [List.take_succ_eq_append_getElem hk, List.all_append, h]
  simpa using hv

theorem cleanS_stop {xs : List Int} {k : Nat} (hk : k < xs.length) (hv : (xs[k] != 65535) = true) : cleanS xs = false := by
  unfold cleanS
  rw [List.all_eq_false]
  exact ⟨xs[k], List.getElem_mem hk, by simpa using hv⟩

set_option maxRecDepth 100000 in
set_option maxHeartbeats 400000 in
theorem indexFunc_clean (a : Option Addr) (n c : Nat) (xs : List Int) (w : World) (h : IsInts w a xs) (hn : xs.length = n) (hm : n ≤ maxLen) :
    Calls Tryz.prog 175 #[.slice a n c, .func (.func 204) #[] #[]] w fun e w' => (∃ q : Int, e = .returned (.int .i64 q) ∧ decide (0 ≤ q) = !cleanS xs) ∧ w' = w := by
  have HP := hide cleanFn_any
  unfold maxLen at hm
  have HN : Hid (xs.length = n) := hn
  go_enter Tryz.func175, Tryz.ntmps175
  go_wp2
  go_loop [8] (fun i => ∃ k : Nat, k ≤ n ∧ i = .int .i64 k ∧ Hid (cleanS (xs.take k) = true)) (fun i => n - (intOf i).toNat)
  case atStart => exact ⟨0, Nat.zero_le _, rfl, rfl⟩
  case round =>
    obtain ⟨k, hk, rfl, ht⟩ := hrel
    by_cases hlt : k < n
    {
    rcases h with rfl | ⟨b0, o0, rfl, hc0⟩
    { simp at hn; omega }
    have hkx : k < xs.length := by omega
    have e0 := hc0 k hkx
    clear hn hc0
    go_wp2_with fail
    refine (unhide HP _ _).mono ?_
    rintro e w' ⟨rfl, rfl⟩
    cases hv : (xs[k] != 65535)
    {
    have HV : Hid ((xs[k] != 65535) = false) := hv
    clear hv
    go_wp2
    go_round
    case rel => exact ⟨k + 1, by omega, by go_num, cleanS_step hkx ht.out HV.out⟩
    case measure => simp [intOf]; omega
    }
    {
    have HV : Hid ((xs[k] != 65535) = true) := hv
    clear hv
    go_wp2
    go_ret
    exact ⟨⟨k, rfl, by rw [cleanS_stop hkx HV.out]; simp⟩, rfl⟩
    }
    }
    {
    go_wp2
    go_ret
    have hx := ht.out
    rw [List.take_of_length_le (by omega)] at hx
    exact ⟨⟨-1, rfl, by rw [hx]; rfl⟩, rfl⟩

    }
set_option maxRecDepth 100000 in
set_option maxHeartbeats 400000 in
theorem containsFunc_clean (a : Option Addr) (n c : Nat) (xs : List Int) (w : World) (h : IsInts w a xs) (hn : xs.length = n) (hm : n ≤ maxLen) :
    Calls Tryz.prog 128 #[.slice a n c, .func (.func 204) #[] #[]] w fun e w' => e = .returned (.bool (!cleanS xs)) ∧ w' = w := by
  have hc := hide (indexFunc_clean a n c xs w h hn hm)
  clear hn
  go_enter Tryz.func128, Tryz.ntmps128
  go_wp2_with fail
  refine (unhide hc).mono ?_
  rintro e w' ⟨⟨q, rfl, hq⟩, rfl⟩
  go_wp2
  go_ret
  exact ⟨rfl, rfl⟩

set_option maxRecDepth 100000 in
set_option maxHeartbeats 400000 in
theorem clean_any (a : Option Addr) (n c : Nat) (xs : List Int) (w : World) (h : IsInts w a xs) (hn : xs.length = n) (hm : n ≤ maxLen) :
    Calls Tryz.prog 170 #[.slice a n c] w fun e w' => e = .returned (.bool (cleanS xs)) ∧ w' = w := by
  have hc := hide (containsFunc_clean a n c xs w h hn hm)
  clear hn
  go_enter Tryz.func170, Tryz.ntmps170
  go_wp2_with fail
  refine (unhide hc).mono ?_
  rintro e w' ⟨rfl, rfl⟩
  go_wp2
  go_ret
  exact ⟨ret_bool (by simp), rfl⟩

def recE (r : List Int) : Int := if r.length < 1 ∨ 4 < r.length then 2 else if okL r = false then 3 else 0

set_option maxRecDepth 100000 in
set_option maxHeartbeats 400000 in
theorem checkRecord_any (a : Option Addr) (n c : Nat) (r : List Int) (w : World) (h : IsInts w a r) (hn : r.length = n) (hm : n ≤ maxLen) :
    Calls Tryz.prog 167 #[.slice a n c] w fun e w' => e = .returned (.int .i64 (recE r)) ∧ w' = w := by
  have HA := hide (allWords_any a n c r w h hn hm)
  have HN := hide hn
  clear hn
  unfold maxLen at hm
  by_cases c1 : n < 1
  {
  have hr : Hid (recE r = 2) := by show _ = _; unfold recE; rw [HN.out, if_pos (.inl c1)]
  have c1' : (n : Int) < 1 := by omega
  go_enter Tryz.func167, Tryz.ntmps167
  go_wp2
  go_ret
  exact ⟨ret_intk hr.out.symm, rfl⟩
  }
  have c1' : decide ((n : Int) < 1) = false := by simp; omega
  by_cases c2 : 4 < n
  {
  have hr : Hid (recE r = 2) := by show _ = _; unfold recE; rw [HN.out, if_pos (.inr c2)]
  go_enter Tryz.func167, Tryz.ntmps167
  go_wp2
  go_ret
  exact ⟨ret_intk hr.out.symm, rfl⟩
  }
  have c2' : decide (4 < (n : Int)) = false := by simp; omega
  cases hok : okL r
  {
  have hr : Hid (recE r = 3) := by show _ = _; unfold recE; rw [HN.out, if_neg (by omega), if_pos hok]
  have HO := hide hok
  clear hok
  go_enter Tryz.func167, Tryz.ntmps167
  go_wp2_with fail
  refine (unhide HA).mono ?_
  rintro e w' ⟨rfl, rfl⟩
  rw [HO.out]
  go_wp2
  go_ret
  exact ⟨ret_intk hr.out.symm, rfl⟩
  }
  {
  have hr : Hid (recE r = 0) := by show _ = _; unfold recE; rw [HN.out, if_neg (by omega), if_neg (by simp [hok])]
  have HO := hide hok
  clear hok
  go_enter Tryz.func167, Tryz.ntmps167
  go_wp2_with fail
  refine (unhide HA).mono ?_
  rintro e w' ⟨rfl, rfl⟩
  rw [HO.out]
  go_wp2
  go_ret
  exact ⟨ret_intk hr.out.symm, rfl⟩

  }
end Go.Proofs.YtgngpmgjoifepaaGreatDoor

namespace Go.Proofs.YtgngpmgjoifepaaGreatDoor
open Go.RowKit
attribute [local go_sem ↓] Go.wp_at_zero Go.wp_at_succ

def OwnCap (w : World) (g : Nat) (xs : List Int) : Prop := ∃ cur : Array Value, w.heap[g]? = some (.cells cur 3 (0, 0)) ∧ cur.toList.take xs.length = vals xs

theorem OwnCap.get {w : World} {g : Nat} {xs : List Int} {cur : Array Value} (_h : w.heap[g]? = some (.cells cur 3 (0, 0))) (h2 : cur.toList.take xs.length = vals xs) (i : Nat) (hi : i < xs.length) : cur[i]? = some (.int .i64 (xs.getD i 0)) := by
  have := vals_get xs i hi
  rw [← h2] at this
  simpa [hi] using this

theorem OwnCap.cell {w : World} {g : Nat} {xs : List Int} (h : OwnCap w g xs) (i : Nat) (hi : i < xs.length) : w.cell? ⟨g, i, none⟩ = some (.int .i64 (xs.getD i 0)) := by
  obtain ⟨cur, h1, h2⟩ := h
  exact blk_cell h1 i _ (OwnCap.get h1 h2 i hi)

theorem OwnCap.free {w : World} {g : Nat} {xs : List Int} (h : OwnCap w g xs) (i : Nat) : w.frozen? ⟨g, i, none⟩ = false := by
  obtain ⟨cur, h1, _⟩ := h
  exact blk_free h1 i

theorem OwnCap.isInts {w : World} {g : Nat} {xs : List Int} (h : OwnCap w g xs) : IsInts w (some ⟨g, 0, none⟩) xs :=
  .inr ⟨g, 0, rfl, fun i hi => by rw [Nat.zero_add]; exact h.cell i hi⟩

theorem OwnCap.lt {w : World} {g : Nat} {xs : List Int} (h : OwnCap w g xs) : g < w.heap.size := by
  obtain ⟨cur, h1, _⟩ := h
  exact blk_lt h1

theorem OwnCap.below {B : Nat} {w w' : World} {g : Nat} {xs : List Int} (h : OwnCap w g xs) (hb : Below B w w') (hg : g < B) : OwnCap w' g xs := by
  obtain ⟨cur, h1, h2⟩ := h
  exact ⟨cur, by rw [hb.block g hg]; exact h1, h2⟩

theorem OwnCap.other {w : World} {g : Nat} {xs : List Int} (h : OwnCap w g xs) (b i : Nat) (v : Value) (hb : g ≠ b) : OwnCap (w.setCell ⟨b, i, none⟩ v) g xs := by
  obtain ⟨cur, h1, h2⟩ := h
  exact ⟨cur, by rw [Below.heap_setCell _ _ _ _ hb]; exact h1, h2⟩

theorem OwnCap.set {w : World} {g : Nat} {xs : List Int} (h : OwnCap w g xs) (i : Nat) (v : Int) : OwnCap (w.setCell ⟨g, i, none⟩ (.int .i64 v)) g (xs.set i v) := by
  obtain ⟨cur, h1, h2⟩ := h
  refine ⟨cur.setIfInBounds i (.int .i64 v), ?_, ?_⟩
  {
  simp only [World.setCell, Array.getElem?_modify]
  simp [h1]
  }
  {
  simp only [List.length_set, Array.toList_setIfInBounds]
  rw [List.take_set, h2]
  simp [vals]

  }
theorem append_empty (ty : TypeId) (g : Nat) (a : Option Addr) (c : Nat) (w : World) :
    (Builtin.append_ #[25, 25] ty #[.slice (some ⟨g, 0, none⟩) 0 0, .slice a 0 c]).run Tryz.prog w = .ok (.slice (some ⟨g, 0, none⟩) 0 0) w := by
  obtain ⟨i0, hi0, hz0, hz1, hz2⟩ := info_parts info_int
  have hl : ∀ (x : Addr), (loadCells x 0).run Tryz.prog w = .ok #[] w := fun x => by simpa using run_loadCells_list (P := Tryz.prog) w x [] (by simp)
  cases a <;> simp [Builtin.append_, run_underlying Tryz.underlying25, Builtin.lenOf, Builtin.firstCells, sizeOf, typeInfo, hi0, storeCells, hl]

theorem step_append_empty {ops : Array Oper} {o : Oper} {a : Act} {w : World} {K : Act → World → Prop} {Q : Exit → Act → World → Prop} {E : Prop} (hgd : o.guard = none) (s x : Operand)
    (ho : o.op = .call { callee := .builtin .append, args := #[s, x], argTypes := #[25, 25] }) (g : Nat) (ax : Option Addr) (c : Nat) (hs : a.eval s = .slice (some ⟨g, 0, none⟩) 0 0) (hx : a.eval x = .slice ax 0 c)
    (h : K (a.put o.dst (.slice (some ⟨g, 0, none⟩) 0 0)) w) : if Region.wanted o (yielded ops a.tmps) = true then Oper.wp Tryz.prog o a w K Q else E := by
  have hw : Region.wanted o (yielded ops a.tmps) = true := by simp [Region.wanted, hgd]
  rw [if_pos hw]
  unfold Oper.wp execOp
  simp only [ho, resolve, invoke, builtin, Sem.run_bind, Sem.run_pure, Result.andThen_ok, List.map_toArray, List.map_cons, List.map_nil, hs, hx, append_empty o.type g ax c w]
  exact h

theorem ownCap_of {w : World} {base g n cap : Nat} {ws : List Int} (h : w.ownsRow base 3 1 (.slice (some ⟨g, 0, none⟩) n cap) n (vals ws)) (hn : ws.length = n) : OwnCap w g ws ∧ base ≤ g ∧ n ≤ cap := by
  obtain ⟨_, ⟨hv, _⟩ | ⟨g', cap', cur, hv, hg, hh, hc, _, _, ht⟩⟩ := h
  { cases hv }
  {
  cases hv
  exact ⟨⟨cur, hh, by rw [hn]; simpa using ht⟩, hg, hc⟩

  }
def OwnAns (w : World) (n : Nat) (ws : List Int) (fuel : Int) (e : Ending) (w' : World) : Prop :=
  ∃ g c', w.heap.size ≤ g ∧ n ≤ c' ∧ e = .returned (.agg #[.slice (some ⟨g, 0, none⟩) n c', .int .i64 fuel]) ∧ OwnCap w' g ws ∧ Below w.heap.size w w'

set_option maxRecDepth 100000 in
set_option maxHeartbeats 1000000 in
theorem ownFlash_any (a : Option Addr) (n c : Nat) (ws : List Int) (fuel : Int) (w : World) (h : IsInts w a ws) (hn : ws.length = n) (hsz : n * 8 ≤ 140737488351232) :
    Calls Tryz.prog 9 #[.agg #[.slice a n c, .int .i64 fuel]] w (OwnAns w n ws fuel) := by
  obtain ⟨i0, hi0, hz0, hz1, hz2⟩ := info_parts info_int
  have hw : Below w.heap.size w ((w.alloc (.cells #[.slice a n c, .int .i64 fuel] 27)).alloc (.cells #[.slice none 0 0, .int .i64 0] 27)) :=
    ((Below.refl _ _).alloc (Nat.le_refl _) _).alloc (by simp) _
  have i1 := h.below hw
  have b0 := blk_alloc (heap_alloc_last w (.cells #[.slice a n c, .int .i64 fuel] 27)) (.cells #[.slice none 0 0, .int .i64 0] 27)
  have b1 : ((w.alloc (.cells #[.slice a n c, .int .i64 fuel] 27)).alloc (.cells #[.slice none 0 0, .int .i64 0] 27)).heap[w.heap.size + 1]? = some (.cells #[.slice none 0 0, .int .i64 0] 27 (0, 0)) :=
    by simpa using heap_alloc_last (w.alloc _) _
  have hs2 : ((w.alloc (.cells #[.slice a n c, .int .i64 fuel] 27)).alloc (.cells #[.slice none 0 0, .int .i64 0] 27)).heap.size = w.heap.size + 1 + 1 := by simp
  go_enter Tryz.func9, Tryz.ntmps9
  go_wp2_with fail
  generalize (w.alloc (.cells #[.slice a n c, .int .i64 fuel] 27)).alloc (.cells #[.slice none 0 0, .int .i64 0] 27) = W at *
  have B1 := hide b1
  have HS := hide hs2
  have HN := hide hn
  have x0 : W.cell? ⟨w.heap.size, 0, none⟩ = some (.slice a n c) := blk_cell b0 0 _ rfl
  have x1 : W.cell? ⟨w.heap.size, 1, none⟩ = some (.int .i64 fuel) := blk_cell b0 1 _ rfl
  have lt0 := blk_lt b0
  have lt1 := blk_lt b1
  clear b0 b1 hs2 hn
  have nn := World.new_ne W ⟨w.heap.size, 0, none⟩ x0
  by_cases h0 : n = 0
  {
  subst h0
  have hws : ws = [] := List.eq_nil_of_length_eq_zero HN.out
  have y0 := blk_cell B1.out 0 _ rfl
  have y1 := blk_cell B1.out 1 _ rfl
  have y2 := blk_free B1.out 0
  have y3 := blk_free B1.out 1
  have nn2 := World.new_ne W ⟨w.heap.size + 1, 0, none⟩ y0
  have HWS := hide hws
  clear hws
  go_region_held3 (fun w' => w'.cell? ⟨w.heap.size, 0, none⟩ = some (.slice a 0 c) ∧ w'.cell? ⟨w.heap.size, 1, none⟩ = some (.int .i64 fuel)) (first | exact ⟨by assumption, by assumption⟩ | go_keep)
    ((refine step_append_empty (by rfl) _ _ (by rfl) W.heap.size a c (by rfl) (by rfl) ?_))
  go_wp2
  have hz : ((W.setCell ⟨w.heap.size + 1, 0, none⟩ (.slice (some ⟨W.heap.size, 0, none⟩) 0 0)).setCell ⟨w.heap.size + 1, 1, none⟩ (.int .i64 fuel)).heap.size = W.heap.size := by simp [World.setCell]
  have bl : (((W.setCell ⟨w.heap.size + 1, 0, none⟩ (.slice (some ⟨W.heap.size, 0, none⟩) 0 0)).setCell ⟨w.heap.size + 1, 1, none⟩ (.int .i64 fuel)).alloc (.cells #[] 3)).heap[w.heap.size + 1]? = some (.cells #[.slice (some ⟨W.heap.size, 0, none⟩) 0 0, .int .i64 fuel] 27 (0, 0)) := by
    refine blk_alloc ?_ _
    have := B1.out
    simp only [World.setCell, Array.getElem?_modify]
    simp [this]
  have z0 := blk_cell bl 0 _ rfl
  have z1 := blk_cell bl 1 _ rfl
  refine bodyPost_ret (v := .agg #[.slice (some ⟨W.heap.size, 0, none⟩) 0 0, .int .i64 fuel]) (by simp [results, Tryz.results9, go_sem, z0, z1]) rfl ?_
  refine ⟨W.heap.size, 0, hw.size, Nat.le_refl _, rfl, ?_, ?_⟩
  {
  rw [HWS.out]
  refine ⟨#[], ?_, rfl⟩
  have := heap_alloc_last ((W.setCell ⟨w.heap.size + 1, 0, none⟩ (.slice (some ⟨W.heap.size, 0, none⟩) 0 0)).setCell ⟨w.heap.size + 1, 1, none⟩ (.int .i64 fuel)) (.cells #[] 3)
  rw [hz] at this
  exact this
  }
  { exact (((hw.setCell (by simp) _).setCell (by simp) _).alloc (by rw [hz]; exact hw.size) _).drew }
  }
  {
  rcases i1 with rfl | ⟨b, off, rfl, hc⟩
  { have := HN.out; simp at this; omega }
  {
  have hnews : ∀ j u, (vals ws)[j]? = some u → W.cell? ((⟨b, off, none⟩ : Addr).add j) = some u := by
    intro j v hv
    have hj : j < ws.length := by
      have := (List.getElem?_eq_some_iff.1 hv).1
      simpa [vals] using this
    rw [vals_get ws j hj] at hv
    cases hv
    have hcj := hc j hj
    by_cases hj0 : j = 0
    { subst hj0; simpa [Addr.add] using hcj }
    { simpa [Addr.add, hj0] using hcj }
  have hbl : b < W.heap.size := cell_lt (p := ⟨b, off + 0, none⟩) (hc 0 (by have := HN.out; omega))
  have hown0 : (W.alloc (.cells #[] 3)).ownsRow W.heap.size 3 1 (.slice (some ⟨W.heap.size, 0, none⟩) 0 0) 0 [] := by
    refine ⟨rfl, .inr ⟨W.heap.size, 0, #[], rfl, Nat.le_refl _, heap_alloc_last _ _, Nat.le_refl _, Nat.zero_le _, rfl, rfl⟩⟩
  have hnews1 : ∀ j u, (vals ws)[j]? = some u → (W.alloc (.cells #[] 3)).drew.cell? ((⟨b, off, none⟩ : Addr).add j) = some u := fun j u hu => by
    have := hnews j u hu
    have hlt := cell_lt this
    show (W.alloc (.cells #[] 3)).cell? _ = _
    rw [Below.cell ((Below.refl _ W).alloc (Nat.le_refl _) _) hlt]
    exact this
  go_region_held3 (fun w' => w'.cell? ⟨w.heap.size, 0, none⟩ = some (.slice (some ⟨b, off, none⟩) n c) ∧ w'.cell? ⟨w.heap.size, 1, none⟩ = some (.int .i64 fuel)) (first | exact ⟨by assumption, by assumption⟩ | go_keep)
    ((refine step_append_lies _ (by rfl) _ _ _ (by rfl) W.heap.size 3 i0 _ 1 8 Tryz.underlying25 hi0 hz0 hz1 hz2 rfl (by omega) (.slice (some ⟨W.heap.size, 0, none⟩) 0 0) 0 [] (by rfl) hown0.drew ⟨b, off, none⟩ n c (vals ws) (by rfl) (by rw [vals_length, HN.out, Nat.mul_one]) hnews1 (vals_one ws) (by omega) (by unfold maxLen; omega) (by omega) (by simp) (W.heap.size + 1) (by simp) ?_; intro g cap w1 hown1 hgrow hat hlt; have hB : Below W.heap.size W w1 := (((Below.refl _ W).alloc (Nat.le_refl _) _).drew.grown hgrow (by simp) (fun k hk => by simp [Value.ownBlock] at hk; omega)); have z0 : w1.cell? ⟨w.heap.size, 0, none⟩ = some (.slice (some ⟨b, off, none⟩) n c) := (by rw [hB.cell lt0]; exact x0); have z1 : w1.cell? ⟨w.heap.size, 1, none⟩ = some (.int .i64 fuel) := (by rw [hB.cell lt0]; exact x1); have y0 := blk_cell (blk_below B1.out hB) 0 _ rfl; have y1 := blk_cell (blk_below B1.out hB) 1 _ rfl; have y2 := blk_free (blk_below B1.out hB) 0; have y3 := blk_free (blk_below B1.out hB) 1))
  have hne : g ≠ w.heap.size + 1 := by
    have := (ownCap_of (by simpa using hown1) HN.out).2.1
    omega
  go_wp2
  refine bodyPost_ret (v := .agg #[.slice (some ⟨g, 0, none⟩) n cap, .int .i64 fuel]) (by simp [results, Tryz.results9, go_sem, y0, y1]) rfl ?_
  obtain ⟨q1, q2, q3⟩ := ownCap_of (by simpa using hown1) HN.out
  exact ⟨g, cap, by have := hw.size; omega, q3, rfl, (q1.other _ 0 _ hne).other _ 1 _ hne, ((hw.trans (hB.mono hw.size)).setCell (by simp) _).setCell (by simp) _⟩

  }
  }
end Go.Proofs.YtgngpmgjoifepaaGreatDoor
