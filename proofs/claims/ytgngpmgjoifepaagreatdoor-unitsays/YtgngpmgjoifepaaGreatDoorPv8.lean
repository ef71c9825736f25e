/- The contracts of the small functions of package slot: within, sectorOf, headPlace, bodyPlace, sealable, headOf, check. The contract of slot.Fill. The contract of slot.Clear. The contracts of slot.body and slot.Body. -/
import Derived.Test.YtgngpmgjoifepaaGreatDoorPv2
namespace Go.Proofs.YtgngpmgjoifepaaGreatDoor
open Go.RowKit

def inB (n lo hi : Int) : Bool := decide (lo ≤ n ∧ n ≤ hi)

set_option maxHeartbeats 400000 in
theorem slWithin_any (n lo hi : Int) (w : World) : Calls Tryz.prog 165 #[.int .i64 n, .int .i64 lo, .int .i64 hi] w fun e w' => e = .returned (.bool (inB n lo hi)) ∧ w' = w := by
  by_cases h0 : lo ≤ n
  {
  by_cases h1 : n ≤ hi
  {
  go_enter Tryz.func165, Tryz.ntmps165
  go_wp2
  go_ret
  exact ⟨ret_bool (by unfold inB; simp; omega), rfl⟩
  }
  {
  have hd : decide (n ≤ hi) = false := by simp; omega
  go_enter Tryz.func165, Tryz.ntmps165
  go_wp2
  go_ret
  exact ⟨ret_bool (by unfold inB; simp; omega), rfl⟩
  }
  }
  {
  have hd : decide (lo ≤ n) = false := by simp; omega
  go_enter Tryz.func165, Tryz.ntmps165
  go_wp2
  go_ret
  exact ⟨ret_bool (by unfold inB; simp; omega), rfl⟩

  }
set_option maxHeartbeats 400000 in
theorem sectorOf_any (s : Int) (w : World) (h0 : 0 ≤ s) (h1 : s ≤ 1) : Calls Tryz.prog 172 #[.int .i64 s] w fun e w' => e = .returned (.int .i64 (2 + s * 2)) ∧ w' = w := by
  go_enter Tryz.func172, Tryz.ntmps172
  go_wp2
  go_ret
  exact ⟨rfl, rfl⟩

set_option maxHeartbeats 400000 in
theorem headPlace_any (s : Int) (w : World) (h0 : 0 ≤ s) (h1 : s ≤ 1) : Calls Tryz.prog 121 #[.int .i64 s] w fun e w' => e = .returned (.int .i64 (64 + 64 * s)) ∧ w' = w := by
  go_enter Tryz.func121, Tryz.ntmps121
  go_wp2_with fail
  refine (sectorOf_any s _ h0 h1).mono ?_
  rintro e w1 ⟨rfl, rfl⟩
  go_wp2
  go_ret
  exact ⟨ret_intk (by omega), rfl⟩

set_option maxHeartbeats 400000 in
theorem bodyPlace_any (s : Int) (w : World) (h0 : 0 ≤ s) (h1 : s ≤ 1) : Calls Tryz.prog 166 #[.int .i64 s] w fun e w' => e = .returned (.int .i64 (68 + 64 * s)) ∧ w' = w := by
  go_enter Tryz.func166, Tryz.ntmps166
  go_wp2_with fail
  refine (headPlace_any s _ h0 h1).mono ?_
  rintro e w1 ⟨rfl, rfl⟩
  go_wp2
  go_ret
  exact ⟨ret_intk (by omega), rfl⟩

def sealB (long name : Int) : Bool := inB long 1 40 && inB name 1 60

set_option maxHeartbeats 400000 in
theorem sealable_any (long name : Int) (w : World) : Calls Tryz.prog 122 #[.int .i64 long, .int .i64 name] w fun e w' => e = .returned (.bool (sealB long name)) ∧ w' = w := by
  go_enter Tryz.func122, Tryz.ntmps122
  go_wp2_with fail
  refine (slWithin_any long 1 40 _).mono ?_
  rintro e w1 ⟨rfl, rfl⟩
  cases hb : inB long 1 40
  {
  have HB := hide hb
  clear hb
  go_wp2
  go_ret
  exact ⟨ret_bool (by unfold sealB; rw [HB.out]; rfl), rfl⟩
  }
  {
  have HB := hide hb
  clear hb
  go_wp2_with fail
  refine (slWithin_any name 1 60 _).mono ?_
  rintro e w1 ⟨rfl, rfl⟩
  go_wp2
  go_ret
  exact ⟨ret_bool (by unfold sealB; rw [HB.out]; rfl), rfl⟩

  }
def xorW (x : Int) : Int := bits .xor .i64 x 65535
def headL (long name : Int) : List Int := [long, name, xorW long, xorW name]

set_option maxHeartbeats 400000 in
theorem slHeadOf_any (long name : Int) (w : World) : Calls Tryz.prog 123 #[.int .i64 long, .int .i64 name] w fun e w' => e = .returned (.agg #[.int .i64 long, .int .i64 name, .int .i64 (xorW long), .int .i64 (xorW name)]) ∧ Below w.heap.size w w' := by
  go_enter Tryz.func123, Tryz.ntmps123
  go_wp2
  refine bodyPost_ret (v := .agg #[.int .i64 long, .int .i64 name, .int .i64 (xorW long), .int .i64 (xorW name)]) (by simp [results, Tryz.results123, go_sem, xorW]) rfl ?_
  exact ⟨rfl, ((Below.refl _ _).alloc (Nat.le_refl _) _)⟩

def slotE (ws : List Int) (fuel s : Int) : Int := if chk ws fuel ≠ 0 then chk ws fuel else if ws.length ≠ 192 then 4 else if inB s 0 1 = false then 5 else 0

theorem slotE_parts {ws : List Int} {fuel s : Int} (h : slotE ws fuel s = 0) : chk ws fuel = 0 ∧ ws.length = 192 ∧ 0 ≤ s ∧ s ≤ 1 := by
  unfold slotE at h
  split at h
  { rename_i c; exact absurd h c }
  {
  split at h
  { simp at h }
  {
  split at h
  { simp at h }
  {
  rename_i h1 h2 h3
  simp [inB] at h3
  simp at h1 h2
  exact ⟨h1, h2, h3.1, h3.2⟩

  }
  }
  }
set_option maxHeartbeats 400000 in
theorem slotCheck_any (a : Option Addr) (n c : Nat) (ws : List Int) (fuel s : Int) (w : World) (h : IsInts w a ws) (hn : ws.length = n) (hm : n ≤ maxLen) :
    Calls Tryz.prog 120 #[.agg #[.slice a n c, .int .i64 fuel], .int .i64 s] w fun e w' => e = .returned (.int .i64 (slotE ws fuel s)) ∧ Below w.heap.size w w' := by
  have hw : Below w.heap.size w (w.alloc (.cells #[.slice a n c, .int .i64 fuel] 27)) := (Below.refl _ _).alloc (Nat.le_refl _) _
  have B0 := hide (heap_alloc_last w (.cells #[.slice a n c, .int .i64 fuel] 27))
  have HC := hide (check_any a n c ws fuel _ (h.below hw) hn hm)
  have HN := hide hn
  clear hn
  go_enter Tryz.func120, Tryz.ntmps120
  go_wp2_with fail
  generalize w.alloc (.cells #[.slice a n c, .int .i64 fuel] 27) = W at *
  refine (unhide HC).mono ?_
  rintro e w1 ⟨rfl, hb1⟩
  have c00 := blk_cell (blk_below B0.out hb1) 0 _ rfl
  replace hw := hw.trans (hb1.mono hw.size)
  by_cases e1 : chk ws fuel = 0
  rotate_left
  {
  have e1' : (chk ws fuel != 0) = true := by simpa using e1
  have hr : Hid (slotE ws fuel s = chk ws fuel) := by show _ = _; unfold slotE; rw [if_pos e1]
  clear e1
  go_wp2
  go_ret
  exact ⟨ret_intk hr.out.symm, hw⟩
  }
  have e1' : (chk ws fuel != 0) = false := by simpa using e1
  have E1 := hide e1
  clear e1
  by_cases e2 : n = 192
  rotate_left
  {
  have e2' : ((n : Int) != 192) = true := by simp; omega
  have hr : Hid (slotE ws fuel s = 4) := by show _ = _; unfold slotE; rw [if_neg (by simpa using E1.out), HN.out, if_pos e2]
  go_wp2
  go_ret
  exact ⟨ret_intk hr.out.symm, hw⟩
  }
  subst e2
  go_wp2_with fail
  refine (slWithin_any s 0 1 _).mono ?_
  rintro e w2 ⟨rfl, rfl⟩
  cases e3 : inB s 0 1
  {
  have hr : Hid (slotE ws fuel s = 5) := by show _ = _; unfold slotE; rw [if_neg (by simpa using E1.out), HN.out, if_neg (by simp), if_pos e3]
  clear e3
  go_wp2
  go_ret
  exact ⟨ret_intk hr.out.symm, hw⟩
  }
  {
  have hr : Hid (slotE ws fuel s = 0) := by show _ = _; unfold slotE; rw [if_neg (by simpa using E1.out), HN.out, if_neg (by simp), if_neg (by simp [e3])]
  clear e3
  go_wp2
  go_ret
  exact ⟨ret_intk hr.out.symm, hw⟩

  }
end Go.Proofs.YtgngpmgjoifepaaGreatDoor

namespace Go.Proofs.YtgngpmgjoifepaaGreatDoor
open Go.RowKit
attribute [local go_sem ↓] Go.wp_at_zero Go.wp_at_succ


def fillB (at' : Int) (n : Nat) : Bool := inB at' 0 40 && decide ((n : Int) ≤ 40 - at')

def fillS (ws : List Int) (fuel s at' : Int) (words : List Int) : List Int × Int × Int :=
  if slotE ws fuel s ≠ 0 then ([], 0, slotE ws fuel s) else if fillB at' words.length = false then ([], 0, 2) else progS ws fuel (68 + 64 * s + at') words

set_option maxRecDepth 100000 in
set_option maxHeartbeats 1000000 in
theorem fill_any (a : Option Addr) (n c : Nat) (ws : List Int) (fuel s at' : Int) (a2 : Option Addr) (n2 c2 : Nat) (words : List Int) (w : World)
    (h : IsInts w a ws) (hn : ws.length = n) (hm : n ≤ maxLen) (h2 : IsInts w a2 words) (hn2 : words.length = n2) (hm2 : n2 ≤ maxLen) :
    Calls Tryz.prog 113 #[.agg #[.slice a n c, .int .i64 fuel], .int .i64 s, .int .i64 at', .slice a2 n2 c2] w (Answers w (fillS ws fuel s at' words)) := by
  have HC := hide (fun W (h : IsInts W a ws) => slotCheck_any a n c ws fuel s W h hn hm)
  have HN := hide hn
  have HN2 := hide hn2
  clear hn hn2
  have b0 := hide (blk_alloc (heap_alloc_last w (.cells #[.slice a n c, .int .i64 fuel] 27)) (.cells #[.slice none 0 0, .int .i64 0] 27))
  have b1 : Hid (((w.alloc (.cells #[.slice a n c, .int .i64 fuel] 27)).alloc (.cells #[.slice none 0 0, .int .i64 0] 27)).heap[w.heap.size + 1]? = some (.cells #[.slice none 0 0, .int .i64 0] 27 (0, 0))) := by
    show _ = _
    simpa using heap_alloc_last (w.alloc _) _
  have hw : Below w.heap.size w ((w.alloc (.cells #[.slice a n c, .int .i64 fuel] 27)).alloc (.cells #[.slice none 0 0, .int .i64 0] 27)) :=
    ((Below.refl _ _).alloc (Nat.le_refl _) _).alloc (by simp) _
  have i0 := h.below hw
  have i1 := h2.below hw
  go_enter Tryz.func113, Tryz.ntmps113
  go_wp2_with fail
  generalize (w.alloc (.cells #[.slice a n c, .int .i64 fuel] 27)).alloc (.cells #[.slice none 0 0, .int .i64 0] 27) = W at *
  refine (unhide HC _ i0).mono ?_
  rintro e w1 ⟨rfl, hb1⟩
  replace b0 := hide (blk_below b0.out hb1)
  replace b1 := hide (blk_below b1.out hb1)
  replace i0 := i0.below hb1
  replace i1 := i1.below hb1
  replace hw := hw.trans (hb1.mono hw.size)
  clear hb1
  have x0 : w1.cell? ⟨w.heap.size, 0, none⟩ = some (.slice a n c) := blk_cell b0.out 0 _ rfl
  have x1 : w1.cell? ⟨w.heap.size, 1, none⟩ = some (.int .i64 fuel) := blk_cell b0.out 1 _ rfl
  have r0 := blk_cell b1.out 0 _ rfl
  have r1 := blk_cell b1.out 1 _ rfl
  have f0 := blk_free b1.out 0
  have f1 := blk_free b1.out 1
  have lt0 := blk_lt b0.out
  have lt1 := blk_lt b1.out
  by_cases e1 : slotE ws fuel s = 0
  rotate_left
  {
  have e1' : (slotE ws fuel s != 0) = true := by simpa using e1
  have hr : Hid (fillS ws fuel s at' words = ([], 0, slotE ws fuel s)) := by show _ = _; unfold fillS; rw [if_pos e1]
  go_wp2
  refine bodyPost_ret (v := .tuple #[.agg #[.slice none 0 0, .int .i64 0], .int .i64 (slotE ws fuel s)]) (by simp [results, Tryz.results113, go_sem, r0, r1]) rfl ?_
  exact answers_err hr.out ((hw.setCell (by simp) _).setCell (by simp) _)
  }
  have e1' : (slotE ws fuel s != 0) = false := by simpa using e1
  have E1 := hide e1
  clear e1
  go_wp2_with fail
  refine (slWithin_any at' 0 40 _).mono ?_
  rintro e w2 ⟨rfl, rfl⟩
  cases e2 : inB at' 0 40
  {
  have hr : Hid (fillS ws fuel s at' words = ([], 0, 2)) := by show _ = _; unfold fillS; rw [if_neg (by simpa using E1.out), if_pos (by unfold fillB; rw [e2]; rfl)]
  clear e2
  go_wp2
  refine bodyPost_ret (v := .tuple #[.agg #[.slice none 0 0, .int .i64 0], .int .i64 2]) (by simp [results, Tryz.results113, go_sem, r0, r1]) rfl ?_
  exact answers_err hr.out ((hw.setCell (by simp) _).setCell (by simp) _)
  }
  have q2 : 0 ≤ at' ∧ at' ≤ 40 := by unfold inB at e2; simpa using e2
  have E2 := hide e2
  clear e2
  unfold maxLen at hm2
  by_cases e3 : (n2 : Int) ≤ 40 - at'
  rotate_left
  {
  have hr : Hid (fillS ws fuel s at' words = ([], 0, 2)) := by show _ = _; unfold fillS; rw [if_neg (by simpa using E1.out), if_pos (by unfold fillB; rw [E2.out, HN2.out]; simp; omega)]
  have e3' : 40 - at' < (n2 : Int) := by omega
  go_wp2
  refine bodyPost_ret (v := .tuple #[.agg #[.slice none 0 0, .int .i64 0], .int .i64 2]) (by simp [results, Tryz.results113, go_sem, r0, r1]) rfl ?_
  exact answers_err hr.out ((hw.setCell (by simp) _).setCell (by simp) _)
  }
  have hr : Hid (fillS ws fuel s at' words = progS ws fuel (68 + 64 * s + at') words) := by show _ = _; unfold fillS; rw [if_neg (by simpa using E1.out), if_neg (by unfold fillB; rw [E2.out, HN2.out]; simp; omega)]
  have e3' : decide (40 - at' < (n2 : Int)) = false := by simp; omega
  obtain ⟨-, -, p0, p1⟩ := slotE_parts E1.out
  have i3 : IntKind.i64.wrap (68 + 64 * s + at') = 68 + 64 * s + at' := by rw [IntKind.wrap_i64]; omega
  have HP := hide (fun W' (hb : Below w2.heap.size w2 W') => program_any a n c ws fuel (68 + 64 * s + at') a2 n2 c2 words W' (i0.below hb) HN.out hm (i1.below hb) HN2.out (by unfold maxLen; omega) (by omega))
  go_wp2_with fail
  go_region_held3 (fun w' => w'.cell? ⟨w.heap.size, 0, none⟩ = some (.slice a n c) ∧ w'.cell? ⟨w.heap.size, 1, none⟩ = some (.int .i64 fuel)) (first | exact ⟨by assumption, by assumption⟩ | go_keep)
    ((first | (go_at_call 166; refine (bodyPlace_any s _ p0 p1).mono ?_; rintro e w5 ⟨rfl, rfl⟩) | (go_at_call 164; refine (unhide HP _ ?_).mono ?_; exact (Below.refl _ _).drew; rintro e w6 ⟨⟨a6, n6, c6, rfl, hi6, hn6, hc6, hf6⟩, hb6⟩; have hb7 : Below w2.heap.size w2 w6 := (Below.trans (Below.refl _ w2).drew hb6); have y0 : w6.cell? ⟨w.heap.size, 0, none⟩ = some (.slice a n c) := (by rw [hb7.cell lt0]; exact x0); have y1 : w6.cell? ⟨w.heap.size, 1, none⟩ = some (.int .i64 fuel) := (by rw [hb7.cell lt0]; exact x1); have q0 := blk_cell (blk_below b1.out hb7) 0 _ rfl; have q1 := blk_cell (blk_below b1.out hb7) 1 _ rfl; have q2 := blk_free (blk_below b1.out hb7) 0; have q3 := blk_free (blk_below b1.out hb7) 1)))
  go_wp2
  refine bodyPost_ret (v := .tuple #[.agg #[.slice a6 n6 c6, .int .i64 (progS ws fuel (68 + 64 * s + at') words).2.1], .int .i64 (progS ws fuel (68 + 64 * s + at') words).2.2]) (by simp [results, Tryz.results113, go_sem, q0, q1]) rfl ?_
  rw [hr.out]
  have hw7 := hw.trans (hb7.mono hw.size)
  refine ⟨⟨a6, n6, c6, rfl, ?_, hn6, hc6, FreshA.mono hf6 hw.size⟩, (hw7.setCell (by simp) _).setCell (by simp) _⟩
  exact (hi6.other (B := w2.heap.size) hf6 lt1 0 _).other (B := w2.heap.size) hf6 lt1 1 _

end Go.Proofs.YtgngpmgjoifepaaGreatDoor

namespace Go.Proofs.YtgngpmgjoifepaaGreatDoor
open Go.RowKit
attribute [local go_sem ↓] Go.wp_at_zero Go.wp_at_succ

def clrAt (ws : List Int) (fuel s : Int) : Nat → List Int × Int × Int
  | 0 => (ws, fuel, 0)
  | k + 1 => if (clrAt ws fuel s k).2.2 ≠ 0 then clrAt ws fuel s k else eraS (clrAt ws fuel s k).1 (clrAt ws fuel s k).2.1 (2 + s * 2 + k)

theorem clrAt_go {ws : List Int} {fuel s : Int} {k : Nat} (h : (clrAt ws fuel s k).2.2 = 0) : clrAt ws fuel s (k + 1) = eraS (clrAt ws fuel s k).1 (clrAt ws fuel s k).2.1 (2 + s * 2 + k) := by
  show (if _ then _ else _) = _
  rw [if_neg (by simpa using h)]

theorem clrAt_stay {ws : List Int} {fuel s : Int} {k : Nat} (h : (clrAt ws fuel s k).2.2 ≠ 0) : clrAt ws fuel s (k + 1) = clrAt ws fuel s k := by
  show (if _ then _ else _) = _
  rw [if_pos h]

theorem eraS_len (ws : List Int) (fuel s : Int) : (eraS ws fuel s).1.length ≤ ws.length := by
  unfold eraS
  split
  { simp }
  {
  split
  { simp }
  {
  rw [chg_length]; exact Nat.le_refl _

  }
  }
theorem clrAt_len (ws : List Int) (fuel s : Int) (k : Nat) : (clrAt ws fuel s k).1.length ≤ ws.length := by
  induction k with
  | zero => exact Nat.le_refl _
  | succ k ih =>
    show (if _ then _ else _ : List Int × Int × Int).1.length ≤ _
    split
    { exact ih }
    {
    exact Nat.le_trans (eraS_len _ _ _) ih

    }
def clrS (ws : List Int) (fuel s : Int) : List Int × Int × Int :=
  if slotE ws fuel s ≠ 0 then ([], 0, slotE ws fuel s) else clrAt ws fuel s 2

def ClrInv (w : World) (ws : List Int) (fuel s : Int) (k : Nat) (wr : World) : Prop :=
  ∃ a n c, wr.heap[w.heap.size]? = some (.cells #[.slice a n c, .int .i64 (clrAt ws fuel s k).2.1] 27 (0, 0)) ∧ wr.heap[w.heap.size + 1]? = some (.cells #[.slice none 0 0, .int .i64 0] 27 (0, 0))
    ∧ IsInts wr a (clrAt ws fuel s k).1 ∧ (clrAt ws fuel s k).1.length = n ∧ n ≤ maxLen ∧ n ≤ c ∧ (k = 0 ∨ FreshA (w.heap.size + 2) a) ∧ Below w.heap.size w wr ∧ (clrAt ws fuel s k).2.2 = 0

set_option maxRecDepth 100000 in
set_option maxHeartbeats 1000000 in
theorem clear_any (a : Option Addr) (n c : Nat) (ws : List Int) (fuel s : Int) (w : World)
    (h : IsInts w a ws) (hn : ws.length = n) (hm : n ≤ maxLen) (hcap : n ≤ c) :
    Calls Tryz.prog 195 #[.agg #[.slice a n c, .int .i64 fuel], .int .i64 s] w (Answers w (clrS ws fuel s)) := by
  have HC := hide (fun W (h : IsInts W a ws) => slotCheck_any a n c ws fuel s W h hn hm)
  have HN := hide hn
  clear hn
  have b0 := hide (blk_alloc (heap_alloc_last w (.cells #[.slice a n c, .int .i64 fuel] 27)) (.cells #[.slice none 0 0, .int .i64 0] 27))
  have b1 : Hid (((w.alloc (.cells #[.slice a n c, .int .i64 fuel] 27)).alloc (.cells #[.slice none 0 0, .int .i64 0] 27)).heap[w.heap.size + 1]? = some (.cells #[.slice none 0 0, .int .i64 0] 27 (0, 0))) := by
    show _ = _
    simpa using heap_alloc_last (w.alloc _) _
  have hw : Below w.heap.size w ((w.alloc (.cells #[.slice a n c, .int .i64 fuel] 27)).alloc (.cells #[.slice none 0 0, .int .i64 0] 27)) :=
    ((Below.refl _ _).alloc (Nat.le_refl _) _).alloc (by simp) _
  have i0 := h.below hw
  go_enter Tryz.func195, Tryz.ntmps195
  go_wp2_with fail
  generalize (w.alloc (.cells #[.slice a n c, .int .i64 fuel] 27)).alloc (.cells #[.slice none 0 0, .int .i64 0] 27) = W at *
  refine (unhide HC _ i0).mono ?_
  rintro e w1 ⟨rfl, hb1⟩
  replace b0 := hide (blk_below b0.out hb1)
  replace b1 := hide (blk_below b1.out hb1)
  replace i0 := i0.below hb1
  replace hw := hw.trans (hb1.mono hw.size)
  clear hb1
  by_cases e1 : slotE ws fuel s = 0
  rotate_left
  {
  have r0 := blk_cell b1.out 0 _ rfl
  have r1 := blk_cell b1.out 1 _ rfl
  have f0 := blk_free b1.out 0
  have f1 := blk_free b1.out 1
  have e1' : (slotE ws fuel s != 0) = true := by simpa using e1
  have hr : Hid (clrS ws fuel s = ([], 0, slotE ws fuel s)) := by show _ = _; unfold clrS; rw [if_pos e1]
  go_wp2
  refine bodyPost_ret (v := .tuple #[.agg #[.slice none 0 0, .int .i64 0], .int .i64 (slotE ws fuel s)]) (by simp [results, Tryz.results195, go_sem, r0, r1]) rfl ?_
  exact answers_err hr.out ((hw.setCell (by simp) _).setCell (by simp) _)
  }
  have e1' : (slotE ws fuel s != 0) = false := by simpa using e1
  have hr : Hid (clrS ws fuel s = clrAt ws fuel s 2) := by show _ = _; unfold clrS; rw [if_neg (by simpa using e1)]
  obtain ⟨-, -, p0, p1⟩ := slotE_parts e1
  clear e1
  go_wp2
  go_loopw [16] (fun i wr => ∃ k : Nat, k ≤ 2 ∧ i = .int .i64 k ∧ ClrInv w ws fuel s k wr) (fun i _ => 2 - (intOf i).toNat)
  case atStart => exact ⟨0, Nat.zero_le _, rfl, a, n, c, b0.out, b1.out, i0, HN.out, hm, hcap, .inl rfl, hw, rfl⟩
  case round =>
    obtain ⟨k, hk, rfl, a4, n4, c4, B0, B1, hi4, hn4, hm4, hc4, hf4, hw4, he4⟩ := hrel
    by_cases hlt : k < 2
    {
    have x0 : wr.cell? ⟨w.heap.size, 0, none⟩ = some (.slice a4 n4 c4) := blk_cell B0 0 _ rfl
    have x1 : wr.cell? ⟨w.heap.size, 1, none⟩ = some (.int .i64 (clrAt ws fuel s k).2.1) := blk_cell B0 1 _ rfl
    have y0 := blk_free B0 0
    have y1 := blk_free B0 1
    have lt0 := blk_lt B0
    have lt1 := blk_lt B1
    have HG := hide (clrAt_go he4)
    have HE := hide (fun W' (hb : Below wr.heap.size wr W') => erase_any a4 n4 c4 (clrAt ws fuel s k).1 (clrAt ws fuel s k).2.1 (2 + s * 2 + k) W' (hi4.below hb) hn4 hm4)
    rw [← HG.out] at HE
    have hB0 := hide B0
    have hB1 := hide B1
    generalize (clrAt ws fuel s k).2.1 = f4 at *
    clear B0 B1 hn4 he4 hi4
    have i3 : IntKind.i64.wrap (2 + s * 2 + (k : Int)) = 2 + s * 2 + (k : Int) := by rw [IntKind.wrap_i64]; omega
    go_upto_region 8 with fail
    go_cut [8] (fun v8 wc => v8 = .int .i64 (clrAt ws fuel s (k + 1)).2.2 ∧ ∃ a5 n5 c5, wc.heap[w.heap.size]? = some (.cells #[.slice a5 n5 c5, .int .i64 (clrAt ws fuel s (k + 1)).2.1] 27 (0, 0)) ∧ wc.heap[w.heap.size + 1]? = some (.cells #[.slice none 0 0, .int .i64 0] 27 (0, 0)) ∧ IsInts wc a5 (clrAt ws fuel s (k + 1)).1 ∧ (clrAt ws fuel s (k + 1)).1.length = n5 ∧ n5 ≤ c5 ∧ FreshA (w.heap.size + 2) a5 ∧ Below w.heap.size w wc)
    case first =>
      go_region_with ((first | (go_at_call 172; refine (sectorOf_any s _ p0 p1).mono ?_; rintro e w5 ⟨rfl, rfl⟩) | (go_at_call 162; refine (unhide HE _ ?_).mono ?_; exact (Below.refl _ _).drew; rintro e w6 ⟨⟨a6, n6, c6, rfl, hi6, hn6, hc6, hf6⟩, hb6⟩; have hb7 : Below wr.heap.size wr w6 := (Below.trans (Below.refl _ wr).drew hb6); have q0 := blk_cell (blk_below hB0.out hb7) 0 _ rfl; have q1 := blk_cell (blk_below hB0.out hb7) 1 _ rfl; have q2 := blk_free (blk_below hB0.out hb7) 0; have q3 := blk_free (blk_below hB0.out hb7) 1)))
      all_goals
        go_wp2_with fail
        go_meet
        case rel =>
          have lt2 : w.heap.size + 2 ≤ wr.heap.size := by omega
          refine ⟨rfl, a6, n6, c6, ?_, ?_, (hi6.other (B := wr.heap.size) hf6 lt0 0 _).other (B := wr.heap.size) hf6 lt0 1 _, hn6, hc6, FreshA.mono hf6 lt2, ((hw4.trans (hb7.mono hw4.size)).setCell (p := ⟨w.heap.size, 0, none⟩) (Nat.le_refl _) _).setCell (p := ⟨w.heap.size, 1, none⟩) (Nat.le_refl _) _⟩
          {
          have := blk_below hB0.out hb7
          simp only [World.setCell, Array.getElem?_modify]
          simp [this]
          }
          {
          rw [Below.heap_setCell _ _ _ _ (by simp), Below.heap_setCell _ _ _ _ (by simp)]
          exact blk_below hB1.out hb7
          }
    case rest =>
      obtain ⟨rfl, a5, n5, c5, C0, C1, hi5, hn5, hc5, hf5, hw5⟩ := hcut
      have hC0 := hide C0
      have hC1 := hide C1
      have hn5' : n5 ≤ maxLen := by rw [← hn5]; exact Nat.le_trans (clrAt_len _ _ _ _) (by rw [HN.out]; exact hm)
      have x0 : wc.cell? ⟨w.heap.size, 0, none⟩ = some (.slice a5 n5 c5) := blk_cell C0 0 _ rfl
      have x1 : wc.cell? ⟨w.heap.size, 1, none⟩ = some (.int .i64 (clrAt ws fuel s (k + 1)).2.1) := blk_cell C0 1 _ rfl
      have r0 := blk_cell C1 0 _ rfl
      have r1 := blk_cell C1 1 _ rfl
      have f0 := blk_free C1 0
      have f1 := blk_free C1 1
      clear C0 C1
      have HN5 := hide hn5
      clear hn5
      by_cases e5 : (clrAt ws fuel s (k + 1)).2.2 = 0
      {
      have e5' : ((clrAt ws fuel s (k + 1)).2.2 != 0) = false := by simpa using e5
      have E5 := hide e5
      clear e5
      go_wp2
      go_roundw
      case rel => exact ⟨k + 1, by omega, by go_num, a5, n5, c5, hC0.out, hC1.out, hi5, HN5.out, hn5', hc5, .inr hf5, hw5, E5.out⟩
      case measure => simp [intOf]; omega
      }
      {
      have e5' : ((clrAt ws fuel s (k + 1)).2.2 != 0) = true := by simpa using e5
      have hend : Hid (clrS ws fuel s = clrAt ws fuel s (k + 1)) := by
        show _ = _
        rw [hr.out]
        rcases k with _ | _ | k
        { exact clrAt_stay e5 }
        { rfl }
        { omega }
      clear e5
      go_wp2
      refine bodyPost_ret (v := .tuple #[.agg #[.slice a5 n5 c5, .int .i64 (clrAt ws fuel s (k + 1)).2.1], .int .i64 (clrAt ws fuel s (k + 1)).2.2]) (by simp [results, Tryz.results195, go_sem, r0, r1]) rfl ?_
      rw [hend.out]
      refine ⟨⟨a5, n5, c5, rfl, ?_, HN5.out, hc5, hf5.mono (by omega)⟩, (hw5.setCell (by simp) _).setCell (by simp) _⟩
      exact (hi5.other hf5 (by omega) 0 _).other hf5 (by omega) 1 _
      }
    }
    {
    have x0 : wr.cell? ⟨w.heap.size, 0, none⟩ = some (.slice a4 n4 c4) := blk_cell B0 0 _ rfl
    have x1 : wr.cell? ⟨w.heap.size, 1, none⟩ = some (.int .i64 (clrAt ws fuel s k).2.1) := blk_cell B0 1 _ rfl
    have r0 := blk_cell B1 0 _ rfl
    have r1 := blk_cell B1 1 _ rfl
    have f0 := blk_free B1 0
    have f1 := blk_free B1 1
    obtain rfl : k = 2 := by omega
    have hf5 : FreshA (w.heap.size + 2) a4 := by rcases hf4 with e | e; (· omega); exact e
    have HN5 := hide hn4
    have HE4 := hide he4
    clear B0 B1 hn4 he4
    go_wp2
    refine bodyPost_ret (v := .tuple #[.agg #[.slice a4 n4 c4, .int .i64 (clrAt ws fuel s 2).2.1], .int .i64 0]) (by simp [results, Tryz.results195, go_sem, r0, r1]) rfl ?_
    rw [hr.out]
    refine ⟨⟨a4, n4, c4, by rw [HE4.out], ?_, HN5.out, hc4, hf5.mono (by omega)⟩, (hw4.setCell (by simp) _).setCell (by simp) _⟩
    exact (hi4.other hf5 (by omega) 0 _).other hf5 (by omega) 1 _

    }
end Go.Proofs.YtgngpmgjoifepaaGreatDoor

namespace Go.Proofs.YtgngpmgjoifepaaGreatDoor
open Go.RowKit
attribute [local go_sem ↓] Go.wp_at_zero Go.wp_at_succ

theorem addr_cells {w : World} {b off : Nat} {xs : List Int} (h : IsInts w (some ⟨b, off, none⟩) xs) (j : Nat) (v : Value) (hv : (vals xs)[j]? = some v) : w.cell? ((⟨b, off, none⟩ : Addr).add j) = some v := by
  rcases h with rfl | ⟨b', off', e, hc⟩
  { simp [vals] at hv }
  cases e
  have hj : j < xs.length := by
    have := (List.getElem?_eq_some_iff.1 hv).1
    simpa [vals] using this
  rw [vals_get xs j hj] at hv
  cases hv
  have hcj := hc j hj
  by_cases hj0 : j = 0
  { subst hj0; simpa [Addr.add] using hcj }
  {
  simpa [Addr.add, hj0] using hcj

  }
theorem splice_all {α : Type} (L cs : List α) (h : cs.length = L.length) : splice L 0 cs = cs := by
  unfold splice
  simp [h]

def BodyAns (w : World) (m : Nat) (xs : List Int) (e : Ending) (w' : World) : Prop :=
  ∃ g, w.heap.size ≤ g ∧ e = .returned (.slice (some ⟨g, 0, none⟩) m m) ∧ OwnInts w' g xs ∧ Below w.heap.size w w'

set_option maxRecDepth 100000 in
set_option maxHeartbeats 1000000 in
theorem body_any (a : Option Addr) (c : Nat) (ws : List Int) (fuel s : Int) (m p : Nat) (w : World) (h : IsInts w a ws) (hn : ws.length = 192) (hcap : 192 ≤ c) (hs0 : 0 ≤ s) (hs1 : s ≤ 1) (hm : m ≤ 40) (hp : (p : Int) = 68 + 64 * s) :
    Calls Tryz.prog 124 #[.agg #[.slice a 192 c, .int .i64 fuel], .int .i64 s, .int .i64 m] w (BodyAns w m ((ws.drop p).take m)) := by
  have HB := hide (fun W => bodyPlace_any s W hs0 hs1)
  rw [← hp] at HB
  have hp1 : p ≤ 132 := by omega
  obtain ⟨b, off, rfl⟩ : ∃ b off, a = some ⟨b, off, none⟩ := by
    rcases h with rfl | ⟨b, off, rfl, _⟩
    { simp at hn }
    { exact ⟨b, off, rfl⟩ }
  have hlen : ((ws.drop p).take m).length = m := by simp; omega
  have hx : IsInts w (some ⟨b, off + p, none⟩) ((ws.drop p).take m) := (h.drop p).take m
  obtain ⟨xs, hxs⟩ : ∃ xs, xs = (ws.drop p).take m := ⟨_, rfl⟩
  rw [← hxs] at hlen hx ⊢
  have HL := hide hlen
  clear hlen hxs hp hn
  have hw : Below w.heap.size w (w.alloc (.cells #[.slice (some ⟨b, off, none⟩) 192 c, .int .i64 fuel] 27)) := (Below.refl _ _).alloc (Nat.le_refl _) _
  have b0 := hide (heap_alloc_last w (.cells #[.slice (some ⟨b, off, none⟩) 192 c, .int .i64 fuel] 27))
  have hmk := make_ints m (w.alloc (.cells #[.slice (some ⟨b, off, none⟩) 192 c, .int .i64 fuel] 27)) (by omega)
  have hsz : (w.alloc (.cells #[.slice (some ⟨b, off, none⟩) 192 c, .int .i64 fuel] 27)).heap.size = w.heap.size + 1 := by simp
  go_enter Tryz.func124, Tryz.ntmps124
  go_upto_region 2 with fail
  generalize w.alloc (.cells #[.slice (some ⟨b, off, none⟩) 192 c, .int .i64 fuel] 27) = W at *
  have b1 := hide (heap_alloc_last W (.cells (vals (List.replicate m 0)).toArray 3))
  rw [hsz] at b1
  replace b0 := hide (blk_alloc b0.out (.cells (vals (List.replicate m 0)).toArray 3))
  replace hw := hw.alloc hw.size (.cells (vals (List.replicate m 0)).toArray 3)
  clear hmk
  replace hx := hx.below hw
  generalize W.alloc (.cells (vals (List.replicate m 0)).toArray 3) = W1 at *
  have x0 : W1.cell? ⟨w.heap.size, 0, none⟩ = some (.slice (some ⟨b, off, none⟩) 192 c) := blk_cell b0.out 0 _ rfl
  have j3 : (p : Int) ≤ 192 := by omega
  have j4 : ¬ c = p := by omega
  have j5 : (192 : Int) ≤ (c : Int) := by omega
  clear hsz
  go_region_held3 (fun w' => w'.cell? ⟨w.heap.size, 0, none⟩ = some (.slice (some ⟨b, off, none⟩) 192 c)) (first | assumption | go_keep)
    ((first | (go_at_call 166; refine (unhide HB _).mono ?_; rintro e w5 ⟨rfl, rfl⟩) | (refine step_copy_splice (by rfl) _ _ _ _ (by rfl) 3 Tryz.underlying25 size_int (some ⟨w.heap.size + 1, 0, none⟩) (some ⟨b, off + p, none⟩) m m (192 - p) (c - p) (by rfl) (by rfl) (w.heap.size + 1) 0 (vals (List.replicate m 0)) 3 b1.out (vals xs) (by rw [vals_length, HL.out]; exact (Nat.min_eq_right (by omega)).symm) (fun _ => ⟨rfl, _, rfl, fun j v hv => addr_cells hx j v hv⟩) (by simp [vals_length, HL.out]) (vals_one xs) (w.heap.size + 1) W1 ((Below.refl _ _).drew) (Nat.le_refl _) ?_; intro w4 hg4 hb4; have z0 : w4.cell? ⟨w.heap.size, 0, none⟩ = some (.slice (some ⟨b, off, none⟩) 192 c) := (by rw [hb4.cell (by simp)]; exact x0))))
  go_wp2
  go_ret
  refine ⟨w.heap.size + 1, by omega, rfl, ?_, hw.trans (hb4.mono (by omega))⟩
  have := hg4.out
  rw [splice_all _ _ (by simp [vals_length, HL.out])] at this
  exact this

def bodyS (ws : List Int) (fuel s m : Int) : List Int × Int :=
  if slotE ws fuel s ≠ 0 then ([], slotE ws fuel s) else if inB m 0 40 = false then ([], 2) else ((ws.drop (68 + 64 * s).toNat).take m.toNat, 0)

set_option maxRecDepth 100000 in
set_option maxHeartbeats 1000000 in
theorem bodyOf_any (a : Option Addr) (n c : Nat) (ws : List Int) (fuel s m : Int) (w : World) (h : IsInts w a ws) (hn : ws.length = n) (hm : n ≤ maxLen) (hcap : n ≤ c) :
    Calls Tryz.prog 196 #[.agg #[.slice a n c, .int .i64 fuel], .int .i64 s, .int .i64 m] w (Reads w (bodyS ws fuel s m)) := by
  have HC := hide (fun W (h : IsInts W a ws) => slotCheck_any a n c ws fuel s W h hn hm)
  have HN := hide hn
  clear hn
  have b0 := hide (heap_alloc_last w (.cells #[.slice a n c, .int .i64 fuel] 27))
  have hw : Below w.heap.size w (w.alloc (.cells #[.slice a n c, .int .i64 fuel] 27)) := (Below.refl _ _).alloc (Nat.le_refl _) _
  have i0 := h.below hw
  go_enter Tryz.func196, Tryz.ntmps196
  go_wp2_with fail
  generalize w.alloc (.cells #[.slice a n c, .int .i64 fuel] 27) = W at *
  refine (unhide HC _ i0).mono ?_
  rintro e w1 ⟨rfl, hb1⟩
  replace b0 := hide (blk_below b0.out hb1)
  replace i0 := i0.below hb1
  replace hw := hw.trans (hb1.mono hw.size)
  clear hb1
  by_cases e1 : slotE ws fuel s = 0
  rotate_left
  {
  have e1' : (slotE ws fuel s != 0) = true := by simpa using e1
  have hr : Hid (bodyS ws fuel s m = ([], slotE ws fuel s)) := by show _ = _; unfold bodyS; rw [if_pos e1]
  go_wp2
  go_ret2
  exact reads_err hr.out hw
  }
  have e1' : (slotE ws fuel s != 0) = false := by simpa using e1
  obtain ⟨-, pl, p0, p1⟩ := slotE_parts e1
  obtain rfl : n = 192 := by rw [← HN.out, pl]
  have E1 := hide e1
  clear e1 pl
  go_wp2_with fail
  refine (slWithin_any m 0 40 _).mono ?_
  rintro e w2 ⟨rfl, rfl⟩
  cases e2 : inB m 0 40
  {
  have hr : Hid (bodyS ws fuel s m = ([], 2)) := by show _ = _; unfold bodyS; rw [if_neg (by simpa using E1.out), if_pos e2]
  clear e2
  go_wp2
  go_ret2
  exact reads_err hr.out hw
  }
  have q2 : 0 ≤ m ∧ m ≤ 40 := by unfold inB at e2; simpa using e2
  obtain ⟨j, rfl⟩ := Int.eq_ofNat_of_zero_le q2.1
  obtain ⟨p, hp⟩ : ∃ p : Nat, (p : Int) = 68 + 64 * s := ⟨(68 + 64 * s).toNat, by omega⟩
  have hr : Hid (bodyS ws fuel s j = ((ws.drop p).take j, 0)) := by show _ = _; unfold bodyS; rw [if_neg (by simpa using E1.out), if_neg (by simp [e2]), ← hp]; simp
  clear e2
  have hl : Hid (((ws.drop p).take j).length = j) := by show _ = _; have := HN.out; simp; omega
  have x0 : w2.cell? ⟨w.heap.size, 0, none⟩ = some (.slice a 192 c) := blk_cell b0.out 0 _ rfl
  have x1 : w2.cell? ⟨w.heap.size, 1, none⟩ = some (.int .i64 fuel) := blk_cell b0.out 1 _ rfl
  have HB := hide (body_any a c ws fuel s j p w2 i0 HN.out hcap p0 p1 (by omega) hp)
  clear hp
  go_wp2_with fail
  refine (unhide HB).mono ?_
  rintro e w3 ⟨g, hg, rfl, ho, hb3⟩
  go_wp2
  go_ret2
  refine ⟨⟨some ⟨g, 0, none⟩, j, j, by rw [hr.out]; rfl, by rw [hr.out]; exact ho.isInts, by rw [hr.out]; exact hl.out, Nat.le_refl _, FreshA.here (Nat.le_trans hw.size hg) 0⟩, hw.trans (hb3.mono hw.size)⟩

end Go.Proofs.YtgngpmgjoifepaaGreatDoor
