/- The contracts of log.Format and log.Records. -/
import Derived.Test.YtgngpmgjoifepaaGreatDoorPq6
namespace Go.Proofs.YtgngpmgjoifepaaGreatDoor
open Go.RowKit
attribute [local go_sem ↓] Go.wp_at_zero Go.wp_at_succ

theorem isStep_era {w : World} {b s : Nat} (h : w.cell? ⟨b, 0, none⟩ = some (.int .i64 s)) (hs : s ≤ 100) : IsStep w (.func (.func 161) #[] #[.pointer (some ⟨b, 0, none⟩)]) (.era s) := ⟨b, rfl, h, hs⟩
theorem isStep_prg {w : World} {b1 b2 p n c : Nat} {a : Option Addr} {words : List Int} (h1 : w.cell? ⟨b1, 0, none⟩ = some (.int .i64 p)) (h2 : w.cell? ⟨b2, 0, none⟩ = some (.slice a n c)) (h3 : IsInts w a words) (h4 : words.length = n) (h5 : n ≤ 100) (h6 : p ≤ 1000) :
    IsStep w (.func (.func 163) #[] #[.pointer (some ⟨b1, 0, none⟩), .pointer (some ⟨b2, 0, none⟩)]) (.prg p words) := ⟨b1, b2, a, n, c, rfl, h1, h2, h3, h4, h5, h6⟩

theorem isSteps2 {w : World} {b : Nat} {v0 v1 : Value} {s0 s1 : Stp} (h0 : w.cell? ⟨b, 0, none⟩ = some v0) (h1 : w.cell? ⟨b, 1, none⟩ = some v1) (k0 : IsStep w v0 s0) (k1 : IsStep w v1 s1) : IsSteps w (some ⟨b, 0, none⟩) [s0, s1] := by
  refine ⟨b, rfl, fun i st hi => ?_⟩
  match i, hi with
  | 0, hi => simp at hi; subst hi; exact ⟨v0, h0, k0⟩
  | 1, hi => simp at hi; subst hi; exact ⟨v1, h1, k1⟩

theorem isSteps3 {w : World} {b : Nat} {v0 v1 v2 : Value} {s0 s1 s2 : Stp} (h0 : w.cell? ⟨b, 0, none⟩ = some v0) (h1 : w.cell? ⟨b, 1, none⟩ = some v1) (h2 : w.cell? ⟨b, 2, none⟩ = some v2) (k0 : IsStep w v0 s0) (k1 : IsStep w v1 s1) (k2 : IsStep w v2 s2) : IsSteps w (some ⟨b, 0, none⟩) [s0, s1, s2] := by
  refine ⟨b, rfl, fun i st hi => ?_⟩
  match i, hi with
  | 0, hi => simp at hi; subst hi; exact ⟨v0, h0, k0⟩
  | 1, hi => simp at hi; subst hi; exact ⟨v1, h1, k1⟩
  | 2, hi => simp at hi; subst hi; exact ⟨v2, h2, k2⟩

theorem isInts_one {w : World} {b : Nat} {x : Int} (h : w.cell? ⟨b, 0, none⟩ = some (.int .i64 x)) : IsInts w (some ⟨b, 0, none⟩) [x] :=
  .inr ⟨b, 0, rfl, fun i hi => by
    have : i = 0 := by simp at hi; omega
    subst this
    exact h⟩

set_option maxRecDepth 100000 in
set_option maxHeartbeats 400000 in
theorem erasing_eq (s : Int) (w : World) : Calls Tryz.prog 110 #[.int .i64 s] w fun e w' => e = .returned (.func (.func 161) #[] #[.pointer (some ⟨w.heap.size, 0, none⟩)]) ∧ w' = w.alloc (.cells #[.int .i64 s] 3) := by
  go_enter Tryz.func110, Tryz.ntmps110
  go_wp2
  go_ret
  exact ⟨rfl, rfl⟩

set_option maxRecDepth 100000 in
set_option maxHeartbeats 400000 in
theorem programming_eq (p : Int) (v : Value) (w : World) (hv : ∃ a n c, v = .slice a n c) : Calls Tryz.prog 111 #[.int .i64 p, v] w fun e w' => e = .returned (.func (.func 163) #[] #[.pointer (some ⟨w.heap.size, 0, none⟩), .pointer (some ⟨w.heap.size + 1, 0, none⟩)]) ∧ w' = (w.alloc (.cells #[.int .i64 p] 3)).alloc (.cells #[v] 25) := by
  obtain ⟨a, n, c, rfl⟩ := hv
  go_enter Tryz.func111, Tryz.ntmps111
  go_wp2
  go_ret
  exact ⟨rfl, rfl⟩

theorem cell_last {w : World} {cs : Array Value} {t : TypeId} {b i : Nat} {v : Value} (hb : b = w.heap.size) (hv : cs[i]? = some v) : (w.alloc (.cells cs t)).cell? ⟨b, i, none⟩ = some v := by
  subst hb
  exact blk_cell (heap_alloc_last _ _) i _ hv
theorem cell_prev {w : World} {o : Obj} {p : Addr} {v : Value} (h : w.cell? p = some v) : (w.alloc o).cell? p = some v := by
  rw [Below.cell ((Below.refl _ w).alloc (Nat.le_refl _) o) (cell_lt h)]
  exact h

theorem keepBox {W W' : World} {b : Nat} {v0 v1 : Value} (hb : Below W.heap.size W W') (lt : b < W.heap.size) (x0 : W.cell? ⟨b, 0, none⟩ = some v0) (x1 : W.cell? ⟨b, 1, none⟩ = some v1) : W'.cell? ⟨b, 0, none⟩ = some v0 ∧ W'.cell? ⟨b, 1, none⟩ = some v1 :=
  ⟨(hb.cell (p := ⟨b, 0, none⟩) lt).trans x0, (hb.cell (p := ⟨b, 1, none⟩) lt).trans x1⟩

/-- The document's Format. -/
def fmtS (ws : List Int) (fuel : Int) : List Int × Int × Int := if secS ws fuel ≠ 0 then ([], 0, secS ws fuel) else turnS [.era 1, .era 0, .prg 0 [1]] ws fuel

set_option maxRecDepth 100000 in
set_option maxHeartbeats 4000000 in
theorem format_any (a : Option Addr) (n c : Nat) (ws : List Int) (fuel : Int) (w : World) (h : IsInts w a ws) (hn : ws.length = n) (hm : n ≤ maxLen) :
    Calls Tryz.prog 57 #[.agg #[.slice a n c, .int .i64 fuel]] w (Answers w (fmtS ws fuel)) := by
  have HC := hide (fun W (h : IsInts W a ws) => checkSectors_any a n c ws fuel W h hn hm)
  have HT := hide (fun W al cl (h : IsInts W a ws) (hs : IsSteps W al [.era 1, .era 0, .prg 0 [1]]) => inTurn_any a n c ws fuel al 3 cl [.era 1, .era 0, .prg 0 [1]] W h hn hm hs rfl (by decide) (by decide))
  have b0 : ((w.alloc (.cells #[.slice a n c, .int .i64 fuel] 27)).alloc (.cells #[.slice none 0 0, .int .i64 0] 27)).heap[w.heap.size]? = some (.cells #[.slice a n c, .int .i64 fuel] 27 (0, 0)) :=
    blk_alloc (heap_alloc_last _ _) _
  have b2 : ((w.alloc (.cells #[.slice a n c, .int .i64 fuel] 27)).alloc (.cells #[.slice none 0 0, .int .i64 0] 27)).heap[w.heap.size + 1]? = some (.cells #[.slice none 0 0, .int .i64 0] 27 (0, 0)) :=
    by simpa using heap_alloc_last (w.alloc _) _
  have hw : Below w.heap.size w ((w.alloc (.cells #[.slice a n c, .int .i64 fuel] 27)).alloc (.cells #[.slice none 0 0, .int .i64 0] 27)) :=
    ((Below.refl _ _).alloc (Nat.le_refl _) _).alloc (by simp) _
  have i0 := h.below hw
  have B0 := hide b0
  have B2 := hide b2
  clear b0 b2 hn
  go_enter Tryz.func57, Tryz.ntmps57
  go_wp2_with fail
  generalize (w.alloc (.cells #[.slice a n c, .int .i64 fuel] 27)).alloc (.cells #[.slice none 0 0, .int .i64 0] 27) = W at *
  refine (unhide HC _ i0).mono ?_
  rintro e w1 ⟨rfl, hb1⟩
  replace B0 := hide (blk_below B0.out hb1)
  replace B2 := hide (blk_below B2.out hb1)
  replace i0 := i0.below hb1
  replace hw := hw.trans (hb1.mono hw.size)
  clear hb1
  have x0 := blk_cell B0.out 0 _ rfl
  have x1 := blk_cell B0.out 1 _ rfl
  have y0 := blk_cell B2.out 0 _ rfl
  have y1 := blk_cell B2.out 1 _ rfl
  have f0 := blk_free B2.out 0
  have f1 := blk_free B2.out 1
  have lt0 := blk_lt B0.out
  have lt1 := blk_lt B2.out
  by_cases e1 : secS ws fuel = 0
  rotate_left
  · have e1' : (secS ws fuel != 0) = true := by simpa using e1
    have hr : Hid (fmtS ws fuel = ([], 0, secS ws fuel)) := by show _ = _; unfold fmtS; rw [if_pos e1]
    go_wp2
    refine bodyPost_ret (v := .tuple #[.agg #[.slice none 0 0, .int .i64 0], .int .i64 (secS ws fuel)]) (by simp [results, Tryz.results57, go_sem, y0, y1]) rfl ?_
    exact answers_err hr.out ((hw.setCell (by simp) _).setCell (by simp) _)
  have e1' : (secS ws fuel != 0) = false := by simpa using e1
  have hr : Hid (fmtS ws fuel = turnS [.era 1, .era 0, .prg 0 [1]] ws fuel) := by show _ = _; unfold fmtS; rw [if_neg (by simpa using e1)]
  clear e1
  have nn := World.new_ne w1 ⟨w.heap.size, 0, none⟩ x0
  go_wp2_with fail
  go_region_held3 (fun w' => w'.cell? ⟨w.heap.size, 0, none⟩ = some (.slice a n c) ∧ w'.cell? ⟨w.heap.size, 1, none⟩ = some (.int .i64 fuel)) (first | exact ⟨by assumption, by assumption⟩ | (refine keepBox ?_ lt0 x0 x1; (repeat (first | exact Below.refl _ _ | refine Below.drew ?_ | refine Below.alloc ?_ (by simp <;> omega) _)); done) | go_keep)
    ((first
      | (go_at_call 110; refine (erasing_eq _ _).mono ?_; rintro e w2 ⟨rfl, rfl⟩)
      | (go_at_call 111; refine (programming_eq _ _ _ ⟨_, _, _, rfl⟩).mono ?_; rintro e w2 ⟨rfl, rfl⟩)
      | (go_at_call 109; refine (unhide HT _ _ _ (i0.below (by repeat (first | exact Below.refl _ _ | refine Below.drew ?_ | refine Below.alloc ?_ (by simp <;> omega) _))) (isSteps3 (by repeat (first | (refine cell_last ?_ rfl; simp; done) | refine cell_prev ?_)) (by repeat (first | (refine cell_last ?_ rfl; simp; done) | refine cell_prev ?_)) (by repeat (first | (refine cell_last ?_ rfl; simp; done) | refine cell_prev ?_)) (isStep_era (by repeat (first | (refine cell_last ?_ rfl; simp; done) | refine cell_prev ?_)) (by omega)) (isStep_era (by repeat (first | (refine cell_last ?_ rfl; simp; done) | refine cell_prev ?_)) (by omega)) (isStep_prg (n := 1) (by repeat (first | (refine cell_last ?_ rfl; simp; done) | refine cell_prev ?_)) (by repeat (first | (refine cell_last ?_ rfl; simp; done) | refine cell_prev ?_)) (isInts_one (by repeat (first | (refine cell_last ?_ rfl; simp; done) | refine cell_prev ?_))) rfl (by omega) (by omega)))).mono ?_; rintro e w6 ⟨⟨a6, n6, c6, rfl, hi6, hn6, hc6, hf6⟩, hb6⟩; have hb7 : Below w1.heap.size w1 w6 := (Below.trans (by repeat (first | exact Below.refl _ _ | refine Below.drew ?_ | refine Below.alloc ?_ (by simp <;> omega) _)) (hb6.mono (by simp; omega))); have z0 : w6.cell? ⟨w.heap.size, 0, none⟩ = some (.slice a n c) := (by rw [hb7.cell lt0]; exact x0); have z1 : w6.cell? ⟨w.heap.size, 1, none⟩ = some (.int .i64 fuel) := (by rw [hb7.cell lt0]; exact x1); have q0 := blk_cell (blk_below B2.out hb7) 0 _ rfl; have q1 := blk_cell (blk_below B2.out hb7) 1 _ rfl; have q2 := blk_free (blk_below B2.out hb7) 0; have q3 := blk_free (blk_below B2.out hb7) 1; have hf7 : FreshA w1.heap.size a6 := FreshA.mono hf6 (by simp; omega))))
  all_goals
    go_wp2
    refine bodyPost_ret (v := .tuple #[.agg #[.slice a6 n6 c6, .int .i64 (turnS [.era 1, .era 0, .prg 0 [1]] ws fuel).2.1], .int .i64 (turnS [.era 1, .era 0, .prg 0 [1]] ws fuel).2.2]) (by simp [results, Tryz.results57, go_sem, q0, q1]) rfl ?_
    rw [hr.out]
    have hw7 := hw.trans (hb7.mono hw.size)
    exact ⟨⟨a6, n6, c6, rfl, (hi6.other hf7 lt1 0 _).other hf7 lt1 1 _, hn6, hc6, FreshA.mono hf7 hw.size⟩, (hw7.setCell (by simp) _).setCell (by simp) _⟩

end Go.Proofs.YtgngpmgjoifepaaGreatDoor
