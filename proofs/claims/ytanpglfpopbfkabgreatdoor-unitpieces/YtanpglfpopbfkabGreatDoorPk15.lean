/- The contract of slot.Seal. The contract of slot.Image. Plain facts for package meta: a numeral is read back ('numO'), texts of numbers, releases and images ('wr', 'relT', 'imgT', 'rootT'), a release is read ('readR') just from its own text, unlike ones have unlike texts. No program in this text. Plain texts of package meta: 'wr', 'rootT', 'relT', 'imgT'; 'readR' (the program's way of reading a release) and 'readQ' (the other way) read just what 'relT' writes; unlike ones have unlike texts. No program in this text. -/
import Derived.Test.YtanpglfpopbfkabGreatDoorPk13
import Derived.Test.YtanpglfpopbfkabGreatDoorPk14
import Derived.Lib.AtoiTie
import Derived.Lib.AtoiAllCases
import Derived.Lib.SplitLaws
import Derived.Lib.Join
import Derived.Lib.ItoaLen
namespace Go.Proofs.YtanpglfpopbfkabGreatDoor
open Go.RowKit
attribute [local go_sem ↓] Go.wp_at_zero Go.wp_at_succ

/-- The document's Seal. -/
def sealS (ws : List Int) (fuel s long name : Int) : List Int × Int × Int :=
  if slotE ws fuel s ≠ 0 then ([], 0, slotE ws fuel s) else if sealB long name = false then ([], 0, 3) else progS ws fuel (64 + 64 * s) (headL long name)

theorem isInts_head {w : World} {b : Nat} {v0 v1 v2 v3 : Int} {t : TypeId} (h : w.heap[b]? = some (.cells #[.int .i64 v0, .int .i64 v1, .int .i64 v2, .int .i64 v3] t (0, 0))) : IsInts w (some ⟨b, 0, none⟩) [v0, v1, v2, v3] := by
  refine .inr ⟨b, 0, rfl, fun i hi => ?_⟩
  simp at hi
  rcases i with _ | _ | _ | _ | i
  · exact blk_cell h 0 _ rfl
  · exact blk_cell h 1 _ rfl
  · exact blk_cell h 2 _ rfl
  · exact blk_cell h 3 _ rfl
  · omega

set_option maxRecDepth 100000 in
set_option maxHeartbeats 1000000 in
theorem seal_any (a : Option Addr) (n c : Nat) (ws : List Int) (fuel s long name : Int) (w : World)
    (h : IsInts w a ws) (hn : ws.length = n) (hm : n ≤ maxLen) :
    Calls Tryz.prog 137 #[.agg #[.slice a n c, .int .i64 fuel], .int .i64 s, .int .i64 long, .int .i64 name] w (Answers w (sealS ws fuel s long name)) := by
  have HC := hide (fun W (h : IsInts W a ws) => slotCheck_any a n c ws fuel s W h hn hm)
  have HN := hide hn
  clear hn
  have b0 := hide (blk_alloc (heap_alloc_last w (.cells #[.slice a n c, .int .i64 fuel] 48)) (.cells #[.slice none 0 0, .int .i64 0] 48))
  have b1 : Hid (((w.alloc (.cells #[.slice a n c, .int .i64 fuel] 48)).alloc (.cells #[.slice none 0 0, .int .i64 0] 48)).heap[w.heap.size + 1]? = some (.cells #[.slice none 0 0, .int .i64 0] 48 (0, 0))) := by
    show _ = _
    simpa using heap_alloc_last (w.alloc _) _
  have hw : Below w.heap.size w ((w.alloc (.cells #[.slice a n c, .int .i64 fuel] 48)).alloc (.cells #[.slice none 0 0, .int .i64 0] 48)) :=
    ((Below.refl _ _).alloc (Nat.le_refl _) _).alloc (by simp) _
  have i0 := h.below hw
  go_enter Tryz.func137, Tryz.ntmps137
  go_wp2_with fail
  generalize (w.alloc (.cells #[.slice a n c, .int .i64 fuel] 48)).alloc (.cells #[.slice none 0 0, .int .i64 0] 48) = W at *
  refine (unhide HC _ i0).mono ?_
  rintro e w1 ⟨rfl, hb1⟩
  replace b0 := hide (blk_below b0.out hb1)
  replace b1 := hide (blk_below b1.out hb1)
  replace i0 := i0.below hb1
  replace hw := hw.trans (hb1.mono hw.size)
  clear hb1
  have r0 := blk_cell b1.out 0 _ rfl
  have r1 := blk_cell b1.out 1 _ rfl
  have f0 := blk_free b1.out 0
  have f1 := blk_free b1.out 1
  have lt0 := blk_lt b0.out
  have lt1 := blk_lt b1.out
  by_cases e1 : slotE ws fuel s = 0
  rotate_left
  · have e1' : (slotE ws fuel s != 0) = true := by simpa using e1
    have hr : Hid (sealS ws fuel s long name = ([], 0, slotE ws fuel s)) := by show _ = _; unfold sealS; rw [if_pos e1]
    go_wp2
    refine bodyPost_ret (v := .tuple #[.agg #[.slice none 0 0, .int .i64 0], .int .i64 (slotE ws fuel s)]) (by simp [results, Tryz.results137, go_sem, r0, r1]) rfl ?_
    exact answers_err hr.out ((hw.setCell (by simp) _).setCell (by simp) _)
  have e1' : (slotE ws fuel s != 0) = false := by simpa using e1
  have E1 := hide e1
  clear e1
  go_wp2_with fail
  refine (sealable_any long name _).mono ?_
  rintro e w2 ⟨rfl, rfl⟩
  cases e2 : sealB long name
  · have hr : Hid (sealS ws fuel s long name = ([], 0, 3)) := by show _ = _; unfold sealS; rw [if_neg (by simpa using E1.out), if_pos e2]
    clear e2
    go_wp2
    refine bodyPost_ret (v := .tuple #[.agg #[.slice none 0 0, .int .i64 0], .int .i64 3]) (by simp [results, Tryz.results137, go_sem, r0, r1]) rfl ?_
    exact answers_err hr.out ((hw.setCell (by simp) _).setCell (by simp) _)
  have hr : Hid (sealS ws fuel s long name = progS ws fuel (64 + 64 * s) (headL long name)) := by show _ = _; unfold sealS; rw [if_neg (by simpa using E1.out), if_neg (by simp [e2])]
  clear e2
  obtain ⟨-, -, p0, p1⟩ := slotE_parts E1.out
  clear r0 r1 f0 f1
  go_wp2_with fail
  refine (slHeadOf_any long name _).mono ?_
  rintro e w3 ⟨rfl, hb3⟩
  have hb4 := hb3.alloc hb3.size (.cells #[.int .i64 long, .int .i64 name, .int .i64 (xorW long), .int .i64 (xorW name)] 121)
  have B2 := hide (heap_alloc_last w3 (.cells #[.int .i64 long, .int .i64 name, .int .i64 (xorW long), .int .i64 (xorW name)] 121))
  replace b0 := hide (blk_below b0.out hb4)
  replace b1 := hide (blk_below b1.out hb4)
  replace i0 := i0.below hb4
  replace hw := hw.trans (hb4.mono hw.size)
  have hge := hb3.size
  clear hb3 hb4
  go_upto_region 7 with fail
  generalize w3.alloc (.cells #[.int .i64 long, .int .i64 name, .int .i64 (xorW long), .int .i64 (xorW name)] 121) = w4 at *
  have x0 : w4.cell? ⟨w.heap.size, 0, none⟩ = some (.slice a n c) := blk_cell b0.out 0 _ rfl
  have x1 : w4.cell? ⟨w.heap.size, 1, none⟩ = some (.int .i64 fuel) := blk_cell b0.out 1 _ rfl
  replace lt0 := blk_lt b0.out
  replace lt1 := blk_lt b1.out
  have i2 := isInts_head B2.out
  have HP := hide (fun W' (hb : Below w4.heap.size w4 W') => program_any a n c ws fuel (64 + 64 * s) (some ⟨w3.heap.size, 0, none⟩) 4 4 (headL long name) W' (i0.below hb) HN.out hm (i2.below hb) rfl (by decide) (by omega))
  go_region_held3 (fun w' => w'.cell? ⟨w.heap.size, 0, none⟩ = some (.slice a n c) ∧ w'.cell? ⟨w.heap.size, 1, none⟩ = some (.int .i64 fuel)) (first | exact ⟨by assumption, by assumption⟩ | go_keep)
    ((first | (go_at_call 65; refine (headPlace_any s _ p0 p1).mono ?_; rintro e w5 ⟨rfl, rfl⟩) | (go_at_call 171; refine (unhide HP _ ?_).mono ?_; exact (Below.refl _ _).drew; rintro e w6 ⟨⟨a6, n6, c6, rfl, hi6, hn6, hc6, hf6⟩, hb6⟩; have hb7 : Below w4.heap.size w4 w6 := (Below.trans (Below.refl _ w4).drew hb6); have y0 : w6.cell? ⟨w.heap.size, 0, none⟩ = some (.slice a n c) := (by rw [hb7.cell lt0]; exact x0); have y1 : w6.cell? ⟨w.heap.size, 1, none⟩ = some (.int .i64 fuel) := (by rw [hb7.cell lt0]; exact x1); have q0 := blk_cell (blk_below b1.out hb7) 0 _ rfl; have q1 := blk_cell (blk_below b1.out hb7) 1 _ rfl; have q2 := blk_free (blk_below b1.out hb7) 0; have q3 := blk_free (blk_below b1.out hb7) 1)))
  go_wp2
  refine bodyPost_ret (v := .tuple #[.agg #[.slice a6 n6 c6, .int .i64 (progS ws fuel (64 + 64 * s) (headL long name)).2.1], .int .i64 (progS ws fuel (64 + 64 * s) (headL long name)).2.2]) (by simp [results, Tryz.results137, go_sem, q0, q1]) rfl ?_
  rw [hr.out]
  have hw7 := hw.trans (hb7.mono hw.size)
  refine ⟨⟨a6, n6, c6, rfl, ?_, hn6, hc6, FreshA.mono hf6 hw.size⟩, (hw7.setCell (by simp) _).setCell (by simp) _⟩
  exact (hi6.other (B := w4.heap.size) hf6 lt1 0 _).other (B := w4.heap.size) hf6 lt1 1 _

end Go.Proofs.YtanpglfpopbfkabGreatDoor

namespace Go.Proofs.YtanpglfpopbfkabGreatDoor
open Go.RowKit
attribute [local go_sem ↓] Go.wp_at_zero Go.wp_at_succ

/-- Is what stands from place p on a head? -/
def headB (ws : List Int) (p : Nat) : Bool :=
  sealB (ws.getD p 0) (ws.getD (p + 1) 0) && decide (ws.getD (p + 2) 0 = xorW (ws.getD p 0) ∧ ws.getD (p + 3) 0 = xorW (ws.getD (p + 1) 0))

/-- The document's Image: the words, the name, the error. -/
def imgS (ws : List Int) (fuel s : Int) : List Int × Int × Int :=
  if slotE ws fuel s ≠ 0 then ([], 0, slotE ws fuel s) else if headB ws (64 + 64 * s).toNat = false then ([], 0, 4)
  else ((ws.drop (68 + 64 * s).toNat).take (ws.getD (64 + 64 * s).toNat 0).toNat, ws.getD ((64 + 64 * s).toNat + 1) 0, 0)

/-- What a call that answers words, a number and an error hands back. -/
def Shows (w : World) (r : List Int × Int × Int) (e : Ending) (w' : World) : Prop :=
  (∃ a n c, e = .returned (.tuple #[.slice a n c, .int .i64 r.2.1, .int .i64 r.2.2]) ∧ IsInts w' a r.1 ∧ r.1.length = n ∧ n ≤ c ∧ FreshA w.heap.size a) ∧ Below w.heap.size w w'

theorem shows_err {w w' : World} {r : List Int × Int × Int} {err : Int} (hr : r = ([], 0, err)) (hb : Below w.heap.size w w') : Shows w r (.returned (.tuple #[.slice none 0 0, .int .i64 0, .int .i64 err])) w' := by
  subst hr
  exact ⟨⟨none, 0, 0, rfl, .inl rfl, rfl, Nat.le_refl _, FreshA.nil _⟩, hb⟩

/-- '==' of two heads. -/
theorem eqHead (a0 a1 a2 a3 b0 b1 b2 b3 : Int) (w : World) : (Op.equalIn 10000 121 (.agg #[.int .i64 a0, .int .i64 a1, .int .i64 a2, .int .i64 a3]) (.agg #[.int .i64 b0, .int .i64 b1, .int .i64 b2, .int .i64 b3])).run Tryz.prog w = .ok (decide (a0 = b0 ∧ a1 = b1 ∧ a2 = b2 ∧ a3 = b3)) w := by
  have u3 := Tryz.underlying3
  have a3' := Tryz.isAgg3
  have z3 := Tryz.sizeOf3
  rw [show (10000 : Nat) = 9999 + 1 from rfl, Op.equalIn]
  simp only [Sem.run_bind, run_underlying Tryz.underlying121, Result.andThen_ok]
  simp only [Std.Legacy.Range.forIn_eq_forIn_range', Std.Legacy.Range.size, Nat.sub_zero, Nat.add_sub_cancel, Nat.div_one, List.range'_succ, List.range'_zero, List.forIn_cons, List.forIn_nil]
  go_simp
  by_cases h1 : a0 = b0 <;> by_cases h2 : a1 = b1 <;> by_cases h3 : a2 = b2 <;> by_cases h4 : a3 = b3 <;> simp [h1, h2, h3, h4]

theorem take4 {ws : List Int} {p : Nat} (h : p + 4 ≤ ws.length) : (ws.drop p).take 4 = [ws.getD p 0, ws.getD (p + 1) 0, ws.getD (p + 2) 0, ws.getD (p + 3) 0] := by
  apply ext_getD
  · simp; omega
  · intro i hi
    simp at hi
    rcases i with _ | _ | _ | _ | i
    · simp
    · simp
    · simp
    · simp
    · omega

attribute [local go_sem] eqHead

theorem IsInts.below4 {w1 w2 w4 : World} {a : Option Addr} {xs : List Int} (h : IsInts w1 a xs) (hb : Below w1.heap.size w1 w2) (hb4 : Below w1.heap.size w2 w4) : IsInts w4 a xs :=
  h.below (hb.trans hb4)

set_option maxRecDepth 100000 in
set_option maxHeartbeats 1000000 in
theorem image_any (a : Option Addr) (n c : Nat) (ws : List Int) (fuel s : Int) (w : World) (h : IsInts w a ws) (hn : ws.length = n) (hm : n ≤ maxLen) (hcap : n ≤ c) :
    Calls Tryz.prog 33 #[.agg #[.slice a n c, .int .i64 fuel], .int .i64 s] w (Shows w (imgS ws fuel s)) := by
  have HC := hide (fun W (h : IsInts W a ws) => slotCheck_any a n c ws fuel s W h hn hm)
  have HN := hide hn
  clear hn
  have b0 := hide (heap_alloc_last w (.cells #[.slice a n c, .int .i64 fuel] 48))
  have hw : Below w.heap.size w (w.alloc (.cells #[.slice a n c, .int .i64 fuel] 48)) := (Below.refl _ _).alloc (Nat.le_refl _) _
  have i0 := h.below hw
  go_enter Tryz.func33, Tryz.ntmps33
  go_wp2_with fail
  generalize w.alloc (.cells #[.slice a n c, .int .i64 fuel] 48) = W at *
  refine (unhide HC _ i0).mono ?_
  rintro e w1 ⟨rfl, hb1⟩
  replace b0 := hide (blk_below b0.out hb1)
  replace i0 := i0.below hb1
  replace hw := hw.trans (hb1.mono hw.size)
  clear hb1
  by_cases e1 : slotE ws fuel s = 0
  rotate_left
  · have e1' : (slotE ws fuel s != 0) = true := by simpa using e1
    have hr : Hid (imgS ws fuel s = ([], 0, slotE ws fuel s)) := by show _ = _; unfold imgS; rw [if_pos e1]
    go_wp2
    refine bodyPost_ret (v := .tuple #[.slice none 0 0, .int .i64 0, .int .i64 (slotE ws fuel s)]) (by simp [results, Tryz.results33, go_sem]) rfl ?_
    exact shows_err hr.out hw
  have e1' : (slotE ws fuel s != 0) = false := by simpa using e1
  obtain ⟨-, pl, p0, p1⟩ := slotE_parts e1
  obtain rfl : n = 192 := by rw [← HN.out, pl]
  have E1 := hide e1
  obtain ⟨p, hp⟩ : ∃ p : Nat, (p : Int) = 64 + 64 * s := ⟨(64 + 64 * s).toNat, by omega⟩
  have hp1 : p ≤ 128 := by omega
  have hr : Hid (imgS ws fuel s = if headB ws p = false then ([], 0, 4) else ((ws.drop (p + 4)).take (ws.getD p 0).toNat, ws.getD (p + 1) 0, 0)) := by
    show _ = _
    unfold imgS
    rw [if_neg (by simpa using e1), ← hp, show 68 + 64 * s = ((p + 4 : Nat) : Int) by omega, Int.toNat_natCast, Int.toNat_natCast]
  have HP := hide (fun W => headPlace_any s W p0 p1)
  rw [← hp] at HP
  have HBd := hide (fun W (i : IsInts W a ws) (m : Nat) (hm : m ≤ 40) => body_any a c ws fuel s m (p + 4) W i HN.out hcap p0 p1 hm (by omega))
  have ht := take4 (ws := ws) (p := p) (by rw [pl]; omega)
  have HH := hide (show headB ws p = (sealB (ws.getD p 0) (ws.getD (p + 1) 0) && decide (ws.getD (p + 2) 0 = xorW (ws.getD p 0) ∧ ws.getD (p + 3) 0 = xorW (ws.getD (p + 1) 0))) from rfl)
  obtain ⟨b, off, rfl⟩ : ∃ b off, a = some ⟨b, off, none⟩ := by
    rcases h with rfl | ⟨b, off, rfl, _⟩
    · simp at pl
    · exact ⟨b, off, rfl⟩
  have hx := (i0.drop p).take 4
  rw [ht] at hx
  have HL := hide (show ((ws.drop (p + 4)).take (ws.getD p 0).toNat).length = min (ws.getD p 0).toNat (192 - (p + 4)) by simp [pl])
  generalize ws.getD p 0 = h0 at *
  generalize ws.getD (p + 1) 0 = h1 at *
  generalize ws.getD (p + 2) 0 = h2 at *
  generalize ws.getD (p + 3) 0 = h3 at *
  clear e1 pl ht hp
  have ltw := blk_lt b0.out
  have b1 := hide (heap_alloc_last w1 (.cells #[.int .i64 0, .int .i64 0, .int .i64 0, .int .i64 0] 121))
  have hb1 : Below w1.heap.size w1 (w1.alloc (.cells #[.int .i64 0, .int .i64 0, .int .i64 0, .int .i64 0] 121)) := (Below.refl _ _).alloc (Nat.le_refl _) _
  replace b0 := hide (blk_below b0.out hb1)
  have hx1 := hx.below hb1
  go_upto_region 5 with fail
  generalize w1.alloc (.cells #[.int .i64 0, .int .i64 0, .int .i64 0, .int .i64 0] 121) = w2 at *
  have x0 : w2.cell? ⟨w.heap.size, 0, none⟩ = some (.slice (some ⟨b, off, none⟩) 192 c) := blk_cell b0.out 0 _ rfl
  have j3 : (p : Int) ≤ 192 := by omega
  have j4 : ¬ c = p := by omega
  have j5 : (192 : Int) ≤ (c : Int) := by omega
  go_region_held3 (fun w' => w'.cell? ⟨w.heap.size, 0, none⟩ = some (.slice (some ⟨b, off, none⟩) 192 c)) (first | assumption | go_keep)
    ((first | (go_at_call 65; refine (unhide HP _).mono ?_; rintro e w5 ⟨rfl, rfl⟩) | (refine step_copy_splice (by rfl) _ _ _ _ (by rfl) 3 Tryz.underlying22 size_int (some ⟨w1.heap.size, 0, none⟩) (some ⟨b, off + p, none⟩) 4 4 (192 - p) (c - p) (by rfl) (by rfl) w1.heap.size 0 (vals [0, 0, 0, 0]) 121 b1.out (vals [h0, h1, h2, h3]) ((Nat.min_eq_right (show 4 ≤ 192 - p by omega)).symm) (fun _ => ⟨rfl, _, rfl, fun j v hv => addr_cells hx1 j v hv⟩) (Nat.le_refl _) (vals_one _) w1.heap.size w2 ((Below.refl _ _).drew) (Nat.le_refl _) ?_; intro w4 hg4 hb4; have z0 : w4.cell? ⟨w.heap.size, 0, none⟩ = some (.slice (some ⟨b, off, none⟩) 192 c) := (by rw [hb4.cell ltw]; exact x0))))
  have hg5 : Hid (w4.heap[w1.heap.size]? = some (.cells #[.int .i64 h0, .int .i64 h1, .int .i64 h2, .int .i64 h3] 121 (0, 0))) := hg4.out
  have y0 := blk_cell hg5.out 0 _ rfl
  have y1 := blk_cell hg5.out 1 _ rfl
  have y2 := blk_cell hg5.out 2 _ rfl
  have y3 := blk_cell hg5.out 3 _ rfl
  have i4 : IsInts w4 (some ⟨b, off, none⟩) ws := i0.below4 hb1 hb4
  go_wp2_with fail
  go_quiet (fail)
  go_upto_region 7 with fail
  replace i4 : IsInts (w4.drewN nq) (some ⟨b, off, none⟩) ws := i4.drewN nq
  replace hb4 : Below w1.heap.size w2 (w4.drewN nq) := below_drewN hb4 nq
  replace hg5 : Hid ((w4.drewN nq).heap[w1.heap.size]? = some (.cells #[.int .i64 h0, .int .i64 h1, .int .i64 h2, .int .i64 h3] 121 (0, 0))) := hg5.out
  clear y0 y1 y2 y3 z0 hg4
  obtain ⟨w5, hw5⟩ : ∃ w5, w5 = w4.drewN nq := ⟨_, rfl⟩
  rw [← hw5] at i4 hb4 hg5 ⊢
  clear hw5
  have y0 := blk_cell hg5.out 0 _ rfl
  have y1 := blk_cell hg5.out 1 _ rfl
  have y2 := blk_cell hg5.out 2 _ rfl
  have y3 := blk_cell hg5.out 3 _ rfl
  have HS := hide (fun W => sealable_any h0 h1 W)
  go_cut [38] (fun v38 wc => v38 = .bool (!headB ws p) ∧ Below w5.heap.size w5 wc)
  case first =>
    cases hb : sealB h0 h1
    · rw [hb] at HS
      have hh : Hid (headB ws p = false) := by show _ = _; rw [HH.out, hb]; rfl
      clear hb
      go_quiet ((go_at_call 66; refine Calls.quiet_of_same (unhide HS _)))
      go_wp2_with fail
      go_meet
      case rel => exact ⟨congrArg Value.bool (by rw [hh.out]; rfl), below_drewN (Below.refl _ _) _⟩
    · rw [hb] at HS
      have HB := hide hb
      clear hb
      go_region_with ((first | (go_at_call 66; refine (unhide HS _).mono ?_; rintro e wq ⟨rfl, rfl⟩) | (go_at_call 67; refine (slHeadOf_any h0 h1 _).mono ?_; rintro e w6 ⟨rfl, hb6⟩; have hb7 : Below w5.heap.size w5 w6 := Below.trans (Below.refl _ w5).drew hb6; have q0 := blk_cell (blk_below hg5.out hb7) 0 _ rfl; have q1 := blk_cell (blk_below hg5.out hb7) 1 _ rfl; have q2 := blk_cell (blk_below hg5.out hb7) 2 _ rfl; have q3 := blk_cell (blk_below hg5.out hb7) 3 _ rfl)))
      all_goals
        go_wp2_with fail
        go_meet
        case rel => exact ⟨congrArg Value.bool (by rw [HH.out, HB.out]; simp), hb7⟩
  case rest =>
    obtain ⟨rfl, hbc⟩ := hcut
    obtain ⟨wB, rfl⟩ : ∃ wB : World, wB = wc := ⟨_, rfl⟩
    have hwB : Below w.heap.size w wB := hw.trans (((hb1.trans hb4).mono hw.size).trans (hbc.mono (Nat.le_trans hw.size (hb1.trans hb4).size)))
    cases hb : headB ws p
    · rw [hb] at hr
      have hr' : Hid (imgS ws fuel s = ([], 0, 4)) := by show _ = _; rw [hr.out]; rfl
      clear hb
      go_wp2
      refine bodyPost_ret (v := .tuple #[.slice none 0 0, .int .i64 0, .int .i64 4]) (by simp [results, Tryz.results33, go_sem]) rfl ?_
      exact shows_err hr'.out hwB
    · rw [hb] at hr
      have hsl : sealB h0 h1 = true := by have := HH.out; rw [hb] at this; have := this.symm; simp at this; exact this.1
      have q0 : 1 ≤ h0 ∧ h0 ≤ 40 := by unfold sealB inB at hsl; simp at hsl; exact hsl.1
      obtain ⟨m, rfl⟩ := Int.eq_ofNat_of_zero_le (show 0 ≤ h0 by omega)
      have hr' : Hid (imgS ws fuel s = ((ws.drop (p + 4)).take m, h1, 0)) := by show _ = _; rw [hr.out]; rfl
      have hl : Hid (((ws.drop (p + 4)).take m).length = m) := by show _ = _; have := HN.out; simp; omega
      have b4 := blk_below (hb4.block _ ltw ▸ b0.out) hbc
      have x4 : wB.cell? ⟨w.heap.size, 0, none⟩ = some (.slice (some ⟨b, off, none⟩) 192 c) := blk_cell b4 0 _ rfl
      have x5 : wB.cell? ⟨w.heap.size, 1, none⟩ = some (.int .i64 fuel) := blk_cell b4 1 _ rfl
      have HB := hide (unhide HBd wB (i4.below hbc) m (by omega))
      clear hb hsl HBd HL b4
      go_wp2_with fail
      refine (unhide HB).mono ?_
      rintro e w6 ⟨g, hg, rfl, ho, hb6⟩
      go_wp2
      refine bodyPost_ret (v := .tuple #[.slice (some ⟨g, 0, none⟩) m m, .int .i64 h1, .int .i64 0]) (by simp [results, Tryz.results33, go_sem]) rfl ?_
      refine ⟨⟨some ⟨g, 0, none⟩, m, m, by rw [hr'.out], by rw [hr'.out]; exact ho.isInts, by rw [hr'.out]; exact hl.out, Nat.le_refl _, FreshA.here (Nat.le_trans hwB.size hg) 0⟩, hwB.trans (hb6.mono hwB.size)⟩

end Go.Proofs.YtanpglfpopbfkabGreatDoor

namespace Go.Proofs.YtanpglfpopbfkabGreatDoor
open Go.Lib

/-- An int of 64 bits. -/
def I64 (n : Int) : Prop := -9223372036854775808 ≤ n ∧ n ≤ 9223372036854775807

/-! ### Numerals -/

theorem join_cons2 (x y : List UInt8) (r : List (List UInt8)) (sep : List UInt8) : join (x :: y :: r) sep = x ++ (sep ++ join (y :: r) sep) := by
  rw [join_cons, join_cons]
  simp [joinTail]

end Go.Proofs.YtanpglfpopbfkabGreatDoor

namespace Go.Proofs.YtanpglfpopbfkabGreatDoor
open Go.Lib

abbrev T3 := Int × Int × Int

def imgW : List UInt8 := [105, 109, 97, 103, 101, 32]

/-- Numbers, a blank between two. -/
def wr (l : List Int) : List UInt8 := join (l.map itoa) [32]
def imgT (w : List Int) : List UInt8 := imgW ++ wr w

def I3 (t : T3) : Prop := I64 t.1 ∧ I64 t.2.1 ∧ I64 t.2.2

theorem join_len (k m : Nat) : ∀ (xs : List (List UInt8)) (sep : List UInt8), sep.length ≤ m → (∀ x ∈ xs, x.length ≤ k) → (join xs sep).length ≤ xs.length * (k + m)
  | [], _, _, _ => by simp [join_nil]
  | [x], _, _, h => by rw [join_one]; have := h x (by simp); simp; omega
  | x :: y :: r, sep, hm, h => by
    rw [join_cons2]
    have := join_len k m (y :: r) sep hm (fun z hz => h z (by simp at hz ⊢; exact .inr hz))
    have := h x (by simp)
    simp only [List.length_append, List.length_cons] at *
    rw [Nat.add_mul (r.length + 1) 1]
    omega

theorem wr_len (k : Nat) (l : List Int) (h : ∀ x ∈ l, (itoa x).length ≤ k) : (wr l).length ≤ l.length * (k + 1) := by
  have := join_len k 1 (l.map itoa) [32] (by simp) (fun x hx => by obtain ⟨y, hy, rfl⟩ := List.mem_map.1 hx; exact h y hy)
  simpa [wr] using this

end Go.Proofs.YtanpglfpopbfkabGreatDoor
