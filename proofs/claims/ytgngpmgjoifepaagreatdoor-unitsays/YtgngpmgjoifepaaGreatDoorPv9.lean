/- The contract of slot.Seal. The contract of slot.Image. Plain facts for package meta: a numeral is read back ('numO'), texts of numbers, releases and images ('wr', 'relT', 'imgT', 'rootT'), a release is read ('readR') just from its own text, unlike ones have unlike texts. No program in this text. Plain texts of package meta: 'wr', 'rootT', 'relT', 'imgT'; 'readR' (the program's way of reading a release) and 'readQ' (the other way) read just what 'relT' writes; unlike ones have unlike texts. No program in this text. What package meta's checks say, as plain functions: 'rootE', 'relE', 'imgE', 'bookE', 'nameN'. No program in this text. Texts and targets in memory ('IsStrs', 'IsTgts'); rows of texts of one's own ('OwnStrs'); the contracts of slices.Index, slices.Contains at texts, and of meta.within. The contracts of meta.checkKeys, CheckRoot, rowOf, fits, CheckRelease, CheckImage, CheckBook. -/
import Derived.Test.YtgngpmgjoifepaaGreatDoorPv8
import Derived.Lib.AtoiTie
import Derived.Lib.AtoiAllCases
import Derived.Lib.SplitLaws
import Derived.Lib.Join
import Derived.Lib.ItoaLen
import Derived.Test.YtgngpmgjoifepaaGreatDoorPv0
import Derived.Lib.SlicesS
namespace Go.Proofs.YtgngpmgjoifepaaGreatDoor
open Go.RowKit
attribute [local go_sem ↓] Go.wp_at_zero Go.wp_at_succ

def sealS (ws : List Int) (fuel s long name : Int) : List Int × Int × Int :=
  if slotE ws fuel s ≠ 0 then ([], 0, slotE ws fuel s) else if sealB long name = false then ([], 0, 3) else progS ws fuel (64 + 64 * s) (headL long name)

theorem isInts_head {w : World} {b : Nat} {v0 v1 v2 v3 : Int} {t : TypeId} (h : w.heap[b]? = some (.cells #[.int .i64 v0, .int .i64 v1, .int .i64 v2, .int .i64 v3] t (0, 0))) : IsInts w (some ⟨b, 0, none⟩) [v0, v1, v2, v3] := by
  refine .inr ⟨b, 0, rfl, fun i hi => ?_⟩
  simp at hi
  rcases i with _ | _ | _ | _ | i
  { exact blk_cell h 0 _ rfl }
  { exact blk_cell h 1 _ rfl }
  { exact blk_cell h 2 _ rfl }
  { exact blk_cell h 3 _ rfl }
  {
  omega

  }
set_option maxRecDepth 100000 in
set_option maxHeartbeats 1000000 in
theorem seal_any (a : Option Addr) (n c : Nat) (ws : List Int) (fuel s long name : Int) (w : World)
    (h : IsInts w a ws) (hn : ws.length = n) (hm : n ≤ maxLen) :
    Calls Tryz.prog 115 #[.agg #[.slice a n c, .int .i64 fuel], .int .i64 s, .int .i64 long, .int .i64 name] w (Answers w (sealS ws fuel s long name)) := by
  have HC := hide (fun W (h : IsInts W a ws) => slotCheck_any a n c ws fuel s W h hn hm)
  have HN := hide hn
  clear hn
  have b0 := hide (blk_alloc (heap_alloc_last w (.cells #[.slice a n c, .int .i64 fuel] 27)) (.cells #[.slice none 0 0, .int .i64 0] 27))
  have b1 : Hid (((w.alloc (.cells #[.slice a n c, .int .i64 fuel] 27)).alloc (.cells #[.slice none 0 0, .int .i64 0] 27)).heap[w.heap.size + 1]? = some (.cells #[.slice none 0 0, .int .i64 0] 27 (0, 0))) := by
    show _ = _
    simpa using heap_alloc_last (w.alloc _) _
  have hw : Below w.heap.size w ((w.alloc (.cells #[.slice a n c, .int .i64 fuel] 27)).alloc (.cells #[.slice none 0 0, .int .i64 0] 27)) :=
    ((Below.refl _ _).alloc (Nat.le_refl _) _).alloc (by simp) _
  have i0 := h.below hw
  go_enter Tryz.func115, Tryz.ntmps115
  go_wp2_with fail
  generalize (w.alloc (.cells #[.slice a n c, .int .i64 fuel] 27)).alloc (.cells #[.slice none 0 0, .int .i64 0] 27) = W at *
  refine (unhide HC _ i0).mono ?_
  rintro e w1 ⟨rfl, hb1⟩
  replace b0 := hide (blk_below b0.out hb1)
  replace b1 := hide (blk_below b1.out hb1)
  replace i0 := i0.below hb1
  replace hw := hw.trans (hb1.mono hw.size)
  clear hb1
  have r0 := blk_cell b1.out 0 _ rfl
  have r1 := blk_cell b1.out 1 _ rfl
  have f0 := blk_free b1.out 0
  have f1 := blk_free b1.out 1
  have lt0 := blk_lt b0.out
  have lt1 := blk_lt b1.out
  by_cases e1 : slotE ws fuel s = 0
  rotate_left
  {
  have e1' : (slotE ws fuel s != 0) = true := by simpa using e1
  have hr : Hid (sealS ws fuel s long name = ([], 0, slotE ws fuel s)) := by show _ = _; unfold sealS; rw [if_pos e1]
  go_wp2
  refine bodyPost_ret (v := .tuple #[.agg #[.slice none 0 0, .int .i64 0], .int .i64 (slotE ws fuel s)]) (by simp [results, Tryz.results115, go_sem, r0, r1]) rfl ?_
  exact answers_err hr.out ((hw.setCell (by simp) _).setCell (by simp) _)
  }
  have e1' : (slotE ws fuel s != 0) = false := by simpa using e1
  have E1 := hide e1
  clear e1
  go_wp2_with fail
  refine (sealable_any long name _).mono ?_
  rintro e w2 ⟨rfl, rfl⟩
  cases e2 : sealB long name
  {
  have hr : Hid (sealS ws fuel s long name = ([], 0, 3)) := by show _ = _; unfold sealS; rw [if_neg (by simpa using E1.out), if_pos e2]
  clear e2
  go_wp2
  refine bodyPost_ret (v := .tuple #[.agg #[.slice none 0 0, .int .i64 0], .int .i64 3]) (by simp [results, Tryz.results115, go_sem, r0, r1]) rfl ?_
  exact answers_err hr.out ((hw.setCell (by simp) _).setCell (by simp) _)
  }
  have hr : Hid (sealS ws fuel s long name = progS ws fuel (64 + 64 * s) (headL long name)) := by show _ = _; unfold sealS; rw [if_neg (by simpa using E1.out), if_neg (by simp [e2])]
  clear e2
  obtain ⟨-, -, p0, p1⟩ := slotE_parts E1.out
  clear r0 r1 f0 f1
  go_wp2_with fail
  refine (slHeadOf_any long name _).mono ?_
  rintro e w3 ⟨rfl, hb3⟩
  have hb4 := hb3.alloc hb3.size (.cells #[.int .i64 long, .int .i64 name, .int .i64 (xorW long), .int .i64 (xorW name)] 180)
  have B2 := hide (heap_alloc_last w3 (.cells #[.int .i64 long, .int .i64 name, .int .i64 (xorW long), .int .i64 (xorW name)] 180))
  replace b0 := hide (blk_below b0.out hb4)
  replace b1 := hide (blk_below b1.out hb4)
  replace i0 := i0.below hb4
  replace hw := hw.trans (hb4.mono hw.size)
  have hge := hb3.size
  clear hb3 hb4
  go_upto_region 7 with fail
  generalize w3.alloc (.cells #[.int .i64 long, .int .i64 name, .int .i64 (xorW long), .int .i64 (xorW name)] 180) = w4 at *
  have x0 : w4.cell? ⟨w.heap.size, 0, none⟩ = some (.slice a n c) := blk_cell b0.out 0 _ rfl
  have x1 : w4.cell? ⟨w.heap.size, 1, none⟩ = some (.int .i64 fuel) := blk_cell b0.out 1 _ rfl
  replace lt0 := blk_lt b0.out
  replace lt1 := blk_lt b1.out
  have i2 := isInts_head B2.out
  have HP := hide (fun W' (hb : Below w4.heap.size w4 W') => program_any a n c ws fuel (64 + 64 * s) (some ⟨w3.heap.size, 0, none⟩) 4 4 (headL long name) W' (i0.below hb) HN.out hm (i2.below hb) rfl (by decide) (by omega))
  go_region_held3 (fun w' => w'.cell? ⟨w.heap.size, 0, none⟩ = some (.slice a n c) ∧ w'.cell? ⟨w.heap.size, 1, none⟩ = some (.int .i64 fuel)) (first | exact ⟨by assumption, by assumption⟩ | go_keep)
    ((first | (go_at_call 121; refine (headPlace_any s _ p0 p1).mono ?_; rintro e w5 ⟨rfl, rfl⟩) | (go_at_call 164; refine (unhide HP _ ?_).mono ?_; exact (Below.refl _ _).drew; rintro e w6 ⟨⟨a6, n6, c6, rfl, hi6, hn6, hc6, hf6⟩, hb6⟩; have hb7 : Below w4.heap.size w4 w6 := (Below.trans (Below.refl _ w4).drew hb6); have y0 : w6.cell? ⟨w.heap.size, 0, none⟩ = some (.slice a n c) := (by rw [hb7.cell lt0]; exact x0); have y1 : w6.cell? ⟨w.heap.size, 1, none⟩ = some (.int .i64 fuel) := (by rw [hb7.cell lt0]; exact x1); have q0 := blk_cell (blk_below b1.out hb7) 0 _ rfl; have q1 := blk_cell (blk_below b1.out hb7) 1 _ rfl; have q2 := blk_free (blk_below b1.out hb7) 0; have q3 := blk_free (blk_below b1.out hb7) 1)))
  go_wp2
  refine bodyPost_ret (v := .tuple #[.agg #[.slice a6 n6 c6, .int .i64 (progS ws fuel (64 + 64 * s) (headL long name)).2.1], .int .i64 (progS ws fuel (64 + 64 * s) (headL long name)).2.2]) (by simp [results, Tryz.results115, go_sem, q0, q1]) rfl ?_
  rw [hr.out]
  have hw7 := hw.trans (hb7.mono hw.size)
  refine ⟨⟨a6, n6, c6, rfl, ?_, hn6, hc6, FreshA.mono hf6 hw.size⟩, (hw7.setCell (by simp) _).setCell (by simp) _⟩
  exact (hi6.other (B := w4.heap.size) hf6 lt1 0 _).other (B := w4.heap.size) hf6 lt1 1 _

end Go.Proofs.YtgngpmgjoifepaaGreatDoor

namespace Go.Proofs.YtgngpmgjoifepaaGreatDoor
open Go.RowKit
attribute [local go_sem ↓] Go.wp_at_zero Go.wp_at_succ

def headB (ws : List Int) (p : Nat) : Bool :=
  sealB (ws.getD p 0) (ws.getD (p + 1) 0) && decide (ws.getD (p + 2) 0 = xorW (ws.getD p 0) ∧ ws.getD (p + 3) 0 = xorW (ws.getD (p + 1) 0))

def imgS (ws : List Int) (fuel s : Int) : List Int × Int × Int :=
  if slotE ws fuel s ≠ 0 then ([], 0, slotE ws fuel s) else if headB ws (64 + 64 * s).toNat = false then ([], 0, 4)
  else ((ws.drop (68 + 64 * s).toNat).take (ws.getD (64 + 64 * s).toNat 0).toNat, ws.getD ((64 + 64 * s).toNat + 1) 0, 0)

def Shows (w : World) (r : List Int × Int × Int) (e : Ending) (w' : World) : Prop :=
  (∃ a n c, e = .returned (.tuple #[.slice a n c, .int .i64 r.2.1, .int .i64 r.2.2]) ∧ IsInts w' a r.1 ∧ r.1.length = n ∧ n ≤ c ∧ FreshA w.heap.size a) ∧ Below w.heap.size w w'

theorem shows_err {w w' : World} {r : List Int × Int × Int} {err : Int} (hr : r = ([], 0, err)) (hb : Below w.heap.size w w') : Shows w r (.returned (.tuple #[.slice none 0 0, .int .i64 0, .int .i64 err])) w' := by
  subst hr
  exact ⟨⟨none, 0, 0, rfl, .inl rfl, rfl, Nat.le_refl _, FreshA.nil _⟩, hb⟩

theorem eqHead (a0 a1 a2 a3 b0 b1 b2 b3 : Int) (w : World) : (Op.equalIn 10000 180 (.agg #[.int .i64 a0, .int .i64 a1, .int .i64 a2, .int .i64 a3]) (.agg #[.int .i64 b0, .int .i64 b1, .int .i64 b2, .int .i64 b3])).run Tryz.prog w = .ok (decide (a0 = b0 ∧ a1 = b1 ∧ a2 = b2 ∧ a3 = b3)) w := by
  have u3 := Tryz.underlying3
  have a3' := Tryz.isAgg3
  have z3 := Tryz.sizeOf3
  rw [show (10000 : Nat) = 9999 + 1 from rfl, Op.equalIn]
  simp only [Sem.run_bind, run_underlying Tryz.underlying180, Result.andThen_ok]
  simp only [Std.Legacy.Range.forIn_eq_forIn_range', Std.Legacy.Range.size, Nat.sub_zero, Nat.add_sub_cancel, Nat.div_one, List.range'_succ, List.range'_zero, List.forIn_cons, List.forIn_nil]
  go_simp
  by_cases h1 : a0 = b0 <;> by_cases h2 : a1 = b1 <;> by_cases h3 : a2 = b2 <;> by_cases h4 : a3 = b3 <;> simp [h1, h2, h3, h4]

theorem take4 {ws : List Int} {p : Nat} (h : p + 4 ≤ ws.length) : (ws.drop p).take 4 = [ws.getD p 0, ws.getD (p + 1) 0, ws.getD (p + 2) 0, ws.getD (p + 3) 0] := by
  apply ext_getD
  { simp; omega }
  {
  intro i hi
  simp at hi
  rcases i with _ | _ | _ | _ | i
  { simp }
  { simp }
  { simp }
  { simp }
  {
  omega

  }
  }
attribute [local go_sem] eqHead

theorem IsInts.below4 {w1 w2 w4 : World} {a : Option Addr} {xs : List Int} (h : IsInts w1 a xs) (hb : Below w1.heap.size w1 w2) (hb4 : Below w1.heap.size w2 w4) : IsInts w4 a xs :=
  h.below (hb.trans hb4)

set_option maxRecDepth 100000 in
set_option maxHeartbeats 1000000 in
theorem image_any (a : Option Addr) (n c : Nat) (ws : List Int) (fuel s : Int) (w : World) (h : IsInts w a ws) (hn : ws.length = n) (hm : n ≤ maxLen) (hcap : n ≤ c) :
    Calls Tryz.prog 62 #[.agg #[.slice a n c, .int .i64 fuel], .int .i64 s] w (Shows w (imgS ws fuel s)) := by
  have HC := hide (fun W (h : IsInts W a ws) => slotCheck_any a n c ws fuel s W h hn hm)
  have HN := hide hn
  clear hn
  have b0 := hide (heap_alloc_last w (.cells #[.slice a n c, .int .i64 fuel] 27))
  have hw : Below w.heap.size w (w.alloc (.cells #[.slice a n c, .int .i64 fuel] 27)) := (Below.refl _ _).alloc (Nat.le_refl _) _
  have i0 := h.below hw
  go_enter Tryz.func62, Tryz.ntmps62
  go_wp2_with fail
  generalize w.alloc (.cells #[.slice a n c, .int .i64 fuel] 27) = W at *
  refine (unhide HC _ i0).mono ?_
  rintro e w1 ⟨rfl, hb1⟩
  replace b0 := hide (blk_below b0.out hb1)
  replace i0 := i0.below hb1
  replace hw := hw.trans (hb1.mono hw.size)
  clear hb1
  by_cases e1 : slotE ws fuel s = 0
  rotate_left
  {
  have e1' : (slotE ws fuel s != 0) = true := by simpa using e1
  have hr : Hid (imgS ws fuel s = ([], 0, slotE ws fuel s)) := by show _ = _; unfold imgS; rw [if_pos e1]
  go_wp2
  refine bodyPost_ret (v := .tuple #[.slice none 0 0, .int .i64 0, .int .i64 (slotE ws fuel s)]) (by simp [results, Tryz.results62, go_sem]) rfl ?_
  exact shows_err hr.out hw
  }
  have e1' : (slotE ws fuel s != 0) = false := by simpa using e1
  obtain ⟨-, pl, p0, p1⟩ := slotE_parts e1
  obtain rfl : n = 192 := by rw [← HN.out, pl]
  have E1 := hide e1
  obtain ⟨p, hp⟩ : ∃ p : Nat, (p : Int) = 64 + 64 * s := ⟨(64 + 64 * s).toNat, by omega⟩
  have hp1 : p ≤ 128 := by omega
  have hr : Hid (imgS ws fuel s = if headB ws p = false then ([], 0, 4) else ((ws.drop (p + 4)).take (ws.getD p 0).toNat, ws.getD (p + 1) 0, 0)) := by
    show _ = _
    unfold imgS
    rw [if_neg (by simpa using e1), ← hp, show 68 + 64 * s = ((p + 4 : Nat) : Int) by omega, Int.toNat_natCast, Int.toNat_natCast]
  have HP := hide (fun W => headPlace_any s W p0 p1)
  rw [← hp] at HP
  have HBd := hide (fun W (i : IsInts W a ws) (m : Nat) (hm : m ≤ 40) => body_any a c ws fuel s m (p + 4) W i HN.out hcap p0 p1 hm (by omega))
  have ht := take4 (ws := ws) (p := p) (by rw [pl]; omega)
  have HH := hide (show headB ws p = (sealB (ws.getD p 0) (ws.getD (p + 1) 0) && decide (ws.getD (p + 2) 0 = xorW (ws.getD p 0) ∧ ws.getD (p + 3) 0 = xorW (ws.getD (p + 1) 0))) from rfl)
  obtain ⟨b, off, rfl⟩ : ∃ b off, a = some ⟨b, off, none⟩ := by
    rcases h with rfl | ⟨b, off, rfl, _⟩
    { simp at pl }
    { exact ⟨b, off, rfl⟩ }
  have hx := (i0.drop p).take 4
  rw [ht] at hx
  have HL := hide (show ((ws.drop (p + 4)).take (ws.getD p 0).toNat).length = min (ws.getD p 0).toNat (192 - (p + 4)) by simp [pl])
  generalize ws.getD p 0 = h0 at *
  generalize ws.getD (p + 1) 0 = h1 at *
  generalize ws.getD (p + 2) 0 = h2 at *
  generalize ws.getD (p + 3) 0 = h3 at *
  clear e1 pl ht hp
  have ltw := blk_lt b0.out
  have b1 := hide (heap_alloc_last w1 (.cells #[.int .i64 0, .int .i64 0, .int .i64 0, .int .i64 0] 180))
  have hb1 : Below w1.heap.size w1 (w1.alloc (.cells #[.int .i64 0, .int .i64 0, .int .i64 0, .int .i64 0] 180)) := (Below.refl _ _).alloc (Nat.le_refl _) _
  replace b0 := hide (blk_below b0.out hb1)
  have hx1 := hx.below hb1
  go_upto_region 5 with fail
  generalize w1.alloc (.cells #[.int .i64 0, .int .i64 0, .int .i64 0, .int .i64 0] 180) = w2 at *
  have x0 : w2.cell? ⟨w.heap.size, 0, none⟩ = some (.slice (some ⟨b, off, none⟩) 192 c) := blk_cell b0.out 0 _ rfl
  have j3 : (p : Int) ≤ 192 := by omega
  have j4 : ¬ c = p := by omega
  have j5 : (192 : Int) ≤ (c : Int) := by omega
  go_region_held3 (fun w' => w'.cell? ⟨w.heap.size, 0, none⟩ = some (.slice (some ⟨b, off, none⟩) 192 c)) (first | assumption | go_keep)
    ((first | (go_at_call 121; refine (unhide HP _).mono ?_; rintro e w5 ⟨rfl, rfl⟩) | (refine step_copy_splice (by rfl) _ _ _ _ (by rfl) 3 Tryz.underlying25 size_int (some ⟨w1.heap.size, 0, none⟩) (some ⟨b, off + p, none⟩) 4 4 (192 - p) (c - p) (by rfl) (by rfl) w1.heap.size 0 (vals [0, 0, 0, 0]) 180 b1.out (vals [h0, h1, h2, h3]) ((Nat.min_eq_right (show 4 ≤ 192 - p by omega)).symm) (fun _ => ⟨rfl, _, rfl, fun j v hv => addr_cells hx1 j v hv⟩) (Nat.le_refl _) (vals_one _) w1.heap.size w2 ((Below.refl _ _).drew) (Nat.le_refl _) ?_; intro w4 hg4 hb4; have z0 : w4.cell? ⟨w.heap.size, 0, none⟩ = some (.slice (some ⟨b, off, none⟩) 192 c) := (by rw [hb4.cell ltw]; exact x0))))
  have hg5 : Hid (w4.heap[w1.heap.size]? = some (.cells #[.int .i64 h0, .int .i64 h1, .int .i64 h2, .int .i64 h3] 180 (0, 0))) := hg4.out
  have y0 := blk_cell hg5.out 0 _ rfl
  have y1 := blk_cell hg5.out 1 _ rfl
  have y2 := blk_cell hg5.out 2 _ rfl
  have y3 := blk_cell hg5.out 3 _ rfl
  have i4 : IsInts w4 (some ⟨b, off, none⟩) ws := i0.below4 hb1 hb4
  go_wp2_with fail
  go_quiet (fail)
  go_upto_region 7 with fail
  replace i4 : IsInts (w4.drewN nq) (some ⟨b, off, none⟩) ws := i4.drewN nq
  replace hb4 : Below w1.heap.size w2 (w4.drewN nq) := below_drewN hb4 nq
  replace hg5 : Hid ((w4.drewN nq).heap[w1.heap.size]? = some (.cells #[.int .i64 h0, .int .i64 h1, .int .i64 h2, .int .i64 h3] 180 (0, 0))) := hg5.out
  clear y0 y1 y2 y3 z0 hg4
  obtain ⟨w5, hw5⟩ : ∃ w5, w5 = w4.drewN nq := ⟨_, rfl⟩
  rw [← hw5] at i4 hb4 hg5 ⊢
  clear hw5
  have y0 := blk_cell hg5.out 0 _ rfl
  have y1 := blk_cell hg5.out 1 _ rfl
  have y2 := blk_cell hg5.out 2 _ rfl
  have y3 := blk_cell hg5.out 3 _ rfl
  have HS := hide (fun W => sealable_any h0 h1 W)
  go_cut [38] (fun v38 wc => v38 = .bool (!headB ws p) ∧ Below w5.heap.size w5 wc)
  case first =>
    cases hb : sealB h0 h1
    {
    rw [hb] at HS
    have hh : Hid (headB ws p = false) := by show _ = _; rw [HH.out, hb]; rfl
    clear hb
    go_quiet ((go_at_call 122; refine Calls.quiet_of_same (unhide HS _)))
    go_wp2_with fail
    go_meet
    case rel => exact ⟨congrArg Value.bool (by rw [hh.out]; rfl), below_drewN (Below.refl _ _) _⟩
    }
    {
    rw [hb] at HS
    have HB := hide hb
    clear hb
    go_region_with ((first | (go_at_call 122; refine (unhide HS _).mono ?_; rintro e wq ⟨rfl, rfl⟩) | (go_at_call 123; refine (slHeadOf_any h0 h1 _).mono ?_; rintro e w6 ⟨rfl, hb6⟩; have hb7 : Below w5.heap.size w5 w6 := Below.trans (Below.refl _ w5).drew hb6; have q0 := blk_cell (blk_below hg5.out hb7) 0 _ rfl; have q1 := blk_cell (blk_below hg5.out hb7) 1 _ rfl; have q2 := blk_cell (blk_below hg5.out hb7) 2 _ rfl; have q3 := blk_cell (blk_below hg5.out hb7) 3 _ rfl)))
    all_goals
      go_wp2_with fail
      go_meet
      case rel => exact ⟨congrArg Value.bool (by rw [HH.out, HB.out]; simp), hb7⟩
    }
  case rest =>
    obtain ⟨rfl, hbc⟩ := hcut
    obtain ⟨wB, rfl⟩ : ∃ wB : World, wB = wc := ⟨_, rfl⟩
    have hwB : Below w.heap.size w wB := hw.trans (((hb1.trans hb4).mono hw.size).trans (hbc.mono (Nat.le_trans hw.size (hb1.trans hb4).size)))
    cases hb : headB ws p
    {
    rw [hb] at hr
    have hr' : Hid (imgS ws fuel s = ([], 0, 4)) := by show _ = _; rw [hr.out]; rfl
    clear hb
    go_wp2
    refine bodyPost_ret (v := .tuple #[.slice none 0 0, .int .i64 0, .int .i64 4]) (by simp [results, Tryz.results62, go_sem]) rfl ?_
    exact shows_err hr'.out hwB
    }
    {
    rw [hb] at hr
    have hsl : sealB h0 h1 = true := by have := HH.out; rw [hb] at this; have := this.symm; simp at this; exact this.1
    have q0 : 1 ≤ h0 ∧ h0 ≤ 40 := by unfold sealB inB at hsl; simp at hsl; exact hsl.1
    obtain ⟨m, rfl⟩ := Int.eq_ofNat_of_zero_le (show 0 ≤ h0 by omega)
    have hr' : Hid (imgS ws fuel s = ((ws.drop (p + 4)).take m, h1, 0)) := by show _ = _; rw [hr.out]; rfl
    have hl : Hid (((ws.drop (p + 4)).take m).length = m) := by show _ = _; have := HN.out; simp; omega
    have b4 := blk_below (hb4.block _ ltw ▸ b0.out) hbc
    have x4 : wB.cell? ⟨w.heap.size, 0, none⟩ = some (.slice (some ⟨b, off, none⟩) 192 c) := blk_cell b4 0 _ rfl
    have x5 : wB.cell? ⟨w.heap.size, 1, none⟩ = some (.int .i64 fuel) := blk_cell b4 1 _ rfl
    have HB := hide (unhide HBd wB (i4.below hbc) m (by omega))
    clear hb hsl HBd HL b4
    go_wp2_with fail
    refine (unhide HB).mono ?_
    rintro e w6 ⟨g, hg, rfl, ho, hb6⟩
    go_wp2
    refine bodyPost_ret (v := .tuple #[.slice (some ⟨g, 0, none⟩) m m, .int .i64 h1, .int .i64 0]) (by simp [results, Tryz.results62, go_sem]) rfl ?_
    refine ⟨⟨some ⟨g, 0, none⟩, m, m, by rw [hr'.out], by rw [hr'.out]; exact ho.isInts, by rw [hr'.out]; exact hl.out, Nat.le_refl _, FreshA.here (Nat.le_trans hwB.size hg) 0⟩, hwB.trans (hb6.mono hwB.size)⟩

    }
end Go.Proofs.YtgngpmgjoifepaaGreatDoor

namespace Go.Proofs.YtgngpmgjoifepaaGreatDoor
open Go.Lib

def I64 (n : Int) : Prop := -9223372036854775808 ≤ n ∧ n ≤ 9223372036854775807

/-! ### Numerals -/

theorem join_cons2 (x y : List UInt8) (r : List (List UInt8)) (sep : List UInt8) : join (x :: y :: r) sep = x ++ (sep ++ join (y :: r) sep) := by
  rw [join_cons, join_cons]
  simp [joinTail]

end Go.Proofs.YtgngpmgjoifepaaGreatDoor

namespace Go.Proofs.YtgngpmgjoifepaaGreatDoor
open Go.Lib

abbrev T3 := Int × Int × Int

def rootW : List UInt8 := [114, 111, 111, 116, 32]
def ofW : List UInt8 := [32, 111, 102, 32]
def imgW : List UInt8 := [105, 109, 97, 103, 101, 32]

def wr (l : List Int) : List UInt8 := join (l.map itoa) [32]
def rootT (v : Int) (ks : List Int) (n : Int) : List UInt8 := rootW ++ wr [v, n] ++ ofW ++ wr ks
def imgT (w : List Int) : List UInt8 := imgW ++ wr w

def I3 (t : T3) : Prop := I64 t.1 ∧ I64 t.2.1 ∧ I64 t.2.2

theorem join_len (k m : Nat) : ∀ (xs : List (List UInt8)) (sep : List UInt8), sep.length ≤ m → (∀ x ∈ xs, x.length ≤ k) → (join xs sep).length ≤ xs.length * (k + m)
  | [], _, _, _ => by simp [join_nil]
  | [x], _, _, h => by rw [join_one]; have := h x (by simp); simp; omega
  | x :: y :: r, sep, hm, h => by
    rw [join_cons2]
    have := join_len k m (y :: r) sep hm (fun z hz => h z (by simp at hz ⊢; exact .inr hz))
    have := h x (by simp)
    simp only [List.length_append, List.length_cons] at *
    rw [Nat.add_mul (r.length + 1) 1]
    omega

theorem wr_len (k : Nat) (l : List Int) (h : ∀ x ∈ l, (itoa x).length ≤ k) : (wr l).length ≤ l.length * (k + 1) := by
  have := join_len k 1 (l.map itoa) [32] (by simp) (fun x hx => by obtain ⟨y, hy, rfl⟩ := List.mem_map.1 hx; exact h y hy)
  simpa [wr] using this

end Go.Proofs.YtgngpmgjoifepaaGreatDoor

namespace Go.Proofs.YtgngpmgjoifepaaGreatDoor
open Go.Lib

def inR (n a b : Int) : Bool := decide (a ≤ n ∧ n ≤ b)
theorem inR_t {n a b : Int} (h0 : a ≤ n) (h1 : n ≤ b) : inR n a b = true := by unfold inR; simp; omega
theorem inR_lo {n a b : Int} (h0 : ¬ a ≤ n) : inR n a b = false := by unfold inR; simp; omega
theorem inR_hi {n a b : Int} (h0 : ¬ n ≤ b) : inR n a b = false := by unfold inR; simp; omega
theorem inR_iff {n a b : Int} : inR n a b = true ↔ a ≤ n ∧ n ≤ b := by unfold inR; simp

def keysE (ahead : Int) : List Int → Int
  | [] => 0
  | k :: r => if inR k 1 50 then (if k ≤ ahead then 6 else keysE k r) else 3

def rootE (v : Int) (ks : List Int) (n : Int) : Int :=
  if inR v 1 1000 then (if inR ks.length 1 6 then (if keysE 0 ks = 0 then (if inR n 1 ks.length then 0 else 4) else keysE 0 ks) else 2) else 3

def wordB (n : Int) : Bool := decide (0 ≤ n ∧ n ≤ 65535)
def imgE (w : List Int) : Int := if inR w.length 1 40 then (if w.all wordB then 0 else 3) else 2

def nameN (ss : List ByteArray) (s : ByteArray) : Nat := match ss with
  | [] => 0
  | t :: r => if t = s then 1 else if nameN r s = 0 then 0 else nameN r s + 1

def booksE (seen : List ByteArray) : List ByteArray → Int
  | [] => 0
  | s :: r => if 2000 < s.size then 2 else if nameN seen s = 0 then booksE (seen ++ [s]) r else 6
def bookE (ss : List ByteArray) : Int := if 60 < ss.length then 2 else booksE [] ss

/-! ### What they give -/

theorem imgE_ok {w : List Int} (h : imgE w = 0) : (1 ≤ w.length ∧ w.length ≤ 40) ∧ ∀ x ∈ w, 0 ≤ x ∧ x ≤ 65535 := by
  unfold imgE at h
  split at h
  {
  rename_i h1
  split at h
  {
  rename_i h2
  rw [inR_iff] at h1
  refine ⟨by omega, fun x hx => ?_⟩
  have := List.all_eq_true.1 h2 x hx
  simpa [wordB] using this
  }
  { cases h }
  }
  {
  cases h

  }
/-! ### A release's text is short -/

theorem nameN_zero {ss : List ByteArray} {s : ByteArray} : nameN ss s = 0 ↔ s ∉ ss := by
  induction ss with
  | nil => simp [nameN]
  | cons t r ih =>
    unfold nameN
    by_cases h : t = s
    { simp [h] }
    {
    rw [if_neg h]
    by_cases h0 : nameN r s = 0
    {
    rw [if_pos h0]
    simp only [List.mem_cons, not_or, true_iff]
    exact ⟨fun e => h e.symm, ih.1 h0⟩
    }
    {
    rw [if_neg h0]
    have : s ∈ r := Classical.byContradiction fun hn => h0 (ih.2 hn)
    simp [this]

    }
    }
theorem nameN_le (ss : List ByteArray) (s : ByteArray) : nameN ss s ≤ ss.length := by
  induction ss with
  | nil => simp [nameN]
  | cons t r ih =>
    unfold nameN
    split
    { simp }
    {
    split
    { simp }
    {
    simp; omega

    }
    }
theorem nameN_drop {ss : List ByteArray} {s : ByteArray} : ∀ {k : Nat}, s ∉ ss.take k → nameN ss s = if nameN (ss.drop k) s = 0 then 0 else nameN (ss.drop k) s + k := by
  induction ss with
  | nil => intro k _; simp [nameN]
  | cons t r ih =>
    intro k hk
    cases k with
    | zero => simp
    | succ k =>
      simp only [List.take_succ_cons, List.mem_cons, not_or] at hk
      simp only [List.drop_succ_cons]
      rw [nameN, if_neg (fun e => hk.1 e.symm), ih hk.2]
      split
      { simp }
      {
      rename_i h
      rw [if_neg (by omega)]
      omega

      }
theorem nameN_hit {ss : List ByteArray} {s : ByteArray} {k : Nat} (h : s ∉ ss.take k) (hk : ss[k]? = some s) : nameN ss s = k + 1 := by
  rw [nameN_drop h]
  have : ss.drop k = s :: ss.drop (k + 1) := by
    obtain ⟨hl, e⟩ := List.getElem?_eq_some_iff.1 hk
    rw [List.drop_eq_getElem_cons hl, e]
  rw [this]
  simp [nameN]
  omega

end Go.Proofs.YtgngpmgjoifepaaGreatDoor

namespace Go.Proofs.YtgngpmgjoifepaaGreatDoor
open Go.RowKit

/-! ### Texts -/

def IsStrs (w : World) (a : Option Addr) (ss : List ByteArray) : Prop :=
  ss = [] ∨ ∃ b off, a = some ⟨b, off, none⟩ ∧ ∀ i, i < ss.length → w.cell? ⟨b, off + i, none⟩ = some (.string (ss.getD i ByteArray.empty))

theorem IsStrs.below {w w' : World} {a : Option Addr} {ss : List ByteArray} (h : IsStrs w a ss) (hb : Below w.heap.size w w') : IsStrs w' a ss := by
  rcases h with h | ⟨b, off, rfl, hc⟩
  { exact .inl h }
  {
  exact .inr ⟨b, off, rfl, fun i hi => by rw [hb.cell (cell_lt (hc i hi))]; exact hc i hi⟩

  }
theorem IsStrs.alloc {w : World} {a : Option Addr} {ss : List ByteArray} (h : IsStrs w a ss) (o : Obj) : IsStrs (w.alloc o) a ss :=
  h.below ((Below.refl _ _).alloc (Nat.le_refl _) _)

theorem IsStrs.take {w : World} {a : Option Addr} {ss : List ByteArray} (h : IsStrs w a ss) (k : Nat) : IsStrs w a (ss.take k) := by
  rcases h with rfl | ⟨b, off, rfl, hc⟩
  { exact .inl (by simp) }
  {
  refine .inr ⟨b, off, rfl, fun i hi => ?_⟩
  simp at hi
  rw [hc i (by omega)]
  simp [show i < k by omega]

  }
def svals (ss : List ByteArray) : List Value := ss.map Value.string

def OwnStrs (w : World) (g : Nat) (ss : List ByteArray) : Prop := w.heap[g]? = some (.cells (svals ss).toArray 9 (0, 0))

theorem OwnStrs.cell {w : World} {g : Nat} {ss : List ByteArray} (h : OwnStrs w g ss) (i : Nat) (hi : i < ss.length) : w.cell? ⟨g, i, none⟩ = some (.string (ss.getD i ByteArray.empty)) := by
  unfold OwnStrs at h
  simp [World.cell?, h, svals, hi]
theorem OwnStrs.free {w : World} {g : Nat} {ss : List ByteArray} (h : OwnStrs w g ss) (i : Nat) : w.frozen? ⟨g, i, none⟩ = false := by
  unfold OwnStrs at h
  simp [World.frozen?, h]
theorem OwnStrs.isStrs {w : World} {g : Nat} {ss : List ByteArray} (h : OwnStrs w g ss) : IsStrs w (some ⟨g, 0, none⟩) ss :=
  .inr ⟨g, 0, rfl, fun i hi => by rw [Nat.zero_add]; exact h.cell i hi⟩
theorem OwnStrs.lt {w : World} {g : Nat} {ss : List ByteArray} (h : OwnStrs w g ss) : g < w.heap.size := (Array.getElem?_eq_some_iff.1 h).1
theorem OwnStrs.below {B : Nat} {w w' : World} {g : Nat} {ss : List ByteArray} (h : OwnStrs w g ss) (hb : Below B w w') (hg : g < B) : OwnStrs w' g ss := by
  unfold OwnStrs; rw [hb.block g hg]; exact h
theorem OwnStrs.set {w : World} {g : Nat} {ss : List ByteArray} (h : OwnStrs w g ss) (i : Nat) (s : ByteArray) : OwnStrs (w.setCell ⟨g, i, none⟩ (.string s)) g (ss.set i s) := by
  unfold OwnStrs at h ⊢
  simp only [World.setCell, Array.getElem?_modify]
  simp [h, svals]

set_option maxRecDepth 100000 in
theorem info_str : (Tryz.prog.info? 9).map (fun i => (i.zero, i.size, i.bytes)) = some (some (.string ByteArray.empty), 1, 16) := by kernel_rfl

theorem made_svals (n : Nat) : madeCells (Value.string ByteArray.empty).cells n = (svals (List.replicate n ByteArray.empty)).toArray := by
  apply Array.toList_inj.1
  show (madeCells #[Value.string ByteArray.empty] n).toList = _
  rw [toList_madeCells_one]
  simp [svals]

set_option maxRecDepth 100000 in
theorem make_strs (n : Nat) (w : World) (h : n * 16 ≤ 281474976710656) :
    (Instr.makeSlice 22 (.int .i64 n) (.int .i64 n)).run Tryz.prog w = .ok (.slice (some ⟨w.heap.size, 0, none⟩) n n) (w.alloc (.cells (svals (List.replicate n ByteArray.empty)).toArray 9)) := by
  obtain ⟨i0, hi, hz0, hz1, hz2⟩ := info_parts info_str
  have := run_make (P := Tryz.prog) w 22 9 i0 (.string ByteArray.empty) Tryz.underlying22 hi hz0 .i64 .i64 n n (by omega) (by omega) (by rw [hz2]; omega) (by omega)
  rw [hz1, Int.toNat_natCast, Nat.mul_one, made_svals] at this
  exact this

/-! ### Targets -/

set_option maxHeartbeats 400000 in
set_option maxRecDepth 100000 in
theorem within_any (n a b : Int) (w : World) : Calls Tryz.prog 107 #[.int .i64 n, .int .i64 a, .int .i64 b] w fun e w' => e = .returned (.bool (inR n a b)) ∧ w' = w := by
  by_cases h0 : a ≤ n
  {
  by_cases h1 : n ≤ b
  {
  have hd : decide (n ≤ b) = true := by simp; omega
  go_enter Tryz.func107, Tryz.ntmps107
  go_wp2
  go_ret
  exact ⟨ret_bool (inR_t h0 h1).symm, rfl⟩
  }
  {
  have hd : decide (n ≤ b) = false := by simp; omega
  go_enter Tryz.func107, Tryz.ntmps107
  go_wp2
  go_ret
  exact ⟨ret_bool (inR_hi (by omega)).symm, rfl⟩
  }
  }
  {
  go_enter Tryz.func107, Tryz.ntmps107
  go_wp2
  go_ret
  exact ⟨ret_bool (inR_lo (by omega)).symm, rfl⟩

  }
theorem not_take_step {ss : List ByteArray} {s : ByteArray} {k : Nat} (hk : k < ss.length) (h : s ∉ ss.take k) (hne : ¬ s = ss[k]) : s ∉ ss.take (k + 1) := by
  rw [List.take_succ_eq_append_getElem hk]
  simp only [List.mem_append, List.mem_singleton, not_or]
  exact ⟨h, hne⟩

set_option maxHeartbeats 400000 in
set_option maxRecDepth 100000 in
theorem index_strs (a : Option Addr) (n c : Nat) (ss : List ByteArray) (s : ByteArray) (w : World) (h : IsStrs w a ss) (hn : ss.length = n) (hm : n ≤ maxLen) :
    Calls Tryz.prog 71 #[.slice a n c, .string s] w fun e w' => e = .returned (.int .i64 ((nameN ss s : Int) - 1)) ∧ w' = w := by
  unfold maxLen at hm
  have HN : Hid (ss.length = n) := hn
  go_enter Tryz.func71, Tryz.ntmps71
  go_wp2
  go_loop [8] (fun i => ∃ k : Nat, k ≤ n ∧ i = .int .i64 k ∧ Hid (s ∉ ss.take k)) (fun i => n - (intOf i).toNat)
  case atStart => exact ⟨0, Nat.zero_le _, rfl, by show _ ∉ _; simp⟩
  case round =>
    obtain ⟨k, hk, rfl, ht⟩ := hrel
    by_cases hlt : k < n
    {
    rcases h with rfl | ⟨b0, o0, rfl, hc0⟩
    { simp at hn; omega }
    have hkx : k < ss.length := by omega
    have e0 := hc0 k hkx
    rw [show ss.getD k ByteArray.empty = ss[k] by simp [hkx]] at e0
    clear hn hc0
    by_cases he : s = ss[k]
    {
    have hb : (s.toList == ss[k].toList) = true := (Lib.bytes_beq_iff _ _).2 he
    have HE := hide he
    clear he
    go_wp2
    go_ret
    refine ⟨?_, rfl⟩
    rw [nameN_hit ht.out (by rw [List.getElem?_eq_getElem hkx, ← HE.out]), show (((k + 1 : Nat) : Int) - 1) = (k : Int) by omega]
    rfl
    }
    {
    have hb : (s.toList == ss[k].toList) = false := (Lib.bytes_beq_false_iff _ _).2 he
    have HE := hide he
    clear he
    go_wp2
    go_round
    case rel => exact ⟨k + 1, by omega, by go_num, not_take_step hkx ht.out HE.out⟩
    case measure => simp [intOf]; omega
    }
    }
    {
    go_wp2
    go_ret
    have hx := ht.out
    rw [List.take_of_length_le (by omega)] at hx
    rw [nameN_zero.2 hx]
    exact ⟨rfl, rfl⟩

    }
def hasB (ss : List ByteArray) (s : ByteArray) : Bool := decide (nameN ss s ≠ 0)

set_option maxHeartbeats 400000 in
set_option maxRecDepth 100000 in
theorem contains_strs (a : Option Addr) (n c : Nat) (ss : List ByteArray) (s : ByteArray) (w : World) (h : IsStrs w a ss) (hn : ss.length = n) (hm : n ≤ maxLen) :
    Calls Tryz.prog 153 #[.slice a n c, .string s] w fun e w' => e = .returned (.bool (hasB ss s)) ∧ w' = w := by
  have hc := hide (index_strs a n c ss s w h hn hm)
  have hd : decide (0 ≤ ((nameN ss s : Int) - 1)) = hasB ss s := by
    unfold hasB
    rw [decide_eq_decide]
    omega
  generalize hq : ((nameN ss s : Int) - 1) = q at hc hd
  clear hn hq
  go_enter Tryz.func153, Tryz.ntmps153
  go_wp2_with fail
  refine (unhide hc).mono ?_
  rintro e w' ⟨rfl, rfl⟩
  go_wp2
  go_ret
  exact ⟨rfl, rfl⟩

end Go.Proofs.YtgngpmgjoifepaaGreatDoor

namespace Go.Proofs.YtgngpmgjoifepaaGreatDoor
open Go.RowKit

theorem ret_int {a b : Int} (h : a = b) : Ending.returned (.int .i64 a) = .returned (.int .i64 b) := by rw [h]

end Go.Proofs.YtgngpmgjoifepaaGreatDoor
