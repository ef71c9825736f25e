/- The contract of slot.Image. -/
import Derived.Test.YtanpglfpopbfkaaBody
import Derived.Test.YtanpglfpopbfkaaSeal
namespace Go.Proofs.Ytanpglfpopbfkaa
open Go.RowKit
attribute [local go_sem ↓] Go.wp_at_zero Go.wp_at_succ

/-- Is what stands from place p on a head? -/
def headB (ws : List Int) (p : Nat) : Bool :=
  sealB (ws.getD p 0) (ws.getD (p + 1) 0) && decide (ws.getD (p + 2) 0 = xorW (ws.getD p 0) ∧ ws.getD (p + 3) 0 = xorW (ws.getD (p + 1) 0))

/-- The document's Image: the words, the name, the error. -/
def imgS (ws : List Int) (fuel s : Int) : List Int × Int × Int :=
  if slotE ws fuel s ≠ 0 then ([], 0, slotE ws fuel s) else if headB ws (64 + 64 * s).toNat = false then ([], 0, 4)
  else ((ws.drop (68 + 64 * s).toNat).take (ws.getD (64 + 64 * s).toNat 0).toNat, ws.getD ((64 + 64 * s).toNat + 1) 0, 0)

/-- What a call that answers words, a number and an error hands back. -/
def Shows (w : World) (r : List Int × Int × Int) (e : Ending) (w' : World) : Prop :=
  (∃ a n c, e = .returned (.tuple #[.slice a n c, .int .i64 r.2.1, .int .i64 r.2.2]) ∧ IsInts w' a r.1 ∧ r.1.length = n ∧ n ≤ c ∧ FreshA w.heap.size a) ∧ Below w.heap.size w w'

theorem shows_err {w w' : World} {r : List Int × Int × Int} {err : Int} (hr : r = ([], 0, err)) (hb : Below w.heap.size w w') : Shows w r (.returned (.tuple #[.slice none 0 0, .int .i64 0, .int .i64 err])) w' := by
  subst hr
  exact ⟨⟨none, 0, 0, rfl, .inl rfl, rfl, Nat.le_refl _, FreshA.nil _⟩, hb⟩

/-- '==' of two heads. -/
theorem eqHead (a0 a1 a2 a3 b0 b1 b2 b3 : Int) (w : World) : (Op.equalIn 10000 99 (.agg #[.int .i64 a0, .int .i64 a1, .int .i64 a2, .int .i64 a3]) (.agg #[.int .i64 b0, .int .i64 b1, .int .i64 b2, .int .i64 b3])).run Try.prog w = .ok (decide (a0 = b0 ∧ a1 = b1 ∧ a2 = b2 ∧ a3 = b3)) w := by
  have u3 := Try.underlying3
  have a3' := Try.isAgg3
  have z3 := Try.sizeOf3
  rw [show (10000 : Nat) = 9999 + 1 from rfl, Op.equalIn]
  simp only [Sem.run_bind, run_underlying Try.underlying99, Result.andThen_ok]
  simp only [Std.Legacy.Range.forIn_eq_forIn_range', Std.Legacy.Range.size, Nat.sub_zero, Nat.add_sub_cancel, Nat.div_one, List.range'_succ, List.range'_zero, List.forIn_cons, List.forIn_nil]
  go_simp
  by_cases h1 : a0 = b0 <;> by_cases h2 : a1 = b1 <;> by_cases h3 : a2 = b2 <;> by_cases h4 : a3 = b3 <;> simp [h1, h2, h3, h4]

theorem take4 {ws : List Int} {p : Nat} (h : p + 4 ≤ ws.length) : (ws.drop p).take 4 = [ws.getD p 0, ws.getD (p + 1) 0, ws.getD (p + 2) 0, ws.getD (p + 3) 0] := by
  apply ext_getD
  · simp; omega
  · intro i hi
    simp at hi
    rcases i with _ | _ | _ | _ | i
    · simp
    · simp
    · simp
    · simp
    · omega

attribute [local go_sem] eqHead

theorem IsInts.below4 {w1 w2 w4 : World} {a : Option Addr} {xs : List Int} (h : IsInts w1 a xs) (hb : Below w1.heap.size w1 w2) (hb4 : Below w1.heap.size w2 w4) : IsInts w4 a xs :=
  h.below (hb.trans hb4)

set_option maxRecDepth 100000 in
set_option maxHeartbeats 1000000 in
theorem image_any (a : Option Addr) (n c : Nat) (ws : List Int) (fuel s : Int) (w : World) (h : IsInts w a ws) (hn : ws.length = n) (hm : n ≤ maxLen) (hcap : n ≤ c) :
    Calls Try.prog 46 #[.agg #[.slice a n c, .int .i64 fuel], .int .i64 s] w (Shows w (imgS ws fuel s)) := by
  have HC := hide (fun W (h : IsInts W a ws) => slotCheck_any a n c ws fuel s W h hn hm)
  have HN := hide hn
  clear hn
  have b0 := hide (heap_alloc_last w (.cells #[.slice a n c, .int .i64 fuel] 28))
  have hw : Below w.heap.size w (w.alloc (.cells #[.slice a n c, .int .i64 fuel] 28)) := (Below.refl _ _).alloc (Nat.le_refl _) _
  have i0 := h.below hw
  go_enter Try.func46, Try.ntmps46
  go_wp2_with fail
  generalize w.alloc (.cells #[.slice a n c, .int .i64 fuel] 28) = W at *
  refine (unhide HC _ i0).mono ?_
  rintro e w1 ⟨rfl, hb1⟩
  replace b0 := hide (blk_below b0.out hb1)
  replace i0 := i0.below hb1
  replace hw := hw.trans (hb1.mono hw.size)
  clear hb1
  by_cases e1 : slotE ws fuel s = 0
  rotate_left
  · have e1' : (slotE ws fuel s != 0) = true := by simpa using e1
    have hr : Hid (imgS ws fuel s = ([], 0, slotE ws fuel s)) := by show _ = _; unfold imgS; rw [if_pos e1]
    go_wp2
    refine bodyPost_ret (v := .tuple #[.slice none 0 0, .int .i64 0, .int .i64 (slotE ws fuel s)]) (by simp [results, Try.results46, go_sem]) rfl ?_
    exact shows_err hr.out hw
  have e1' : (slotE ws fuel s != 0) = false := by simpa using e1
  obtain ⟨-, pl, p0, p1⟩ := slotE_parts e1
  obtain rfl : n = 192 := by rw [← HN.out, pl]
  have E1 := hide e1
  obtain ⟨p, hp⟩ : ∃ p : Nat, (p : Int) = 64 + 64 * s := ⟨(64 + 64 * s).toNat, by omega⟩
  have hp1 : p ≤ 128 := by omega
  have hr : Hid (imgS ws fuel s = if headB ws p = false then ([], 0, 4) else ((ws.drop (p + 4)).take (ws.getD p 0).toNat, ws.getD (p + 1) 0, 0)) := by
    show _ = _
    unfold imgS
    rw [if_neg (by simpa using e1), ← hp, show 68 + 64 * s = ((p + 4 : Nat) : Int) by omega, Int.toNat_natCast, Int.toNat_natCast]
  have HP := hide (fun W => headPlace_any s W p0 p1)
  rw [← hp] at HP
  have HBd := hide (fun W (i : IsInts W a ws) (m : Nat) (hm : m ≤ 40) => body_any a c ws fuel s m (p + 4) W i HN.out hcap p0 p1 hm (by omega))
  have ht := take4 (ws := ws) (p := p) (by rw [pl]; omega)
  have HH := hide (show headB ws p = (sealB (ws.getD p 0) (ws.getD (p + 1) 0) && decide (ws.getD (p + 2) 0 = xorW (ws.getD p 0) ∧ ws.getD (p + 3) 0 = xorW (ws.getD (p + 1) 0))) from rfl)
  obtain ⟨b, off, rfl⟩ : ∃ b off, a = some ⟨b, off, none⟩ := by
    rcases h with rfl | ⟨b, off, rfl, _⟩
    · simp at pl
    · exact ⟨b, off, rfl⟩
  have hx := (i0.drop p).take 4
  rw [ht] at hx
  have HL := hide (show ((ws.drop (p + 4)).take (ws.getD p 0).toNat).length = min (ws.getD p 0).toNat (192 - (p + 4)) by simp [pl])
  generalize ws.getD p 0 = h0 at *
  generalize ws.getD (p + 1) 0 = h1 at *
  generalize ws.getD (p + 2) 0 = h2 at *
  generalize ws.getD (p + 3) 0 = h3 at *
  clear e1 pl ht hp
  have ltw := blk_lt b0.out
  have b1 := hide (heap_alloc_last w1 (.cells #[.int .i64 0, .int .i64 0, .int .i64 0, .int .i64 0] 99))
  have hb1 : Below w1.heap.size w1 (w1.alloc (.cells #[.int .i64 0, .int .i64 0, .int .i64 0, .int .i64 0] 99)) := (Below.refl _ _).alloc (Nat.le_refl _) _
  replace b0 := hide (blk_below b0.out hb1)
  have hx1 := hx.below hb1
  go_upto_region 5 with fail
  generalize w1.alloc (.cells #[.int .i64 0, .int .i64 0, .int .i64 0, .int .i64 0] 99) = w2 at *
  have x0 : w2.cell? ⟨w.heap.size, 0, none⟩ = some (.slice (some ⟨b, off, none⟩) 192 c) := blk_cell b0.out 0 _ rfl
  have j3 : (p : Int) ≤ 192 := by omega
  have j4 : ¬ c = p := by omega
  have j5 : (192 : Int) ≤ (c : Int) := by omega
  go_region_held3 (fun w' => w'.cell? ⟨w.heap.size, 0, none⟩ = some (.slice (some ⟨b, off, none⟩) 192 c)) (first | assumption | go_keep)
    ((first | (go_at_call 86; refine (unhide HP _).mono ?_; rintro e w5 ⟨rfl, rfl⟩) | (refine step_copy_splice (by rfl) _ _ _ _ (by rfl) 3 Try.underlying24 size_int (some ⟨w1.heap.size, 0, none⟩) (some ⟨b, off + p, none⟩) 4 4 (192 - p) (c - p) (by rfl) (by rfl) w1.heap.size 0 (vals [0, 0, 0, 0]) 99 b1.out (vals [h0, h1, h2, h3]) ((Nat.min_eq_right (show 4 ≤ 192 - p by omega)).symm) (fun _ => ⟨rfl, _, rfl, fun j v hv => addr_cells hx1 j v hv⟩) (Nat.le_refl _) (vals_one _) w1.heap.size w2 ((Below.refl _ _).drew) (Nat.le_refl _) ?_; intro w4 hg4 hb4; have z0 : w4.cell? ⟨w.heap.size, 0, none⟩ = some (.slice (some ⟨b, off, none⟩) 192 c) := (by rw [hb4.cell ltw]; exact x0))))
  have hg5 : Hid (w4.heap[w1.heap.size]? = some (.cells #[.int .i64 h0, .int .i64 h1, .int .i64 h2, .int .i64 h3] 99 (0, 0))) := hg4.out
  have y0 := blk_cell hg5.out 0 _ rfl
  have y1 := blk_cell hg5.out 1 _ rfl
  have y2 := blk_cell hg5.out 2 _ rfl
  have y3 := blk_cell hg5.out 3 _ rfl
  have i4 : IsInts w4 (some ⟨b, off, none⟩) ws := i0.below4 hb1 hb4
  go_wp2_with fail
  go_quiet (fail)
  go_upto_region 7 with fail
  replace i4 : IsInts (w4.drewN nq) (some ⟨b, off, none⟩) ws := i4.drewN nq
  replace hb4 : Below w1.heap.size w2 (w4.drewN nq) := below_drewN hb4 nq
  replace hg5 : Hid ((w4.drewN nq).heap[w1.heap.size]? = some (.cells #[.int .i64 h0, .int .i64 h1, .int .i64 h2, .int .i64 h3] 99 (0, 0))) := hg5.out
  clear y0 y1 y2 y3 z0 hg4
  obtain ⟨w5, hw5⟩ : ∃ w5, w5 = w4.drewN nq := ⟨_, rfl⟩
  rw [← hw5] at i4 hb4 hg5 ⊢
  clear hw5
  have y0 := blk_cell hg5.out 0 _ rfl
  have y1 := blk_cell hg5.out 1 _ rfl
  have y2 := blk_cell hg5.out 2 _ rfl
  have y3 := blk_cell hg5.out 3 _ rfl
  have HS := hide (fun W => sealable_any h0 h1 W)
  go_cut [38] (fun v38 wc => v38 = .bool (!headB ws p) ∧ Below w5.heap.size w5 wc)
  case first =>
    cases hb : sealB h0 h1
    · rw [hb] at HS
      have hh : Hid (headB ws p = false) := by show _ = _; rw [HH.out, hb]; rfl
      clear hb
      go_quiet ((go_at_call 84; refine Calls.quiet_of_same (unhide HS _)))
      go_wp2_with fail
      go_meet
      case rel => exact ⟨congrArg Value.bool (by rw [hh.out]; rfl), below_drewN (Below.refl _ _) _⟩
    · rw [hb] at HS
      have HB := hide hb
      clear hb
      go_region_with ((first | (go_at_call 84; refine (unhide HS _).mono ?_; rintro e wq ⟨rfl, rfl⟩) | (go_at_call 85; refine (slHeadOf_any h0 h1 _).mono ?_; rintro e w6 ⟨rfl, hb6⟩; have hb7 : Below w5.heap.size w5 w6 := Below.trans (Below.refl _ w5).drew hb6; have q0 := blk_cell (blk_below hg5.out hb7) 0 _ rfl; have q1 := blk_cell (blk_below hg5.out hb7) 1 _ rfl; have q2 := blk_cell (blk_below hg5.out hb7) 2 _ rfl; have q3 := blk_cell (blk_below hg5.out hb7) 3 _ rfl)))
      all_goals
        go_wp2_with fail
        go_meet
        case rel => exact ⟨congrArg Value.bool (by rw [HH.out, HB.out]; simp), hb7⟩
  case rest =>
    obtain ⟨rfl, hbc⟩ := hcut
    obtain ⟨wB, rfl⟩ : ∃ wB : World, wB = wc := ⟨_, rfl⟩
    have hwB : Below w.heap.size w wB := hw.trans (((hb1.trans hb4).mono hw.size).trans (hbc.mono (Nat.le_trans hw.size (hb1.trans hb4).size)))
    cases hb : headB ws p
    · rw [hb] at hr
      have hr' : Hid (imgS ws fuel s = ([], 0, 4)) := by show _ = _; rw [hr.out]; rfl
      clear hb
      go_wp2
      refine bodyPost_ret (v := .tuple #[.slice none 0 0, .int .i64 0, .int .i64 4]) (by simp [results, Try.results46, go_sem]) rfl ?_
      exact shows_err hr'.out hwB
    · rw [hb] at hr
      have hsl : sealB h0 h1 = true := by have := HH.out; rw [hb] at this; have := this.symm; simp at this; exact this.1
      have q0 : 1 ≤ h0 ∧ h0 ≤ 40 := by unfold sealB inB at hsl; simp at hsl; exact hsl.1
      obtain ⟨m, rfl⟩ := Int.eq_ofNat_of_zero_le (show 0 ≤ h0 by omega)
      have hr' : Hid (imgS ws fuel s = ((ws.drop (p + 4)).take m, h1, 0)) := by show _ = _; rw [hr.out]; rfl
      have hl : Hid (((ws.drop (p + 4)).take m).length = m) := by show _ = _; have := HN.out; simp; omega
      have b4 := blk_below (hb4.block _ ltw ▸ b0.out) hbc
      have x4 : wB.cell? ⟨w.heap.size, 0, none⟩ = some (.slice (some ⟨b, off, none⟩) 192 c) := blk_cell b4 0 _ rfl
      have x5 : wB.cell? ⟨w.heap.size, 1, none⟩ = some (.int .i64 fuel) := blk_cell b4 1 _ rfl
      have HB := hide (unhide HBd wB (i4.below hbc) m (by omega))
      clear hb hsl HBd HL b4
      go_wp2_with fail
      refine (unhide HB).mono ?_
      rintro e w6 ⟨g, hg, rfl, ho, hb6⟩
      go_wp2
      refine bodyPost_ret (v := .tuple #[.slice (some ⟨g, 0, none⟩) m m, .int .i64 h1, .int .i64 0]) (by simp [results, Try.results46, go_sem]) rfl ?_
      refine ⟨⟨some ⟨g, 0, none⟩, m, m, by rw [hr'.out], by rw [hr'.out]; exact ho.isInts, by rw [hr'.out]; exact hl.out, Nat.le_refl _, FreshA.here (Nat.le_trans hwB.size hg) 0⟩, hwB.trans (hb6.mono hwB.size)⟩

end Go.Proofs.Ytanpglfpopbfkaa
