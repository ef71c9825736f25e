/- The contract of slot.Image. Plain facts for package meta: a numeral is read back ('numO'), texts of numbers, releases and images ('wr', 'relT', 'imgT', 'rootT'), a release is read ('readR') just from its own text, unlike ones have unlike texts. No program in this text. Plain texts of package meta: 'wr', 'rootT', 'relT', 'imgT'; 'readR' (the program's way of reading a release) and 'readQ' (the other way) read just what 'relT' writes; unlike ones have unlike texts. No program in this text. What package meta's checks say, as plain functions: 'rootE', 'relE', 'imgE', 'bookE', 'nameN'. No program in this text. -/
import Derived.Test.YtgngpmgjoifepaaGreatDoorPg7
import Derived.Lib.AtoiTie
import Derived.Lib.AtoiAllCases
import Derived.Lib.SplitLaws
import Derived.Lib.Join
import Derived.Lib.ItoaLen
namespace Go.Proofs.YtgngpmgjoifepaaGreatDoor
open Go.RowKit
attribute [local go_sem ↓] Go.wp_at_zero Go.wp_at_succ

/-- Is what stands from place p on a head? -/
def headB (ws : List Int) (p : Nat) : Bool :=
  sealB (ws.getD p 0) (ws.getD (p + 1) 0) && decide (ws.getD (p + 2) 0 = xorW (ws.getD p 0) ∧ ws.getD (p + 3) 0 = xorW (ws.getD (p + 1) 0))

/-- The document's Image: the words, the name, the error. -/
def imgS (ws : List Int) (fuel s : Int) : List Int × Int × Int :=
  if slotE ws fuel s ≠ 0 then ([], 0, slotE ws fuel s) else if headB ws (64 + 64 * s).toNat = false then ([], 0, 4)
  else ((ws.drop (68 + 64 * s).toNat).take (ws.getD (64 + 64 * s).toNat 0).toNat, ws.getD ((64 + 64 * s).toNat + 1) 0, 0)

/-- What a call that answers words, a number and an error hands back. -/
def Shows (w : World) (r : List Int × Int × Int) (e : Ending) (w' : World) : Prop :=
  (∃ a n c, e = .returned (.tuple #[.slice a n c, .int .i64 r.2.1, .int .i64 r.2.2]) ∧ IsInts w' a r.1 ∧ r.1.length = n ∧ n ≤ c ∧ FreshA w.heap.size a) ∧ Below w.heap.size w w'

theorem shows_err {w w' : World} {r : List Int × Int × Int} {err : Int} (hr : r = ([], 0, err)) (hb : Below w.heap.size w w') : Shows w r (.returned (.tuple #[.slice none 0 0, .int .i64 0, .int .i64 err])) w' := by
  subst hr
  exact ⟨⟨none, 0, 0, rfl, .inl rfl, rfl, Nat.le_refl _, FreshA.nil _⟩, hb⟩

/-- '==' of two heads. -/
theorem eqHead (a0 a1 a2 a3 b0 b1 b2 b3 : Int) (w : World) : (Op.equalIn 10000 180 (.agg #[.int .i64 a0, .int .i64 a1, .int .i64 a2, .int .i64 a3]) (.agg #[.int .i64 b0, .int .i64 b1, .int .i64 b2, .int .i64 b3])).run Tryz.prog w = .ok (decide (a0 = b0 ∧ a1 = b1 ∧ a2 = b2 ∧ a3 = b3)) w := by
  have u3 := Tryz.underlying3
  have a3' := Tryz.isAgg3
  have z3 := Tryz.sizeOf3
  rw [show (10000 : Nat) = 9999 + 1 from rfl, Op.equalIn]
  simp only [Sem.run_bind, run_underlying Tryz.underlying180, Result.andThen_ok]
  simp only [Std.Legacy.Range.forIn_eq_forIn_range', Std.Legacy.Range.size, Nat.sub_zero, Nat.add_sub_cancel, Nat.div_one, List.range'_succ, List.range'_zero, List.forIn_cons, List.forIn_nil]
  go_simp
  by_cases h1 : a0 = b0 <;> by_cases h2 : a1 = b1 <;> by_cases h3 : a2 = b2 <;> by_cases h4 : a3 = b3 <;> simp [h1, h2, h3, h4]

theorem take4 {ws : List Int} {p : Nat} (h : p + 4 ≤ ws.length) : (ws.drop p).take 4 = [ws.getD p 0, ws.getD (p + 1) 0, ws.getD (p + 2) 0, ws.getD (p + 3) 0] := by
  apply ext_getD
  · simp; omega
  · intro i hi
    simp at hi
    rcases i with _ | _ | _ | _ | i
    · simp
    · simp
    · simp
    · simp
    · omega

attribute [local go_sem] eqHead

theorem IsInts.below4 {w1 w2 w4 : World} {a : Option Addr} {xs : List Int} (h : IsInts w1 a xs) (hb : Below w1.heap.size w1 w2) (hb4 : Below w1.heap.size w2 w4) : IsInts w4 a xs :=
  h.below (hb.trans hb4)

set_option maxRecDepth 100000 in
set_option maxHeartbeats 1000000 in
theorem image_any (a : Option Addr) (n c : Nat) (ws : List Int) (fuel s : Int) (w : World) (h : IsInts w a ws) (hn : ws.length = n) (hm : n ≤ maxLen) (hcap : n ≤ c) :
    Calls Tryz.prog 62 #[.agg #[.slice a n c, .int .i64 fuel], .int .i64 s] w (Shows w (imgS ws fuel s)) := by
  have HC := hide (fun W (h : IsInts W a ws) => slotCheck_any a n c ws fuel s W h hn hm)
  have HN := hide hn
  clear hn
  have b0 := hide (heap_alloc_last w (.cells #[.slice a n c, .int .i64 fuel] 27))
  have hw : Below w.heap.size w (w.alloc (.cells #[.slice a n c, .int .i64 fuel] 27)) := (Below.refl _ _).alloc (Nat.le_refl _) _
  have i0 := h.below hw
  go_enter Tryz.func62, Tryz.ntmps62
  go_wp2_with fail
  generalize w.alloc (.cells #[.slice a n c, .int .i64 fuel] 27) = W at *
  refine (unhide HC _ i0).mono ?_
  rintro e w1 ⟨rfl, hb1⟩
  replace b0 := hide (blk_below b0.out hb1)
  replace i0 := i0.below hb1
  replace hw := hw.trans (hb1.mono hw.size)
  clear hb1
  by_cases e1 : slotE ws fuel s = 0
  rotate_left
  · have e1' : (slotE ws fuel s != 0) = true := by simpa using e1
    have hr : Hid (imgS ws fuel s = ([], 0, slotE ws fuel s)) := by show _ = _; unfold imgS; rw [if_pos e1]
    go_wp2
    refine bodyPost_ret (v := .tuple #[.slice none 0 0, .int .i64 0, .int .i64 (slotE ws fuel s)]) (by simp [results, Tryz.results62, go_sem]) rfl ?_
    exact shows_err hr.out hw
  have e1' : (slotE ws fuel s != 0) = false := by simpa using e1
  obtain ⟨-, pl, p0, p1⟩ := slotE_parts e1
  obtain rfl : n = 192 := by rw [← HN.out, pl]
  have E1 := hide e1
  obtain ⟨p, hp⟩ : ∃ p : Nat, (p : Int) = 64 + 64 * s := ⟨(64 + 64 * s).toNat, by omega⟩
  have hp1 : p ≤ 128 := by omega
  have hr : Hid (imgS ws fuel s = if headB ws p = false then ([], 0, 4) else ((ws.drop (p + 4)).take (ws.getD p 0).toNat, ws.getD (p + 1) 0, 0)) := by
    show _ = _
    unfold imgS
    rw [if_neg (by simpa using e1), ← hp, show 68 + 64 * s = ((p + 4 : Nat) : Int) by omega, Int.toNat_natCast, Int.toNat_natCast]
  have HP := hide (fun W => headPlace_any s W p0 p1)
  rw [← hp] at HP
  have HBd := hide (fun W (i : IsInts W a ws) (m : Nat) (hm : m ≤ 40) => body_any a c ws fuel s m (p + 4) W i HN.out hcap p0 p1 hm (by omega))
  have ht := take4 (ws := ws) (p := p) (by rw [pl]; omega)
  have HH := hide (show headB ws p = (sealB (ws.getD p 0) (ws.getD (p + 1) 0) && decide (ws.getD (p + 2) 0 = xorW (ws.getD p 0) ∧ ws.getD (p + 3) 0 = xorW (ws.getD (p + 1) 0))) from rfl)
  obtain ⟨b, off, rfl⟩ : ∃ b off, a = some ⟨b, off, none⟩ := by
    rcases h with rfl | ⟨b, off, rfl, _⟩
    · simp at pl
    · exact ⟨b, off, rfl⟩
  have hx := (i0.drop p).take 4
  rw [ht] at hx
  have HL := hide (show ((ws.drop (p + 4)).take (ws.getD p 0).toNat).length = min (ws.getD p 0).toNat (192 - (p + 4)) by simp [pl])
  generalize ws.getD p 0 = h0 at *
  generalize ws.getD (p + 1) 0 = h1 at *
  generalize ws.getD (p + 2) 0 = h2 at *
  generalize ws.getD (p + 3) 0 = h3 at *
  clear e1 pl ht hp
  have ltw := blk_lt b0.out
  have b1 := hide (heap_alloc_last w1 (.cells #[.int .i64 0, .int .i64 0, .int .i64 0, .int .i64 0] 180))
  have hb1 : Below w1.heap.size w1 (w1.alloc (.cells #[.int .i64 0, .int .i64 0, .int .i64 0, .int .i64 0] 180)) := (Below.refl _ _).alloc (Nat.le_refl _) _
  replace b0 := hide (blk_below b0.out hb1)
  have hx1 := hx.below hb1
  go_upto_region 5 with fail
  generalize w1.alloc (.cells #[.int .i64 0, .int .i64 0, .int .i64 0, .int .i64 0] 180) = w2 at *
  have x0 : w2.cell? ⟨w.heap.size, 0, none⟩ = some (.slice (some ⟨b, off, none⟩) 192 c) := blk_cell b0.out 0 _ rfl
  have j3 : (p : Int) ≤ 192 := by omega
  have j4 : ¬ c = p := by omega
  have j5 : (192 : Int) ≤ (c : Int) := by omega
  go_region_held3 (fun w' => w'.cell? ⟨w.heap.size, 0, none⟩ = some (.slice (some ⟨b, off, none⟩) 192 c)) (first | assumption | go_keep)
    ((first | (go_at_call 121; refine (unhide HP _).mono ?_; rintro e w5 ⟨rfl, rfl⟩) | (refine step_copy_splice (by rfl) _ _ _ _ (by rfl) 3 Tryz.underlying25 size_int (some ⟨w1.heap.size, 0, none⟩) (some ⟨b, off + p, none⟩) 4 4 (192 - p) (c - p) (by rfl) (by rfl) w1.heap.size 0 (vals [0, 0, 0, 0]) 180 b1.out (vals [h0, h1, h2, h3]) ((Nat.min_eq_right (show 4 ≤ 192 - p by omega)).symm) (fun _ => ⟨rfl, _, rfl, fun j v hv => addr_cells hx1 j v hv⟩) (Nat.le_refl _) (vals_one _) w1.heap.size w2 ((Below.refl _ _).drew) (Nat.le_refl _) ?_; intro w4 hg4 hb4; have z0 : w4.cell? ⟨w.heap.size, 0, none⟩ = some (.slice (some ⟨b, off, none⟩) 192 c) := (by rw [hb4.cell ltw]; exact x0))))
  have hg5 : Hid (w4.heap[w1.heap.size]? = some (.cells #[.int .i64 h0, .int .i64 h1, .int .i64 h2, .int .i64 h3] 180 (0, 0))) := hg4.out
  have y0 := blk_cell hg5.out 0 _ rfl
  have y1 := blk_cell hg5.out 1 _ rfl
  have y2 := blk_cell hg5.out 2 _ rfl
  have y3 := blk_cell hg5.out 3 _ rfl
  have i4 : IsInts w4 (some ⟨b, off, none⟩) ws := i0.below4 hb1 hb4
  go_wp2_with fail
  go_quiet (fail)
  go_upto_region 7 with fail
  replace i4 : IsInts (w4.drewN nq) (some ⟨b, off, none⟩) ws := i4.drewN nq
  replace hb4 : Below w1.heap.size w2 (w4.drewN nq) := below_drewN hb4 nq
  replace hg5 : Hid ((w4.drewN nq).heap[w1.heap.size]? = some (.cells #[.int .i64 h0, .int .i64 h1, .int .i64 h2, .int .i64 h3] 180 (0, 0))) := hg5.out
  clear y0 y1 y2 y3 z0 hg4
  obtain ⟨w5, hw5⟩ : ∃ w5, w5 = w4.drewN nq := ⟨_, rfl⟩
  rw [← hw5] at i4 hb4 hg5 ⊢
  clear hw5
  have y0 := blk_cell hg5.out 0 _ rfl
  have y1 := blk_cell hg5.out 1 _ rfl
  have y2 := blk_cell hg5.out 2 _ rfl
  have y3 := blk_cell hg5.out 3 _ rfl
  have HS := hide (fun W => sealable_any h0 h1 W)
  go_cut [38] (fun v38 wc => v38 = .bool (!headB ws p) ∧ Below w5.heap.size w5 wc)
  case first =>
    cases hb : sealB h0 h1
    · rw [hb] at HS
      have hh : Hid (headB ws p = false) := by show _ = _; rw [HH.out, hb]; rfl
      clear hb
      go_quiet ((go_at_call 122; refine Calls.quiet_of_same (unhide HS _)))
      go_wp2_with fail
      go_meet
      case rel => exact ⟨congrArg Value.bool (by rw [hh.out]; rfl), below_drewN (Below.refl _ _) _⟩
    · rw [hb] at HS
      have HB := hide hb
      clear hb
      go_region_with ((first | (go_at_call 122; refine (unhide HS _).mono ?_; rintro e wq ⟨rfl, rfl⟩) | (go_at_call 123; refine (slHeadOf_any h0 h1 _).mono ?_; rintro e w6 ⟨rfl, hb6⟩; have hb7 : Below w5.heap.size w5 w6 := Below.trans (Below.refl _ w5).drew hb6; have q0 := blk_cell (blk_below hg5.out hb7) 0 _ rfl; have q1 := blk_cell (blk_below hg5.out hb7) 1 _ rfl; have q2 := blk_cell (blk_below hg5.out hb7) 2 _ rfl; have q3 := blk_cell (blk_below hg5.out hb7) 3 _ rfl)))
      all_goals
        go_wp2_with fail
        go_meet
        case rel => exact ⟨congrArg Value.bool (by rw [HH.out, HB.out]; simp), hb7⟩
  case rest =>
    obtain ⟨rfl, hbc⟩ := hcut
    obtain ⟨wB, rfl⟩ : ∃ wB : World, wB = wc := ⟨_, rfl⟩
    have hwB : Below w.heap.size w wB := hw.trans (((hb1.trans hb4).mono hw.size).trans (hbc.mono (Nat.le_trans hw.size (hb1.trans hb4).size)))
    cases hb : headB ws p
    · rw [hb] at hr
      have hr' : Hid (imgS ws fuel s = ([], 0, 4)) := by show _ = _; rw [hr.out]; rfl
      clear hb
      go_wp2
      refine bodyPost_ret (v := .tuple #[.slice none 0 0, .int .i64 0, .int .i64 4]) (by simp [results, Tryz.results62, go_sem]) rfl ?_
      exact shows_err hr'.out hwB
    · rw [hb] at hr
      have hsl : sealB h0 h1 = true := by have := HH.out; rw [hb] at this; have := this.symm; simp at this; exact this.1
      have q0 : 1 ≤ h0 ∧ h0 ≤ 40 := by unfold sealB inB at hsl; simp at hsl; exact hsl.1
      obtain ⟨m, rfl⟩ := Int.eq_ofNat_of_zero_le (show 0 ≤ h0 by omega)
      have hr' : Hid (imgS ws fuel s = ((ws.drop (p + 4)).take m, h1, 0)) := by show _ = _; rw [hr.out]; rfl
      have hl : Hid (((ws.drop (p + 4)).take m).length = m) := by show _ = _; have := HN.out; simp; omega
      have b4 := blk_below (hb4.block _ ltw ▸ b0.out) hbc
      have x4 : wB.cell? ⟨w.heap.size, 0, none⟩ = some (.slice (some ⟨b, off, none⟩) 192 c) := blk_cell b4 0 _ rfl
      have x5 : wB.cell? ⟨w.heap.size, 1, none⟩ = some (.int .i64 fuel) := blk_cell b4 1 _ rfl
      have HB := hide (unhide HBd wB (i4.below hbc) m (by omega))
      clear hb hsl HBd HL b4
      go_wp2_with fail
      refine (unhide HB).mono ?_
      rintro e w6 ⟨g, hg, rfl, ho, hb6⟩
      go_wp2
      refine bodyPost_ret (v := .tuple #[.slice (some ⟨g, 0, none⟩) m m, .int .i64 h1, .int .i64 0]) (by simp [results, Tryz.results62, go_sem]) rfl ?_
      refine ⟨⟨some ⟨g, 0, none⟩, m, m, by rw [hr'.out], by rw [hr'.out]; exact ho.isInts, by rw [hr'.out]; exact hl.out, Nat.le_refl _, FreshA.here (Nat.le_trans hwB.size hg) 0⟩, hwB.trans (hb6.mono hwB.size)⟩

end Go.Proofs.YtgngpmgjoifepaaGreatDoor

namespace Go.Proofs.YtgngpmgjoifepaaGreatDoor
open Go.Lib

/-- An int of 64 bits. -/
def I64 (n : Int) : Prop := -9223372036854775808 ≤ n ∧ n ≤ 9223372036854775807

/-! ### Numerals -/

theorem u8_toNat {n : Nat} (h : n < 256) : (UInt8.ofNat n).toNat = n := by simp [UInt8.toNat_ofNat', Nat.mod_eq_of_lt h]

theorem dec_bytes (u : Nat) : ∀ c ∈ decDigits u, 48 ≤ c.toNat ∧ c.toNat ≤ 57 := by
  induction u using Nat.strongRecOn with
  | _ u ih =>
    intro c hc
    rw [decDigits] at hc
    split at hc
    · simp only [List.mem_singleton] at hc
      subst hc
      rw [u8_toNat (by omega)]
      omega
    · simp only [List.mem_append, List.mem_singleton] at hc
      rcases hc with hc | hc
      · exact ih _ (by omega) c hc
      · subst hc
        rw [u8_toNat (by omega)]
        omega

theorem itoa_bytes (n : Int) : ∀ c ∈ itoa n, c.toNat = 45 ∨ (48 ≤ c.toNat ∧ c.toNat ≤ 57) := by
  intro c hc
  unfold itoa at hc
  split at hc
  · simp only [List.mem_cons] at hc
    rcases hc with rfl | hc
    · exact .inl rfl
    · exact .inr (dec_bytes _ c hc)
  · exact .inr (dec_bytes _ c hc)

theorem itoa_no (n : Int) (c : UInt8) (h : c.toNat < 45) : c ∉ itoa n := fun hc => by
  have := itoa_bytes n c hc
  omega
theorem itoa_no_semi (n : Int) : (59 : UInt8) ∉ itoa n := fun hc => by
  have := itoa_bytes n _ hc
  have e : (59 : UInt8).toNat = 59 := rfl
  omega

theorem dec_ne (u : Nat) : decDigits u ≠ [] := by
  intro h
  have := decDigits_length u
  have p := nDigits_pos u
  rw [h] at this
  simp at this
  omega

theorem parseUint10_append (r : List UInt8) : ∀ (l : List UInt8) (acc : Nat), parseUint10 acc (l ++ r) = match parseUint10 acc l with | .ok a => parseUint10 a r | .syntax => .syntax | .range => .range
  | [], acc => by simp [parseUint10]
  | c :: l, acc => by
    simp only [List.cons_append, parseUint10]
    split
    · split
      · rfl
      · split
        · rfl
        · exact parseUint10_append r l _
    · rfl

theorem parse_dec (u : Nat) : u < 18446744073709551616 → parseUint10 0 (decDigits u) = .ok u := by
  induction u using Nat.strongRecOn with
  | _ u ih =>
    intro hu
    rw [decDigits]
    split
    · rename_i h
      simp only [parseUint10]
      rw [u8_toNat (by omega)]
      rw [if_pos (by omega), if_neg (by omega), if_neg (by omega)]
      congr 1
      omega
    · rename_i h
      rw [parseUint10_append, ih (u / 10) (by omega) (by omega)]
      simp only [parseUint10]
      rw [u8_toNat (by omega)]
      rw [if_pos (by omega), if_neg (by omega), if_neg (by omega)]
      congr 1
      omega

theorem mag_dec (u : Nat) (h : u < 18446744073709551616) : parseMag (decDigits u) = .ok u := by
  unfold parseMag
  rw [if_neg (dec_ne u), parse_dec u h]

theorem atoi_itoa {n : Int} (h : I64 n) : atoiAll (itoa n) = .ok n := by
  obtain ⟨h0, h1⟩ := h
  unfold itoa
  split
  · rename_i hn
    rw [atoiAll_minus, mag_dec _ (by omega)]
    simp only [signed]
    rw [if_neg (by omega)]
    congr 1
    omega
  · rename_i hn
    have hb := dec_bytes n.toNat
    have hne := dec_ne n.toNat
    have hm := mag_dec n.toNat (by omega)
    generalize decDigits n.toNat = l at hb hne hm
    match l, hb, hne, hm with
    | c :: r, hb, _, hm =>
      have := hb c (by simp)
      rw [atoiAll_plain c r (by omega) (by omega), hm]
      simp only [signless]
      rw [if_neg (by omega)]
      congr 1
      omega

/-- What a text says as a number: it is written just so. -/
def numO (l : List UInt8) : Option Int := match atoiAll l with
  | .ok v => if itoa v = l then some v else none
  | _ => none

theorem numO_some {l : List UInt8} {v : Int} : numO l = some v ↔ l = itoa v ∧ I64 v := by
  constructor
  · intro h
    unfold numO at h
    split at h
    · rename_i x hx
      split at h
      · rename_i e
        cases h
        exact ⟨e.symm, atoiAll_bounds hx⟩
      · cases h
    · cases h
  · rintro ⟨rfl, h⟩
    unfold numO
    rw [atoi_itoa h]
    simp

theorem numO_itoa {v : Int} (h : I64 v) : numO (itoa v) = some v := numO_some.2 ⟨rfl, h⟩
theorem itoa_inj {a b : Int} (ha : I64 a) (hb : I64 b) (h : itoa a = itoa b) : a = b := by
  have := numO_itoa ha
  rw [h, numO_itoa hb] at this
  exact (Option.some.inj this).symm

theorem dec_len : ∀ (k u : Nat), u < 10 ^ (k + 1) → (decDigits u).length ≤ k + 1
  | 0, u, h => by rw [decDigits_length, nDigits_small (by simpa using h)]; exact Nat.le_refl _
  | k + 1, u, h => by
    by_cases h9 : u < 10
    · rw [decDigits_length, nDigits_small h9]; omega
    · have := dec_len k (u / 10) (by rw [Nat.pow_succ] at h; omega)
      rw [decDigits_length] at this ⊢
      rw [nDigits_big h9]; omega

theorem itoa_len {n : Int} (k : Nat) (h0 : 0 ≤ n) (h1 : n < (10 : Int) ^ (k + 1)) : (itoa n).length ≤ k + 1 := by
  unfold itoa
  rw [if_neg (by omega)]
  refine dec_len k _ ?_
  have : ((10 ^ (k + 1) : Nat) : Int) = (10 : Int) ^ (k + 1) := by simp
  omega

/-! ### Joined and split again -/

theorem index_none {s sep : List UInt8} {c : UInt8} {t : List UInt8} (hs : sep = c :: t) (h : c ∉ s) : index s sep = -1 := by
  subst hs
  induction s with
  | nil => rfl
  | cons b l ih =>
    simp only [List.mem_cons, not_or] at h
    unfold index
    have h1 : (c :: t).isPrefixOf (b :: l) = false := by
      simp only [List.isPrefixOf, Bool.and_eq_false_iff, beq_eq_false_iff_ne]
      exact .inl h.1
    rw [if_neg (by simp [h1]), ih h.2]
    rfl

theorem index_at {x r sep : List UInt8} {c : UInt8} {t : List UInt8} (hs : sep = c :: t) (h : c ∉ x) : index (x ++ (sep ++ r)) sep = x.length := by
  subst hs
  induction x with
  | nil => simp [index]
  | cons b l ih =>
    simp only [List.mem_cons, not_or] at h
    simp only [List.cons_append]
    unfold index
    have h1 : (c :: t).isPrefixOf (b :: (l ++ (c :: (t ++ r)))) = false := by
      simp only [List.isPrefixOf, Bool.and_eq_false_iff, beq_eq_false_iff_ne]
      exact .inl h.1
    rw [if_neg (by simp [h1])]
    have ih := ih h.2
    simp only [List.cons_append] at ih
    rw [ih, if_neg (by simp)]
    simp

theorem split_none {s sep : List UInt8} {c : UInt8} {t : List UInt8} (hs : sep = c :: t) (h : c ∉ s) : split s sep = [s] := by
  have := index_none hs h
  unfold split
  rw [count_miss this]
  rfl

theorem split_at {x r sep : List UInt8} {c : UInt8} {t : List UInt8} (hs : sep = c :: t) (h : c ∉ x) : split (x ++ (sep ++ r)) sep = x :: split r sep := by
  have hi := index_at (r := r) hs h
  have hne : sep ≠ [] := by rw [hs]; simp
  unfold split
  rw [count_hit hne hi, Nat.add_comm 1]
  have hd : (x ++ (sep ++ r)).drop (x.length + sep.length) = r := by
    rw [← List.append_assoc, ← List.length_append, List.drop_left]
  rw [hd]
  have hm : ¬ (index (x ++ (sep ++ r)) sep == -1) = true := by rw [hi]; simp
  rw [splitK, if_neg hm, hi]
  rw [show ((x.length : Int).toNat) = x.length by simp, hd, Nat.add_zero, List.take_left]

theorem join_cons2 (x y : List UInt8) (r : List (List UInt8)) (sep : List UInt8) : join (x :: y :: r) sep = x ++ (sep ++ join (y :: r) sep) := by
  rw [join_cons, join_cons]
  simp [joinTail]

/-- What is joined is split again, where the separator's first byte stands in none. -/
theorem split_join {sep : List UInt8} {c : UInt8} {t : List UInt8} (hs : sep = c :: t) : ∀ (xs : List (List UInt8)), xs ≠ [] → (∀ x ∈ xs, c ∉ x) → split (join xs sep) sep = xs
  | [], h, _ => absurd rfl h
  | [x], _, h => by rw [join_one, split_none hs (h x (by simp))]
  | x :: y :: r, _, h => by
    rw [join_cons2, split_at hs (h x (by simp)), split_join hs (y :: r) (by simp) (fun z hz => h z (by simp at hz ⊢; exact .inr hz))]

theorem splitK_ne (sep : List UInt8) (save k : Nat) (s : List UInt8) : splitK sep save k s ≠ [] := by
  cases k with
  | zero => simp [splitK]
  | succ k => unfold splitK; split <;> simp

theorem split_ne (s sep : List UInt8) : split s sep ≠ [] := splitK_ne _ _ _ _

theorem take_index {s sep : List UInt8} {i : Nat} (h : index s sep = i) : s = s.take i ++ (sep ++ s.drop (i + sep.length)) := by
  rcases index_spec s sep with ⟨h1, _⟩ | ⟨j, hj, hle, ho, _⟩
  · rw [h1] at h; omega
  · have : j = i := by rw [hj] at h; omega
    subst this
    have hp : sep <+: s.drop j := List.isPrefixOf_iff_prefix.1 ho
    obtain ⟨r, hr⟩ := hp
    have : s.drop (j + sep.length) = r := by
      rw [← List.drop_drop, ← hr, List.drop_left]
    rw [this, hr, List.take_append_drop]

theorem join_splitK (sep : List UInt8) : ∀ (k : Nat) (s : List UInt8), join (splitK sep 0 k s) sep = s
  | 0, s => by simp [splitK, join_one]
  | k + 1, s => by
    unfold splitK
    split
    · rw [join_one]
    · rename_i h
      have hge := index_ge s sep
      have hne : index s sep ≠ -1 := fun e => h (by rw [e]; rfl)
      have hi : index s sep = ((index s sep).toNat : Int) := by omega
      have ih := join_splitK sep k (s.drop ((index s sep).toNat + sep.length))
      generalize hl : splitK sep 0 k (s.drop ((index s sep).toNat + sep.length)) = l at ih
      match l, hl with
      | [], hl => exact absurd hl (splitK_ne _ _ _ _)
      | y :: r, _ =>
        rw [join_cons2, ih, Nat.add_zero]
        exact (take_index hi).symm

theorem join_split (s sep : List UInt8) : join (split s sep) sep = s := join_splitK sep _ s

theorem join_no {c : UInt8} {sep : List UInt8} (hs : c ∉ sep) : ∀ (xs : List (List UInt8)), (∀ x ∈ xs, c ∉ x) → c ∉ join xs sep
  | [], _ => by simp [join_nil]
  | [x], h => by rw [join_one]; exact h x (by simp)
  | x :: y :: r, h => by
    rw [join_cons2]
    simp only [List.mem_append, not_or]
    exact ⟨h x (by simp), hs, join_no hs (y :: r) (fun z hz => h z (by simp at hz ⊢; exact .inr hz))⟩

theorem cut_at {x r sep : List UInt8} {c : UInt8} {t : List UInt8} (hs : sep = c :: t) (h : c ∉ x) : cut (x ++ (sep ++ r)) sep = (x, r, true) := by
  have hi := index_at (r := r) hs h
  unfold cut
  rw [hi, if_pos (by omega)]
  have hd : (x ++ (sep ++ r)).drop (x.length + sep.length) = r := by
    rw [← List.append_assoc, ← List.length_append, List.drop_left]
  simp [hd]

theorem cut_found {s sep : List UInt8} (h : (cut s sep).2.2 = true) : s = (cut s sep).1 ++ (sep ++ (cut s sep).2.1) := by
  unfold cut at h ⊢
  split at h
  · rename_i h0
    rw [if_pos h0]
    exact take_index (i := (index s sep).toNat) (by omega)
  · cases h

end Go.Proofs.YtgngpmgjoifepaaGreatDoor

namespace Go.Proofs.YtgngpmgjoifepaaGreatDoor
open Go.Lib

abbrev T3 := Int × Int × Int

def semiW : List UInt8 := [59, 32]
def relW : List UInt8 := [114, 101, 108, 101, 97, 115, 101, 32]
def untW : List UInt8 := [32, 117, 110, 116, 105, 108, 32]
def rootW : List UInt8 := [114, 111, 111, 116, 32]
def ofW : List UInt8 := [32, 111, 102, 32]
def imgW : List UInt8 := [105, 109, 97, 103, 101, 32]

/-- Numbers, a blank between two. -/
def wr (l : List Int) : List UInt8 := join (l.map itoa) [32]
def tgtT (t : T3) : List UInt8 := wr [t.1, t.2.1, t.2.2]
def headT (v u : Int) : List UInt8 := relW ++ wr [v] ++ untW ++ wr [u]
def relT (v u : Int) (ts : List T3) : List UInt8 := join (headT v u :: ts.map tgtT) semiW
def rootT (v : Int) (ks : List Int) (n : Int) : List UInt8 := rootW ++ wr [v, n] ++ ofW ++ wr ks
def imgT (w : List Int) : List UInt8 := imgW ++ wr w

def I3 (t : T3) : Prop := I64 t.1 ∧ I64 t.2.1 ∧ I64 t.2.2

/-- All of them, or none. -/
def allO {α β : Type} (f : α → Option β) : List α → Option (List β)
  | [] => some []
  | x :: r => match f x, allO f r with
    | some y, some ys => some (y :: ys)
    | _, _ => none

theorem allO_some {α β : Type} {f : α → Option β} {g : β → α} {P : β → Prop} (h : ∀ x y, f x = some y ↔ x = g y ∧ P y) : ∀ (l : List α) (ys : List β), allO f l = some ys ↔ l = ys.map g ∧ ∀ y ∈ ys, P y
  | [], ys => by
    constructor
    · intro e
      cases e
      simp
    · rintro ⟨e, _⟩
      cases ys with
      | nil => rfl
      | cons y ys => simp at e
  | x :: r, ys => by
    constructor
    · intro e
      simp only [allO] at e
      split at e
      · rename_i y zs hy hz
        cases e
        obtain ⟨rfl, p⟩ := (h _ _).1 hy
        obtain ⟨rfl, q⟩ := (allO_some h r zs).1 hz
        exact ⟨rfl, fun z hz => by
          rcases List.mem_cons.1 hz with rfl | hz
          · exact p
          · exact q z hz⟩
      · cases e
    · rintro ⟨e, p⟩
      cases ys with
      | nil => simp at e
      | cons y ys =>
        simp only [List.map_cons, List.cons.injEq] at e
        obtain ⟨rfl, rfl⟩ := e
        simp only [allO]
        rw [(h _ _).2 ⟨rfl, p y (by simp)⟩, (allO_some h _ ys).2 ⟨rfl, fun z hz => p z (by simp [hz])⟩]

theorem allO_append {α β : Type} (f : α → Option β) (x : α) : ∀ (l : List α), allO f (l ++ [x]) = match allO f l, f x with
    | some ys, some y => some (ys ++ [y])
    | _, _ => none
  | [] => by
    simp only [List.nil_append, allO]
    cases f x <;> rfl
  | a :: l => by
    simp only [List.cons_append, allO]
    rw [allO_append f x l]
    cases f a <;> cases allO f l <;> cases f x <;> rfl

theorem allO_length {α β : Type} {f : α → Option β} : ∀ {l : List α} {ys : List β}, allO f l = some ys → ys.length = l.length
  | [], ys, h => by cases h; rfl
  | x :: r, ys, h => by
    simp only [allO] at h
    split at h
    · rename_i y zs hy hz
      cases h
      simp [allO_length hz]
    · cases h

/-- One that isn't there: all aren't. -/
theorem allO_none {α β : Type} {f : α → Option β} : ∀ {l : List α} (k : Nat), allO f (l.take k) = none → allO f l = none
  | [], k, h => by simp at h; exact h
  | x :: r, 0, h => by simp [allO] at h
  | x :: r, k + 1, h => by
    simp only [List.take_succ_cons, allO] at h ⊢
    cases hx : f x with
    | none => rfl
    | some y =>
      rw [hx] at h
      cases hr : allO f (r.take k) with
      | none => rw [allO_none k hr]
      | some ys => rw [hr] at h; cases h

/-! ### A target -/

def tgtO (l : List UInt8) : Option T3 := match allO numO (split l [32]) with
  | some [a, b, c] => some (a, b, c)
  | _ => none

theorem nums_join (l : List UInt8) (ys : List Int) (hne : ys ≠ []) : allO numO (split l [32]) = some ys ↔ l = wr ys ∧ ∀ y ∈ ys, I64 y := by
  rw [allO_some (g := itoa) (P := I64) (fun x y => numO_some)]
  constructor
  · rintro ⟨h, p⟩
    refine ⟨?_, p⟩
    rw [wr, ← h, join_split]
  · rintro ⟨rfl, p⟩
    refine ⟨?_, p⟩
    unfold wr
    rw [split_join (c := 32) (t := []) rfl _ (by simpa using hne) ?_]
    intro x hx
    obtain ⟨y, _, rfl⟩ := List.mem_map.1 hx
    exact itoa_no y 32 (by decide)

theorem tgtO_some (l : List UInt8) (t : T3) : tgtO l = some t ↔ l = tgtT t ∧ I3 t := by
  obtain ⟨a, b, c⟩ := t
  have h := nums_join l [a, b, c] (by simp)
  have e : tgtO l = some (a, b, c) ↔ allO numO (split l [32]) = some [a, b, c] := by
    unfold tgtO
    constructor
    · intro h
      split at h
      · rename_i x y z hx
        cases h
        exact hx
      · cases h
    · intro h
      rw [h]
  rw [e, h]
  simp [tgtT, I3]

/-! ### What stands ahead of the targets -/

def untO (l : List UInt8) : Option (Int × Int) := if (cut l untW).2.2 = true then (match numO (cut l untW).1, numO (cut l untW).2.1 with
  | some v, some u => some (v, u)
  | _, _ => none) else none

theorem untO_some (l : List UInt8) (v u : Int) : untO l = some (v, u) ↔ l = wr [v] ++ (untW ++ wr [u]) ∧ I64 v ∧ I64 u := by
  have e1 : ∀ n : Int, wr [n] = itoa n := fun n => join_one _ _
  rw [e1, e1]
  constructor
  · intro h
    unfold untO at h
    split at h
    · rename_i hf
      split at h
      · rename_i a b ha hb
        cases h
        obtain ⟨h1, p1⟩ := numO_some.1 ha
        obtain ⟨h2, p2⟩ := numO_some.1 hb
        refine ⟨?_, p1, p2⟩
        rw [← h1, ← h2]
        exact cut_found hf
      · cases h
    · cases h
  · rintro ⟨rfl, p1, p2⟩
    unfold untO
    rw [cut_at (sep := untW) (c := 32) (t := [117, 110, 116, 105, 108, 32]) rfl (itoa_no v 32 (by decide))]
    simp [numO_itoa p1, numO_itoa p2]

def headO (l : List UInt8) : Option (Int × Int) := if hasPrefix l relW = true then untO (trimPrefix l relW) else none

theorem trim_has {l p : List UInt8} (h : hasPrefix l p = true) : l = p ++ trimPrefix l p := by
  unfold trimPrefix
  rw [if_pos h]
  have : p <+: l := List.isPrefixOf_iff_prefix.1 h
  obtain ⟨r, rfl⟩ := this
  rw [List.drop_left]
theorem trim_app (p r : List UInt8) : trimPrefix (p ++ r) p = r ∧ hasPrefix (p ++ r) p = true := by
  have h : hasPrefix (p ++ r) p = true := List.isPrefixOf_iff_prefix.2 (List.prefix_append _ _)
  exact ⟨by unfold trimPrefix; rw [if_pos h, List.drop_left], h⟩

theorem headO_some (l : List UInt8) (v u : Int) : headO l = some (v, u) ↔ l = headT v u ∧ I64 v ∧ I64 u := by
  have e : headT v u = relW ++ (wr [v] ++ (untW ++ wr [u])) := by unfold headT; simp [List.append_assoc]
  rw [e]
  constructor
  · intro h
    unfold headO at h
    split at h
    · rename_i hp
      obtain ⟨h1, p⟩ := (untO_some _ _ _).1 h
      refine ⟨?_, p⟩
      rw [← h1]
      exact trim_has hp
    · cases h
  · rintro ⟨rfl, p⟩
    unfold headO
    rw [(trim_app _ _).1, if_pos (trim_app _ _).2, untO_some]
    exact ⟨rfl, p⟩

/-! ### A release -/

def readR (s : List UInt8) : Option (Int × Int × List T3) := match split s semiW with
  | [] => none
  | h :: ps => match headO h, allO tgtO ps with
    | some (v, u), some ts => some (v, u, ts)
    | _, _ => none

def readQ (s : List UInt8) : Option (Int × Int × List T3) := if hasPrefix s relW = true then (match split (trimPrefix s relW) semiW with
  | [] => none
  | h :: ps => match untO h, allO tgtO ps with
    | some (v, u), some ts => some (v, u, ts)
    | _, _ => none) else none

def IR (v u : Int) (ts : List T3) : Prop := I64 v ∧ I64 u ∧ ∀ t ∈ ts, I3 t

theorem wr_no {c : UInt8} (hc : c = 59) (l : List Int) : c ∉ wr l := by
  subst hc
  refine join_no (by decide) _ fun x hx => ?_
  obtain ⟨y, _, rfl⟩ := List.mem_map.1 hx
  exact itoa_no_semi y

theorem headT_no (v u : Int) : (59 : UInt8) ∉ headT v u := by
  unfold headT
  simp only [List.mem_append, not_or]
  exact ⟨⟨⟨by decide, wr_no rfl _⟩, by decide⟩, wr_no rfl _⟩

theorem readR_some (s : List UInt8) (v u : Int) (ts : List T3) : readR s = some (v, u, ts) ↔ s = relT v u ts ∧ IR v u ts := by
  constructor
  · intro h
    unfold readR at h
    split at h
    · cases h
    · rename_i hd ps hs
      split at h
      · rename_i a b us h1 h2
        cases h
        obtain ⟨rfl, p1, p2⟩ := (headO_some _ _ _).1 h1
        obtain ⟨rfl, p3⟩ := (allO_some tgtO_some _ _).1 h2
        refine ⟨?_, p1, p2, p3⟩
        rw [relT, ← hs, join_split]
      · cases h
  · rintro ⟨rfl, p1, p2, p3⟩
    have hs : split (relT v u ts) semiW = headT v u :: ts.map tgtT := by
      unfold relT
      refine split_join (c := 59) (t := [32]) rfl _ (by simp) ?_
      intro x hx
      rcases List.mem_cons.1 hx with rfl | hx
      · exact headT_no v u
      · obtain ⟨y, _, rfl⟩ := List.mem_map.1 hx
        exact wr_no rfl _
    unfold readR
    rw [hs]
    simp only
    rw [(headO_some _ _ _).2 ⟨rfl, p1, p2⟩, (allO_some tgtO_some _ _).2 ⟨rfl, p3⟩]

theorem relT_eq (v u : Int) (ts : List T3) : relT v u ts = relW ++ join ((wr [v] ++ (untW ++ wr [u])) :: ts.map tgtT) semiW := by
  unfold relT headT
  rw [join_cons, join_cons]
  simp [List.append_assoc]

theorem readQ_some (s : List UInt8) (v u : Int) (ts : List T3) : readQ s = some (v, u, ts) ↔ s = relT v u ts ∧ IR v u ts := by
  constructor
  · intro h
    unfold readQ at h
    split at h
    · rename_i hp
      split at h
      · cases h
      · rename_i hd ps hs
        split at h
        · rename_i a b us h1 h2
          cases h
          obtain ⟨rfl, p1, p2⟩ := (untO_some _ _ _).1 h1
          obtain ⟨rfl, p3⟩ := (allO_some tgtO_some _ _).1 h2
          refine ⟨?_, p1, p2, p3⟩
          rw [relT_eq, ← hs, join_split]
          exact trim_has hp
        · cases h
    · cases h
  · rintro ⟨rfl, p1, p2, p3⟩
    have hs : split (join ((wr [v] ++ (untW ++ wr [u])) :: ts.map tgtT) semiW) semiW = (wr [v] ++ (untW ++ wr [u])) :: ts.map tgtT := by
      refine split_join (c := 59) (t := [32]) rfl _ (by simp) ?_
      intro x hx
      rcases List.mem_cons.1 hx with rfl | hx
      · simp only [List.mem_append, not_or]
        exact ⟨wr_no rfl _, by decide, wr_no rfl _⟩
      · obtain ⟨y, _, rfl⟩ := List.mem_map.1 hx
        exact wr_no rfl _
    unfold readQ
    rw [relT_eq, (trim_app _ _).1, if_pos (trim_app _ _).2, hs]
    simp only
    rw [(untO_some _ _ _).2 ⟨rfl, p1, p2⟩, (allO_some tgtO_some _ _).2 ⟨rfl, p3⟩]

theorem readQ_readR (s : List UInt8) : readQ s = readR s := by
  cases h : readR s with
  | none =>
    cases h' : readQ s with
    | none => rfl
    | some x =>
      obtain ⟨v, u, ts⟩ := x
      rw [readQ_some, ← readR_some, h] at h'
      cases h'
  | some x =>
    obtain ⟨v, u, ts⟩ := x
    rw [readR_some, ← readQ_some] at h
    exact h

/-! ### Unlike ones -/

theorem relT_inj {v u v' u' : Int} {ts ts' : List T3} (h : IR v u ts) (h' : IR v' u' ts') (e : relT v u ts = relT v' u' ts') : v = v' ∧ u = u' ∧ ts = ts' := by
  have a := (readR_some _ v u ts).2 ⟨rfl, h⟩
  have b := (readR_some _ v' u' ts').2 ⟨rfl, h'⟩
  rw [e, b] at a
  cases a
  exact ⟨rfl, rfl, rfl⟩

theorem wr_inj {a b : List Int} (ha : a ≠ []) (hb : b ≠ []) (pa : ∀ x ∈ a, I64 x) (pb : ∀ x ∈ b, I64 x) (e : wr a = wr b) : a = b := by
  have h1 := (nums_join (wr a) a ha).2 ⟨rfl, pa⟩
  have h2 := (nums_join (wr b) b hb).2 ⟨rfl, pb⟩
  rw [e, h2] at h1
  exact (Option.some.inj h1).symm

theorem imgT_inj {a b : List Int} (ha : a ≠ []) (hb : b ≠ []) (pa : ∀ x ∈ a, I64 x) (pb : ∀ x ∈ b, I64 x) (e : imgT a = imgT b) : a = b :=
  wr_inj ha hb pa pb (List.append_cancel_left e)

/-! ### How long -/

theorem join_len (k m : Nat) : ∀ (xs : List (List UInt8)) (sep : List UInt8), sep.length ≤ m → (∀ x ∈ xs, x.length ≤ k) → (join xs sep).length ≤ xs.length * (k + m)
  | [], _, _, _ => by simp [join_nil]
  | [x], _, _, h => by rw [join_one]; have := h x (by simp); simp; omega
  | x :: y :: r, sep, hm, h => by
    rw [join_cons2]
    have := join_len k m (y :: r) sep hm (fun z hz => h z (by simp at hz ⊢; exact .inr hz))
    have := h x (by simp)
    simp only [List.length_append, List.length_cons] at *
    rw [Nat.add_mul (r.length + 1) 1]
    omega

theorem wr_len (k : Nat) (l : List Int) (h : ∀ x ∈ l, (itoa x).length ≤ k) : (wr l).length ≤ l.length * (k + 1) := by
  have := join_len k 1 (l.map itoa) [32] (by simp) (fun x hx => by obtain ⟨y, hy, rfl⟩ := List.mem_map.1 hx; exact h y hy)
  simpa [wr] using this

end Go.Proofs.YtgngpmgjoifepaaGreatDoor

namespace Go.Proofs.YtgngpmgjoifepaaGreatDoor
open Go.Lib

def inR (n a b : Int) : Bool := decide (a ≤ n ∧ n ≤ b)
theorem inR_t {n a b : Int} (h0 : a ≤ n) (h1 : n ≤ b) : inR n a b = true := by unfold inR; simp; omega
theorem inR_lo {n a b : Int} (h0 : ¬ a ≤ n) : inR n a b = false := by unfold inR; simp; omega
theorem inR_hi {n a b : Int} (h0 : ¬ n ≤ b) : inR n a b = false := by unfold inR; simp; omega
theorem inR_iff {n a b : Int} : inR n a b = true ↔ a ≤ n ∧ n ≤ b := by unfold inR; simp

def keysE (ahead : Int) : List Int → Int
  | [] => 0
  | k :: r => if inR k 1 50 then (if k ≤ ahead then 6 else keysE k r) else 3

def rootE (v : Int) (ks : List Int) (n : Int) : Int :=
  if inR v 1 1000 then (if inR ks.length 1 6 then (if keysE 0 ks = 0 then (if inR n 1 ks.length then 0 else 4) else keysE 0 ks) else 2) else 3

def tOK (i : Nat) (t : T3) : Bool := inR t.1 i i && inR t.2.1 1 60 && inR t.2.2 1 40
def tgtsE (i : Nat) : List T3 → Int
  | [] => 0
  | t :: r => if tOK i t then tgtsE (i + 1) r else 3

def relE (v u : Int) (ts : List T3) : Int :=
  if inR v 1 1000 && inR u 0 100000 then (if inR ts.length 1 4 then tgtsE 0 ts else 2) else 3

def wordB (n : Int) : Bool := decide (0 ≤ n ∧ n ≤ 65535)
def imgE (w : List Int) : Int := if inR w.length 1 40 then (if w.all wordB then 0 else 3) else 2

/-- The place of a text, from 1 on; 0: it isn't there. -/
def nameN (ss : List ByteArray) (s : ByteArray) : Nat := match ss with
  | [] => 0
  | t :: r => if t = s then 1 else if nameN r s = 0 then 0 else nameN r s + 1

def booksE (seen : List ByteArray) : List ByteArray → Int
  | [] => 0
  | s :: r => if 2000 < s.size then 2 else if nameN seen s = 0 then booksE (seen ++ [s]) r else 6
def bookE (ss : List ByteArray) : Int := if 60 < ss.length then 2 else booksE [] ss

/-! ### What they give -/

theorem keysE_or (ks : List Int) : ∀ a, keysE a ks = 0 ∨ keysE a ks = 3 ∨ keysE a ks = 6 := by
  induction ks with
  | nil => intro a; exact .inl rfl
  | cons k r ih =>
    intro a
    unfold keysE
    split
    · split
      · exact .inr (.inr rfl)
      · exact ih k
    · exact .inr (.inl rfl)

theorem rootE_ok {v : Int} {ks : List Int} {n : Int} (h : rootE v ks n = 0) : (1 ≤ v ∧ v ≤ 1000) ∧ (1 ≤ ks.length ∧ ks.length ≤ 6) ∧ 1 ≤ n ∧ n ≤ ks.length ∧ keysE 0 ks = 0 := by
  unfold rootE at h
  split at h
  · rename_i h1
    split at h
    · rename_i h2
      split at h
      · rename_i h3
        split at h
        · rename_i h4
          rw [inR_iff] at h1 h2 h4
          exact ⟨h1, by omega, h4.1, h4.2, h3⟩
        · cases h
      · contradiction
    · cases h
  · cases h

theorem keys_in {ks : List Int} : ∀ {a : Int}, keysE a ks = 0 → ∀ k ∈ ks, 1 ≤ k ∧ k ≤ 50 := by
  induction ks with
  | nil => intro a _ k hk; cases hk
  | cons x r ih =>
    intro a h k hk
    unfold keysE at h
    split at h
    · rename_i h1
      split at h
      · cases h
      · rw [inR_iff] at h1
        rcases List.mem_cons.1 hk with rfl | hk
        · exact h1
        · exact ih h k hk
    · cases h

theorem tgts_in {ts : List T3} : ∀ {i : Nat}, tgtsE i ts = 0 → ∀ t ∈ ts, (0 ≤ t.1 ∧ t.1 < i + ts.length) ∧ (1 ≤ t.2.1 ∧ t.2.1 ≤ 60) ∧ 1 ≤ t.2.2 ∧ t.2.2 ≤ 40 := by
  induction ts with
  | nil => intro i _ t ht; cases ht
  | cons x r ih =>
    intro i h t ht
    unfold tgtsE at h
    split at h
    · rename_i h1
      rcases List.mem_cons.1 ht with rfl | ht
      · simp only [tOK, Bool.and_eq_true, inR_iff] at h1
        simp only [List.length_cons]
        omega
      · have := ih h t ht
        simp only [List.length_cons]
        omega
    · cases h

theorem relE_ok {v u : Int} {ts : List T3} (h : relE v u ts = 0) : (1 ≤ v ∧ v ≤ 1000) ∧ (0 ≤ u ∧ u ≤ 100000) ∧ (1 ≤ ts.length ∧ ts.length ≤ 4) ∧ tgtsE 0 ts = 0 := by
  unfold relE at h
  split at h
  · rename_i h1
    split at h
    · rename_i h2
      simp only [Bool.and_eq_true, inR_iff] at h1 h2
      exact ⟨h1.1, h1.2, by omega, h⟩
    · cases h
  · cases h

theorem relE_IR {v u : Int} {ts : List T3} (h : relE v u ts = 0) : IR v u ts := by
  obtain ⟨h1, h2, h3, h4⟩ := relE_ok h
  refine ⟨⟨by omega, by omega⟩, ⟨by omega, by omega⟩, fun t ht => ?_⟩
  have := tgts_in h4 t ht
  exact ⟨⟨by omega, by omega⟩, ⟨by omega, by omega⟩, ⟨by omega, by omega⟩⟩

theorem imgE_ok {w : List Int} (h : imgE w = 0) : (1 ≤ w.length ∧ w.length ≤ 40) ∧ ∀ x ∈ w, 0 ≤ x ∧ x ≤ 65535 := by
  unfold imgE at h
  split at h
  · rename_i h1
    split at h
    · rename_i h2
      rw [inR_iff] at h1
      refine ⟨by omega, fun x hx => ?_⟩
      have := List.all_eq_true.1 h2 x hx
      simpa [wordB] using this
    · cases h
  · cases h

/-! ### A release's text is short -/

theorem relT_len {v u : Int} {ts : List T3} (h : relE v u ts = 0) : (relT v u ts).length ≤ 2000 := by
  obtain ⟨h1, h2, h3, h4⟩ := relE_ok h
  have e1 : ∀ n : Int, (wr [n]).length = (itoa n).length := fun n => by unfold wr; rw [List.map_cons, List.map_nil, join_one]
  have a1 := itoa_len (n := v) 5 (by omega) (by omega)
  have a2 := itoa_len (n := u) 5 (by omega) (by omega)
  have hd : (headT v u).length ≤ 100 := by
    unfold headT
    simp only [List.length_append, e1]
    have : relW.length = 8 := rfl
    have : untW.length = 7 := rfl
    omega
  have := join_len 100 2 (headT v u :: ts.map tgtT) semiW (by decide) (fun x hx => by
    rcases List.mem_cons.1 hx with rfl | hx
    · exact hd
    · obtain ⟨t, ht, rfl⟩ := List.mem_map.1 hx
      have q := tgts_in h4 t ht
      have b1 := itoa_len (n := t.1) 5 (by omega) (by omega)
      have b2 := itoa_len (n := t.2.1) 5 (by omega) (by omega)
      have b3 := itoa_len (n := t.2.2) 5 (by omega) (by omega)
      have := wr_len 6 [t.1, t.2.1, t.2.2] (fun x hx => by simp at hx; rcases hx with rfl | rfl | rfl <;> omega)
      simp at this
      unfold tgtT
      omega)
  simp only [List.length_cons, List.length_map] at this
  unfold relT
  have : (ts.length + 1) * (100 + 2) ≤ 5 * 102 := Nat.mul_le_mul (by omega) (by omega)
  omega

/-! ### Names -/

theorem nameN_zero {ss : List ByteArray} {s : ByteArray} : nameN ss s = 0 ↔ s ∉ ss := by
  induction ss with
  | nil => simp [nameN]
  | cons t r ih =>
    unfold nameN
    by_cases h : t = s
    · simp [h]
    · rw [if_neg h]
      by_cases h0 : nameN r s = 0
      · rw [if_pos h0]
        simp only [List.mem_cons, not_or, true_iff]
        exact ⟨fun e => h e.symm, ih.1 h0⟩
      · rw [if_neg h0]
        have : s ∈ r := Classical.byContradiction fun hn => h0 (ih.2 hn)
        simp [this]

theorem nameN_at {ss : List ByteArray} {s : ByteArray} {n : Nat} : nameN ss s = n + 1 → ss[n]? = some s := by
  induction ss generalizing n with
  | nil => intro h; simp [nameN] at h
  | cons t r ih =>
    intro h
    unfold nameN at h
    split at h
    · rename_i e
      have : n = 0 := by omega
      subst this
      simp [e]
    · split at h
      · cases h
      · rename_i h0
        cases n with
        | zero => omega
        | succ n => simpa using ih (n := n) (by omega)

theorem nameN_le (ss : List ByteArray) (s : ByteArray) : nameN ss s ≤ ss.length := by
  induction ss with
  | nil => simp [nameN]
  | cons t r ih =>
    unfold nameN
    split
    · simp
    · split
      · simp
      · simp; omega

theorem nameN_drop {ss : List ByteArray} {s : ByteArray} : ∀ {k : Nat}, s ∉ ss.take k → nameN ss s = if nameN (ss.drop k) s = 0 then 0 else nameN (ss.drop k) s + k := by
  induction ss with
  | nil => intro k _; simp [nameN]
  | cons t r ih =>
    intro k hk
    cases k with
    | zero => simp
    | succ k =>
      simp only [List.take_succ_cons, List.mem_cons, not_or] at hk
      simp only [List.drop_succ_cons]
      rw [nameN, if_neg (fun e => hk.1 e.symm), ih hk.2]
      split
      · simp
      · rename_i h
        rw [if_neg (by omega)]
        omega

theorem nameN_hit {ss : List ByteArray} {s : ByteArray} {k : Nat} (h : s ∉ ss.take k) (hk : ss[k]? = some s) : nameN ss s = k + 1 := by
  rw [nameN_drop h]
  have : ss.drop k = s :: ss.drop (k + 1) := by
    obtain ⟨hl, e⟩ := List.getElem?_eq_some_iff.1 hk
    rw [List.drop_eq_getElem_cons hl, e]
  rw [this]
  simp [nameN]
  omega

end Go.Proofs.YtgngpmgjoifepaaGreatDoor
