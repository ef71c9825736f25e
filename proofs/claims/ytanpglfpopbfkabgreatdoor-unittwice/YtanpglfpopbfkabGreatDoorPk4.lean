/- The contract of flash.New, and of wainwrightref.SameFlash. The contract of wainwrightlaw.at. Plain facts on lists of words: '&' of words, what is programmed in parts, twice, or behind an Erase. Flash in variables ('FlVar', 'FBox'); parts of lists. -/
import Derived.Test.YtanpglfpopbfkabGreatDoorPk3
import Derived.Deep.DeepCutAuto
namespace Go.Proofs.YtanpglfpopbfkabGreatDoor
open Go.RowKit

set_option maxHeartbeats 400000 in
theorem refSame_any (a : Option Addr) (n c : Nat) (xs : List Int) (fuel : Int) (a2 : Option Addr) (n2 c2 : Nat) (ys : List Int) (fuel2 : Int) (w : World)
    (h : IsInts w a xs) (hn : xs.length = n) (hm : n ≤ maxLen) (h2 : IsInts w a2 ys) (hn2 : ys.length = n2) (hm2 : n2 ≤ maxLen) :
    Calls Tryz.prog 36 #[.agg #[.slice a n c, .int .i64 fuel], .agg #[.slice a2 n2 c2, .int .i64 fuel2]] w fun e w' => e = .returned (.bool (decide (fuel = fuel2) && eqL xs ys)) ∧ Below w.heap.size w w' := by
  have HE := hide (fun W (h : IsInts W a xs) (h2 : IsInts W a2 ys) => equal_at a a2 n n2 c c2 xs ys _ W h h2 hn hn2 rfl hm hm2)
  have hw : Below w.heap.size w ((w.alloc (.cells #[.slice a n c, .int .i64 fuel] 48)).alloc (.cells #[.slice a2 n2 c2, .int .i64 fuel2] 48)) :=
    ((Below.refl _ _).alloc (Nat.le_refl _) _).alloc (by simp) _
  have i0 := h.below hw
  have i1 := h2.below hw
  clear hn hn2
  by_cases e1 : fuel = fuel2
  · subst e1
    go_enter Tryz.func36, Tryz.ntmps36
    go_wp2_with fail
    refine (unhide HE _ i0 i1).mono ?_
    rintro e w1 ⟨rfl, m, rfl⟩
    go_wp2
    go_ret
    exact ⟨ret_bool (by simp), below_drewN hw m⟩
  · have e1' : (fuel == fuel2) = false := by simpa using e1
    go_enter Tryz.func36, Tryz.ntmps36
    go_wp2
    go_ret
    exact ⟨ret_bool (by simp [e1]), hw⟩

/-- The document's New. -/
def newS (s : Int) : List Int × Int × Int := if s < 1 ∨ 6 < s then ([], 0, 3) else (List.replicate (s.toNat * 32) 65535, -1, 0)

def fillTo (L j : Nat) : List Int := List.replicate j 65535 ++ List.replicate (L - j) 0
theorem fillTo_length {L j : Nat} (h : j ≤ L) : (fillTo L j).length = L := by simp [fillTo]; omega
theorem fillTo_step {L j : Nat} (h : j < L) : (fillTo L j).set j 65535 = fillTo L (j + 1) := by
  unfold fillTo
  obtain ⟨r, hr⟩ : ∃ r, L - j = r + 1 := ⟨L - j - 1, by omega⟩
  rw [List.set_append_right _ _ (by simp), hr, show L - (j + 1) = r by omega]
  rw [List.replicate_succ' (n := j)]
  simp [List.replicate_succ]
theorem fillTo_end (L : Nat) : fillTo L L = List.replicate L 65535 := by simp [fillTo]

set_option maxHeartbeats 1000000 in
theorem new_any (s : Int) (w : World) : Calls Tryz.prog 90 #[.int .i64 s] w (Answers w (newS s)) := by
  have hw : Below w.heap.size w (w.alloc (.cells #[.slice none 0 0, .int .i64 0] 48)) := (Below.refl _ _).alloc (Nat.le_refl _) _
  by_cases s0 : s < 1
  · have hr : Hid (newS s = ([], 0, 3)) := by show _ = _; unfold newS; rw [if_pos (by omega)]
    go_enter Tryz.func90, Tryz.ntmps90
    go_wp2
    refine bodyPost_ret (v := .tuple #[.agg #[.slice none 0 0, .int .i64 0], .int .i64 3]) (by simp [results, Tryz.results90, go_sem]) rfl ?_
    exact answers_err hr.out hw
  by_cases s1 : s ≤ 6
  rotate_left
  · have hr : Hid (newS s = ([], 0, 3)) := by show _ = _; unfold newS; rw [if_pos (by omega)]
    go_enter Tryz.func90, Tryz.ntmps90
    go_wp2
    refine bodyPost_ret (v := .tuple #[.agg #[.slice none 0 0, .int .i64 0], .int .i64 3]) (by simp [results, Tryz.results90, go_sem]) rfl ?_
    exact answers_err hr.out hw
  have s1' : decide (6 < s) = false := by simp; omega
  obtain ⟨k, rfl⟩ := Int.eq_ofNat_of_zero_le (show 0 ≤ s by omega)
  have hr : Hid (newS k = (List.replicate (k * 32) 65535, -1, 0)) := by show _ = _; unfold newS; rw [if_neg (by omega), Int.toNat_natCast]
  have hmk := make_ints (k * 32) (w.alloc (.cells #[.slice none 0 0, .int .i64 0] 48)) (by omega)
  rw [show ((k * 32 : Nat) : Int) = (k : Int) * 32 from by omega] at hmk
  have hb1 : (w.alloc (.cells #[.slice none 0 0, .int .i64 0] 48)).heap[w.heap.size]? = some (.cells #[.slice none 0 0, .int .i64 0] 48 (0, 0)) := heap_alloc_last _ _
  have HB := hide hb1
  clear hb1
  go_enter Tryz.func90, Tryz.ntmps90
  go_wp2
  go_loopw [18] (fun i wr => ∃ j : Nat, j ≤ k * 32 ∧ i = .int .i64 j ∧ OwnInts wr (w.heap.size + 1) (fillTo (k * 32) j) ∧ Below (w.heap.size + 1) (w.alloc (.cells #[.slice none 0 0, .int .i64 0] 48)) wr) (fun i _ => k * 32 - (intOf i).toNat)
  case atStart =>
    refine ⟨0, Nat.zero_le _, rfl, ?_, (Below.refl _ _).alloc (by simp) _⟩
    have := heap_alloc_last (w.alloc (.cells #[.slice none 0 0, .int .i64 0] 48)) (.cells (vals (List.replicate (k * 32) 0)).toArray 3)
    simpa [OwnInts, fillTo] using this
  case round =>
    obtain ⟨j, hj, rfl, how, hbe⟩ := hrel
    by_cases hlt : j < k * 32
    · have hjl : j < (fillTo (k * 32) j).length := by rw [fillTo_length hj]; exact hlt
      have cw := how.cell j hjl
      have fw := how.free j
      have i1 : (j : Int) < (k : Int) * 32 := by omega
      go_wp2
      go_roundw
      case rel => exact ⟨j + 1, by omega, by go_num, by rw [← fillTo_step hlt]; exact how.set j 65535, hbe.setCell (by simp) _⟩
      case measure => simp [intOf]; omega
    · have i1 : ¬ (j : Int) < (k : Int) * 32 := by omega
      have hb2 := blk_lt HB.out
      have D := hide (show wr.heap[w.heap.size]? = _ from (hbe.block _ (by omega)).trans HB.out)
      have c0 := blk_cell D.out 0 _ rfl
      have c1 := blk_cell D.out 1 _ rfl
      have f0 := blk_free D.out 0
      have f1 := blk_free D.out 1
      go_wp2
      refine bodyPost_ret (v := .tuple #[.agg #[.slice (some ⟨w.heap.size + 1, 0, none⟩) (k * 32) (k * 32), .int .i64 (-1)], .int .i64 0]) (by simp [results, Tryz.results90, go_sem, c0, c1]) rfl ?_
      refine ⟨⟨some ⟨w.heap.size + 1, 0, none⟩, k * 32, k * 32, by rw [hr.out], ?_, by rw [hr.out]; simp, Nat.le_refl _, FreshA.here (by omega) 0⟩, ?_⟩
      · rw [hr.out]
        obtain rfl : j = k * 32 := by omega
        rw [fillTo_end] at how
        exact ((how.other _ 0 _ (by omega)).other _ 1 _ (by omega)).isInts
      · exact ((hw.trans (hbe.mono (by omega))).setCell (by simp) _).setCell (by simp) _

end Go.Proofs.YtanpglfpopbfkabGreatDoor

namespace Go.Proofs.YtanpglfpopbfkabGreatDoor
open Go.RowKit

set_option maxHeartbeats 400000 in
theorem at_any (k n : Int) (w : World) (h0 : 0 < n) (h1 : n ≤ 9223372036854775807) (hk : -9223372036854775808 ≤ k ∧ k ≤ 9223372036854775807) :
    Calls Tryz.prog 25 #[.int .i64 k, .int .i64 n] w fun e w' => e = .returned (.int .i64 (k % n)) ∧ w' = w := by
  have hz : (n == 0) = false := by simp; omega
  have t1 := Int.emod_nonneg k (show n ≠ 0 by omega)
  have t2 := Int.emod_lt_of_pos k h0
  by_cases c : 0 ≤ k
  · have ht : k.tmod n = k % n := Int.tmod_eq_emod_of_nonneg c
    go_enter Tryz.func25, Tryz.ntmps25
    go_wp2
    go_ret
    exact ⟨rfl, rfl⟩
  · by_cases d : n ∣ k
    · have ht : k.tmod n = k % n := by rw [Int.tmod_eq_emod, if_pos (Or.inr d)]; omega
      go_enter Tryz.func25, Tryz.ntmps25
      go_wp2
      go_ret
      exact ⟨rfl, rfl⟩
    · have ht : k.tmod n = k % n - n := by rw [Int.tmod_eq_emod, if_neg (by simp [d]; omega)]; omega
      have hneg : k % n - n < 0 := by omega
      go_enter Tryz.func25, Tryz.ntmps25
      go_wp2
      go_ret
      exact ⟨ret_intk (by omega), rfl⟩

end Go.Proofs.YtanpglfpopbfkabGreatDoor

namespace Go.Proofs.YtanpglfpopbfkabGreatDoor
open Go.RowKit

theorem ofInt_i64 (a : Nat) (ha : a < 18446744073709551616) : (BitVec.ofInt 64 (a : Int)).toNat = a := by
  rw [BitVec.toNat_ofInt]; omega

theorem and_nat (a b : Nat) (ha : a < 65536) (hb : b < 65536) : bits .and .i64 (a : Int) (b : Int) = ((a &&& b : Nat) : Int) := by
  have h : a &&& b < 65536 := Nat.lt_of_le_of_lt Nat.and_le_left ha
  show IntKind.i64.wrap ((BitVec.ofInt 64 (a : Int) &&& BitVec.ofInt 64 (b : Int)).toNat : Int) = _
  rw [BitVec.toNat_and, ofInt_i64 a (by omega), ofInt_i64 b (by omega), IntKind.wrap_i64]
  omega

theorem and_words {x y : Int} (hx : okW x = true) (hy : okW y = true) : bits .and .i64 x y = ((x.toNat &&& y.toNat : Nat) : Int) := by
  simp [okW] at hx hy
  have := and_nat x.toNat y.toNat (by omega) (by omega)
  rw [Int.toNat_of_nonneg hx.1, Int.toNat_of_nonneg hy.1] at this
  exact this

theorem and_ok {x y : Int} (hx : okW x = true) (hy : okW y = true) : okW (bits .and .i64 x y) = true := by
  rw [and_words hx hy]
  simp [okW] at hx ⊢
  have : x.toNat &&& y.toNat ≤ x.toNat := Nat.and_le_left
  omega

theorem and_full {y : Int} (hy : okW y = true) : bits .and .i64 65535 y = y := by
  rw [and_words rfl hy]
  simp [okW] at hy
  have h : (65535 : Int).toNat &&& y.toNat = y.toNat := by
    show 65535 &&& y.toNat = _
    rw [Nat.and_comm]
    have := Nat.and_two_pow_sub_one_eq_mod y.toNat 16
    simp at this
    rw [this]; omega
  rw [h]; omega

theorem getD_at {xs : List Int} {i : Nat} (hi : i < xs.length) : xs.getD i 0 = xs[i] := by simp [hi]

theorem okL_get {xs : List Int} (h : okL xs = true) (i : Nat) (hi : i < xs.length) : okW (xs.getD i 0) = true := by
  unfold okL at h
  rw [List.all_eq_true] at h
  rw [getD_at hi]
  exact h _ (List.getElem_mem hi)

theorem okL_of {xs : List Int} (h : ∀ i, i < xs.length → okW (xs.getD i 0) = true) : okL xs = true := by
  unfold okL
  rw [List.all_eq_true]
  intro x hx
  obtain ⟨i, hi, rfl⟩ := List.getElem_of_mem hx
  have := h i hi
  rwa [getD_at hi] at this

theorem ext_getD {xs ys : List Int} (hl : xs.length = ys.length) (h : ∀ i, i < xs.length → xs.getD i 0 = ys.getD i 0) : xs = ys := by
  apply List.ext_getElem hl
  intro i h1 h2
  have := h i h1
  rwa [getD_at h1, getD_at h2] at this

theorem okL_take {xs : List Int} (k : Nat) (h : okL xs = true) : okL (xs.take k) = true := by
  unfold okL at *
  rw [List.all_eq_true] at *
  exact fun x hx => h x (List.mem_of_mem_take hx)

theorem okL_drop {xs : List Int} (k : Nat) (h : okL xs = true) : okL (xs.drop k) = true := by
  unfold okL at *
  rw [List.all_eq_true] at *
  exact fun x hx => h x (List.mem_of_mem_drop hx)

/-- What is programmed into words is words. -/
theorem chg_ok {ws words : List Int} {p k : Nat} (h : okL ws = true) (h2 : okL words = true) (hk : k ≤ words.length) (_hf : p + k ≤ ws.length) : okL (chg (andW words) p k ws) = true := by
  apply okL_of
  intro i hi
  rw [chg_length] at hi
  rw [chg_get _ _ _ _ _ hi]
  split
  · exact and_ok (okL_get h i hi) (okL_get h2 _ (by omega))
  · exact okL_get h i hi

theorem chk_chg {ws : List Int} {fuel f : Int} (h : chk ws fuel = 0) (nx : Nat → Int → Int) (p k : Nat) (hok : okL (chg nx p k ws) = true) (h0 : -1 ≤ f) (h1 : f ≤ 100000) : chk (chg nx p k ws) f = 0 := by
  have q := chk_parts h
  apply chk_ok
  · rw [chg_length]; exact decide_eq_true q.1
  · unfold rangeB; rw [hok]; simp; omega

theorem chk_fuel {ws : List Int} {fuel f : Int} (h : chk ws fuel = 0) (h0 : -1 ≤ f) (h1 : f ≤ 100000) : chk ws f = 0 := by
  have q := chk_parts h
  apply chk_ok
  · exact decide_eq_true q.1
  · unfold rangeB; rw [q.2.2.2]; simp; omega

theorem prog_ok {ws words : List Int} {fuel : Int} {p : Nat} (h : chk ws fuel = 0) (hf : p + words.length ≤ ws.length) (h2 : okL words = true) :
    progS ws fuel p words = (chg (andW words) p (cnt fuel words.length) ws, burn fuel (cnt fuel words.length), perr fuel words.length) := by
  unfold progS
  rw [if_neg (by simpa using h), if_neg (by unfold fitB; simp; omega), if_neg (by simp [h2]), Int.toNat_natCast]

theorem prog_full {ws words : List Int} {p : Nat} (h : chk ws (-1) = 0) (hf : p + words.length ≤ ws.length) (h2 : okL words = true) :
    progS ws (-1) p words = (chg (andW words) p words.length ws, -1, 0) := by
  rw [prog_ok h hf h2, cnt_neg _ (by decide), burn_negf _ (by decide), perr_ok (cnt_neg _ (by decide))]

end Go.Proofs.YtanpglfpopbfkabGreatDoor

namespace Go.Proofs.YtanpglfpopbfkabGreatDoor
open Go.RowKit
attribute [local go_sem ↓] Go.wp_at_zero Go.wp_at_succ

theorem FreshA.mono {B B' : Nat} {a : Option Addr} (h : FreshA B a) (hB : B' ≤ B) : FreshA B' a := fun x hx => Nat.le_trans hB (h x hx)

theorem IsInts.take {w : World} {a : Option Addr} {xs : List Int} (h : IsInts w a xs) (j : Nat) : IsInts w a (xs.take j) := by
  rcases h with rfl | ⟨b, off, rfl, hc⟩
  · exact .inl (by simp)
  · refine .inr ⟨b, off, rfl, fun i hi => ?_⟩
    have hi' : i < j ∧ i < xs.length := by simp at hi; omega
    rw [hc i hi'.2]
    simp [hi'.1]

theorem IsInts.drop {w : World} {b off : Nat} {xs : List Int} (h : IsInts w (some ⟨b, off, none⟩) xs) (j : Nat) : IsInts w (some ⟨b, off + j, none⟩) (xs.drop j) := by
  rcases h with rfl | ⟨b', off', e, hc⟩
  · exact .inl (by simp)
  · cases e
    refine .inr ⟨b, off + j, rfl, fun i hi => ?_⟩
    simp at hi
    rw [Nat.add_assoc, hc (j + i) (by omega)]
    simp

end Go.Proofs.YtanpglfpopbfkabGreatDoor
