/- Plain facts on lists of words: '&' of words, what is programmed in parts, twice, or behind an Erase. Flash in variables ('FlVar', 'FBox'); parts of lists. The contracts of log.checkSectors, generationOf, counting, Check: what a log's two sectors say. -/
import Derived.Test.YtppmdfndcjgibacGreatDoorPk2
import Derived.Deep.DeepCutAuto
namespace Go.Proofs.YtppmdfndcjgibacGreatDoor
open Go.RowKit

theorem ofInt_i64 (a : Nat) (ha : a < 18446744073709551616) : (BitVec.ofInt 64 (a : Int)).toNat = a := by
  rw [BitVec.toNat_ofInt]; omega

theorem and_nat (a b : Nat) (ha : a < 65536) (hb : b < 65536) : bits .and .i64 (a : Int) (b : Int) = ((a &&& b : Nat) : Int) := by
  have h : a &&& b < 65536 := Nat.lt_of_le_of_lt Nat.and_le_left ha
  show IntKind.i64.wrap ((BitVec.ofInt 64 (a : Int) &&& BitVec.ofInt 64 (b : Int)).toNat : Int) = _
  rw [BitVec.toNat_and, ofInt_i64 a (by omega), ofInt_i64 b (by omega), IntKind.wrap_i64]
  omega

theorem and_words {x y : Int} (hx : okW x = true) (hy : okW y = true) : bits .and .i64 x y = ((x.toNat &&& y.toNat : Nat) : Int) := by
  simp [okW] at hx hy
  have := and_nat x.toNat y.toNat (by omega) (by omega)
  rw [Int.toNat_of_nonneg hx.1, Int.toNat_of_nonneg hy.1] at this
  exact this

theorem and_ok {x y : Int} (hx : okW x = true) (hy : okW y = true) : okW (bits .and .i64 x y) = true := by
  rw [and_words hx hy]
  simp [okW] at hx ⊢
  have : x.toNat &&& y.toNat ≤ x.toNat := Nat.and_le_left
  omega

theorem and_twice {x y : Int} (hx : okW x = true) (hy : okW y = true) : bits .and .i64 (bits .and .i64 x y) y = bits .and .i64 x y := by
  rw [and_words (and_ok hx hy) hy, and_words hx hy, Int.toNat_natCast, Nat.and_assoc, Nat.and_self]

theorem and_full {y : Int} (hy : okW y = true) : bits .and .i64 65535 y = y := by
  rw [and_words rfl hy]
  simp [okW] at hy
  have h : (65535 : Int).toNat &&& y.toNat = y.toNat := by
    show 65535 &&& y.toNat = _
    rw [Nat.and_comm]
    have := Nat.and_two_pow_sub_one_eq_mod y.toNat 16
    simp at this
    rw [this]; omega
  rw [h]; omega

theorem getD_at {xs : List Int} {i : Nat} (hi : i < xs.length) : xs.getD i 0 = xs[i] := by simp [hi]

theorem okL_get {xs : List Int} (h : okL xs = true) (i : Nat) (hi : i < xs.length) : okW (xs.getD i 0) = true := by
  unfold okL at h
  rw [List.all_eq_true] at h
  rw [getD_at hi]
  exact h _ (List.getElem_mem hi)

theorem okL_of {xs : List Int} (h : ∀ i, i < xs.length → okW (xs.getD i 0) = true) : okL xs = true := by
  unfold okL
  rw [List.all_eq_true]
  intro x hx
  obtain ⟨i, hi, rfl⟩ := List.getElem_of_mem hx
  have := h i hi
  rwa [getD_at hi] at this

theorem ext_getD {xs ys : List Int} (hl : xs.length = ys.length) (h : ∀ i, i < xs.length → xs.getD i 0 = ys.getD i 0) : xs = ys := by
  apply List.ext_getElem hl
  intro i h1 h2
  have := h i h1
  rwa [getD_at h1, getD_at h2] at this

theorem okL_take {xs : List Int} (k : Nat) (h : okL xs = true) : okL (xs.take k) = true := by
  unfold okL at *
  rw [List.all_eq_true] at *
  exact fun x hx => h x (List.mem_of_mem_take hx)

theorem okL_drop {xs : List Int} (k : Nat) (h : okL xs = true) : okL (xs.drop k) = true := by
  unfold okL at *
  rw [List.all_eq_true] at *
  exact fun x hx => h x (List.mem_of_mem_drop hx)

/-- What is programmed into words is words. -/
theorem chg_ok {ws words : List Int} {p k : Nat} (h : okL ws = true) (h2 : okL words = true) (hk : k ≤ words.length) (_hf : p + k ≤ ws.length) : okL (chg (andW words) p k ws) = true := by
  apply okL_of
  intro i hi
  rw [chg_length] at hi
  rw [chg_get _ _ _ _ _ hi]
  split
  · exact and_ok (okL_get h i hi) (okL_get h2 _ (by omega))
  · exact okL_get h i hi

theorem chk_chg {ws : List Int} {fuel f : Int} (h : chk ws fuel = 0) (nx : Nat → Int → Int) (p k : Nat) (hok : okL (chg nx p k ws) = true) (h0 : -1 ≤ f) (h1 : f ≤ 100000) : chk (chg nx p k ws) f = 0 := by
  have q := chk_parts h
  apply chk_ok
  · rw [chg_length]; exact decide_eq_true q.1
  · unfold rangeB; rw [hok]; simp; omega

theorem chk_fuel {ws : List Int} {fuel f : Int} (h : chk ws fuel = 0) (h0 : -1 ≤ f) (h1 : f ≤ 100000) : chk ws f = 0 := by
  have q := chk_parts h
  apply chk_ok
  · exact decide_eq_true q.1
  · unfold rangeB; rw [q.2.2.2]; simp; omega

theorem prog_ok {ws words : List Int} {fuel : Int} {p : Nat} (h : chk ws fuel = 0) (hf : p + words.length ≤ ws.length) (h2 : okL words = true) :
    progS ws fuel p words = (chg (andW words) p (cnt fuel words.length) ws, burn fuel (cnt fuel words.length), perr fuel words.length) := by
  unfold progS
  rw [if_neg (by simpa using h), if_neg (by unfold fitB; simp; omega), if_neg (by simp [h2]), Int.toNat_natCast]

theorem prog_full {ws words : List Int} {p : Nat} (h : chk ws (-1) = 0) (hf : p + words.length ≤ ws.length) (h2 : okL words = true) :
    progS ws (-1) p words = (chg (andW words) p words.length ws, -1, 0) := by
  rw [prog_ok h hf h2, cnt_neg _ (by decide), burn_negf _ (by decide), perr_ok (cnt_neg _ (by decide))]

theorem prog_just {ws words : List Int} {p : Nat} (h : chk ws (-1) = 0) (hf : p + words.length ≤ ws.length) (h2 : okL words = true) :
    progS ws words.length p words = (chg (andW words) p words.length ws, 0, 0) := by
  have q := chk_parts h
  have e : cnt (words.length : Int) words.length = words.length := by rw [cnt_nn _ (by omega)]; omega
  rw [prog_ok (chk_fuel h (by omega) (by omega)) hf h2, e, burn_nn _ (by omega), perr_ok e]
  simp

/-- Where Program says OK it was right, and is done. -/
theorem prog_yes {ws words : List Int} {p : Int} (h : (progS ws (-1) p words).2.2 = 0) : chk ws (-1) = 0 ∧ 0 ≤ p ∧ p + words.length ≤ ws.length ∧ okL words = true := by
  unfold progS at h
  split at h
  · rename_i c; exact absurd h c
  · split at h
    · simp at h
    · split at h
      · simp at h
      · rename_i h1 h2 h3
        simp [fitB] at h2
        simp at h1 h3
        exact ⟨h1, by omega, by omega, h3⟩

theorem parts_two {ws words : List Int} {p k : Nat} (hk : k ≤ words.length) :
    chg (andW (words.drop k)) (p + k) (words.length - k) (chg (andW (words.take k)) p k ws) = chg (andW words) p words.length ws := by
  apply ext_getD (by simp [chg_length])
  intro i hi
  simp only [chg_length] at hi
  rw [chg_get _ _ _ _ _ (by rw [chg_length]; exact hi), chg_get _ _ _ _ _ hi, chg_get _ _ _ _ _ hi]
  by_cases c1 : p ≤ i ∧ i < p + k
  · rw [if_neg (by omega), if_pos c1, if_pos ⟨c1.1, by omega⟩]
    unfold andW
    congr 1
    simp [show i - p < k by omega]
  · by_cases c2 : p + k ≤ i ∧ i < p + k + (words.length - k)
    · rw [if_pos c2, if_neg c1, if_pos ⟨by omega, by omega⟩]
      unfold andW
      congr 1
      simp [show k + (i - (p + k)) = i - p by omega]
    · rw [if_neg c2, if_neg c1, if_neg (by omega)]

theorem parts_again {ws words : List Int} {p : Nat} (h : okL ws = true) (h2 : okL words = true) :
    chg (andW words) p words.length (chg (andW words) p words.length ws) = chg (andW words) p words.length ws := by
  apply ext_getD (by simp [chg_length])
  intro i hi
  simp only [chg_length] at hi
  rw [chg_get _ _ _ _ _ (by rw [chg_length]; exact hi), chg_get _ _ _ _ _ hi]
  by_cases c1 : p ≤ i ∧ i < p + words.length
  · rw [if_pos c1, if_pos c1]
    exact and_twice (okL_get h i hi) (okL_get h2 _ (by omega))
  · rw [if_neg c1, if_neg c1]

end Go.Proofs.YtppmdfndcjgibacGreatDoor

namespace Go.Proofs.YtppmdfndcjgibacGreatDoor
open Go.RowKit
attribute [local go_sem ↓] Go.wp_at_zero Go.wp_at_succ

/-- A variable (block b) that holds a flash of these words and this fuel. -/
def FlVar (B : Nat) (w : World) (b : Nat) (ws : List Int) (fuel : Int) : Prop :=
  ∃ a n c, w.heap[b]? = some (.cells #[.slice a n c, .int .i64 fuel] 27 (0, 0)) ∧ IsInts w a ws ∧ ws.length = n ∧ n ≤ c ∧ FreshA B a

theorem FreshA.mono {B B' : Nat} {a : Option Addr} (h : FreshA B a) (hB : B' ≤ B) : FreshA B' a := fun x hx => Nat.le_trans hB (h x hx)

theorem FlVar.below {B : Nat} {w w' : World} {b : Nat} {ws : List Int} {fuel : Int} (h : FlVar B w b ws fuel) (hb : Below w.heap.size w w') : FlVar B w' b ws fuel := by
  obtain ⟨a, n, c, h1, h2, h3, h4⟩ := h
  exact ⟨a, n, c, blk_below h1 hb, h2.below hb, h3, h4⟩

theorem FlVar.lt {B : Nat} {w : World} {b : Nat} {ws : List Int} {fuel : Int} (h : FlVar B w b ws fuel) : b < w.heap.size := by
  obtain ⟨a, n, c, h1, _⟩ := h
  exact blk_lt h1

theorem flVar_new {B : Nat} {w : World} {a : Option Addr} {n c : Nat} {ws : List Int} (fuel : Int) (h : IsInts w a ws) (hn : ws.length = n) (hc : n ≤ c) (hf : FreshA B a) :
    FlVar B (w.alloc (.cells #[.slice a n c, .int .i64 fuel] 27)) w.heap.size ws fuel :=
  ⟨a, n, c, heap_alloc_last _ _, h.alloc _, hn, hc, hf⟩

theorem FlVar.other {B : Nat} {w : World} {b : Nat} {ws : List Int} {fuel : Int} (h : FlVar B w b ws fuel) {b' : Nat} (hb : b' < B) (hne : b ≠ b') (i : Nat) (v : Value) : FlVar B (w.setCell ⟨b', i, none⟩ v) b ws fuel := by
  obtain ⟨a, n, c, h1, h2, h3, h4, h5⟩ := h
  exact ⟨a, n, c, by rw [Below.heap_setCell _ _ _ _ hne]; exact h1, h2.other h5 hb i v, h3, h4, h5⟩

/-- The variable (block b) that holds just this flash. -/
def FBox (w : World) (b : Nat) (a : Option Addr) (n c : Nat) (fuel : Int) : Prop := w.heap[b]? = some (.cells #[.slice a n c, .int .i64 fuel] 27 (0, 0))
theorem FBox.below {w w' : World} {b : Nat} {a : Option Addr} {n c : Nat} {fuel : Int} (h : FBox w b a n c fuel) (hb : Below w.heap.size w w') : FBox w' b a n c fuel := blk_below h hb

theorem flVar_stored {w : World} {B B' b : Nat} {v0 v1 : Value} {a : Option Addr} {n c : Nat} {ws : List Int} {fuel : Int} (hb : w.heap[b]? = some (.cells #[v0, v1] 27 (0, 0))) (hi : IsInts w a ws) (hf : FreshA B a) (hlt : b < B) (hn : ws.length = n) (hc : n ≤ c) (hB : B' ≤ B) :
    FlVar B' ((w.setCell ⟨b, 0, none⟩ (.slice a n c)).setCell ⟨b, 1, none⟩ (.int .i64 fuel)) b ws fuel := by
  refine ⟨a, n, c, ?_, (hi.other hf hlt 0 _).other hf hlt 1 _, hn, hc, hf.mono hB⟩
  simp only [World.setCell, Array.getElem?_modify]
  simp [hb]

theorem keepNew {P : Prop} {W w5 : World} {b : Nat} {v0 v1 : Value} {t : TypeId} (hb : Below W.heap.size W w5) (hW : W.heap[b]? = some (.cells #[v0, v1] t (0, 0)))
    (k : w5.cell? ⟨b, 0, none⟩ = some v0 → w5.cell? ⟨b, 1, none⟩ = some v1 → w5.frozen? ⟨b, 0, none⟩ = false → w5.frozen? ⟨b, 1, none⟩ = false → P) : P :=
  k (blk_cell (blk_below hW hb) 0 _ rfl) (blk_cell (blk_below hW hb) 1 _ rfl) (blk_free (blk_below hW hb) 0) (blk_free (blk_below hW hb) 1)

/-- Behind Program, called in a world W that has grown out of w: the old world as it was, too. -/
theorem program_from (w : World) (a : Option Addr) (n c : Nat) (ws : List Int) (fuel p : Int) (a2 : Option Addr) (n2 c2 : Nat) (words : List Int) (r : List Int) (f e0 : Int) (hr : progS ws fuel p words = (r, f, e0))
    (h : IsInts w a ws) (hn : ws.length = n) (hm : n ≤ maxLen) (h2 : IsInts w a2 words) (hn2 : words.length = n2) (hm2 : n2 ≤ maxLen) (hp : -9223372036854775808 ≤ p ∧ p ≤ 9223372036854775807) (W : World) (hb : Below w.heap.size w W) :
    Calls Tryz.prog 160 #[.agg #[.slice a n c, .int .i64 fuel], .int .i64 p, .slice a2 n2 c2] W fun e w' =>
      ∃ a' n' c', e = .returned (.tuple #[.agg #[.slice a' n' c', .int .i64 f], .int .i64 e0]) ∧ IsInts w' a' r ∧ r.length = n' ∧ n' ≤ c' ∧ FreshA W.heap.size a' ∧ Below W.heap.size W w' ∧ Below w.heap.size w w' := by
  refine (program_any a n c ws fuel p a2 n2 c2 words W (h.below hb) hn hm (h2.below hb) hn2 hm2 hp).mono ?_
  intro e w' hA
  obtain ⟨a', n', c', h1, h2, h3, h4, h5, h6⟩ := hA.opened hr
  exact ⟨a', n', c', h1, h2, h3, h4, h5, h6, hb.trans (h6.mono hb.size)⟩

theorem eqL_self (xs : List Int) : eqL xs xs = true := by unfold eqL; simp

theorem IsInts.take {w : World} {a : Option Addr} {xs : List Int} (h : IsInts w a xs) (j : Nat) : IsInts w a (xs.take j) := by
  rcases h with rfl | ⟨b, off, rfl, hc⟩
  · exact .inl (by simp)
  · refine .inr ⟨b, off, rfl, fun i hi => ?_⟩
    have hi' : i < j ∧ i < xs.length := by simp at hi; omega
    rw [hc i hi'.2]
    simp [hi'.1]

theorem IsInts.drop {w : World} {b off : Nat} {xs : List Int} (h : IsInts w (some ⟨b, off, none⟩) xs) (j : Nat) : IsInts w (some ⟨b, off + j, none⟩) (xs.drop j) := by
  rcases h with rfl | ⟨b', off', e, hc⟩
  · exact .inl (by simp)
  · cases e
    refine .inr ⟨b, off + j, rfl, fun i hi => ?_⟩
    simp at hi
    rw [Nat.add_assoc, hc (j + i) (by omega)]
    simp

end Go.Proofs.YtppmdfndcjgibacGreatDoor

namespace Go.Proofs.YtppmdfndcjgibacGreatDoor
open Go.RowKit
attribute [local go_sem ↓] Go.wp_at_zero Go.wp_at_succ

/-- The document's first errors of a log. -/
def secS (ws : List Int) (fuel : Int) : Int := if chk ws fuel ≠ 0 then chk ws fuel else if ws.length < 64 then 4 else 0
/-- A sector's generation. -/
def genS (ws : List Int) (s : Nat) : Int := if ws.getD (s * 32) 0 = 65535 then 0 else ws.getD (s * 32) 0
/-- The sector that counts, and its generation. -/
def secN (ws : List Int) : Nat := if genS ws 0 < genS ws 1 then 1 else 0
def genN (ws : List Int) : Int := if genS ws 0 < genS ws 1 then genS ws 1 else genS ws 0
/-- The document's Check of a log. -/
def lchk (ws : List Int) (fuel : Int) : Int := if secS ws fuel ≠ 0 then secS ws fuel else if genN ws = 0 ∨ 60000 < genN ws then 5 else 0

set_option maxRecDepth 100000 in
set_option maxHeartbeats 400000 in
theorem checkSectors_any (a : Option Addr) (n c : Nat) (ws : List Int) (fuel : Int) (w : World) (h : IsInts w a ws) (hn : ws.length = n) (hm : n ≤ maxLen) :
    Calls Tryz.prog 111 #[.agg #[.slice a n c, .int .i64 fuel]] w fun e w' => e = .returned (.int .i64 (secS ws fuel)) ∧ Below w.heap.size w w' := by
  have HC := hide (fun W (h : IsInts W a ws) => check_any a n c ws fuel W h hn hm)
  have hw : Below w.heap.size w (w.alloc (.cells #[.slice a n c, .int .i64 fuel] 27)) := (Below.refl _ _).alloc (Nat.le_refl _) _
  have B0 := hide (heap_alloc_last w (.cells #[.slice a n c, .int .i64 fuel] 27))
  have i0 := h.below hw
  have HN := hide hn
  clear hn
  unfold maxLen at hm
  go_enter Tryz.func111, Tryz.ntmps111
  go_wp2_with fail
  generalize w.alloc (.cells #[.slice a n c, .int .i64 fuel] 27) = W at *
  refine (unhide HC _ i0).mono ?_
  rintro e w1 ⟨rfl, hb1⟩
  have hw1 := hw.trans (hb1.mono hw.size)
  by_cases e1 : chk ws fuel = 0
  rotate_left
  · have e1' : (chk ws fuel != 0) = true := by simpa using e1
    have hr : Hid (secS ws fuel = chk ws fuel) := by show _ = _; unfold secS; rw [if_pos e1]
    go_wp2
    go_ret
    exact ⟨ret_intk hr.out.symm, hw1⟩
  have e1' : (chk ws fuel != 0) = false := by simpa using e1
  have E1 := hide e1
  clear e1
  have c00 := blk_cell (blk_below B0.out hb1) 0 _ rfl
  by_cases hl : n < 64
  · have hr : Hid (secS ws fuel = 4) := by show _ = _; unfold secS; rw [if_neg (by simpa using E1.out), if_pos (by rw [HN.out]; exact hl)]
    go_wp2
    go_ret
    exact ⟨ret_intk hr.out.symm, hw1⟩
  · have hr : Hid (secS ws fuel = 0) := by show _ = _; unfold secS; rw [if_neg (by simpa using E1.out), if_neg (by rw [HN.out]; exact hl)]
    have hl' : ¬ (n : Int) < 64 := by omega
    go_wp2
    go_ret
    exact ⟨ret_intk hr.out.symm, hw1⟩

set_option maxRecDepth 100000 in
set_option maxHeartbeats 400000 in
theorem generationOf_any (a : Option Addr) (n c : Nat) (ws : List Int) (fuel : Int) (s : Nat) (w : World) (h : IsInts w a ws) (hn : ws.length = n) (hm : n ≤ maxLen) (hs : s * 32 < n) :
    Calls Tryz.prog 163 #[.agg #[.slice a n c, .int .i64 fuel], .int .i64 s] w fun e w' => e = .returned (.int .i64 (genS ws s)) ∧ Below w.heap.size w w' := by
  have hw : Below w.heap.size w (w.alloc (.cells #[.slice a n c, .int .i64 fuel] 27)) := (Below.refl _ _).alloc (Nat.le_refl _) _
  have i0 := h.below hw
  have HN := hide hn
  have hs2 : s * 32 < ws.length := by omega
  clear hn
  unfold maxLen at hm
  rcases i0 with rfl | ⟨b, off, rfl, hc⟩
  · simp at hs2
  have e0 := hc (s * 32) hs2
  clear hc
  have i1 : (0 : Int) ≤ (s : Int) * 32 := by omega
  have i2 : (s : Int) * 32 < (n : Int) := by omega
  have i4 : ((s : Int) * 32).toNat = s * 32 := by omega
  obtain ⟨g, hg⟩ : ∃ g, g = ws.getD (s * 32) 0 := ⟨_, rfl⟩
  rw [← hg] at e0
  by_cases hz : g = 65535
  · have hr : Hid (genS ws s = 0) := by show _ = _; unfold genS; rw [← hg, if_pos hz]
    subst hz
    clear hg
    go_enter Tryz.func163, Tryz.ntmps163
    go_wp2
    go_ret
    exact ⟨ret_intk hr.out.symm, hw⟩
  · have hr : Hid (genS ws s = g) := by show _ = _; unfold genS; rw [← hg, if_neg hz]
    have hz' : (g != 65535) = true := by simpa using hz
    clear hg
    go_enter Tryz.func163, Tryz.ntmps163
    go_wp2
    go_ret
    exact ⟨ret_intk hr.out.symm, hw⟩

def genI (ws : List Int) (s : Int) : Int := genS ws s.toNat
theorem generationI_any (a : Option Addr) (n c : Nat) (ws : List Int) (fuel : Int) (s : Int) (w : World) (h : IsInts w a ws) (hn : ws.length = n) (hm : n ≤ maxLen) (hs : 0 ≤ s ∧ s < 2) (h64 : 64 ≤ n) :
    Calls Tryz.prog 163 #[.agg #[.slice a n c, .int .i64 fuel], .int .i64 s] w fun e w' => e = .returned (.int .i64 (genI ws s)) ∧ Below w.heap.size w w' := by
  obtain ⟨k, rfl⟩ := Int.eq_ofNat_of_zero_le hs.1
  exact generationOf_any a n c ws fuel k w h hn hm (by omega)

def CountsAns (w : World) (ws : List Int) (e : Ending) (w' : World) : Prop :=
  e = .returned (.tuple #[.int .i64 (secN ws), .int .i64 (genN ws)]) ∧ Below w.heap.size w w'

theorem ret_two {a b c d : Int} (h1 : a = c) (h2 : b = d) : Ending.returned (.tuple #[.int .i64 a, .int .i64 b]) = .returned (.tuple #[.int .i64 c, .int .i64 d]) := by rw [h1, h2]

set_option maxRecDepth 100000 in
set_option maxHeartbeats 1000000 in
theorem counting_any (a : Option Addr) (n c : Nat) (ws : List Int) (fuel : Int) (w : World) (h : IsInts w a ws) (hn : ws.length = n) (hm : n ≤ maxLen) (h64 : 64 ≤ n) :
    Calls Tryz.prog 117 #[.agg #[.slice a n c, .int .i64 fuel]] w (CountsAns w ws) := by
  have hw : Below w.heap.size w (w.alloc (.cells #[.slice a n c, .int .i64 fuel] 27)) := (Below.refl _ _).alloc (Nat.le_refl _) _
  have i0 := h.below hw
  have HG := hide (fun W (s : Int) (h : IsInts W a ws) (hs : 0 ≤ s ∧ s < 2) => generationI_any a n c ws fuel s W h hn hm hs h64)
  have B0 := hide (heap_alloc_last w (.cells #[.slice a n c, .int .i64 fuel] 27))
  have HN := hide hn
  clear hn
  unfold maxLen at hm
  go_enter Tryz.func117, Tryz.ntmps117
  go_upto_region 1 with fail
  generalize w.alloc (.cells #[.slice a n c, .int .i64 fuel] 27) = W at *
  have x0 : W.cell? ⟨w.heap.size, 0, none⟩ = some (.slice a n c) := blk_cell B0.out 0 _ rfl
  have x1 : W.cell? ⟨w.heap.size, 1, none⟩ = some (.int .i64 fuel) := blk_cell B0.out 1 _ rfl
  have lt0 := blk_lt B0.out
  go_cut [4, 5] (fun v4 v5 wx => v4 = .int .i64 (genI ws 0) ∧ v5 = .int .i64 (genI ws 1) ∧ Below W.heap.size W wx)
  case first =>
    have hW : Below W.heap.size W W := Below.refl _ _
    go_wp2_with fail
    go_region_held3 (fun w' => w'.cell? ⟨w.heap.size, 0, none⟩ = some (.slice a n c) ∧ w'.cell? ⟨w.heap.size, 1, none⟩ = some (.int .i64 fuel)) (first | exact ⟨by assumption, by assumption⟩ | go_keep)
      ((go_at_call 163; refine (unhide HG _ _ ?_ ?_).mono ?_; (first | exact i0 | exact i0.below hW); decide; rintro e w1 ⟨rfl, hb1⟩; replace hW : Below W.heap.size W w1 := (by first | exact hW.drew.trans (hb1.mono hW.drew.size) | exact hW.trans (hb1.mono hW.size)); have z0 : w1.cell? ⟨w.heap.size, 0, none⟩ = some (.slice a n c) := (by rw [hW.cell lt0]; exact x0); have z1 : w1.cell? ⟨w.heap.size, 1, none⟩ = some (.int .i64 fuel) := (by rw [hW.cell lt0]; exact x1)))
    all_goals
      go_wp2
      go_meet
      case rel => exact ⟨rfl, rfl, hW⟩
  case rest =>
    obtain ⟨rfl, rfl, hW⟩ := hcut
    obtain ⟨wB, rfl⟩ : ∃ wB : World, wB = wc := ⟨_, rfl⟩
    have hwB := hw.trans (hW.mono hw.size)
    obtain ⟨g0, hg0⟩ : ∃ g, g = genI ws 0 := ⟨_, rfl⟩
    obtain ⟨g1, hg1⟩ : ∃ g, g = genI ws 1 := ⟨_, rfl⟩
    rw [← hg0, ← hg1]
    by_cases hlt : g0 < g1
    · have hr : Hid (secN ws = 1 ∧ genN ws = g1) := by show _ ∧ _; unfold secN genN; rw [show genS ws 0 = g0 from hg0.symm, show genS ws 1 = g1 from hg1.symm, if_pos hlt, if_pos hlt]; exact ⟨rfl, rfl⟩
      clear hg0 hg1
      go_wp2
      go_ret2
      exact ⟨ret_two (by rw [hr.out.1]; rfl) hr.out.2.symm, hwB⟩
    · have hr : Hid (secN ws = 0 ∧ genN ws = g0) := by show _ ∧ _; unfold secN genN; rw [show genS ws 0 = g0 from hg0.symm, show genS ws 1 = g1 from hg1.symm, if_neg hlt, if_neg hlt]; exact ⟨rfl, rfl⟩
      have hlt' : decide (g0 < g1) = false := by simpa using hlt
      clear hg0 hg1
      go_wp2
      go_ret2
      exact ⟨ret_two (by rw [hr.out.1]; rfl) hr.out.2.symm, hwB⟩

set_option maxRecDepth 100000 in
set_option maxHeartbeats 1000000 in
theorem logCheck_any (a : Option Addr) (n c : Nat) (ws : List Int) (fuel : Int) (w : World) (h : IsInts w a ws) (hn : ws.length = n) (hm : n ≤ maxLen) :
    Calls Tryz.prog 66 #[.agg #[.slice a n c, .int .i64 fuel]] w fun e w' => e = .returned (.int .i64 (lchk ws fuel)) ∧ Below w.heap.size w w' := by
  have hw : Below w.heap.size w (w.alloc (.cells #[.slice a n c, .int .i64 fuel] 27)) := (Below.refl _ _).alloc (Nat.le_refl _) _
  have i0 := h.below hw
  have HS := hide (fun W (h : IsInts W a ws) => checkSectors_any a n c ws fuel W h hn hm)
  have HG := hide (fun W (h : IsInts W a ws) (h64 : 64 ≤ n) => counting_any a n c ws fuel W h hn hm h64)
  have B0 := hide (heap_alloc_last w (.cells #[.slice a n c, .int .i64 fuel] 27))
  have HN := hide hn
  clear hn
  go_enter Tryz.func66, Tryz.ntmps66
  go_wp2_with fail
  generalize w.alloc (.cells #[.slice a n c, .int .i64 fuel] 27) = W at *
  refine (unhide HS _ i0).mono ?_
  rintro e w1 ⟨rfl, hb1⟩
  have hw1 := hw.trans (hb1.mono hw.size)
  by_cases e1 : secS ws fuel = 0
  rotate_left
  · have e1' : (secS ws fuel != 0) = true := by simpa using e1
    have hr : Hid (lchk ws fuel = secS ws fuel) := by show _ = _; unfold lchk; rw [if_pos e1]
    go_wp2
    go_ret
    exact ⟨ret_intk hr.out.symm, hw1⟩
  have e1' : (secS ws fuel != 0) = false := by simpa using e1
  have E1 := hide e1
  have h64 : 64 ≤ n := by
    rw [← HN.out]
    unfold secS at e1
    split at e1
    · rename_i h; exact absurd e1 h
    · split at e1
      · simp at e1
      · omega
  clear e1
  have c00 := blk_cell (blk_below B0.out hb1) 0 _ rfl
  have c01 := blk_cell (blk_below B0.out hb1) 1 _ rfl
  go_wp2_with fail
  refine (unhide HG _ (i0.below hb1) h64).mono ?_
  rintro e w2 ⟨rfl, hb2⟩
  have hw2 := hw1.trans (hb2.mono hw1.size)
  obtain ⟨g, hg⟩ : ∃ g, g = genN ws := ⟨_, rfl⟩
  rw [← hg]
  by_cases g0 : g = 0
  · have hr : Hid (lchk ws fuel = 5) := by show _ = _; unfold lchk; rw [if_neg (by simpa using E1.out), if_pos (by rw [← hg]; exact .inl g0)]
    subst g0
    clear hg
    go_wp2
    go_ret
    exact ⟨ret_intk hr.out.symm, hw2⟩
  have g0' : (g == 0) = false := by simpa using g0
  by_cases g1 : 60000 < g
  · have hr : Hid (lchk ws fuel = 5) := by show _ = _; unfold lchk; rw [if_neg (by simpa using E1.out), if_pos (by rw [← hg]; exact .inr g1)]
    clear hg
    go_wp2
    go_ret
    exact ⟨ret_intk hr.out.symm, hw2⟩
  · have hr : Hid (lchk ws fuel = 0) := by show _ = _; unfold lchk; rw [if_neg (by simpa using E1.out), if_neg (by rw [← hg]; omega)]
    have g1' : decide (60000 < g) = false := by simpa using g1
    clear hg
    go_wp2
    go_ret
    exact ⟨ret_intk hr.out.symm, hw2⟩

end Go.Proofs.YtppmdfndcjgibacGreatDoor
