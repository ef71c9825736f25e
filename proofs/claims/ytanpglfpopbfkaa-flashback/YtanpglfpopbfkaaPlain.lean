/- Plain facts on lists of words: '&' of words, what is programmed in parts, twice, or behind an Erase. -/
import Derived.Test.YtanpglfpopbfkaaErase
namespace Go.Proofs.Ytanpglfpopbfkaa
open Go.RowKit

theorem ofInt_i64 (a : Nat) (ha : a < 18446744073709551616) : (BitVec.ofInt 64 (a : Int)).toNat = a := by
  rw [BitVec.toNat_ofInt]; omega

theorem and_nat (a b : Nat) (ha : a < 65536) (hb : b < 65536) : bits .and .i64 (a : Int) (b : Int) = ((a &&& b : Nat) : Int) := by
  have h : a &&& b < 65536 := Nat.lt_of_le_of_lt Nat.and_le_left ha
  show IntKind.i64.wrap ((BitVec.ofInt 64 (a : Int) &&& BitVec.ofInt 64 (b : Int)).toNat : Int) = _
  rw [BitVec.toNat_and, ofInt_i64 a (by omega), ofInt_i64 b (by omega), IntKind.wrap_i64]
  omega

theorem and_words {x y : Int} (hx : okW x = true) (hy : okW y = true) : bits .and .i64 x y = ((x.toNat &&& y.toNat : Nat) : Int) := by
  simp [okW] at hx hy
  have := and_nat x.toNat y.toNat (by omega) (by omega)
  rw [Int.toNat_of_nonneg hx.1, Int.toNat_of_nonneg hy.1] at this
  exact this

theorem and_ok {x y : Int} (hx : okW x = true) (hy : okW y = true) : okW (bits .and .i64 x y) = true := by
  rw [and_words hx hy]
  simp [okW] at hx ⊢
  have : x.toNat &&& y.toNat ≤ x.toNat := Nat.and_le_left
  omega

theorem and_twice {x y : Int} (hx : okW x = true) (hy : okW y = true) : bits .and .i64 (bits .and .i64 x y) y = bits .and .i64 x y := by
  rw [and_words (and_ok hx hy) hy, and_words hx hy, Int.toNat_natCast, Nat.and_assoc, Nat.and_self]

theorem and_full {y : Int} (hy : okW y = true) : bits .and .i64 65535 y = y := by
  rw [and_words rfl hy]
  simp [okW] at hy
  have h : (65535 : Int).toNat &&& y.toNat = y.toNat := by
    show 65535 &&& y.toNat = _
    rw [Nat.and_comm]
    have := Nat.and_two_pow_sub_one_eq_mod y.toNat 16
    simp at this
    rw [this]; omega
  rw [h]; omega

theorem getD_at {xs : List Int} {i : Nat} (hi : i < xs.length) : xs.getD i 0 = xs[i] := by simp [hi]

theorem okL_get {xs : List Int} (h : okL xs = true) (i : Nat) (hi : i < xs.length) : okW (xs.getD i 0) = true := by
  unfold okL at h
  rw [List.all_eq_true] at h
  rw [getD_at hi]
  exact h _ (List.getElem_mem hi)

theorem okL_of {xs : List Int} (h : ∀ i, i < xs.length → okW (xs.getD i 0) = true) : okL xs = true := by
  unfold okL
  rw [List.all_eq_true]
  intro x hx
  obtain ⟨i, hi, rfl⟩ := List.getElem_of_mem hx
  have := h i hi
  rwa [getD_at hi] at this

theorem ext_getD {xs ys : List Int} (hl : xs.length = ys.length) (h : ∀ i, i < xs.length → xs.getD i 0 = ys.getD i 0) : xs = ys := by
  apply List.ext_getElem hl
  intro i h1 h2
  have := h i h1
  rwa [getD_at h1, getD_at h2] at this

theorem okL_take {xs : List Int} (k : Nat) (h : okL xs = true) : okL (xs.take k) = true := by
  unfold okL at *
  rw [List.all_eq_true] at *
  exact fun x hx => h x (List.mem_of_mem_take hx)

theorem okL_drop {xs : List Int} (k : Nat) (h : okL xs = true) : okL (xs.drop k) = true := by
  unfold okL at *
  rw [List.all_eq_true] at *
  exact fun x hx => h x (List.mem_of_mem_drop hx)

/-- What is programmed into words is words. -/
theorem chg_ok {ws words : List Int} {p k : Nat} (h : okL ws = true) (h2 : okL words = true) (hk : k ≤ words.length) (_hf : p + k ≤ ws.length) : okL (chg (andW words) p k ws) = true := by
  apply okL_of
  intro i hi
  rw [chg_length] at hi
  rw [chg_get _ _ _ _ _ hi]
  split
  · exact and_ok (okL_get h i hi) (okL_get h2 _ (by omega))
  · exact okL_get h i hi

theorem chk_chg {ws : List Int} {fuel f : Int} (h : chk ws fuel = 0) (nx : Nat → Int → Int) (p k : Nat) (hok : okL (chg nx p k ws) = true) (h0 : -1 ≤ f) (h1 : f ≤ 100000) : chk (chg nx p k ws) f = 0 := by
  have q := chk_parts h
  apply chk_ok
  · rw [chg_length]; exact decide_eq_true q.1
  · unfold rangeB; rw [hok]; simp; omega

theorem chk_fuel {ws : List Int} {fuel f : Int} (h : chk ws fuel = 0) (h0 : -1 ≤ f) (h1 : f ≤ 100000) : chk ws f = 0 := by
  have q := chk_parts h
  apply chk_ok
  · exact decide_eq_true q.1
  · unfold rangeB; rw [q.2.2.2]; simp; omega

theorem prog_ok {ws words : List Int} {fuel : Int} {p : Nat} (h : chk ws fuel = 0) (hf : p + words.length ≤ ws.length) (h2 : okL words = true) :
    progS ws fuel p words = (chg (andW words) p (cnt fuel words.length) ws, burn fuel (cnt fuel words.length), perr fuel words.length) := by
  unfold progS
  rw [if_neg (by simpa using h), if_neg (by unfold fitB; simp; omega), if_neg (by simp [h2]), Int.toNat_natCast]

theorem prog_full {ws words : List Int} {p : Nat} (h : chk ws (-1) = 0) (hf : p + words.length ≤ ws.length) (h2 : okL words = true) :
    progS ws (-1) p words = (chg (andW words) p words.length ws, -1, 0) := by
  rw [prog_ok h hf h2, cnt_neg _ (by decide), burn_negf _ (by decide), perr_ok (cnt_neg _ (by decide))]

theorem prog_just {ws words : List Int} {p : Nat} (h : chk ws (-1) = 0) (hf : p + words.length ≤ ws.length) (h2 : okL words = true) :
    progS ws words.length p words = (chg (andW words) p words.length ws, 0, 0) := by
  have q := chk_parts h
  have e : cnt (words.length : Int) words.length = words.length := by rw [cnt_nn _ (by omega)]; omega
  rw [prog_ok (chk_fuel h (by omega) (by omega)) hf h2, e, burn_nn _ (by omega), perr_ok e]
  simp

/-- Where Program says OK it was right, and is done. -/
theorem prog_yes {ws words : List Int} {p : Int} (h : (progS ws (-1) p words).2.2 = 0) : chk ws (-1) = 0 ∧ 0 ≤ p ∧ p + words.length ≤ ws.length ∧ okL words = true := by
  unfold progS at h
  split at h
  · rename_i c; exact absurd h c
  · split at h
    · simp at h
    · split at h
      · simp at h
      · rename_i h1 h2 h3
        simp [fitB] at h2
        simp at h1 h3
        exact ⟨h1, by omega, by omega, h3⟩

theorem parts_two {ws words : List Int} {p k : Nat} (hk : k ≤ words.length) :
    chg (andW (words.drop k)) (p + k) (words.length - k) (chg (andW (words.take k)) p k ws) = chg (andW words) p words.length ws := by
  apply ext_getD (by simp [chg_length])
  intro i hi
  simp only [chg_length] at hi
  rw [chg_get _ _ _ _ _ (by rw [chg_length]; exact hi), chg_get _ _ _ _ _ hi, chg_get _ _ _ _ _ hi]
  by_cases c1 : p ≤ i ∧ i < p + k
  · rw [if_neg (by omega), if_pos c1, if_pos ⟨c1.1, by omega⟩]
    unfold andW
    congr 1
    simp [show i - p < k by omega]
  · by_cases c2 : p + k ≤ i ∧ i < p + k + (words.length - k)
    · rw [if_pos c2, if_neg c1, if_pos ⟨by omega, by omega⟩]
      unfold andW
      congr 1
      simp [show k + (i - (p + k)) = i - p by omega]
    · rw [if_neg c2, if_neg c1, if_neg (by omega)]

theorem parts_again {ws words : List Int} {p : Nat} (h : okL ws = true) (h2 : okL words = true) :
    chg (andW words) p words.length (chg (andW words) p words.length ws) = chg (andW words) p words.length ws := by
  apply ext_getD (by simp [chg_length])
  intro i hi
  simp only [chg_length] at hi
  rw [chg_get _ _ _ _ _ (by rw [chg_length]; exact hi), chg_get _ _ _ _ _ hi]
  by_cases c1 : p ≤ i ∧ i < p + words.length
  · rw [if_pos c1, if_pos c1]
    exact and_twice (okL_get h i hi) (okL_get h2 _ (by omega))
  · rw [if_neg c1, if_neg c1]

end Go.Proofs.Ytanpglfpopbfkaa
