/- Plain facts for package meta: a numeral is read back ('numO'), texts of numbers, releases and images ('wr', 'relT', 'imgT', 'rootT'), a release is read ('readR') just from its own text, unlike ones have unlike texts. No program in this text. -/
import Derived.Lib.AtoiTie
import Derived.Lib.AtoiAllCases
import Derived.Lib.SplitLaws
import Derived.Lib.Join
import Derived.Lib.ItoaLen
namespace Go.Proofs.YtanpglfpopbfkabGreatDoor
open Go.Lib

/-- An int of 64 bits. -/
def I64 (n : Int) : Prop := -9223372036854775808 ≤ n ∧ n ≤ 9223372036854775807

/-! ### Numerals -/

theorem u8_toNat {n : Nat} (h : n < 256) : (UInt8.ofNat n).toNat = n := by simp [UInt8.toNat_ofNat', Nat.mod_eq_of_lt h]

theorem dec_bytes (u : Nat) : ∀ c ∈ decDigits u, 48 ≤ c.toNat ∧ c.toNat ≤ 57 := by
  induction u using Nat.strongRecOn with
  | _ u ih =>
    intro c hc
    rw [decDigits] at hc
    split at hc
    · simp only [List.mem_singleton] at hc
      subst hc
      rw [u8_toNat (by omega)]
      omega
    · simp only [List.mem_append, List.mem_singleton] at hc
      rcases hc with hc | hc
      · exact ih _ (by omega) c hc
      · subst hc
        rw [u8_toNat (by omega)]
        omega

theorem itoa_bytes (n : Int) : ∀ c ∈ itoa n, c.toNat = 45 ∨ (48 ≤ c.toNat ∧ c.toNat ≤ 57) := by
  intro c hc
  unfold itoa at hc
  split at hc
  · simp only [List.mem_cons] at hc
    rcases hc with rfl | hc
    · exact .inl rfl
    · exact .inr (dec_bytes _ c hc)
  · exact .inr (dec_bytes _ c hc)

theorem itoa_no (n : Int) (c : UInt8) (h : c.toNat < 45) : c ∉ itoa n := fun hc => by
  have := itoa_bytes n c hc
  omega
theorem itoa_no_semi (n : Int) : (59 : UInt8) ∉ itoa n := fun hc => by
  have := itoa_bytes n _ hc
  have e : (59 : UInt8).toNat = 59 := rfl
  omega

theorem dec_ne (u : Nat) : decDigits u ≠ [] := by
  intro h
  have := decDigits_length u
  have p := nDigits_pos u
  rw [h] at this
  simp at this
  omega

theorem parseUint10_append (r : List UInt8) : ∀ (l : List UInt8) (acc : Nat), parseUint10 acc (l ++ r) = match parseUint10 acc l with | .ok a => parseUint10 a r | .syntax => .syntax | .range => .range
  | [], acc => by simp [parseUint10]
  | c :: l, acc => by
    simp only [List.cons_append, parseUint10]
    split
    · split
      · rfl
      · split
        · rfl
        · exact parseUint10_append r l _
    · rfl

theorem parse_dec (u : Nat) : u < 18446744073709551616 → parseUint10 0 (decDigits u) = .ok u := by
  induction u using Nat.strongRecOn with
  | _ u ih =>
    intro hu
    rw [decDigits]
    split
    · rename_i h
      simp only [parseUint10]
      rw [u8_toNat (by omega)]
      rw [if_pos (by omega), if_neg (by omega), if_neg (by omega)]
      congr 1
      omega
    · rename_i h
      rw [parseUint10_append, ih (u / 10) (by omega) (by omega)]
      simp only [parseUint10]
      rw [u8_toNat (by omega)]
      rw [if_pos (by omega), if_neg (by omega), if_neg (by omega)]
      congr 1
      omega

theorem mag_dec (u : Nat) (h : u < 18446744073709551616) : parseMag (decDigits u) = .ok u := by
  unfold parseMag
  rw [if_neg (dec_ne u), parse_dec u h]

theorem atoi_itoa {n : Int} (h : I64 n) : atoiAll (itoa n) = .ok n := by
  obtain ⟨h0, h1⟩ := h
  unfold itoa
  split
  · rename_i hn
    rw [atoiAll_minus, mag_dec _ (by omega)]
    simp only [signed]
    rw [if_neg (by omega)]
    congr 1
    omega
  · rename_i hn
    have hb := dec_bytes n.toNat
    have hne := dec_ne n.toNat
    have hm := mag_dec n.toNat (by omega)
    generalize decDigits n.toNat = l at hb hne hm
    match l, hb, hne, hm with
    | c :: r, hb, _, hm =>
      have := hb c (by simp)
      rw [atoiAll_plain c r (by omega) (by omega), hm]
      simp only [signless]
      rw [if_neg (by omega)]
      congr 1
      omega

/-- What a text says as a number: it is written just so. -/
def numO (l : List UInt8) : Option Int := match atoiAll l with
  | .ok v => if itoa v = l then some v else none
  | _ => none

theorem numO_some {l : List UInt8} {v : Int} : numO l = some v ↔ l = itoa v ∧ I64 v := by
  constructor
  · intro h
    unfold numO at h
    split at h
    · rename_i x hx
      split at h
      · rename_i e
        cases h
        exact ⟨e.symm, atoiAll_bounds hx⟩
      · cases h
    · cases h
  · rintro ⟨rfl, h⟩
    unfold numO
    rw [atoi_itoa h]
    simp

theorem numO_itoa {v : Int} (h : I64 v) : numO (itoa v) = some v := numO_some.2 ⟨rfl, h⟩
theorem dec_len : ∀ (k u : Nat), u < 10 ^ (k + 1) → (decDigits u).length ≤ k + 1
  | 0, u, h => by rw [decDigits_length, nDigits_small (by simpa using h)]; exact Nat.le_refl _
  | k + 1, u, h => by
    by_cases h9 : u < 10
    · rw [decDigits_length, nDigits_small h9]; omega
    · have := dec_len k (u / 10) (by rw [Nat.pow_succ] at h; omega)
      rw [decDigits_length] at this ⊢
      rw [nDigits_big h9]; omega

theorem itoa_len {n : Int} (k : Nat) (h0 : 0 ≤ n) (h1 : n < (10 : Int) ^ (k + 1)) : (itoa n).length ≤ k + 1 := by
  unfold itoa
  rw [if_neg (by omega)]
  refine dec_len k _ ?_
  have : ((10 ^ (k + 1) : Nat) : Int) = (10 : Int) ^ (k + 1) := by simp
  omega

/-! ### Joined and split again -/

theorem index_none {s sep : List UInt8} {c : UInt8} {t : List UInt8} (hs : sep = c :: t) (h : c ∉ s) : index s sep = -1 := by
  subst hs
  induction s with
  | nil => rfl
  | cons b l ih =>
    simp only [List.mem_cons, not_or] at h
    unfold index
    have h1 : (c :: t).isPrefixOf (b :: l) = false := by
      simp only [List.isPrefixOf, Bool.and_eq_false_iff, beq_eq_false_iff_ne]
      exact .inl h.1
    rw [if_neg (by simp [h1]), ih h.2]
    rfl

theorem index_at {x r sep : List UInt8} {c : UInt8} {t : List UInt8} (hs : sep = c :: t) (h : c ∉ x) : index (x ++ (sep ++ r)) sep = x.length := by
  subst hs
  induction x with
  | nil => simp [index]
  | cons b l ih =>
    simp only [List.mem_cons, not_or] at h
    simp only [List.cons_append]
    unfold index
    have h1 : (c :: t).isPrefixOf (b :: (l ++ (c :: (t ++ r)))) = false := by
      simp only [List.isPrefixOf, Bool.and_eq_false_iff, beq_eq_false_iff_ne]
      exact .inl h.1
    rw [if_neg (by simp [h1])]
    have ih := ih h.2
    simp only [List.cons_append] at ih
    rw [ih, if_neg (by simp)]
    simp

theorem split_none {s sep : List UInt8} {c : UInt8} {t : List UInt8} (hs : sep = c :: t) (h : c ∉ s) : split s sep = [s] := by
  have := index_none hs h
  unfold split
  rw [count_miss this]
  rfl

theorem split_at {x r sep : List UInt8} {c : UInt8} {t : List UInt8} (hs : sep = c :: t) (h : c ∉ x) : split (x ++ (sep ++ r)) sep = x :: split r sep := by
  have hi := index_at (r := r) hs h
  have hne : sep ≠ [] := by rw [hs]; simp
  unfold split
  rw [count_hit hne hi, Nat.add_comm 1]
  have hd : (x ++ (sep ++ r)).drop (x.length + sep.length) = r := by
    rw [← List.append_assoc, ← List.length_append, List.drop_left]
  rw [hd]
  have hm : ¬ (index (x ++ (sep ++ r)) sep == -1) = true := by rw [hi]; simp
  rw [splitK, if_neg hm, hi]
  rw [show ((x.length : Int).toNat) = x.length by simp, hd, Nat.add_zero, List.take_left]

theorem join_cons2 (x y : List UInt8) (r : List (List UInt8)) (sep : List UInt8) : join (x :: y :: r) sep = x ++ (sep ++ join (y :: r) sep) := by
  rw [join_cons, join_cons]
  simp [joinTail]

/-- What is joined is split again, where the separator's first byte stands in none. -/
theorem split_join {sep : List UInt8} {c : UInt8} {t : List UInt8} (hs : sep = c :: t) : ∀ (xs : List (List UInt8)), xs ≠ [] → (∀ x ∈ xs, c ∉ x) → split (join xs sep) sep = xs
  | [], h, _ => absurd rfl h
  | [x], _, h => by rw [join_one, split_none hs (h x (by simp))]
  | x :: y :: r, _, h => by
    rw [join_cons2, split_at hs (h x (by simp)), split_join hs (y :: r) (by simp) (fun z hz => h z (by simp at hz ⊢; exact .inr hz))]

theorem splitK_ne (sep : List UInt8) (save k : Nat) (s : List UInt8) : splitK sep save k s ≠ [] := by
  cases k with
  | zero => simp [splitK]
  | succ k => unfold splitK; split <;> simp

theorem split_ne (s sep : List UInt8) : split s sep ≠ [] := splitK_ne _ _ _ _

theorem take_index {s sep : List UInt8} {i : Nat} (h : index s sep = i) : s = s.take i ++ (sep ++ s.drop (i + sep.length)) := by
  rcases index_spec s sep with ⟨h1, _⟩ | ⟨j, hj, hle, ho, _⟩
  · rw [h1] at h; omega
  · have : j = i := by rw [hj] at h; omega
    subst this
    have hp : sep <+: s.drop j := List.isPrefixOf_iff_prefix.1 ho
    obtain ⟨r, hr⟩ := hp
    have : s.drop (j + sep.length) = r := by
      rw [← List.drop_drop, ← hr, List.drop_left]
    rw [this, hr, List.take_append_drop]

theorem join_splitK (sep : List UInt8) : ∀ (k : Nat) (s : List UInt8), join (splitK sep 0 k s) sep = s
  | 0, s => by simp [splitK, join_one]
  | k + 1, s => by
    unfold splitK
    split
    · rw [join_one]
    · rename_i h
      have hge := index_ge s sep
      have hne : index s sep ≠ -1 := fun e => h (by rw [e]; rfl)
      have hi : index s sep = ((index s sep).toNat : Int) := by omega
      have ih := join_splitK sep k (s.drop ((index s sep).toNat + sep.length))
      generalize hl : splitK sep 0 k (s.drop ((index s sep).toNat + sep.length)) = l at ih
      match l, hl with
      | [], hl => exact absurd hl (splitK_ne _ _ _ _)
      | y :: r, _ =>
        rw [join_cons2, ih, Nat.add_zero]
        exact (take_index hi).symm

theorem join_split (s sep : List UInt8) : join (split s sep) sep = s := join_splitK sep _ s

theorem join_no {c : UInt8} {sep : List UInt8} (hs : c ∉ sep) : ∀ (xs : List (List UInt8)), (∀ x ∈ xs, c ∉ x) → c ∉ join xs sep
  | [], _ => by simp [join_nil]
  | [x], h => by rw [join_one]; exact h x (by simp)
  | x :: y :: r, h => by
    rw [join_cons2]
    simp only [List.mem_append, not_or]
    exact ⟨h x (by simp), hs, join_no hs (y :: r) (fun z hz => h z (by simp at hz ⊢; exact .inr hz))⟩

theorem cut_at {x r sep : List UInt8} {c : UInt8} {t : List UInt8} (hs : sep = c :: t) (h : c ∉ x) : cut (x ++ (sep ++ r)) sep = (x, r, true) := by
  have hi := index_at (r := r) hs h
  unfold cut
  rw [hi, if_pos (by omega)]
  have hd : (x ++ (sep ++ r)).drop (x.length + sep.length) = r := by
    rw [← List.append_assoc, ← List.length_append, List.drop_left]
  simp [hd]

theorem cut_found {s sep : List UInt8} (h : (cut s sep).2.2 = true) : s = (cut s sep).1 ++ (sep ++ (cut s sep).2.1) := by
  unfold cut at h ⊢
  split at h
  · rename_i h0
    rw [if_pos h0]
    exact take_index (i := (index s sep).toNat) (by omega)
  · cases h

end Go.Proofs.YtanpglfpopbfkabGreatDoor
