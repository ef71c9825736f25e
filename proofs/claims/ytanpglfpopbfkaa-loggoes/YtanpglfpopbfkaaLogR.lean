/- Plain facts on logs: however far an Append came, the records are those of ahead; done, those and the new one, or those that are kept and the new one. -/
import Derived.Test.YtanpglfpopbfkaaLogQ
namespace Go.Proofs.Ytanpglfpopbfkaa
open Go.RowKit

theorem genS_all {ws : List Int} {s : Nat} (h : ws.getD (s * 32) 0 = 65535) : genS ws s = 0 := by unfold genS; rw [if_pos h]
theorem genS_word {ws : List Int} {s : Nat} {x : Int} (h : ws.getD (s * 32) 0 = x) (hx : x ≠ 65535) : genS ws s = x := by unfold genS; rw [h, if_neg hx]

theorem genN_sec (ws : List Int) : genN ws = genS ws (secN ws) := by
  unfold genN secN
  split <;> rfl

/-- The other sector's generation is no greater. -/
theorem gen_other (ws : List Int) : genS ws (1 - secN ws) ≤ genN ws := by
  unfold genN secN
  split
  · simp; omega
  · simp; omega

/-- A log in which the sector s says more than the other one. -/
theorem sec_of {us : List Int} {s : Nat} (hs : s = 0 ∨ s = 1) (h : genS us (1 - s) < genS us s) : secN us = s ∧ genN us = genS us s := by
  rcases hs with rfl | rfl
  · have : ¬ genS us 0 < genS us 1 := by simp at h; omega
    unfold secN genN
    rw [if_neg this, if_neg this]
    exact ⟨rfl, rfl⟩
  · have : genS us 0 < genS us 1 := by simpa using h
    unfold secN genN
    rw [if_pos this, if_pos this]
    exact ⟨rfl, rfl⟩

/-! ### r fits: the records' words are programmed, then the head -/

/-- The sector's words behind its records, at their places. -/
theorem rest_at {ws : List Int} (h : 64 ≤ ws.length) (i : Nat) (hi : i < (restS ws).length) : (restS ws).getD i 0 = ws.getD (headP ws + i) 0 := by
  have hs := secN_01 ws
  have hl : (secL ws (secN ws)).length = 31 := secL_length (by omega)
  have hf := restS_few h
  have hsp := parse_split (secL ws (secN ws))
  have hr : (parseS (secL ws (secN ws))).2 = restS ws := rfl
  rw [hr, hl] at hsp
  have h1 : (secL ws (secN ws)).getD (31 - (restS ws).length + i) 0 = (restS ws).getD i 0 := by
    rw [hsp]
    have : ((secL ws (secN ws)).take (31 - (restS ws).length)).length = 31 - (restS ws).length := by rw [List.length_take, hl]; omega
    simp only [List.getD_eq_getElem?_getD]
    rw [List.getElem?_append_right (by rw [this]; omega), this]
    congr 2
    omega
  rw [← h1]
  unfold secL headP
  simp only [List.getD_eq_getElem?_getD]
  rw [List.getElem?_take_of_lt (by omega), List.getElem?_drop]
  congr 2
  omega

/-- What the log says where only words behind the records have turned. -/
theorem log_rest {ws us : List Int} (h : 64 ≤ ws.length) (hl : us.length = ws.length) (hsame : ∀ i, i < 64 → i < headP ws ∨ (secN ws + 1) * 32 ≤ i → us.getD i 0 = ws.getD i 0) :
    secN us = secN ws ∧ genN us = genN ws ∧ secL us (secN ws) = (secL ws (secN ws)).take (31 - (restS ws).length) ++ (secL us (secN ws)).drop (31 - (restS ws).length) := by
  have hs := secN_01 ws
  have hf := restS_few h
  have hh : headP ws + (restS ws).length = (secN ws + 1) * 32 := by unfold headP; omega
  have g : ∀ s, s = 0 ∨ s = 1 → genS us s = genS ws s := fun s hs' => genS_ext (hsame _ (by omega) (by omega))
  have e0 := g 0 (.inl rfl)
  have e1 := g 1 (.inr rfl)
  refine ⟨by unfold secN; rw [e0, e1], by unfold genN; rw [e0, e1], ?_⟩
  have hl1 : (secL ws (secN ws)).length = 31 := secL_length (by omega)
  have hl2 : (secL us (secN ws)).length = 31 := secL_length (by omega)
  conv => lhs; rw [← List.take_append_drop (31 - (restS ws).length) (secL us (secN ws))]
  congr 1
  apply take_getD ?_ (by omega) (by omega)
  intro i hi
  unfold secL
  simp only [List.getD_eq_getElem?_getD]
  rw [List.getElem?_take_of_lt (by omega), List.getElem?_drop, List.getElem?_take_of_lt (by omega), List.getElem?_drop]
  have := hsame (secN ws * 32 + 1 + i) (by omega) (by omega)
  simpa only [List.getD_eq_getElem?_getD] using this

theorem log_rest_R {ws us : List Int} (h : 64 ≤ ws.length) (hl : us.length = ws.length) (hsame : ∀ i, i < 64 → i < headP ws ∨ (secN ws + 1) * 32 ≤ i → us.getD i 0 = ws.getD i 0) :
    logR us = logR ws ++ (parseS ((secL us (secN ws)).drop (31 - (restS ws).length))).1 := by
  obtain ⟨h1, _, h3⟩ := log_rest h hl hsame
  have hs := secN_01 ws
  have hl1 : (secL ws (secN ws)).length = 31 := secL_length (by omega)
  have hl2 : (secL us (secN ws)).length = 31 := secL_length (by omega)
  have hf := restS_few h
  have := parse_swap 31 (secL ws (secN ws)) (by omega) ((secL us (secN ws)).drop (31 - (restS ws).length)) (by rw [List.length_drop, hl2]; show _ = (restS ws).length; omega)
  rw [hl1, show (parseS (secL ws (secN ws))).2 = restS ws from rfl, ← h3] at this
  unfold logR
  rw [h1, this]

/-- The words from the head's place on, as they lie. -/
theorem rest_us {ws us : List Int} (h : 64 ≤ ws.length) : (secL us (secN ws)).drop (31 - (restS ws).length) = (us.drop (headP ws)).take (restS ws).length := by
  have hs := secN_01 ws
  have hf := restS_few h
  unfold secL headP
  rw [List.drop_take, List.drop_drop]
  congr 1
  · omega
  · congr 1
    omega

end Go.Proofs.Ytanpglfpopbfkaa
