/- Plain facts on package slot: what is done to one slot leaves all else as it was. -/
import Derived.Test.YtanpglfpopbfkaaSeal
import Derived.Test.YtanpglfpopbfkaaClr
namespace Go.Proofs.Ytanpglfpopbfkaa
open Go.RowKit

theorem chg_take {nx : Nat → Int → Int} {p k lo : Nat} {ws : List Int} (h : lo ≤ p) : (chg nx p k ws).take lo = ws.take lo := by
  apply ext_getD (by simp [chg_length])
  intro i hi
  have hi2 : i < lo ∧ i < ws.length := by simp [chg_length] at hi; omega
  have := chg_get nx p k i ws hi2.2
  rw [if_neg (by omega)] at this
  simpa [hi2.1] using this

theorem chg_drop {nx : Nat → Int → Int} {p k hi' : Nat} {ws : List Int} (h : p + k ≤ hi') : (chg nx p k ws).drop hi' = ws.drop hi' := by
  apply ext_getD (by simp [chg_length])
  intro i hi
  simp [chg_length] at hi
  have := chg_get nx p k (hi' + i) ws (by omega)
  rw [if_neg (by omega)] at this
  simpa using this

theorem chk_seven (ws : List Int) (fuel : Int) : chk ws fuel ≠ 7 := by
  unfold chk
  split
  · decide
  · split
    · decide
    · decide

/-- Where Program has done something: what it has done. -/
theorem prog_did {ws words : List Int} {fuel p : Int} (h : (progS ws fuel p words).2.2 = 0 ∨ (progS ws fuel p words).2.2 = 7) :
    chk ws fuel = 0 ∧ 0 ≤ p ∧ p + words.length ≤ ws.length ∧ okL words = true ∧ progS ws fuel p words = (chg (andW words) p.toNat (cnt fuel words.length) ws, burn fuel (cnt fuel words.length), perr fuel words.length) := by
  unfold progS at *
  split at h
  · rename_i c
    rcases h with h | h
    · exact absurd h c
    · exact absurd h (chk_seven _ _)
  · split at h
    · simp at h
    · split at h
      · simp at h
      · rename_i h1 h2 h3
        rw [if_neg h1, if_neg h2, if_neg h3]
        simp [fitB] at h2
        simp at h1 h3
        exact ⟨h1, by omega, by omega, h3, rfl⟩

theorem era_did {ws : List Int} {fuel s : Int} (h : (eraS ws fuel s).2.2 = 0 ∨ (eraS ws fuel s).2.2 = 7) :
    chk ws fuel = 0 ∧ 0 ≤ s ∧ s < (ws.length : Int) / 32 ∧ eraS ws fuel s = (chg (fun _ _ => 65535) (s.toNat * 32) (cnt fuel 32) ws, burn fuel (cnt fuel 32), perr fuel 32) := by
  unfold eraS at *
  split at h
  · rename_i c
    rcases h with h | h
    · exact absurd h c
    · exact absurd h (chk_seven _ _)
  · split at h
    · simp at h
    · rename_i h1 h2
      rw [if_neg h1, if_neg h2]
      simp at h1 h2
      exact ⟨h1, h2.1, h2.2, rfl⟩

/-- Of what has been done to a slot: outside it all is as it was. -/
def Apt (ws : List Int) (s : Int) (r : List Int × Int × Int) : Prop :=
  (r.2.2 = 0 ∨ r.2.2 = 7) → ws.length = 192 ∧ r.1.length = 192 ∧ r.1.take (64 + 64 * s).toNat = ws.take (64 + 64 * s).toNat ∧ r.1.drop (128 + 64 * s).toNat = ws.drop (128 + 64 * s).toNat

theorem slotE_seven (ws : List Int) (fuel s : Int) : slotE ws fuel s ≠ 7 := by
  unfold slotE
  split
  · exact chk_seven _ _
  · split
    · decide
    · split
      · decide
      · decide

theorem apt_err {ws : List Int} {s e : Int} (h0 : e ≠ 0) (h7 : e ≠ 7) : Apt ws s ([], 0, e) := by
  intro h
  rcases h with h | h
  · exact absurd h h0
  · exact absurd h h7

theorem apt_prog {ws words : List Int} {fuel s p : Int} (hl : ws.length = 192) (h0 : 64 + 64 * s ≤ p) (h1 : p + words.length ≤ 128 + 64 * s) (hs : 0 ≤ s) : Apt ws s (progS ws fuel p words) := by
  intro h
  obtain ⟨-, q0, q1, -, e⟩ := prog_did h
  rw [e]
  have := cnt_le fuel words.length
  refine ⟨hl, by rw [chg_length]; exact hl, chg_take (by omega), chg_drop (by omega)⟩

theorem apt_fill (ws : List Int) (fuel s at' : Int) (words : List Int) : Apt ws s (fillS ws fuel s at' words) := by
  unfold fillS
  split
  · rename_i c; exact apt_err c (slotE_seven _ _ _)
  · split
    · exact apt_err (by decide) (by decide)
    · rename_i h1 h2
      obtain ⟨-, hl, p0, p1⟩ := slotE_parts (show slotE ws fuel s = 0 by simpa using h1)
      simp [fillB, inB] at h2
      exact apt_prog hl (by omega) (by omega) p0

theorem apt_seal (ws : List Int) (fuel s long name : Int) : Apt ws s (sealS ws fuel s long name) := by
  unfold sealS
  split
  · rename_i c; exact apt_err c (slotE_seven _ _ _)
  · split
    · exact apt_err (by decide) (by decide)
    · rename_i h1 h2
      obtain ⟨-, hl, p0, p1⟩ := slotE_parts (show slotE ws fuel s = 0 by simpa using h1)
      refine apt_prog hl (by omega) ?_ p0
      show 64 + 64 * s + 4 ≤ _
      omega

theorem apt_clear (ws : List Int) (fuel s : Int) : Apt ws s (clrS ws fuel s) := by
  unfold clrS
  split
  · rename_i c; exact apt_err c (slotE_seven _ _ _)
  · rename_i h1
    obtain ⟨-, hl, p0, p1⟩ := slotE_parts (show slotE ws fuel s = 0 by simpa using h1)
    have key : ∀ k, k ≤ 2 → Apt ws s (clrAt ws fuel s k) := by
      intro k
      induction k with
      | zero => exact fun _ _ => ⟨hl, hl, rfl, rfl⟩
      | succ k ih =>
        intro hk
        by_cases e : (clrAt ws fuel s k).2.2 = 0
        · rw [clrAt_go e]
          intro h
          obtain ⟨q0, q1, q2, q3⟩ := ih (by omega) (.inl e)
          obtain ⟨-, r0, r1, r2⟩ := era_did h
          rw [r2]
          have := cnt_le (clrAt ws fuel s k).2.1 32
          refine ⟨hl, by rw [chg_length]; exact q1, ?_, ?_⟩
          · show (chg _ _ _ _).take _ = _
            rw [chg_take (by omega)]; exact q2
          · show (chg _ _ _ _).drop _ = _
            rw [chg_drop (by omega)]; exact q3
        · rw [clrAt_stay e]; exact ih (by omega)
    exact key 2 (Nat.le_refl _)

end Go.Proofs.Ytanpglfpopbfkaa
