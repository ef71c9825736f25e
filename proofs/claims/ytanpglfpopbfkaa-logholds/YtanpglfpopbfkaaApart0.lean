/- Plain facts of LogApart. -/
import Derived.Test.YtanpglfpopbfkaaLogQ
namespace Go.Proofs.Ytanpglfpopbfkaa
open Go.RowKit
attribute [local go_sem ↓] Go.wp_at_zero Go.wp_at_succ

theorem prog_apart {ws words : List Int} {fuel p : Int} (h : lchk ws fuel = 0) (hp : 64 ≤ p) (he : (progS ws fuel p words).2.2 = 0 ∨ (progS ws fuel p words).2.2 = 7) : recsS (progS ws fuel p words).1 (progS ws fuel p words).2.1 = (logR ws, 0) := by
  have q := lchk_parts h
  have c := chk_parts q.1
  unfold progS at he ⊢
  rw [if_neg (by simpa using q.1)] at he ⊢
  split at he
  · simp at he
  · rename_i h1
    split at he
    · simp at he
    · rename_i h2
      rw [if_neg h1, if_neg h2]
      simp [fitB] at h1
      simp at h2
      have hle := cnt_le fuel words.length
      have bb := burn_bounds (n := words.length) c.2.1 c.2.2.1 (Nat.le_refl (cnt fuel words.length))
      have hsame : ∀ i, i < 64 → (chg (andW words) p.toNat (cnt fuel words.length) ws).getD i 0 = ws.getD i 0 := fun i hi => by
        rw [chg_get _ _ _ _ _ (by omega), if_neg (by omega)]
      have hk := lchk_ext (us := chg (andW words) p.toNat (cnt fuel words.length) ws) h (chg_length _ _ _ _) hsame (chg_ok q.2.2.2.1 h2 hle (by omega)) bb.1 bb.2
      show recsS (chg (andW words) p.toNat (cnt fuel words.length) ws) (burn fuel (cnt fuel words.length)) = _
      rw [recs_ok hk, logR_ext (chg_length _ _ _ _) hsame]

theorem recE_vals (r : List Int) : recE r = 0 ∨ recE r = 2 ∨ recE r = 3 := by
  unfold recE; split
  · simp
  · split <;> simp
theorem addE_vals (xs r : List Int) : addE xs r = 0 ∨ addE xs r = 2 ∨ addE xs r = 3 ∨ addE xs r = 8 := by
  unfold addE; split
  · have := recE_vals r; omega
  · split <;> simp
theorem laidS_vals (rs : List (List Int)) (xs : List Int) : (laidS rs xs).2 = 0 ∨ (laidS rs xs).2 = 2 ∨ (laidS rs xs).2 = 3 ∨ (laidS rs xs).2 = 8 := by
  induction rs generalizing xs with
  | nil => left; rfl
  | cons r rs ih =>
    by_cases e : addE xs r = 0
    · rw [laidS_cons_ok e]; exact ih _
    · rw [laidS_cons_no e]; exact addE_vals xs r
theorem appErr_vals {ws : List Int} {f : Int} {r : List Int} {keep : List (List Int)} (h : lchk ws f = 0) : appErr ws f r keep = 0 ∨ appErr ws f r keep = 2 ∨ appErr ws f r keep = 3 ∨ appErr ws f r keep = 8 := by
  unfold appErr
  rw [if_neg (by simpa using h)]
  split
  · have := recE_vals r; omega
  · split
    · exact laidS_vals _ _
    · split <;> simp

theorem app_done {ws : List Int} {f : Int} {r : List Int} {keep : List (List Int)} (h : lchk ws f = 0) (he : (appS ws f r keep).2.2 = 0 ∨ (appS ws f r keep).2.2 = 7) : appErr ws f r keep = 0 := by
  by_cases e : appErr ws f r keep = 0
  · exact e
  · rw [app_err e] at he
    have := appErr_vals (r := r) (keep := keep) h
    simp only at he
    omega

theorem drop_same {xs ys : List Int} (hl : xs.length = ys.length) (h : ∀ i, 64 ≤ i → xs.getD i 0 = ys.getD i 0) : xs.drop 64 = ys.drop 64 := by
  apply ext_getD (by simp [hl])
  intro i _
  have := h (64 + i) (by omega)
  simpa using this

theorem errs_false {e : Int} (h : ¬ (e = 0 ∨ e = 7)) : (e == 0) = false ∧ (e == 7) = false := by
  simp; omega

end Go.Proofs.Ytanpglfpopbfkaa
