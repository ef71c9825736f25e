/- Plain facts for LogHolds and LogGoes: the flash behind an Append is a log, its records, and that it can be done again. -/
import Derived.Test.YtanpglfpopbfkaaLogS
import Derived.Test.YtanpglfpopbfkaaApart0
namespace Go.Proofs.Ytanpglfpopbfkaa
open Go.RowKit

theorem appC_ok {ws : List Int} {f : Int} {r : List Int} {keep : List (List Int)} (h : appErr ws f r keep = 0) : ∀ c ∈ appC ws r keep, ∀ b x, c.2 = some (b, x) → okW x = true := by
  intro c hc b x hx
  unfold appC at hc
  rw [List.mem_flatMap] at hc
  obtain ⟨st, hst, hc⟩ := hc
  exact stC_ok (appSteps_ok h st hst) c hc b x hx

/-- Behind the first k changes there is a log. -/
theorem part_log {ws : List Int} {f f' : Int} {r : List Int} {keep : List (List Int)} (h : appErr ws f r keep = 0) (k : Nat) (hk : k ≤ (appC ws r keep).length) (h0 : -1 ≤ f') (h1 : f' ≤ 100000) :
    lchk (applyL ((appC ws r keep).take k) ws) f' = 0 ∧ (k < (appC ws r keep).length → logR (applyL ((appC ws r keep).take k) ws) = logR ws) ∧ (k = (appC ws r keep).length → logR (applyL ((appC ws r keep).take k) ws) = logR ws ++ [r] ∨ logR (applyL ((appC ws r keep).take k) ws) = keep ++ [r]) := by
  have q := appErr_ok h
  have l := lchk_parts q.1
  have hok : okL (applyL ((appC ws r keep).take k) ws) = true := applyL_ok l.2.2.2.1 (fun c hc => appC_ok h c (List.mem_of_mem_take hc))
  have hck : chk (applyL ((appC ws r keep).take k) ws) f' = 0 := chk_of l.1 (applyL_length _ _) hok h0 h1
  by_cases c : k < (appC ws r keep).length
  · have hs := app_stay h k c
    exact ⟨lchk_mk hck (by rw [applyL_length]; exact l.2.1) (by rw [hs.2]; exact l.2.2.2.2.1) (by rw [hs.2]; exact l.2.2.2.2.2), fun _ => hs.1, fun e => by omega⟩
  · have e : k = (appC ws r keep).length := by omega
    have ht : (appC ws r keep).take k = appC ws r keep := List.take_of_length_le (by omega)
    have hn := app_new h
    rw [ht] at hck ⊢
    exact ⟨lchk_mk hck (by rw [applyL_length]; exact l.2.1) hn.2.1 hn.2.2, fun h => absurd h c, fun _ => hn.1⟩

/-- Behind an Append that is done, or lost its power. -/
theorem app_log {ws : List Int} {f : Int} {r : List Int} {keep : List (List Int)} (h : appErr ws f r keep = 0) :
    (appS ws f r keep).1.length = ws.length ∧ (-1 ≤ (appS ws f r keep).2.1 ∧ (appS ws f r keep).2.1 ≤ 100000) ∧ (∀ f', -1 ≤ f' → f' ≤ 100000 → lchk (appS ws f r keep).1 f' = 0) ∧
    ((appS ws f r keep).2.2 = 0 ∧ (logR (appS ws f r keep).1 = logR ws ++ [r] ∨ logR (appS ws f r keep).1 = keep ++ [r]) ∨ (appS ws f r keep).2.2 = 7 ∧ logR (appS ws f r keep).1 = logR ws) := by
  have q := appErr_ok h
  have l := lchk_parts q.1
  have c := chk_parts l.1
  rw [app_chg h]
  have hle := cnt_le f (appC ws r keep).length
  have bb := burn_bounds (n := (appC ws r keep).length) c.2.1 c.2.2.1 (Nat.le_refl (cnt f (appC ws r keep).length))
  refine ⟨applyL_length _ _, bb, fun f' h0 h1 => (part_log h _ hle h0 h1).1, ?_⟩
  have hp := part_log h _ hle (f' := -1) (by decide) (by decide)
  by_cases e : cnt f (appC ws r keep).length = (appC ws r keep).length
  · left
    exact ⟨perr_ok e, hp.2.2 e⟩
  · right
    exact ⟨perr_no (by omega), hp.2.1 (by omega)⟩

/-- It can be done again: or the log is at its end. -/
theorem app_again {ws us : List Int} {f : Int} {r : List Int} {keep : List (List Int)} (h : appErr ws f r keep = 0) (hu : lchk us (-1) = 0) :
    (appS us (-1) r keep).2.2 = 8 ∨ (appErr us (-1) r keep = 0 ∧ (appS us (-1) r keep).2.2 = 0) := by
  have q := appErr_ok h
  by_cases e : appErr us (-1) r keep = 0
  · right
    exact ⟨e, by rw [app_neg e]⟩
  · left
    rw [app_err e]
    show appErr us (-1) r keep = 8
    unfold appErr at e ⊢
    rw [if_neg (by simpa using hu), if_neg (by simpa using q.2.1), if_neg (by simpa using q.2.2.1)] at e ⊢
    split
    · rfl
    · rename_i hc; rw [if_neg hc] at e; exact absurd rfl e

/-- With all power, done. -/
theorem app_neg_log {ws : List Int} {r : List Int} {keep : List (List Int)} (h : appErr ws (-1) r keep = 0) :
    ∃ us, appS ws (-1) r keep = (us, -1, 0) ∧ us.length = ws.length ∧ lchk us (-1) = 0 ∧ (logR us = logR ws ++ [r] ∨ logR us = keep ++ [r]) := by
  have := app_log h
  rw [app_neg h] at this
  refine ⟨_, app_neg h, this.1, this.2.2.1 (-1) (by decide) (by decide), ?_⟩
  rcases this.2.2.2 with h | h
  · exact h.2
  · have := h.1; simp at this

/-- The last one. -/
theorem logR_last {ws : List Int} {r : List Int} {keep : List (List Int)} {us : List Int} (h : logR us = logR ws ++ [r] ∨ logR us = keep ++ [r]) : ∃ X, logR us = X ++ [r] := by
  rcases h with h | h
  · exact ⟨_, h⟩
  · exact ⟨_, h⟩

theorem logR_few {ws : List Int} (h : 64 ≤ ws.length) : (logR ws).length ≤ 31 := by
  have := parseS_few (secL ws (secN ws))
  rw [secL_length (by have := secN_01 ws; omega)] at this
  exact this

theorem keep_few_aux (rs : List (List Int)) (xs : List Int) (h : (laidS rs xs).2 = 0) : xs.length + rs.length ≤ (laidS rs xs).1.length := by
  induction rs generalizing xs with
  | nil => simp [laidS]
  | cons r rs ih =>
    by_cases e : addE xs r = 0
    · rw [laidS_cons_ok e] at h ⊢
      have := ih _ h
      simp [addL] at this ⊢
      omega
    · rw [laidS_cons_no e] at h; exact absurd h e
theorem keep_few {r : List Int} {keep : List (List Int)} (h : (laidA r keep).2 = 0) : keep.length ≤ 31 := by
  have h1 := keep_few_aux (keep ++ [r]) [] h
  have h2 : (laidS (keep ++ [r]) []).1.length ≤ 31 := laidS_few _ _ (by simp)
  simp at h1
  omega

end Go.Proofs.Ytanpglfpopbfkaa
