/- Plain facts: what is done in turn is a list of changes, of which there is power for so many. -/
import Derived.Test.YtanpglfpopbfkaaApnd
import Derived.Test.YtanpglfpopbfkaaChgP
namespace Go.Proofs.Ytanpglfpopbfkaa
open Go.RowKit

def proC (p : Nat) (words : List Int) : List (Nat × Option (Nat × Int)) := (List.range words.length).map (fun i => (p + i, some (0, words.getD i 0)))
theorem proC_length (p : Nat) (words : List Int) : (proC p words).length = words.length := by simp [proC]
theorem proC_pro (p : Nat) (words : List Int) : ProL p words words.length (proC p words) := by
  refine ⟨proC_length _ _, fun i hi => ⟨0, ?_⟩⟩
  simp [proC, hi]

/-- The changes of a step. -/
def stC : Stp → List (Nat × Option (Nat × Int))
  | .inl s => eraL s 32
  | .inr (p, words) => proC p words
def StOk (L : Nat) : Stp → Prop
  | .inl s => s * 32 + 32 ≤ L
  | .inr (p, words) => p + words.length ≤ L ∧ okL words = true

theorem doS_chg {st : Stp} {ws : List Int} {f : Int} (h : chk ws f = 0) (ho : StOk ws.length st) : doS st ws f = chgS ws f (stC st) := by
  have hp := chk_parts h
  cases st with
  | inl s => exact (chgS_era h (by simp only [StOk] at ho; omega)).symm
  | inr q => obtain ⟨p, words⟩ := q; exact (chgS_pro h (proC_pro p words) ho.1 ho.2).symm

theorem applyL_ok {ws : List Int} {cs : List (Nat × Option (Nat × Int))} (h : okL ws = true) (hc : ∀ c ∈ cs, ∀ b x, c.2 = some (b, x) → okW x = true) : okL (applyL cs ws) = true := by
  induction cs generalizing ws with
  | nil => exact h
  | cons c cs ih =>
    show okL (applyL cs (ws.set c.1 (apW c.2 (ws.getD c.1 0)))) = true
    refine ih ?_ (fun d hd => hc d (List.mem_cons_of_mem _ hd))
    by_cases hlt : c.1 < ws.length
    · apply okL_of
      intro i hi
      simp at hi
      by_cases e : c.1 = i
      · subst e
        have : (ws.set c.1 (apW c.2 (ws.getD c.1 0))).getD c.1 0 = apW c.2 (ws.getD c.1 0) := by simp [hlt]
        rw [this]
        cases h2 : c.2 with
        | none => rfl
        | some p => obtain ⟨b, x⟩ := p; exact and_ok (okL_get h _ hlt) (hc c List.mem_cons_self b x h2)
      · have : (ws.set c.1 (apW c.2 (ws.getD c.1 0))).getD i 0 = ws.getD i 0 := by simp [e]
        rw [this]
        exact okL_get h i hi
    · rw [List.set_eq_of_length_le (by omega)]
      exact h

theorem stC_ok {L : Nat} {st : Stp} (h : StOk L st) : ∀ c ∈ stC st, ∀ b x, c.2 = some (b, x) → okW x = true := by
  intro c hc b x hx
  cases st with
  | inl s => simp [stC, eraL] at hc; obtain ⟨i, _, rfl⟩ := hc; cases hx
  | inr q =>
    obtain ⟨p, words⟩ := q
    simp only [stC, proC, List.mem_map, List.mem_range] at hc
    obtain ⟨i, hi, rfl⟩ := hc
    simp only [Option.some.injEq, Prod.mk.injEq] at hx
    rw [← hx.2]
    exact okL_get h.2 i hi

theorem chk_of {ws : List Int} {f f' : Int} {us : List Int} (h : chk ws f = 0) (hl : us.length = ws.length) (hok : okL us = true) (h0 : -1 ≤ f') (h1 : f' ≤ 100000) : chk us f' = 0 := by
  have q := chk_parts h
  apply chk_ok
  · rw [hl]; exact decide_eq_true q.1
  · unfold rangeB; rw [hok]; simp; omega

theorem turn_chg (sts : List Stp) (ws : List Int) (f : Int) (h : chk ws f = 0) (ho : ∀ st ∈ sts, StOk ws.length st) : turnS sts ws f = chgS ws f (sts.flatMap stC) := by
  induction sts generalizing ws f with
  | nil =>
    have : cnt f 0 = 0 := Nat.le_zero.1 (cnt_le _ _)
    show (ws, f, (0 : Int)) = chgS ws f []
    unfold chgS
    rw [List.length_nil, this, perr_ok this]
    have : burn f 0 = f := by unfold burn; split <;> simp
    rw [this]
    rfl
  | cons st sts ih =>
    have hd := doS_chg h (ho st List.mem_cons_self)
    have q := chk_parts h
    rw [List.flatMap_cons]
    by_cases c : cnt f (stC st).length = (stC st).length
    · have e2 : (doS st ws f).2.2 = 0 := by rw [hd]; exact perr_ok c
      rw [turnS_go e2, hd, chgS_go c]
      have e1 : (chgS ws f (stC st)).1 = applyL (stC st) ws := by unfold chgS; rw [c, List.take_length]
      have e3 : (chgS ws f (stC st)).2.1 = burn f (stC st).length := by unfold chgS; rw [c]
      rw [e1, e3]
      have bb := burn_bounds q.2.1 q.2.2.1 (Nat.le_of_eq c.symm)
      refine ih _ _ ?_ ?_
      · exact chk_of h (applyL_length _ _) (applyL_ok q.2.2.2 (stC_ok (ho st List.mem_cons_self))) bb.1 bb.2
      · rw [applyL_length]; exact fun d hd => ho d (List.mem_cons_of_mem _ hd)
    · have lt : cnt f (stC st).length < (stC st).length := by have := cnt_le f (stC st).length; omega
      have e2 : (doS st ws f).2.2 ≠ 0 := by
        rw [hd]
        show perr f (stC st).length ≠ 0
        rw [perr_no lt]; decide
      rw [turnS_stop e2, hd, chgS_stop lt]

/-! ### Append as changes -/
theorem addL_ok {xs r : List Int} (h : okL xs = true) (hr : recE r = 0) : okL (addL xs r) = true := by
  have q := recE_ok hr
  unfold addL okL at *
  rw [List.all_append, List.all_cons, h, q.2.2]
  have : okW (headS r.length) = true := by unfold okW headS; simp; omega
  rw [this]
  rfl

theorem addE_rec {xs r : List Int} (h : addE xs r = 0) : recE r = 0 := by
  unfold addE at h
  split at h
  · rename_i h1; exact absurd h h1
  · rename_i h1; simpa using h1

theorem laidS_ok (rs : List (List Int)) (xs : List Int) (h : okL xs = true) : okL (laidS rs xs).1 = true := by
  induction rs generalizing xs with
  | nil => exact h
  | cons r rs ih =>
    by_cases e : addE xs r = 0
    · rw [laidS_cons_ok e]; exact ih _ (addL_ok h (addE_rec e))
    · rw [laidS_cons_no e]; rfl

/-- Where Append has no error of its own. -/
theorem appErr_ok {ws : List Int} {f : Int} {r : List Int} {keep : List (List Int)} (h : appErr ws f r keep = 0) : lchk ws f = 0 ∧ recE r = 0 ∧ (laidA r keep).2 = 0 ∧ (fitsA ws r = true ∨ genN ws ≠ 60000) := by
  unfold appErr at h
  split at h
  · rename_i h1; exact absurd h h1
  · rename_i h1
    split at h
    · rename_i h2; exact absurd h h2
    · rename_i h2
      split at h
      · rename_i h3; exact absurd h h3
      · rename_i h3
        split at h
        · simp at h
        · rename_i h4
          refine ⟨by simpa using h1, by simpa using h2, by simpa using h3, ?_⟩
          cases hf : fitsA ws r
          · right; intro hg; exact h4 ⟨hf, hg⟩
          · left; rfl

theorem appErr_mk {ws : List Int} {f : Int} {r : List Int} {keep : List (List Int)} (h1 : lchk ws f = 0) (h2 : recE r = 0) (h3 : (laidA r keep).2 = 0) (h4 : fitsA ws r = true ∨ genN ws ≠ 60000) : appErr ws f r keep = 0 := by
  unfold appErr
  rw [if_neg (by simpa using h1), if_neg (by simpa using h2), if_neg (by simpa using h3), if_neg]
  rintro ⟨h5, h6⟩
  rcases h4 with h4 | h4
  · rw [h5] at h4; cases h4
  · exact h4 h6

theorem lchk_mk {ws : List Int} {f : Int} (h1 : chk ws f = 0) (h2 : 64 ≤ ws.length) (h3 : genN ws ≠ 0) (h4 : genN ws ≤ 60000) : lchk ws f = 0 := by
  have hs : secS ws f = 0 := by unfold secS; rw [if_neg (by simpa using h1), if_neg (by omega)]
  unfold lchk
  rw [if_neg (by simpa using hs), if_neg (by omega)]

theorem lchk_fuel {ws : List Int} {f f' : Int} (h : lchk ws f = 0) (h0 : -1 ≤ f') (h1 : f' ≤ 100000) : lchk ws f' = 0 := by
  have q := lchk_parts h
  exact lchk_mk (chk_fuel q.1 h0 h1) q.2.1 q.2.2.2.2.1 q.2.2.2.2.2

theorem appErr_fuel {ws : List Int} {f f' : Int} {r : List Int} {keep : List (List Int)} (h : appErr ws f r keep = 0) (h0 : -1 ≤ f') (h1 : f' ≤ 100000) : appErr ws f' r keep = 0 := by
  have q := appErr_ok h
  exact appErr_mk (lchk_fuel q.1 h0 h1) q.2.1 q.2.2.1 q.2.2.2

/-- The changes of an Append. -/
def appC (ws r : List Int) (keep : List (List Int)) : List (Nat × Option (Nat × Int)) := (appSteps ws r keep).flatMap stC

theorem headS_ok {n : Nat} (h : n ≤ 4) : okW (headS n) = true := by unfold okW headS; simp; omega

theorem fitsA_parts {ws r : List Int} (h : fitsA ws r = true) : cleanS (restS ws) = true ∧ r.length < (restS ws).length := by
  unfold fitsA at h
  simpa using h

theorem appSteps_ok {ws : List Int} {f : Int} {r : List Int} {keep : List (List Int)} (h : appErr ws f r keep = 0) : ∀ st ∈ appSteps ws r keep, StOk ws.length st := by
  have q := appErr_ok h
  have l := lchk_parts q.1
  have rr := recE_ok q.2.1
  have hf := restS_few l.2.1
  have hs := secN_01 ws
  intro st hst
  unfold appSteps at hst
  split at hst
  · rename_i hfit
    have hp := fitsA_parts hfit
    simp only [List.mem_cons, List.not_mem_nil, or_false] at hst
    rcases hst with rfl | rfl
    · exact ⟨by unfold headP; rcases hs with e | e <;> rw [e] <;> omega, rr.2.2⟩
    · exact ⟨by unfold headP; simp only [List.length_cons, List.length_nil]; rcases hs with e | e <;> rw [e] <;> omega, by unfold okL; rw [List.all_cons, headS_ok rr.2.1]; rfl⟩
  · rename_i hfit
    simp only [List.mem_cons, List.not_mem_nil, or_false] at hst
    have hl : (laidA r keep).1.length ≤ 31 := laidS_few _ _ (by simp)
    have hg := q.2.2.2.resolve_left hfit
    have hgn := genN_nonneg l.2.2.2.1 l.2.1
    rcases hst with rfl | rfl | rfl
    · show (1 - secN ws) * 32 + 32 ≤ _
      omega
    · exact ⟨by omega, laidS_ok _ _ rfl⟩
    · refine ⟨by simp only [List.length_cons, List.length_nil]; omega, ?_⟩
      unfold okL
      rw [List.all_cons]
      have : okW (genN ws + 1) = true := by unfold okW; simp; omega
      rw [this]; rfl

theorem app_chg {ws : List Int} {f : Int} {r : List Int} {keep : List (List Int)} (h : appErr ws f r keep = 0) : appS ws f r keep = chgS ws f (appC ws r keep) := by
  unfold appS
  rw [if_neg (by simpa using h)]
  exact turn_chg _ _ _ (lchk_parts (appErr_ok h).1).1 (appSteps_ok h)

theorem app_err {ws : List Int} {f : Int} {r : List Int} {keep : List (List Int)} (h : appErr ws f r keep ≠ 0) : appS ws f r keep = ([], 0, appErr ws f r keep) := by
  unfold appS
  rw [if_pos h]

theorem appC_few {ws r : List Int} {keep : List (List Int)} (hr : recE r = 0) : 2 ≤ (appC ws r keep).length ∧ (appC ws r keep).length ≤ 64 := by
  have rr := recE_ok hr
  have hl : (laidA r keep).1.length ≤ 31 := laidS_few _ _ (by simp)
  unfold appC appSteps
  split
  · simp [stC, proC_length]; omega
  · simp [stC, proC_length, eraL_length]; omega

theorem app_full {ws : List Int} {f : Int} {r : List Int} {keep : List (List Int)} (h : appErr ws f r keep = 0) (hf : cnt f (appC ws r keep).length = (appC ws r keep).length) : appS ws f r keep = (applyL (appC ws r keep) ws, burn f (appC ws r keep).length, 0) := by
  rw [app_chg h]
  unfold chgS
  rw [hf, List.take_length, perr_ok hf]

/-- With all power. -/
theorem app_neg {ws : List Int} {r : List Int} {keep : List (List Int)} (h : appErr ws (-1) r keep = 0) : appS ws (-1) r keep = (applyL (appC ws r keep) ws, -1, 0) := by
  rw [app_full h (cnt_neg _ (by decide)), burn_negf _ (by decide)]

theorem app_pow {ws : List Int} {r : List Int} {keep : List (List Int)} (k : Nat) (hk : k ≤ 1000) (h : appErr ws (-1) r keep = 0) (hle : (appC ws r keep).length ≤ k) : appS ws k r keep = (applyL (appC ws r keep) ws, (k : Int) - ((appC ws r keep).length : Int), 0) := by
  have hc : cnt (k : Int) (appC ws r keep).length = (appC ws r keep).length := by rw [cnt_nn _ (by omega)]; omega
  rw [app_full (appErr_fuel h (by omega) (by omega)) hc, burn_nn _ (by omega)]

theorem app_less {ws : List Int} {r : List Int} {keep : List (List Int)} (k : Nat) (hk : k ≤ 1000) (h : appErr ws (-1) r keep = 0) (hlt : k < (appC ws r keep).length) : (appS ws k r keep).2.2 = 7 := by
  rw [app_chg (appErr_fuel h (by omega) (by omega))]
  show perr _ _ = 7
  exact perr_no (by rw [cnt_nn _ (by omega)]; omega)

end Go.Proofs.Ytanpglfpopbfkaa
