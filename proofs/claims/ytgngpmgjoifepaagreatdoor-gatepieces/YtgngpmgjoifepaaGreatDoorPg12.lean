/- What a list of changes that programs words does. Plain facts: lists of changes one behind the other, of which there is power for so many. Plain facts: what is done in turn is a list of changes, of which there is power for so many. Plain facts on logs: what the records are behind some of the changes of an Append, and behind all. Plain facts on logs: however far an Append came, the records are those of ahead; done, those and the new one, or those that are kept and the new one. Plain facts on logs: what an Append leaves behind, done in part and done. -/
import Derived.Test.YtgngpmgjoifepaaGreatDoorPg11
import Derived.Test.YtgngpmgjoifepaaGreatDoorPg6
namespace Go.Proofs.YtgngpmgjoifepaaGreatDoor
open Go.RowKit
attribute [local go_sem ↓] Go.wp_at_zero Go.wp_at_succ

theorem ProL.lt {p n : Nat} {words : List Int} {cs : List (Nat × Option (Nat × Int))} (h : ProL p words n cs) (c : Nat × Option (Nat × Int)) (hc : c ∈ cs) : c.1 < p + n := by
  obtain ⟨i, hi, he⟩ := List.getElem_of_mem hc
  have hi' : i < n := by rw [h.1] at hi; exact hi
  obtain ⟨b, hb⟩ := h.2 i hi'
  rw [List.getElem?_eq_getElem hi, he] at hb
  have := Option.some.inj hb
  rw [this]
  simp only
  omega

theorem applyL_pro {ws words : List Int} {p n : Nat} {cs : List (Nat × Option (Nat × Int))} (h : ProL p words n cs) (hf : p + n ≤ ws.length) (k : Nat) (hk : k ≤ n) : applyL (cs.take k) ws = chg (andW words) p k ws := by
  induction k with
  | zero => rfl
  | succ k ih =>
    obtain ⟨b, hb⟩ := h.2 k (by omega)
    rw [applyL_succ cs ws k _ hb, ih (by omega)]
    simp only [apW]
    rw [chg_here (andW words) p k ws (by omega)]
    rfl

theorem chgS_pro {ws words : List Int} {fuel : Int} {p : Nat} {cs : List (Nat × Option (Nat × Int))} (h : chk ws fuel = 0) (hp : ProL p words words.length cs) (hf : p + words.length ≤ ws.length) (hok : okL words = true) : chgS ws fuel cs = progS ws fuel p words := by
  rw [prog_ok h hf hok]
  unfold chgS
  rw [hp.1, applyL_pro hp hf _ (cnt_le _ _)]

end Go.Proofs.YtgngpmgjoifepaaGreatDoor

namespace Go.Proofs.YtgngpmgjoifepaaGreatDoor
open Go.RowKit

theorem applyL_append (A B : List (Nat × Option (Nat × Int))) (ws : List Int) : applyL (A ++ B) ws = applyL B (applyL A ws) := by
  unfold applyL; rw [List.foldl_append]

theorem cnt_add_stop {f : Int} {n m : Nat} (h : cnt f n < n) : cnt f (n + m) = cnt f n := by
  by_cases hf : f < 0
  · rw [cnt_neg _ hf] at h; omega
  · rw [cnt_nn _ hf] at *; rw [cnt_nn _ hf]; omega
theorem cnt_add_go {f : Int} {n m : Nat} (h : cnt f n = n) : cnt f (n + m) = n + cnt (burn f n) m := by
  by_cases hf : f < 0
  · rw [cnt_neg _ hf, burn_negf _ hf, cnt_neg _ hf]
  · have h' := h
    rw [cnt_nn _ hf] at h'
    rw [cnt_nn _ hf, burn_nn _ hf, cnt_nn _ (by omega)]
    omega
theorem burn_add {f : Int} {n k : Nat} (h : cnt f n = n) : burn f (n + k) = burn (burn f n) k := by
  by_cases hf : f < 0
  · rw [burn_negf _ hf, burn_negf _ hf, burn_negf _ hf]
  · have h' := h
    rw [cnt_nn _ hf] at h'
    rw [burn_nn _ hf, burn_nn _ hf, burn_nn _ (by omega)]
    omega

theorem chgS_stop {ws : List Int} {f : Int} {A B : List (Nat × Option (Nat × Int))} (h : cnt f A.length < A.length) : chgS ws f (A ++ B) = chgS ws f A := by
  unfold chgS
  rw [List.length_append, cnt_add_stop h, perr_no h, perr_no (by rw [cnt_add_stop h]; omega), List.take_append_of_le_length (by omega)]

theorem chgS_go {ws : List Int} {f : Int} {A B : List (Nat × Option (Nat × Int))} (h : cnt f A.length = A.length) : chgS ws f (A ++ B) = chgS (applyL A ws) (burn f A.length) B := by
  unfold chgS
  rw [List.length_append, cnt_add_go h, burn_add h, List.take_length_add_append, applyL_append]
  congr 2
  unfold perr
  rw [cnt_add_go h]
  by_cases c : cnt (burn f A.length) B.length = B.length
  · rw [if_pos c, if_pos (by omega)]
  · rw [if_neg c, if_neg (by omega)]

end Go.Proofs.YtgngpmgjoifepaaGreatDoor

namespace Go.Proofs.YtgngpmgjoifepaaGreatDoor
open Go.RowKit

def proC (p : Nat) (words : List Int) : List (Nat × Option (Nat × Int)) := (List.range words.length).map (fun i => (p + i, some (0, words.getD i 0)))
theorem proC_length (p : Nat) (words : List Int) : (proC p words).length = words.length := by simp [proC]
theorem proC_pro (p : Nat) (words : List Int) : ProL p words words.length (proC p words) := by
  refine ⟨proC_length _ _, fun i hi => ⟨0, ?_⟩⟩
  simp [proC, hi]

/-- The changes of a step. -/
def stC : Stp → List (Nat × Option (Nat × Int))
  | .era s => eraL s 32
  | .prg p words => proC p words
def StOk (L : Nat) : Stp → Prop
  | .era s => s * 32 + 32 ≤ L
  | .prg p words => p + words.length ≤ L ∧ okL words = true

theorem doS_chg {st : Stp} {ws : List Int} {f : Int} (h : chk ws f = 0) (ho : StOk ws.length st) : doS st ws f = chgS ws f (stC st) := by
  have hp := chk_parts h
  cases st with
  | era s => exact (chgS_era h (by simp only [StOk] at ho; omega)).symm
  | prg p words => exact (chgS_pro h (proC_pro p words) ho.1 ho.2).symm

theorem applyL_ok {ws : List Int} {cs : List (Nat × Option (Nat × Int))} (h : okL ws = true) (hc : ∀ c ∈ cs, ∀ b x, c.2 = some (b, x) → okW x = true) : okL (applyL cs ws) = true := by
  induction cs generalizing ws with
  | nil => exact h
  | cons c cs ih =>
    show okL (applyL cs (ws.set c.1 (apW c.2 (ws.getD c.1 0)))) = true
    refine ih ?_ (fun d hd => hc d (List.mem_cons_of_mem _ hd))
    by_cases hlt : c.1 < ws.length
    · apply okL_of
      intro i hi
      simp at hi
      by_cases e : c.1 = i
      · subst e
        have : (ws.set c.1 (apW c.2 (ws.getD c.1 0))).getD c.1 0 = apW c.2 (ws.getD c.1 0) := by simp [hlt]
        rw [this]
        cases h2 : c.2 with
        | none => rfl
        | some p => obtain ⟨b, x⟩ := p; exact and_ok (okL_get h _ hlt) (hc c List.mem_cons_self b x h2)
      · have : (ws.set c.1 (apW c.2 (ws.getD c.1 0))).getD i 0 = ws.getD i 0 := by simp [e]
        rw [this]
        exact okL_get h i hi
    · rw [List.set_eq_of_length_le (by omega)]
      exact h

theorem stC_ok {L : Nat} {st : Stp} (h : StOk L st) : ∀ c ∈ stC st, ∀ b x, c.2 = some (b, x) → okW x = true := by
  intro c hc b x hx
  cases st with
  | era s => simp [stC, eraL] at hc; obtain ⟨i, _, rfl⟩ := hc; cases hx
  | prg p words =>
    simp only [stC, proC, List.mem_map, List.mem_range] at hc
    obtain ⟨i, hi, rfl⟩ := hc
    simp only [Option.some.injEq, Prod.mk.injEq] at hx
    rw [← hx.2]
    exact okL_get h.2 i hi

theorem chk_of {ws : List Int} {f f' : Int} {us : List Int} (h : chk ws f = 0) (hl : us.length = ws.length) (hok : okL us = true) (h0 : -1 ≤ f') (h1 : f' ≤ 100000) : chk us f' = 0 := by
  have q := chk_parts h
  apply chk_ok
  · rw [hl]; exact decide_eq_true q.1
  · unfold rangeB; rw [hok]; simp; omega

theorem turn_chg (sts : List Stp) (ws : List Int) (f : Int) (h : chk ws f = 0) (ho : ∀ st ∈ sts, StOk ws.length st) : turnS sts ws f = chgS ws f (sts.flatMap stC) := by
  induction sts generalizing ws f with
  | nil =>
    have : cnt f 0 = 0 := Nat.le_zero.1 (cnt_le _ _)
    show (ws, f, (0 : Int)) = chgS ws f []
    unfold chgS
    rw [List.length_nil, this, perr_ok this]
    have : burn f 0 = f := by unfold burn; split <;> simp
    rw [this]
    rfl
  | cons st sts ih =>
    have hd := doS_chg h (ho st List.mem_cons_self)
    have q := chk_parts h
    rw [List.flatMap_cons]
    by_cases c : cnt f (stC st).length = (stC st).length
    · have e2 : (doS st ws f).2.2 = 0 := by rw [hd]; exact perr_ok c
      rw [turnS_go e2, hd, chgS_go c]
      have e1 : (chgS ws f (stC st)).1 = applyL (stC st) ws := by unfold chgS; rw [c, List.take_length]
      have e3 : (chgS ws f (stC st)).2.1 = burn f (stC st).length := by unfold chgS; rw [c]
      rw [e1, e3]
      have bb := burn_bounds q.2.1 q.2.2.1 (Nat.le_of_eq c.symm)
      refine ih _ _ ?_ ?_
      · exact chk_of h (applyL_length _ _) (applyL_ok q.2.2.2 (stC_ok (ho st List.mem_cons_self))) bb.1 bb.2
      · rw [applyL_length]; exact fun d hd => ho d (List.mem_cons_of_mem _ hd)
    · have lt : cnt f (stC st).length < (stC st).length := by have := cnt_le f (stC st).length; omega
      have e2 : (doS st ws f).2.2 ≠ 0 := by
        rw [hd]
        show perr f (stC st).length ≠ 0
        rw [perr_no lt]; decide
      rw [turnS_stop e2, hd, chgS_stop lt]

/-! ### Append as changes -/
theorem addL_ok {xs r : List Int} (h : okL xs = true) (hr : recE r = 0) : okL (addL xs r) = true := by
  have q := recE_ok hr
  unfold addL okL at *
  rw [List.all_append, List.all_cons, h, q.2.2]
  have : okW (headS r.length) = true := by unfold okW headS; simp; omega
  rw [this]
  rfl

theorem addE_rec {xs r : List Int} (h : addE xs r = 0) : recE r = 0 := by
  unfold addE at h
  split at h
  · rename_i h1; exact absurd h h1
  · rename_i h1; simpa using h1

theorem laidS_ok (rs : List (List Int)) (xs : List Int) (h : okL xs = true) : okL (laidS rs xs).1 = true := by
  induction rs generalizing xs with
  | nil => exact h
  | cons r rs ih =>
    by_cases e : addE xs r = 0
    · rw [laidS_cons_ok e]; exact ih _ (addL_ok h (addE_rec e))
    · rw [laidS_cons_no e]; rfl

/-- Where Append has no error of its own. -/
theorem appErr_ok {ws : List Int} {f : Int} {r : List Int} {keep : List (List Int)} (h : appErr ws f r keep = 0) : lchk ws f = 0 ∧ recE r = 0 ∧ (laidA r keep).2 = 0 ∧ (fitsA ws r = true ∨ genN ws ≠ 60000) := by
  unfold appErr at h
  split at h
  · rename_i h1; exact absurd h h1
  · rename_i h1
    split at h
    · rename_i h2; exact absurd h h2
    · rename_i h2
      split at h
      · rename_i h3; exact absurd h h3
      · rename_i h3
        split at h
        · simp at h
        · rename_i h4
          refine ⟨by simpa using h1, by simpa using h2, by simpa using h3, ?_⟩
          cases hf : fitsA ws r
          · right; intro hg; exact h4 ⟨hf, hg⟩
          · left; rfl

theorem appErr_mk {ws : List Int} {f : Int} {r : List Int} {keep : List (List Int)} (h1 : lchk ws f = 0) (h2 : recE r = 0) (h3 : (laidA r keep).2 = 0) (h4 : fitsA ws r = true ∨ genN ws ≠ 60000) : appErr ws f r keep = 0 := by
  unfold appErr
  rw [if_neg (by simpa using h1), if_neg (by simpa using h2), if_neg (by simpa using h3), if_neg]
  rintro ⟨h5, h6⟩
  rcases h4 with h4 | h4
  · rw [h5] at h4; cases h4
  · exact h4 h6

theorem lchk_mk {ws : List Int} {f : Int} (h1 : chk ws f = 0) (h2 : 64 ≤ ws.length) (h3 : genN ws ≠ 0) (h4 : genN ws ≤ 60000) : lchk ws f = 0 := by
  have hs : secS ws f = 0 := by unfold secS; rw [if_neg (by simpa using h1), if_neg (by omega)]
  unfold lchk
  rw [if_neg (by simpa using hs), if_neg (by omega)]

theorem lchk_fuel {ws : List Int} {f f' : Int} (h : lchk ws f = 0) (h0 : -1 ≤ f') (h1 : f' ≤ 100000) : lchk ws f' = 0 := by
  have q := lchk_parts h
  exact lchk_mk (chk_fuel q.1 h0 h1) q.2.1 q.2.2.2.2.1 q.2.2.2.2.2

theorem appErr_fuel {ws : List Int} {f f' : Int} {r : List Int} {keep : List (List Int)} (h : appErr ws f r keep = 0) (h0 : -1 ≤ f') (h1 : f' ≤ 100000) : appErr ws f' r keep = 0 := by
  have q := appErr_ok h
  exact appErr_mk (lchk_fuel q.1 h0 h1) q.2.1 q.2.2.1 q.2.2.2

/-- The changes of an Append. -/
def appC (ws r : List Int) (keep : List (List Int)) : List (Nat × Option (Nat × Int)) := (appSteps ws r keep).flatMap stC

theorem headS_ok {n : Nat} (h : n ≤ 4) : okW (headS n) = true := by unfold okW headS; simp; omega

theorem fitsA_parts {ws r : List Int} (h : fitsA ws r = true) : cleanS (restS ws) = true ∧ r.length < (restS ws).length := by
  unfold fitsA at h
  simpa using h

theorem appSteps_ok {ws : List Int} {f : Int} {r : List Int} {keep : List (List Int)} (h : appErr ws f r keep = 0) : ∀ st ∈ appSteps ws r keep, StOk ws.length st := by
  have q := appErr_ok h
  have l := lchk_parts q.1
  have rr := recE_ok q.2.1
  have hf := restS_few l.2.1
  have hs := secN_01 ws
  intro st hst
  unfold appSteps at hst
  split at hst
  · rename_i hfit
    have hp := fitsA_parts hfit
    simp only [List.mem_cons, List.not_mem_nil, or_false] at hst
    rcases hst with rfl | rfl
    · exact ⟨by unfold headP; rcases hs with e | e <;> rw [e] <;> omega, rr.2.2⟩
    · exact ⟨by unfold headP; simp only [List.length_cons, List.length_nil]; rcases hs with e | e <;> rw [e] <;> omega, by unfold okL; rw [List.all_cons, headS_ok rr.2.1]; rfl⟩
  · rename_i hfit
    simp only [List.mem_cons, List.not_mem_nil, or_false] at hst
    have hl : (laidA r keep).1.length ≤ 31 := laidS_few _ _ (by simp)
    have hg := q.2.2.2.resolve_left hfit
    have hgn := genN_nonneg l.2.2.2.1 l.2.1
    rcases hst with rfl | rfl | rfl
    · show (1 - secN ws) * 32 + 32 ≤ _
      omega
    · exact ⟨by omega, laidS_ok _ _ rfl⟩
    · refine ⟨by simp only [List.length_cons, List.length_nil]; omega, ?_⟩
      unfold okL
      rw [List.all_cons]
      have : okW (genN ws + 1) = true := by unfold okW; simp; omega
      rw [this]; rfl

theorem app_chg {ws : List Int} {f : Int} {r : List Int} {keep : List (List Int)} (h : appErr ws f r keep = 0) : appS ws f r keep = chgS ws f (appC ws r keep) := by
  unfold appS
  rw [if_neg (by simpa using h)]
  exact turn_chg _ _ _ (lchk_parts (appErr_ok h).1).1 (appSteps_ok h)

theorem app_err {ws : List Int} {f : Int} {r : List Int} {keep : List (List Int)} (h : appErr ws f r keep ≠ 0) : appS ws f r keep = ([], 0, appErr ws f r keep) := by
  unfold appS
  rw [if_pos h]

theorem appC_few {ws r : List Int} {keep : List (List Int)} (hr : recE r = 0) : 2 ≤ (appC ws r keep).length ∧ (appC ws r keep).length ≤ 64 := by
  have rr := recE_ok hr
  have hl : (laidA r keep).1.length ≤ 31 := laidS_few _ _ (by simp)
  unfold appC appSteps
  split
  · simp [stC, proC_length]; omega
  · simp [stC, proC_length, eraL_length]; omega

theorem app_full {ws : List Int} {f : Int} {r : List Int} {keep : List (List Int)} (h : appErr ws f r keep = 0) (hf : cnt f (appC ws r keep).length = (appC ws r keep).length) : appS ws f r keep = (applyL (appC ws r keep) ws, burn f (appC ws r keep).length, 0) := by
  rw [app_chg h]
  unfold chgS
  rw [hf, List.take_length, perr_ok hf]

/-- With all power. -/
theorem app_neg {ws : List Int} {r : List Int} {keep : List (List Int)} (h : appErr ws (-1) r keep = 0) : appS ws (-1) r keep = (applyL (appC ws r keep) ws, -1, 0) := by
  rw [app_full h (cnt_neg _ (by decide)), burn_negf _ (by decide)]

theorem app_pow {ws : List Int} {r : List Int} {keep : List (List Int)} (k : Nat) (hk : k ≤ 1000) (h : appErr ws (-1) r keep = 0) (hle : (appC ws r keep).length ≤ k) : appS ws k r keep = (applyL (appC ws r keep) ws, (k : Int) - ((appC ws r keep).length : Int), 0) := by
  have hc : cnt (k : Int) (appC ws r keep).length = (appC ws r keep).length := by rw [cnt_nn _ (by omega)]; omega
  rw [app_full (appErr_fuel h (by omega) (by omega)) hc, burn_nn _ (by omega)]

theorem app_less {ws : List Int} {r : List Int} {keep : List (List Int)} (k : Nat) (hk : k ≤ 1000) (h : appErr ws (-1) r keep = 0) (hlt : k < (appC ws r keep).length) : (appS ws k r keep).2.2 = 7 := by
  rw [app_chg (appErr_fuel h (by omega) (by omega))]
  show perr _ _ = 7
  exact perr_no (by rw [cnt_nn _ (by omega)]; omega)

end Go.Proofs.YtgngpmgjoifepaaGreatDoor

namespace Go.Proofs.YtgngpmgjoifepaaGreatDoor
open Go.RowKit

/-! ### Two flashes that begin alike -/
theorem take_getD {xs ys : List Int} {k : Nat} (h : ∀ i, i < k → xs.getD i 0 = ys.getD i 0) (hx : k ≤ xs.length) (hy : k ≤ ys.length) : xs.take k = ys.take k := by
  apply ext_getD (by simp; omega)
  intro i hi
  simp at hi
  have := h i (by omega)
  simpa [show i < k by omega] using this

theorem secL_ext {ws us : List Int} {s : Nat} (hl : us.length = ws.length) (h : ∀ i, s * 32 + 1 ≤ i → i < s * 32 + 32 → us.getD i 0 = ws.getD i 0) : secL us s = secL ws s := by
  unfold secL
  apply ext_getD (by simp [hl])
  intro i hi
  simp at hi
  have := h (s * 32 + 1 + i) (by omega) (by omega)
  simpa [show i < 31 by omega] using this

theorem genS_ext {ws us : List Int} {s : Nat} (h : us.getD (s * 32) 0 = ws.getD (s * 32) 0) : genS us s = genS ws s := by unfold genS; rw [h]

theorem log_ext {ws us : List Int} (hl : us.length = ws.length) (h : ∀ i, i < 64 → us.getD i 0 = ws.getD i 0) : secN us = secN ws ∧ genN us = genN ws ∧ secL us (secN us) = secL ws (secN ws) := by
  have g0 : genS us 0 = genS ws 0 := genS_ext (h _ (by omega))
  have g1 : genS us 1 = genS ws 1 := genS_ext (h _ (by omega))
  have hs : secN us = secN ws := by unfold secN; rw [g0, g1]
  refine ⟨hs, by unfold genN; rw [g0, g1], ?_⟩
  rw [hs]
  apply secL_ext hl
  intro i h1 h2
  rcases secN_01 ws with e | e <;> rw [e] at h1 h2 <;> exact h i (by omega)

theorem logR_ext {ws us : List Int} (hl : us.length = ws.length) (h : ∀ i, i < 64 → us.getD i 0 = ws.getD i 0) : logR us = logR ws := by
  unfold logR; rw [(log_ext hl h).2.2]

theorem lchk_ext {ws us : List Int} {f f' : Int} (hk : lchk ws f = 0) (hl : us.length = ws.length) (h : ∀ i, i < 64 → us.getD i 0 = ws.getD i 0) (hok : okL us = true) (h0 : -1 ≤ f') (h1 : f' ≤ 100000) : lchk us f' = 0 := by
  have q := lchk_parts hk
  have e := (log_ext hl h).2.1
  exact lchk_mk (chk_of q.1 hl hok h0 h1) (by omega) (by rw [e]; exact q.2.2.2.2.1) (by rw [e]; exact q.2.2.2.2.2)

theorem recs_ok {ws : List Int} {f : Int} (h : lchk ws f = 0) : recsS ws f = (logR ws, 0) := by unfold recsS; rw [if_neg (by simpa using h)]

/-! ### What changes leave alone -/
theorem applyL_far {cs : List (Nat × Option (Nat × Int))} {ws : List Int} {i : Nat} (h : ∀ c ∈ cs, c.1 ≠ i) : (applyL cs ws).getD i 0 = ws.getD i 0 := by
  induction cs generalizing ws with
  | nil => rfl
  | cons c cs ih =>
    show (applyL cs (ws.set c.1 (apW c.2 (ws.getD c.1 0)))).getD i 0 = _
    rw [ih (fun d hd => h d (List.mem_cons_of_mem _ hd))]
    have := h c List.mem_cons_self
    simp [this]

theorem stC_far {st : Stp} {c : Nat × Option (Nat × Int)} (hc : c ∈ stC st) : match st with
    | .era s => s * 32 ≤ c.1 ∧ c.1 < s * 32 + 32
    | .prg p words => p ≤ c.1 ∧ c.1 < p + words.length := by
  cases st with
  | era s => simp [stC, eraL] at hc; obtain ⟨i, hi, rfl⟩ := hc; simp only; omega
  | prg p words => simp only [stC, proC, List.mem_map, List.mem_range] at hc; obtain ⟨i, hi, rfl⟩ := hc; simp only; omega

/-- The words that an Append changes lie in the log. -/
theorem appC_low {ws : List Int} {f : Int} {r : List Int} {keep : List (List Int)} (h : appErr ws f r keep = 0) : ∀ c ∈ appC ws r keep, c.1 < 64 := by
  intro c hc
  have q := appErr_ok h
  have l := lchk_parts q.1
  have hf := restS_few l.2.1
  have hs := secN_01 ws
  have hl : (laidA r keep).1.length ≤ 31 := laidS_few _ _ (by simp)
  unfold appC at hc
  rw [List.mem_flatMap] at hc
  obtain ⟨st, hst, hc⟩ := hc
  have hfar := stC_far hc
  unfold appSteps at hst
  split at hst
  · rename_i hfit
    have hp := fitsA_parts hfit
    simp only [List.mem_cons, List.not_mem_nil, or_false] at hst
    rcases hst with rfl | rfl
    · simp only [headP] at hfar; omega
    · simp only [headP, List.length_cons, List.length_nil] at hfar; omega
  · simp only [List.mem_cons, List.not_mem_nil, or_false] at hst
    rcases hst with rfl | rfl | rfl
    · simp only at hfar; omega
    · simp only at hfar; omega
    · simp only [List.length_cons, List.length_nil] at hfar; omega

/-- However far it came, all behind the log stays. -/
theorem app_behind {ws : List Int} {f : Int} {r : List Int} {keep : List (List Int)} (h : appErr ws f r keep = 0) : (appS ws f r keep).1.length = ws.length ∧ ∀ i, 64 ≤ i → (appS ws f r keep).1.getD i 0 = ws.getD i 0 := by
  rw [app_chg h]
  refine ⟨applyL_length _ _, fun i hi => applyL_far (fun c hc => ?_)⟩
  have := appC_low h c (List.mem_of_mem_take hc)
  omega

/-! ### Parsing -/
theorem parseN_rest (k : Nat) (l : List Int) : (parseN k l).2.length ≤ l.length := by
  induction k generalizing l with
  | zero => simp [parseN]
  | succ k ih =>
    rw [parseN_succ]
    split
    · simp
    · have := ih (l.drop (1 + longS l))
      simp at this ⊢
      omega
theorem parseS_rest (l : List Int) : (parseS l).2.length ≤ l.length := parseN_rest _ _

theorem longS_congr {l l' : List Int} (h : l.getD 0 0 = l'.getD 0 0) (hl : l.length = l'.length) : longS l = longS l' := by
  cases l with
  | nil => cases l' with
    | nil => rfl
    | cons _ _ => simp at hl
  | cons x r => cases l' with
    | nil => simp at hl
    | cons y r' =>
      simp at h hl
      simp only [longS]
      rw [h, hl]

/-- Other words behind the records: the records stay, and more may come. -/
theorem parse_swap : ∀ (N : Nat) (l : List Int), l.length ≤ N → ∀ (rest' : List Int), rest'.length = (parseS l).2.length →
    parseS (l.take (l.length - (parseS l).2.length) ++ rest') = ((parseS l).1 ++ (parseS rest').1, (parseS rest').2) := by
  intro N
  induction N with
  | zero =>
    intro l hl rest' hr
    have : l = [] := List.eq_nil_of_length_eq_zero (by omega)
    subst this
    have h0 : parseS ([] : List Int) = ([], []) := rfl
    rw [h0] at hr ⊢
    simp at hr
    subst hr
    rfl
  | succ N ih =>
    intro l hl rest' hr
    by_cases h0 : longS l = 0
    · rw [parseS_stop h0] at hr ⊢
      simp
    · have hlt := longS_lt (l := l) (by omega)
      have hst := parseS_step h0
      obtain ⟨n, hn⟩ : ∃ n, n = longS l := ⟨_, rfl⟩
      rw [← hn] at hst hlt h0
      have hrl := parseS_rest (l.drop (1 + n))
      rw [List.length_drop] at hrl
      have e2 : (parseS l).2 = (parseS (l.drop (1 + n))).2 := by rw [hst]
      rw [e2] at hr
      have hih := ih (l.drop (1 + n)) (by simp; omega) rest' hr
      obtain ⟨m, hm⟩ : ∃ m, m = (parseS (l.drop (1 + n))).2.length := ⟨_, rfl⟩
      rw [← hm] at hih hr hrl
      rw [List.length_drop] at hih
      have e3 : l.length - (parseS l).2.length = l.length - m := by rw [e2, hm]
      rw [e3]
      have hlen : (l.take (l.length - m) ++ rest').length = l.length := by simp [hr]; omega
      have hlong : longS (l.take (l.length - m) ++ rest') = n := by
        rw [hn]
        refine longS_congr ?_ hlen
        cases l with
        | nil => simp at hlt
        | cons x t =>
          have : 0 < (x :: t).length - m := by omega
          obtain ⟨q, hq⟩ : ∃ q, (x :: t).length - m = q + 1 := ⟨(x :: t).length - m - 1, by omega⟩
          rw [hq]
          rfl
      have hne : longS (l.take (l.length - m) ++ rest') ≠ 0 := by rw [hlong]; exact h0
      rw [parseS_step hne, hlong]
      have hd : (l.take (l.length - m) ++ rest').drop (1 + n) = (l.drop (1 + n)).take (l.length - (1 + n) - m) ++ rest' := by
        rw [List.drop_append_of_le_length (by simp; omega), List.drop_take]
        congr 2
        omega
      have ht : ((l.take (l.length - m) ++ rest').drop 1).take n = (l.drop 1).take n := by
        rw [List.drop_append_of_le_length (by simp; omega), List.take_append_of_le_length (by simp; omega), List.drop_take, List.take_take]
        congr 1
        omega
      rw [hd, ht, hih, hst]
      simp

theorem parse_split (l : List Int) : l = l.take (l.length - (parseS l).2.length) ++ (parseS l).2 := by
  have : ∀ (N : Nat) (l : List Int), l.length ≤ N → l = l.take (l.length - (parseS l).2.length) ++ (parseS l).2 := by
    intro N
    induction N with
    | zero =>
      intro l hl
      have : l = [] := List.eq_nil_of_length_eq_zero (by omega)
      subst this
      rfl
    | succ N ih =>
      intro l hl
      by_cases h0 : longS l = 0
      · rw [parseS_stop h0]; simp
      · have hlt := longS_lt (l := l) (by omega)
        have hst := parseS_step h0
        have hih := ih (l.drop (1 + longS l)) (by simp; omega)
        have e2 : (parseS l).2 = (parseS (l.drop (1 + longS l))).2 := by rw [hst]
        have hrl := parseS_rest (l.drop (1 + longS l))
        rw [List.length_drop] at hrl hih
        rw [e2]
        obtain ⟨R, hR⟩ : ∃ R, R = (parseS (l.drop (1 + longS l))).2 := ⟨_, rfl⟩
        rw [← hR] at hih hrl ⊢
        have h1 : l = l.take (1 + longS l) ++ l.drop (1 + longS l) := (List.take_append_drop _ _).symm
        have h2 : l.take (l.length - R.length) = l.take (1 + longS l) ++ (l.drop (1 + longS l)).take (l.length - (1 + longS l) - R.length) := by
          conv => lhs; rw [show l.length - R.length = (1 + longS l) + (l.length - (1 + longS l) - R.length) by omega]
          rw [List.take_add]
        rw [h2, List.append_assoc, ← hih]
        exact h1
  exact this l.length l (Nat.le_refl _)

theorem longS_clean {l : List Int} (h : cleanS l = true) : longS l = 0 := by
  cases l with
  | nil => rfl
  | cons x r =>
    unfold cleanS at h
    simp at h
    simp only [longS]
    rw [if_neg (by omega)]

theorem clean_rep (n : Nat) : cleanS (List.replicate n 65535) = true := by
  unfold cleanS
  simp

/-- A record ahead of what is clean. -/
theorem parse_one {r rest : List Int} (hr : recE r = 0) (t : List (List Int) × List Int) (ht : parseS rest = t) : parseS (headS r.length :: r ++ rest) = (r :: t.1, t.2) := by
  have q := recE_ok hr
  have hl : longS (headS r.length :: r ++ rest) = r.length := by
    show longS (headS r.length :: (r ++ rest)) = _
    simp only [longS]
    unfold headS
    rw [if_pos (by simp; omega)]
    omega
  rw [parseS_step (by rw [hl]; omega), hl]
  have h1 : (headS r.length :: r ++ rest).drop (1 + r.length) = rest := by
    rw [Nat.add_comm]
    simp
  have h2 : ((headS r.length :: r ++ rest).drop 1).take r.length = r := by simp
  rw [h1, h2, ht]

/-- The words of records, one behind the other. -/
def flat (rs : List (List Int)) : List Int := rs.flatMap (fun r => headS r.length :: r)

theorem laidS_flat (rs : List (List Int)) (xs : List Int) (h : (laidS rs xs).2 = 0) : (laidS rs xs).1 = xs ++ flat rs ∧ ∀ r ∈ rs, recE r = 0 := by
  induction rs generalizing xs with
  | nil => exact ⟨by simp [laidS, flat], by simp⟩
  | cons r rs ih =>
    by_cases e : addE xs r = 0
    · rw [laidS_cons_ok e] at h ⊢
      obtain ⟨h1, h2⟩ := ih _ h
      refine ⟨by rw [h1]; simp [addL, flat], fun q hq => ?_⟩
      rcases List.mem_cons.1 hq with rfl | hq
      · exact addE_rec e
      · exact h2 q hq
    · rw [laidS_cons_no e] at h; exact absurd h e

theorem parse_flat (rs : List (List Int)) (rest : List Int) (h : ∀ r ∈ rs, recE r = 0) (hc : cleanS rest = true) : parseS (flat rs ++ rest) = (rs, rest) := by
  induction rs with
  | nil => exact parseS_stop (longS_clean hc)
  | cons r rs ih =>
    have := parse_one (rest := flat rs ++ rest) (h r List.mem_cons_self) _ (ih (fun q hq => h q (List.mem_cons_of_mem _ hq)))
    have e : flat (r :: rs) ++ rest = headS r.length :: r ++ (flat rs ++ rest) := by simp [flat]
    rw [e]
    exact this

end Go.Proofs.YtgngpmgjoifepaaGreatDoor

namespace Go.Proofs.YtgngpmgjoifepaaGreatDoor
open Go.RowKit

theorem genS_all {ws : List Int} {s : Nat} (h : ws.getD (s * 32) 0 = 65535) : genS ws s = 0 := by unfold genS; rw [if_pos h]
theorem genS_word {ws : List Int} {s : Nat} {x : Int} (h : ws.getD (s * 32) 0 = x) (hx : x ≠ 65535) : genS ws s = x := by unfold genS; rw [h, if_neg hx]

theorem genN_sec (ws : List Int) : genN ws = genS ws (secN ws) := by
  unfold genN secN
  split <;> rfl

/-- The other sector's generation is no greater. -/
theorem gen_other (ws : List Int) : genS ws (1 - secN ws) ≤ genN ws := by
  unfold genN secN
  split
  · simp; omega
  · simp; omega

/-- A log in which the sector s says more than the other one. -/
theorem sec_of {us : List Int} {s : Nat} (hs : s = 0 ∨ s = 1) (h : genS us (1 - s) < genS us s) : secN us = s ∧ genN us = genS us s := by
  rcases hs with rfl | rfl
  · have : ¬ genS us 0 < genS us 1 := by simp at h; omega
    unfold secN genN
    rw [if_neg this, if_neg this]
    exact ⟨rfl, rfl⟩
  · have : genS us 0 < genS us 1 := by simpa using h
    unfold secN genN
    rw [if_pos this, if_pos this]
    exact ⟨rfl, rfl⟩

/-! ### r fits: the records' words are programmed, then the head -/

/-- The sector's words behind its records, at their places. -/
theorem rest_at {ws : List Int} (h : 64 ≤ ws.length) (i : Nat) (hi : i < (restS ws).length) : (restS ws).getD i 0 = ws.getD (headP ws + i) 0 := by
  have hs := secN_01 ws
  have hl : (secL ws (secN ws)).length = 31 := secL_length (by omega)
  have hf := restS_few h
  have hsp := parse_split (secL ws (secN ws))
  have hr : (parseS (secL ws (secN ws))).2 = restS ws := rfl
  rw [hr, hl] at hsp
  have h1 : (secL ws (secN ws)).getD (31 - (restS ws).length + i) 0 = (restS ws).getD i 0 := by
    rw [hsp]
    have : ((secL ws (secN ws)).take (31 - (restS ws).length)).length = 31 - (restS ws).length := by rw [List.length_take, hl]; omega
    simp only [List.getD_eq_getElem?_getD]
    rw [List.getElem?_append_right (by rw [this]; omega), this]
    congr 2
    omega
  rw [← h1]
  unfold secL headP
  simp only [List.getD_eq_getElem?_getD]
  rw [List.getElem?_take_of_lt (by omega), List.getElem?_drop]
  congr 2
  omega

/-- What the log says where only words behind the records have turned. -/
theorem log_rest {ws us : List Int} (h : 64 ≤ ws.length) (hl : us.length = ws.length) (hsame : ∀ i, i < 64 → i < headP ws ∨ (secN ws + 1) * 32 ≤ i → us.getD i 0 = ws.getD i 0) :
    secN us = secN ws ∧ genN us = genN ws ∧ secL us (secN ws) = (secL ws (secN ws)).take (31 - (restS ws).length) ++ (secL us (secN ws)).drop (31 - (restS ws).length) := by
  have hs := secN_01 ws
  have hf := restS_few h
  have hh : headP ws + (restS ws).length = (secN ws + 1) * 32 := by unfold headP; omega
  have g : ∀ s, s = 0 ∨ s = 1 → genS us s = genS ws s := fun s hs' => genS_ext (hsame _ (by omega) (by omega))
  have e0 := g 0 (.inl rfl)
  have e1 := g 1 (.inr rfl)
  refine ⟨by unfold secN; rw [e0, e1], by unfold genN; rw [e0, e1], ?_⟩
  have hl1 : (secL ws (secN ws)).length = 31 := secL_length (by omega)
  have hl2 : (secL us (secN ws)).length = 31 := secL_length (by omega)
  conv => lhs; rw [← List.take_append_drop (31 - (restS ws).length) (secL us (secN ws))]
  congr 1
  apply take_getD ?_ (by omega) (by omega)
  intro i hi
  unfold secL
  simp only [List.getD_eq_getElem?_getD]
  rw [List.getElem?_take_of_lt (by omega), List.getElem?_drop, List.getElem?_take_of_lt (by omega), List.getElem?_drop]
  have := hsame (secN ws * 32 + 1 + i) (by omega) (by omega)
  simpa only [List.getD_eq_getElem?_getD] using this

theorem log_rest_R {ws us : List Int} (h : 64 ≤ ws.length) (hl : us.length = ws.length) (hsame : ∀ i, i < 64 → i < headP ws ∨ (secN ws + 1) * 32 ≤ i → us.getD i 0 = ws.getD i 0) :
    logR us = logR ws ++ (parseS ((secL us (secN ws)).drop (31 - (restS ws).length))).1 := by
  obtain ⟨h1, _, h3⟩ := log_rest h hl hsame
  have hs := secN_01 ws
  have hl1 : (secL ws (secN ws)).length = 31 := secL_length (by omega)
  have hl2 : (secL us (secN ws)).length = 31 := secL_length (by omega)
  have hf := restS_few h
  have := parse_swap 31 (secL ws (secN ws)) (by omega) ((secL us (secN ws)).drop (31 - (restS ws).length)) (by rw [List.length_drop, hl2]; show _ = (restS ws).length; omega)
  rw [hl1, show (parseS (secL ws (secN ws))).2 = restS ws from rfl, ← h3] at this
  unfold logR
  rw [h1, this]

/-- The words from the head's place on, as they lie. -/
theorem rest_us {ws us : List Int} (h : 64 ≤ ws.length) : (secL us (secN ws)).drop (31 - (restS ws).length) = (us.drop (headP ws)).take (restS ws).length := by
  have hs := secN_01 ws
  have hf := restS_few h
  unfold secL headP
  rw [List.drop_take, List.drop_drop]
  congr 1
  · omega
  · congr 1
    omega

end Go.Proofs.YtgngpmgjoifepaaGreatDoor

namespace Go.Proofs.YtgngpmgjoifepaaGreatDoor
open Go.RowKit

theorem longS_erased {l : List Int} (h : l.getD 0 0 = 65535) : longS l = 0 := by
  cases l with
  | nil => rfl
  | cons x r =>
    simp at h
    simp only [longS]
    rw [if_neg (by omega)]

theorem clean_get {l : List Int} (h : cleanS l = true) (i : Nat) (hi : i < l.length) : l.getD i 0 = 65535 := by
  unfold cleanS at h
  rw [List.all_eq_true] at h
  have := h l[i] (List.getElem_mem hi)
  rw [getD_at hi]
  simpa using this

theorem drop_take_get (l : List Int) (p m i : Nat) (hi : i < m) : ((l.drop p).take m).getD i 0 = l.getD (p + i) 0 := by
  simp only [List.getD_eq_getElem?_getD]
  rw [List.getElem?_take_of_lt hi, List.getElem?_drop]

theorem applyL_pro_all {ws words : List Int} {p : Nat} (hf : p + words.length ≤ ws.length) : applyL (proC p words) ws = chg (andW words) p words.length ws := by
  have := applyL_pro (proC_pro p words) hf words.length (Nat.le_refl _)
  rw [← this, List.take_of_length_le (by rw [proC_length]; exact Nat.le_refl _)]

/-! ### r fits -/
theorem fit_stay {ws r : List Int} {f : Int} (hk : lchk ws f = 0) (hfit : fitsA ws r = true) (k : Nat) (hkr : k ≤ r.length) : logR (chg (andW r) (headP ws + 1) k ws) = logR ws ∧ genN (chg (andW r) (headP ws + 1) k ws) = genN ws := by
  have q := lchk_parts hk
  have hp := fitsA_parts hfit
  have hs := secN_01 ws
  have hf := restS_few q.2.1
  have hh : headP ws + (restS ws).length = (secN ws + 1) * 32 := by unfold headP; omega
  have hsame : ∀ i, i < 64 → i < headP ws ∨ (secN ws + 1) * 32 ≤ i → (chg (andW r) (headP ws + 1) k ws).getD i 0 = ws.getD i 0 := fun i hi hc => by
    rw [chg_get _ _ _ _ _ (by omega), if_neg (by omega)]
  refine ⟨?_, (log_rest q.2.1 (chg_length _ _ _ _) hsame).2.1⟩
  rw [log_rest_R q.2.1 (chg_length _ _ _ _) hsame, rest_us q.2.1]
  have h0 : (((chg (andW r) (headP ws + 1) k ws).drop (headP ws)).take (restS ws).length).getD 0 0 = 65535 := by
    rw [drop_take_get _ _ _ _ (by omega), chg_get _ _ _ _ _ (by omega), if_neg (by omega), ← rest_at q.2.1 0 (by omega)]
    exact clean_get hp.1 0 (by omega)
  rw [parseS_stop (longS_erased h0)]
  simp

theorem fit_new {ws r : List Int} {f : Int} (hk : lchk ws f = 0) (hr : recE r = 0) (hfit : fitsA ws r = true) :
    logR (chg (andW [headS r.length]) (headP ws) 1 (chg (andW r) (headP ws + 1) r.length ws)) = logR ws ++ [r] ∧ genN (chg (andW [headS r.length]) (headP ws) 1 (chg (andW r) (headP ws + 1) r.length ws)) = genN ws := by
  have q := lchk_parts hk
  have rr := recE_ok hr
  have hp := fitsA_parts hfit
  have hs := secN_01 ws
  have hf := restS_few q.2.1
  have hh : headP ws + (restS ws).length = (secN ws + 1) * 32 := by unfold headP; omega
  obtain ⟨us, hus⟩ : ∃ us, us = chg (andW [headS r.length]) (headP ws) 1 (chg (andW r) (headP ws + 1) r.length ws) := ⟨_, rfl⟩
  have hlen : us.length = ws.length := by rw [hus, chg_length, chg_length]
  have hget : ∀ i, i < 64 → us.getD i 0 = if i = headP ws then andW [headS r.length] 0 (ws.getD i 0) else if headP ws + 1 ≤ i ∧ i < headP ws + 1 + r.length then andW r (i - (headP ws + 1)) (ws.getD i 0) else ws.getD i 0 := fun i hi => by
    rw [hus, chg_get _ _ _ _ _ (by rw [chg_length]; omega), chg_get _ _ _ _ _ (by omega)]
    by_cases c : i = headP ws
    · rw [if_pos (by omega), if_pos c, if_neg (by omega)]
      congr 1
      omega
    · rw [if_neg (by omega), if_neg c]
  have hsame : ∀ i, i < 64 → i < headP ws ∨ (secN ws + 1) * 32 ≤ i → us.getD i 0 = ws.getD i 0 := fun i hi hc => by
    rw [hget i hi, if_neg (by omega), if_neg (by omega)]
  rw [← hus]
  refine ⟨?_, (log_rest q.2.1 hlen hsame).2.1⟩
  rw [log_rest_R q.2.1 hlen hsame, rest_us q.2.1]
  have hold : ∀ i, i < (restS ws).length → ws.getD (headP ws + i) 0 = 65535 := fun i hi => by rw [← rest_at q.2.1 i hi]; exact clean_get hp.1 i hi
  have hwords : (us.drop (headP ws)).take (restS ws).length = headS r.length :: r ++ List.replicate ((restS ws).length - 1 - r.length) 65535 := by
    apply ext_getD
    · simp [hlen]; omega
    · intro i hi
      have hi' : i < (restS ws).length := by simp at hi; omega
      rw [drop_take_get _ _ _ _ hi', hget _ (by omega), hold i hi']
      by_cases c0 : i = 0
      · subst c0
        rw [if_pos (by omega)]
        show bits .and .i64 65535 (headS r.length) = _
        rw [and_full (headS_ok rr.2.1)]
        rfl
      · rw [if_neg (by omega)]
        obtain ⟨j, rfl⟩ : ∃ j, i = j + 1 := ⟨i - 1, by omega⟩
        by_cases c1 : j < r.length
        · rw [if_pos (by omega)]
          have e : headP ws + (j + 1) - (headP ws + 1) = j := by omega
          rw [e]
          show bits .and .i64 65535 (r.getD j 0) = _
          rw [and_full (okL_get rr.2.2 j c1), List.cons_append]
          simp only [List.getD_eq_getElem?_getD, List.getElem?_cons_succ]
          rw [List.getElem?_append_left c1]
        · rw [if_neg (by omega)]
          rw [List.cons_append]
          simp only [List.getD_eq_getElem?_getD, List.getElem?_cons_succ]
          rw [List.getElem?_append_right (by omega), List.getElem?_replicate, if_pos (by omega)]
          rfl
  rw [hwords, parse_one hr _ rfl, parseS_stop (longS_clean (clean_rep _))]

/-! ### It goes into the other sector -/
theorem swap_stay {ws us : List Int} {f : Int} (hk : lchk ws f = 0) (hl : us.length = ws.length) (hsame : ∀ i, secN ws * 32 ≤ i → i < secN ws * 32 + 32 → us.getD i 0 = ws.getD i 0) (hz : us.getD ((1 - secN ws) * 32) 0 = 65535) : logR us = logR ws ∧ genN us = genN ws := by
  have q := lchk_parts hk
  have hs := secN_01 ws
  have hgn := genN_nonneg q.2.2.2.1 q.2.1
  have e1 : genS us (secN ws) = genN ws := by rw [genN_sec]; exact genS_ext (hsame _ (Nat.le_refl _) (by omega))
  have e0 : genS us (1 - secN ws) = 0 := genS_all hz
  obtain ⟨h1, h2⟩ := sec_of hs (show genS us (1 - secN ws) < genS us (secN ws) by rw [e0, e1]; omega)
  refine ⟨?_, by rw [h2, e1]⟩
  unfold logR
  rw [h1, secL_ext hl (fun i h3 h4 => hsame i (by omega) h4)]

theorem swap_new {ws us : List Int} {f : Int} {r : List Int} {keep : List (List Int)} (hk : lchk ws f = 0) (hla : (laidA r keep).2 = 0) (hl : us.length = ws.length) (hsame : us.getD (secN ws * 32) 0 = ws.getD (secN ws * 32) 0) (hz : us.getD ((1 - secN ws) * 32) 0 = genN ws + 1)
    (hw : ∀ i, i < 31 → us.getD ((1 - secN ws) * 32 + 1 + i) 0 = if i < (laidA r keep).1.length then (laidA r keep).1.getD i 0 else 65535) : logR us = keep ++ [r] ∧ genN us = genN ws + 1 := by
  have q := lchk_parts hk
  have hs := secN_01 ws
  have hgn := genN_nonneg q.2.2.2.1 q.2.1
  have e1 : genS us (secN ws) = genN ws := by rw [genN_sec]; exact genS_ext hsame
  have e0 : genS us (1 - secN ws) = genN ws + 1 := genS_word hz (by omega)
  have hoo : 1 - (1 - secN ws) = secN ws := by omega
  obtain ⟨h1, h2⟩ := sec_of (s := 1 - secN ws) (by omega) (show genS us (1 - (1 - secN ws)) < genS us (1 - secN ws) by rw [hoo, e0, e1]; omega)
  refine ⟨?_, by rw [h2, e0]⟩
  unfold logR
  rw [h1]
  obtain ⟨f1, f2⟩ := laidS_flat (keep ++ [r]) [] hla
  have hfl : (laidA r keep).1 = flat (keep ++ [r]) := by
    show (laidS (keep ++ [r]) []).1 = _
    rw [f1]; simp
  have hle : (laidA r keep).1.length ≤ 31 := laidS_few _ _ (by simp)
  have : secL us (1 - secN ws) = flat (keep ++ [r]) ++ List.replicate (31 - (laidA r keep).1.length) 65535 := by
    rw [← hfl]
    apply ext_getD
    · rw [secL_length (by omega)]; simp; omega
    · intro i hi
      rw [secL_length (by omega)] at hi
      unfold secL
      rw [drop_take_get _ _ _ _ hi, hw i hi]
      by_cases c : i < (laidA r keep).1.length
      · rw [if_pos c]
        simp only [List.getD_eq_getElem?_getD]
        rw [List.getElem?_append_left c]
      · rw [if_neg c]
        simp only [List.getD_eq_getElem?_getD]
        rw [List.getElem?_append_right (by omega), List.getElem?_replicate]
        rw [if_pos (by omega)]
        rfl
  rw [this, parse_flat _ _ f2 (clean_rep _)]

theorem eraL_cons (o : Nat) : eraL o 32 = (32 * o, none) :: (List.range 31).map (fun i => (32 * o + (i + 1), none)) := by
  unfold eraL
  rw [List.range_succ_eq_map]
  simp [Function.comp_def]

/-- However far it came, and not done: the records are those of ahead. -/
theorem app_stay {ws : List Int} {f : Int} {r : List Int} {keep : List (List Int)} (h : appErr ws f r keep = 0) (k : Nat) (hk : k < (appC ws r keep).length) : logR (applyL ((appC ws r keep).take k) ws) = logR ws ∧ genN (applyL ((appC ws r keep).take k) ws) = genN ws := by
  have q := appErr_ok h
  have l := lchk_parts q.1
  have rr := recE_ok q.2.1
  have hs := secN_01 ws
  have hf := restS_few l.2.1
  by_cases k0 : k = 0
  · subst k0; exact ⟨rfl, rfl⟩
  cases hfit : fitsA ws r
  · have hC : appC ws r keep = eraL (1 - secN ws) 32 ++ (proC ((1 - secN ws) * 32 + 1) (laidA r keep).1 ++ proC ((1 - secN ws) * 32) [genN ws + 1]) := by
      unfold appC appSteps; rw [if_neg (by simp [hfit])]; simp [stC]
    have hle : (laidA r keep).1.length ≤ 31 := laidS_few _ _ (by simp)
    rw [hC] at hk ⊢
    have hk2 : k ≤ 32 + (laidA r keep).1.length := by
      simp only [List.length_append, eraL_length, proC_length, List.length_cons, List.length_nil] at hk; omega
    rw [← List.append_assoc, List.take_append_of_le_length (by simp only [List.length_append, eraL_length, proC_length]; exact hk2)]
    obtain ⟨k', rfl⟩ : ∃ k', k = k' + 1 := ⟨k - 1, by omega⟩
    rw [eraL_cons, List.cons_append, List.take_succ_cons]
    have hmem : ∀ c ∈ ((List.range 31).map (fun i => (32 * (1 - secN ws) + (i + 1), (none : Option (Nat × Int)))) ++ proC ((1 - secN ws) * 32 + 1) (laidA r keep).1).take k', (1 - secN ws) * 32 + 1 ≤ c.1 ∧ c.1 < (1 - secN ws) * 32 + 32 := by
      intro c hc
      have hc := List.mem_of_mem_take hc
      rw [List.mem_append] at hc
      rcases hc with hc | hc
      · simp only [List.mem_map, List.mem_range] at hc
        obtain ⟨i, hi, rfl⟩ := hc
        simp only
        omega
      · have := stC_far (st := .prg ((1 - secN ws) * 32 + 1) (laidA r keep).1) hc
        simp only at this
        omega
    refine swap_stay q.1 (by rw [applyL_length]) ?_ ?_
    · intro i h1 h2
      show (applyL _ (ws.set (32 * (1 - secN ws)) 65535)).getD i 0 = _
      rw [applyL_far (fun c hc => by have := hmem c hc; omega)]
      have : 32 * (1 - secN ws) ≠ i := by omega
      simp [this]
    · show (applyL _ (ws.set (32 * (1 - secN ws)) 65535)).getD _ 0 = _
      rw [applyL_far (fun c hc => by have := hmem c hc; omega)]
      have : (1 - secN ws) * 32 < ws.length := by omega
      rw [Nat.mul_comm 32]
      simp [this]
  · have hp := fitsA_parts hfit
    have hh : headP ws + (restS ws).length = (secN ws + 1) * 32 := by unfold headP; omega
    have hC : appC ws r keep = proC (headP ws + 1) r ++ proC (headP ws) [headS r.length] := by
      unfold appC appSteps; rw [if_pos hfit]; simp [stC]
    rw [hC] at hk ⊢
    have hk2 : k ≤ r.length := by simp only [List.length_append, proC_length, List.length_cons, List.length_nil] at hk; omega
    rw [List.take_append_of_le_length (by rw [proC_length]; exact hk2), applyL_pro (proC_pro _ _) (by omega) k hk2]
    exact fit_stay q.1 hfit k hk2

/-- Done: the records are those of ahead and the new one, or those that are kept and the new one. -/
theorem app_new {ws : List Int} {f : Int} {r : List Int} {keep : List (List Int)} (h : appErr ws f r keep = 0) : (logR (applyL (appC ws r keep) ws) = logR ws ++ [r] ∨ logR (applyL (appC ws r keep) ws) = keep ++ [r]) ∧ genN (applyL (appC ws r keep) ws) ≠ 0 ∧ genN (applyL (appC ws r keep) ws) ≤ 60000 := by
  have q := appErr_ok h
  have l := lchk_parts q.1
  have rr := recE_ok q.2.1
  have hs := secN_01 ws
  have hf := restS_few l.2.1
  have hgn := genN_nonneg l.2.2.2.1 l.2.1
  cases hfit : fitsA ws r
  · have hg := q.2.2.2.resolve_left (by simp [hfit])
    have hC : appC ws r keep = eraL (1 - secN ws) 32 ++ (proC ((1 - secN ws) * 32 + 1) (laidA r keep).1 ++ proC ((1 - secN ws) * 32) [genN ws + 1]) := by
      unfold appC appSteps; rw [if_neg (by simp [hfit])]; simp [stC]
    have hle : (laidA r keep).1.length ≤ 31 := laidS_few _ _ (by simp)
    have hlok : okL (laidA r keep).1 = true := laidS_ok _ _ rfl
    have hE : applyL (appC ws r keep) ws = chg (andW [genN ws + 1]) ((1 - secN ws) * 32) 1 (chg (andW (laidA r keep).1) ((1 - secN ws) * 32 + 1) (laidA r keep).1.length (chg (fun _ _ => 65535) ((1 - secN ws) * 32) 32 ws)) := by
      rw [hC, applyL_append, applyL_append, applyL_era, applyL_pro_all (p := (1 - secN ws) * 32 + 1) (words := (laidA r keep).1) (by rw [chg_length]; omega), applyL_pro_all (p := (1 - secN ws) * 32) (by rw [chg_length, chg_length]; simp only [List.length_cons, List.length_nil]; omega)]
      rfl
    rw [hE]
    obtain ⟨us, hus⟩ : ∃ us, us = chg (andW [genN ws + 1]) ((1 - secN ws) * 32) 1 (chg (andW (laidA r keep).1) ((1 - secN ws) * 32 + 1) (laidA r keep).1.length (chg (fun _ _ => 65535) ((1 - secN ws) * 32) 32 ws)) := ⟨_, rfl⟩
    rw [← hus]
    have hlen : us.length = ws.length := by rw [hus, chg_length, chg_length, chg_length]
    have hokg : okW (genN ws + 1) = true := by unfold okW; simp; omega
    have hnew := swap_new (r := r) (keep := keep) q.1 q.2.2.1 hlen ?_ ?_ ?_
    · exact ⟨.inr hnew.1, by rw [hnew.2]; omega, by rw [hnew.2]; omega⟩
    · rw [hus, chg_get _ _ _ _ _ (by rw [chg_length, chg_length]; omega), if_neg (by omega), chg_get _ _ _ _ _ (by rw [chg_length]; omega), if_neg (by omega), chg_get _ _ _ _ _ (by omega), if_neg (by omega)]
    · rw [hus, chg_get _ _ _ _ _ (by rw [chg_length, chg_length]; omega), if_pos (by omega), chg_get _ _ _ _ _ (by rw [chg_length]; omega), if_neg (by omega), chg_get _ _ _ _ _ (by omega), if_pos (by omega)]
      rw [Nat.sub_self]
      show bits .and .i64 65535 (genN ws + 1) = _
      exact and_full hokg
    · intro i hi
      rw [hus, chg_get _ _ _ _ _ (by rw [chg_length, chg_length]; omega), if_neg (by omega), chg_get _ _ _ _ _ (by rw [chg_length]; omega), chg_get _ _ _ _ _ (by omega)]
      by_cases c : i < (laidA r keep).1.length
      · rw [if_pos (by omega), if_pos (by omega), if_pos c]
        have e : (1 - secN ws) * 32 + 1 + i - ((1 - secN ws) * 32 + 1) = i := by omega
        rw [e]
        show bits .and .i64 65535 ((laidA r keep).1.getD i 0) = _
        exact and_full (okL_get hlok i c)
      · rw [if_neg (by omega), if_pos (by omega), if_neg c]
  · have hp := fitsA_parts hfit
    have hh : headP ws + (restS ws).length = (secN ws + 1) * 32 := by unfold headP; omega
    have hC : appC ws r keep = proC (headP ws + 1) r ++ proC (headP ws) [headS r.length] := by
      unfold appC appSteps; rw [if_pos hfit]; simp [stC]
    rw [hC, applyL_append, applyL_pro_all (p := headP ws + 1) (words := r) (by omega), applyL_pro_all (p := headP ws) (by rw [chg_length]; simp only [List.length_cons, List.length_nil]; omega)]
    have := fit_new q.1 q.2.1 hfit
    exact ⟨.inl this.1, by show genN (chg _ _ 1 _) ≠ 0; rw [this.2]; exact l.2.2.2.2.1, by show genN (chg _ _ 1 _) ≤ _; rw [this.2]; exact l.2.2.2.2.2⟩

end Go.Proofs.YtgngpmgjoifepaaGreatDoor
