/- Plain facts on logs: however far an Append came, the records are those of ahead; done, those and the new one, or those that are kept and the new one. Plain facts on logs: what an Append leaves behind, done in part and done. -/
import Derived.Test.YtanpglfpopbfkabGreatDoorPk19
namespace Go.Proofs.YtanpglfpopbfkabGreatDoor
open Go.RowKit

theorem genS_all {ws : List Int} {s : Nat} (h : ws.getD (s * 32) 0 = 65535) : genS ws s = 0 := by unfold genS; rw [if_pos h]
theorem genS_word {ws : List Int} {s : Nat} {x : Int} (h : ws.getD (s * 32) 0 = x) (hx : x ≠ 65535) : genS ws s = x := by unfold genS; rw [h, if_neg hx]

theorem genN_sec (ws : List Int) : genN ws = genS ws (secN ws) := by
  unfold genN secN
  split <;> rfl

/-- A log in which the sector s says more than the other one. -/
theorem sec_of {us : List Int} {s : Nat} (hs : s = 0 ∨ s = 1) (h : genS us (1 - s) < genS us s) : secN us = s ∧ genN us = genS us s := by
  rcases hs with rfl | rfl
  · have : ¬ genS us 0 < genS us 1 := by simp at h; omega
    unfold secN genN
    rw [if_neg this, if_neg this]
    exact ⟨rfl, rfl⟩
  · have : genS us 0 < genS us 1 := by simpa using h
    unfold secN genN
    rw [if_pos this, if_pos this]
    exact ⟨rfl, rfl⟩

/-! ### r fits: the records' words are programmed, then the head -/

/-- The sector's words behind its records, at their places. -/
theorem rest_at {ws : List Int} (h : 64 ≤ ws.length) (i : Nat) (hi : i < (restS ws).length) : (restS ws).getD i 0 = ws.getD (headP ws + i) 0 := by
  have hs := secN_01 ws
  have hl : (secL ws (secN ws)).length = 31 := secL_length (by omega)
  have hf := restS_few h
  have hsp := parse_split (secL ws (secN ws))
  have hr : (parseS (secL ws (secN ws))).2 = restS ws := rfl
  rw [hr, hl] at hsp
  have h1 : (secL ws (secN ws)).getD (31 - (restS ws).length + i) 0 = (restS ws).getD i 0 := by
    rw [hsp]
    have : ((secL ws (secN ws)).take (31 - (restS ws).length)).length = 31 - (restS ws).length := by rw [List.length_take, hl]; omega
    simp only [List.getD_eq_getElem?_getD]
    rw [List.getElem?_append_right (by rw [this]; omega), this]
    congr 2
    omega
  rw [← h1]
  unfold secL headP
  simp only [List.getD_eq_getElem?_getD]
  rw [List.getElem?_take_of_lt (by omega), List.getElem?_drop]
  congr 2
  omega

/-- What the log says where only words behind the records have turned. -/
theorem log_rest {ws us : List Int} (h : 64 ≤ ws.length) (hl : us.length = ws.length) (hsame : ∀ i, i < 64 → i < headP ws ∨ (secN ws + 1) * 32 ≤ i → us.getD i 0 = ws.getD i 0) :
    secN us = secN ws ∧ genN us = genN ws ∧ secL us (secN ws) = (secL ws (secN ws)).take (31 - (restS ws).length) ++ (secL us (secN ws)).drop (31 - (restS ws).length) := by
  have hs := secN_01 ws
  have hf := restS_few h
  have hh : headP ws + (restS ws).length = (secN ws + 1) * 32 := by unfold headP; omega
  have g : ∀ s, s = 0 ∨ s = 1 → genS us s = genS ws s := fun s hs' => genS_ext (hsame _ (by omega) (by omega))
  have e0 := g 0 (.inl rfl)
  have e1 := g 1 (.inr rfl)
  refine ⟨by unfold secN; rw [e0, e1], by unfold genN; rw [e0, e1], ?_⟩
  have hl1 : (secL ws (secN ws)).length = 31 := secL_length (by omega)
  have hl2 : (secL us (secN ws)).length = 31 := secL_length (by omega)
  conv => lhs; rw [← List.take_append_drop (31 - (restS ws).length) (secL us (secN ws))]
  congr 1
  apply take_getD ?_ (by omega) (by omega)
  intro i hi
  unfold secL
  simp only [List.getD_eq_getElem?_getD]
  rw [List.getElem?_take_of_lt (by omega), List.getElem?_drop, List.getElem?_take_of_lt (by omega), List.getElem?_drop]
  have := hsame (secN ws * 32 + 1 + i) (by omega) (by omega)
  simpa only [List.getD_eq_getElem?_getD] using this

theorem log_rest_R {ws us : List Int} (h : 64 ≤ ws.length) (hl : us.length = ws.length) (hsame : ∀ i, i < 64 → i < headP ws ∨ (secN ws + 1) * 32 ≤ i → us.getD i 0 = ws.getD i 0) :
    logR us = logR ws ++ (parseS ((secL us (secN ws)).drop (31 - (restS ws).length))).1 := by
  obtain ⟨h1, _, h3⟩ := log_rest h hl hsame
  have hs := secN_01 ws
  have hl1 : (secL ws (secN ws)).length = 31 := secL_length (by omega)
  have hl2 : (secL us (secN ws)).length = 31 := secL_length (by omega)
  have hf := restS_few h
  have := parse_swap 31 (secL ws (secN ws)) (by omega) ((secL us (secN ws)).drop (31 - (restS ws).length)) (by rw [List.length_drop, hl2]; show _ = (restS ws).length; omega)
  rw [hl1, show (parseS (secL ws (secN ws))).2 = restS ws from rfl, ← h3] at this
  unfold logR
  rw [h1, this]

/-- The words from the head's place on, as they lie. -/
theorem rest_us {ws us : List Int} (h : 64 ≤ ws.length) : (secL us (secN ws)).drop (31 - (restS ws).length) = (us.drop (headP ws)).take (restS ws).length := by
  have hs := secN_01 ws
  have hf := restS_few h
  unfold secL headP
  rw [List.drop_take, List.drop_drop]
  congr 1
  · omega
  · congr 1
    omega

end Go.Proofs.YtanpglfpopbfkabGreatDoor

namespace Go.Proofs.YtanpglfpopbfkabGreatDoor
open Go.RowKit

theorem longS_erased {l : List Int} (h : l.getD 0 0 = 65535) : longS l = 0 := by
  cases l with
  | nil => rfl
  | cons x r =>
    simp at h
    simp only [longS]
    rw [if_neg (by omega)]

theorem clean_get {l : List Int} (h : cleanS l = true) (i : Nat) (hi : i < l.length) : l.getD i 0 = 65535 := by
  unfold cleanS at h
  rw [List.all_eq_true] at h
  have := h l[i] (List.getElem_mem hi)
  rw [getD_at hi]
  simpa using this

theorem drop_take_get (l : List Int) (p m i : Nat) (hi : i < m) : ((l.drop p).take m).getD i 0 = l.getD (p + i) 0 := by
  simp only [List.getD_eq_getElem?_getD]
  rw [List.getElem?_take_of_lt hi, List.getElem?_drop]

theorem applyL_pro_all {ws words : List Int} {p : Nat} (hf : p + words.length ≤ ws.length) : applyL (proC p words) ws = chg (andW words) p words.length ws := by
  have := applyL_pro (proC_pro p words) hf words.length (Nat.le_refl _)
  rw [← this, List.take_of_length_le (by rw [proC_length]; exact Nat.le_refl _)]

/-! ### r fits -/
theorem fit_stay {ws r : List Int} {f : Int} (hk : lchk ws f = 0) (hfit : fitsA ws r = true) (k : Nat) (hkr : k ≤ r.length) : logR (chg (andW r) (headP ws + 1) k ws) = logR ws ∧ genN (chg (andW r) (headP ws + 1) k ws) = genN ws := by
  have q := lchk_parts hk
  have hp := fitsA_parts hfit
  have hs := secN_01 ws
  have hf := restS_few q.2.1
  have hh : headP ws + (restS ws).length = (secN ws + 1) * 32 := by unfold headP; omega
  have hsame : ∀ i, i < 64 → i < headP ws ∨ (secN ws + 1) * 32 ≤ i → (chg (andW r) (headP ws + 1) k ws).getD i 0 = ws.getD i 0 := fun i hi hc => by
    rw [chg_get _ _ _ _ _ (by omega), if_neg (by omega)]
  refine ⟨?_, (log_rest q.2.1 (chg_length _ _ _ _) hsame).2.1⟩
  rw [log_rest_R q.2.1 (chg_length _ _ _ _) hsame, rest_us q.2.1]
  have h0 : (((chg (andW r) (headP ws + 1) k ws).drop (headP ws)).take (restS ws).length).getD 0 0 = 65535 := by
    rw [drop_take_get _ _ _ _ (by omega), chg_get _ _ _ _ _ (by omega), if_neg (by omega), ← rest_at q.2.1 0 (by omega)]
    exact clean_get hp.1 0 (by omega)
  rw [parseS_stop (longS_erased h0)]
  simp

theorem fit_new {ws r : List Int} {f : Int} (hk : lchk ws f = 0) (hr : recE r = 0) (hfit : fitsA ws r = true) :
    logR (chg (andW [headS r.length]) (headP ws) 1 (chg (andW r) (headP ws + 1) r.length ws)) = logR ws ++ [r] ∧ genN (chg (andW [headS r.length]) (headP ws) 1 (chg (andW r) (headP ws + 1) r.length ws)) = genN ws := by
  have q := lchk_parts hk
  have rr := recE_ok hr
  have hp := fitsA_parts hfit
  have hs := secN_01 ws
  have hf := restS_few q.2.1
  have hh : headP ws + (restS ws).length = (secN ws + 1) * 32 := by unfold headP; omega
  obtain ⟨us, hus⟩ : ∃ us, us = chg (andW [headS r.length]) (headP ws) 1 (chg (andW r) (headP ws + 1) r.length ws) := ⟨_, rfl⟩
  have hlen : us.length = ws.length := by rw [hus, chg_length, chg_length]
  have hget : ∀ i, i < 64 → us.getD i 0 = if i = headP ws then andW [headS r.length] 0 (ws.getD i 0) else if headP ws + 1 ≤ i ∧ i < headP ws + 1 + r.length then andW r (i - (headP ws + 1)) (ws.getD i 0) else ws.getD i 0 := fun i hi => by
    rw [hus, chg_get _ _ _ _ _ (by rw [chg_length]; omega), chg_get _ _ _ _ _ (by omega)]
    by_cases c : i = headP ws
    · rw [if_pos (by omega), if_pos c, if_neg (by omega)]
      congr 1
      omega
    · rw [if_neg (by omega), if_neg c]
  have hsame : ∀ i, i < 64 → i < headP ws ∨ (secN ws + 1) * 32 ≤ i → us.getD i 0 = ws.getD i 0 := fun i hi hc => by
    rw [hget i hi, if_neg (by omega), if_neg (by omega)]
  rw [← hus]
  refine ⟨?_, (log_rest q.2.1 hlen hsame).2.1⟩
  rw [log_rest_R q.2.1 hlen hsame, rest_us q.2.1]
  have hold : ∀ i, i < (restS ws).length → ws.getD (headP ws + i) 0 = 65535 := fun i hi => by rw [← rest_at q.2.1 i hi]; exact clean_get hp.1 i hi
  have hwords : (us.drop (headP ws)).take (restS ws).length = headS r.length :: r ++ List.replicate ((restS ws).length - 1 - r.length) 65535 := by
    apply ext_getD
    · simp [hlen]; omega
    · intro i hi
      have hi' : i < (restS ws).length := by simp at hi; omega
      rw [drop_take_get _ _ _ _ hi', hget _ (by omega), hold i hi']
      by_cases c0 : i = 0
      · subst c0
        rw [if_pos (by omega)]
        show bits .and .i64 65535 (headS r.length) = _
        rw [and_full (headS_ok rr.2.1)]
        rfl
      · rw [if_neg (by omega)]
        obtain ⟨j, rfl⟩ : ∃ j, i = j + 1 := ⟨i - 1, by omega⟩
        by_cases c1 : j < r.length
        · rw [if_pos (by omega)]
          have e : headP ws + (j + 1) - (headP ws + 1) = j := by omega
          rw [e]
          show bits .and .i64 65535 (r.getD j 0) = _
          rw [and_full (okL_get rr.2.2 j c1), List.cons_append]
          simp only [List.getD_eq_getElem?_getD, List.getElem?_cons_succ]
          rw [List.getElem?_append_left c1]
        · rw [if_neg (by omega)]
          rw [List.cons_append]
          simp only [List.getD_eq_getElem?_getD, List.getElem?_cons_succ]
          rw [List.getElem?_append_right (by omega), List.getElem?_replicate, if_pos (by omega)]
          rfl
  rw [hwords, parse_one hr _ rfl, parseS_stop (longS_clean (clean_rep _))]

/-! ### It goes into the other sector -/
theorem swap_stay {ws us : List Int} {f : Int} (hk : lchk ws f = 0) (hl : us.length = ws.length) (hsame : ∀ i, secN ws * 32 ≤ i → i < secN ws * 32 + 32 → us.getD i 0 = ws.getD i 0) (hz : us.getD ((1 - secN ws) * 32) 0 = 65535) : logR us = logR ws ∧ genN us = genN ws := by
  have q := lchk_parts hk
  have hs := secN_01 ws
  have hgn := genN_nonneg q.2.2.2.1 q.2.1
  have e1 : genS us (secN ws) = genN ws := by rw [genN_sec]; exact genS_ext (hsame _ (Nat.le_refl _) (by omega))
  have e0 : genS us (1 - secN ws) = 0 := genS_all hz
  obtain ⟨h1, h2⟩ := sec_of hs (show genS us (1 - secN ws) < genS us (secN ws) by rw [e0, e1]; omega)
  refine ⟨?_, by rw [h2, e1]⟩
  unfold logR
  rw [h1, secL_ext hl (fun i h3 h4 => hsame i (by omega) h4)]

theorem swap_new {ws us : List Int} {f : Int} {r : List Int} {keep : List (List Int)} (hk : lchk ws f = 0) (hla : (laidA r keep).2 = 0) (hl : us.length = ws.length) (hsame : us.getD (secN ws * 32) 0 = ws.getD (secN ws * 32) 0) (hz : us.getD ((1 - secN ws) * 32) 0 = genN ws + 1)
    (hw : ∀ i, i < 31 → us.getD ((1 - secN ws) * 32 + 1 + i) 0 = if i < (laidA r keep).1.length then (laidA r keep).1.getD i 0 else 65535) : logR us = keep ++ [r] ∧ genN us = genN ws + 1 := by
  have q := lchk_parts hk
  have hs := secN_01 ws
  have hgn := genN_nonneg q.2.2.2.1 q.2.1
  have e1 : genS us (secN ws) = genN ws := by rw [genN_sec]; exact genS_ext hsame
  have e0 : genS us (1 - secN ws) = genN ws + 1 := genS_word hz (by omega)
  have hoo : 1 - (1 - secN ws) = secN ws := by omega
  obtain ⟨h1, h2⟩ := sec_of (s := 1 - secN ws) (by omega) (show genS us (1 - (1 - secN ws)) < genS us (1 - secN ws) by rw [hoo, e0, e1]; omega)
  refine ⟨?_, by rw [h2, e0]⟩
  unfold logR
  rw [h1]
  obtain ⟨f1, f2⟩ := laidS_flat (keep ++ [r]) [] hla
  have hfl : (laidA r keep).1 = flat (keep ++ [r]) := by
    show (laidS (keep ++ [r]) []).1 = _
    rw [f1]; simp
  have hle : (laidA r keep).1.length ≤ 31 := laidS_few _ _ (by simp)
  have : secL us (1 - secN ws) = flat (keep ++ [r]) ++ List.replicate (31 - (laidA r keep).1.length) 65535 := by
    rw [← hfl]
    apply ext_getD
    · rw [secL_length (by omega)]; simp; omega
    · intro i hi
      rw [secL_length (by omega)] at hi
      unfold secL
      rw [drop_take_get _ _ _ _ hi, hw i hi]
      by_cases c : i < (laidA r keep).1.length
      · rw [if_pos c]
        simp only [List.getD_eq_getElem?_getD]
        rw [List.getElem?_append_left c]
      · rw [if_neg c]
        simp only [List.getD_eq_getElem?_getD]
        rw [List.getElem?_append_right (by omega), List.getElem?_replicate]
        rw [if_pos (by omega)]
        rfl
  rw [this, parse_flat _ _ f2 (clean_rep _)]

theorem eraL_cons (o : Nat) : eraL o 32 = (32 * o, none) :: (List.range 31).map (fun i => (32 * o + (i + 1), none)) := by
  unfold eraL
  rw [List.range_succ_eq_map]
  simp [Function.comp_def]

/-- However far it came, and not done: the records are those of ahead. -/
theorem app_stay {ws : List Int} {f : Int} {r : List Int} {keep : List (List Int)} (h : appErr ws f r keep = 0) (k : Nat) (hk : k < (appC ws r keep).length) : logR (applyL ((appC ws r keep).take k) ws) = logR ws ∧ genN (applyL ((appC ws r keep).take k) ws) = genN ws := by
  have q := appErr_ok h
  have l := lchk_parts q.1
  have rr := recE_ok q.2.1
  have hs := secN_01 ws
  have hf := restS_few l.2.1
  by_cases k0 : k = 0
  · subst k0; exact ⟨rfl, rfl⟩
  cases hfit : fitsA ws r
  · have hC : appC ws r keep = eraL (1 - secN ws) 32 ++ (proC ((1 - secN ws) * 32 + 1) (laidA r keep).1 ++ proC ((1 - secN ws) * 32) [genN ws + 1]) := by
      unfold appC appSteps; rw [if_neg (by simp [hfit])]; simp [stC]
    have hle : (laidA r keep).1.length ≤ 31 := laidS_few _ _ (by simp)
    rw [hC] at hk ⊢
    have hk2 : k ≤ 32 + (laidA r keep).1.length := by
      simp only [List.length_append, eraL_length, proC_length, List.length_cons, List.length_nil] at hk; omega
    rw [← List.append_assoc, List.take_append_of_le_length (by simp only [List.length_append, eraL_length, proC_length]; exact hk2)]
    obtain ⟨k', rfl⟩ : ∃ k', k = k' + 1 := ⟨k - 1, by omega⟩
    rw [eraL_cons, List.cons_append, List.take_succ_cons]
    have hmem : ∀ c ∈ ((List.range 31).map (fun i => (32 * (1 - secN ws) + (i + 1), (none : Option (Nat × Int)))) ++ proC ((1 - secN ws) * 32 + 1) (laidA r keep).1).take k', (1 - secN ws) * 32 + 1 ≤ c.1 ∧ c.1 < (1 - secN ws) * 32 + 32 := by
      intro c hc
      have hc := List.mem_of_mem_take hc
      rw [List.mem_append] at hc
      rcases hc with hc | hc
      · simp only [List.mem_map, List.mem_range] at hc
        obtain ⟨i, hi, rfl⟩ := hc
        simp only
        omega
      · have := stC_far (st := .prg ((1 - secN ws) * 32 + 1) (laidA r keep).1) hc
        simp only at this
        omega
    refine swap_stay q.1 (by rw [applyL_length]) ?_ ?_
    · intro i h1 h2
      show (applyL _ (ws.set (32 * (1 - secN ws)) 65535)).getD i 0 = _
      rw [applyL_far (fun c hc => by have := hmem c hc; omega)]
      have : 32 * (1 - secN ws) ≠ i := by omega
      simp [this]
    · show (applyL _ (ws.set (32 * (1 - secN ws)) 65535)).getD _ 0 = _
      rw [applyL_far (fun c hc => by have := hmem c hc; omega)]
      have : (1 - secN ws) * 32 < ws.length := by omega
      rw [Nat.mul_comm 32]
      simp [this]
  · have hp := fitsA_parts hfit
    have hh : headP ws + (restS ws).length = (secN ws + 1) * 32 := by unfold headP; omega
    have hC : appC ws r keep = proC (headP ws + 1) r ++ proC (headP ws) [headS r.length] := by
      unfold appC appSteps; rw [if_pos hfit]; simp [stC]
    rw [hC] at hk ⊢
    have hk2 : k ≤ r.length := by simp only [List.length_append, proC_length, List.length_cons, List.length_nil] at hk; omega
    rw [List.take_append_of_le_length (by rw [proC_length]; exact hk2), applyL_pro (proC_pro _ _) (by omega) k hk2]
    exact fit_stay q.1 hfit k hk2

/-- Done: the records are those of ahead and the new one, or those that are kept and the new one. -/
theorem app_new {ws : List Int} {f : Int} {r : List Int} {keep : List (List Int)} (h : appErr ws f r keep = 0) : (logR (applyL (appC ws r keep) ws) = logR ws ++ [r] ∨ logR (applyL (appC ws r keep) ws) = keep ++ [r]) ∧ genN (applyL (appC ws r keep) ws) ≠ 0 ∧ genN (applyL (appC ws r keep) ws) ≤ 60000 := by
  have q := appErr_ok h
  have l := lchk_parts q.1
  have rr := recE_ok q.2.1
  have hs := secN_01 ws
  have hf := restS_few l.2.1
  have hgn := genN_nonneg l.2.2.2.1 l.2.1
  cases hfit : fitsA ws r
  · have hg := q.2.2.2.resolve_left (by simp [hfit])
    have hC : appC ws r keep = eraL (1 - secN ws) 32 ++ (proC ((1 - secN ws) * 32 + 1) (laidA r keep).1 ++ proC ((1 - secN ws) * 32) [genN ws + 1]) := by
      unfold appC appSteps; rw [if_neg (by simp [hfit])]; simp [stC]
    have hle : (laidA r keep).1.length ≤ 31 := laidS_few _ _ (by simp)
    have hlok : okL (laidA r keep).1 = true := laidS_ok _ _ rfl
    have hE : applyL (appC ws r keep) ws = chg (andW [genN ws + 1]) ((1 - secN ws) * 32) 1 (chg (andW (laidA r keep).1) ((1 - secN ws) * 32 + 1) (laidA r keep).1.length (chg (fun _ _ => 65535) ((1 - secN ws) * 32) 32 ws)) := by
      rw [hC, applyL_append, applyL_append, applyL_era, applyL_pro_all (p := (1 - secN ws) * 32 + 1) (words := (laidA r keep).1) (by rw [chg_length]; omega), applyL_pro_all (p := (1 - secN ws) * 32) (by rw [chg_length, chg_length]; simp only [List.length_cons, List.length_nil]; omega)]
      rfl
    rw [hE]
    obtain ⟨us, hus⟩ : ∃ us, us = chg (andW [genN ws + 1]) ((1 - secN ws) * 32) 1 (chg (andW (laidA r keep).1) ((1 - secN ws) * 32 + 1) (laidA r keep).1.length (chg (fun _ _ => 65535) ((1 - secN ws) * 32) 32 ws)) := ⟨_, rfl⟩
    rw [← hus]
    have hlen : us.length = ws.length := by rw [hus, chg_length, chg_length, chg_length]
    have hokg : okW (genN ws + 1) = true := by unfold okW; simp; omega
    have hnew := swap_new (r := r) (keep := keep) q.1 q.2.2.1 hlen ?_ ?_ ?_
    · exact ⟨.inr hnew.1, by rw [hnew.2]; omega, by rw [hnew.2]; omega⟩
    · rw [hus, chg_get _ _ _ _ _ (by rw [chg_length, chg_length]; omega), if_neg (by omega), chg_get _ _ _ _ _ (by rw [chg_length]; omega), if_neg (by omega), chg_get _ _ _ _ _ (by omega), if_neg (by omega)]
    · rw [hus, chg_get _ _ _ _ _ (by rw [chg_length, chg_length]; omega), if_pos (by omega), chg_get _ _ _ _ _ (by rw [chg_length]; omega), if_neg (by omega), chg_get _ _ _ _ _ (by omega), if_pos (by omega)]
      rw [Nat.sub_self]
      show bits .and .i64 65535 (genN ws + 1) = _
      exact and_full hokg
    · intro i hi
      rw [hus, chg_get _ _ _ _ _ (by rw [chg_length, chg_length]; omega), if_neg (by omega), chg_get _ _ _ _ _ (by rw [chg_length]; omega), chg_get _ _ _ _ _ (by omega)]
      by_cases c : i < (laidA r keep).1.length
      · rw [if_pos (by omega), if_pos (by omega), if_pos c]
        have e : (1 - secN ws) * 32 + 1 + i - ((1 - secN ws) * 32 + 1) = i := by omega
        rw [e]
        show bits .and .i64 65535 ((laidA r keep).1.getD i 0) = _
        exact and_full (okL_get hlok i c)
      · rw [if_neg (by omega), if_pos (by omega), if_neg c]
  · have hp := fitsA_parts hfit
    have hh : headP ws + (restS ws).length = (secN ws + 1) * 32 := by unfold headP; omega
    have hC : appC ws r keep = proC (headP ws + 1) r ++ proC (headP ws) [headS r.length] := by
      unfold appC appSteps; rw [if_pos hfit]; simp [stC]
    rw [hC, applyL_append, applyL_pro_all (p := headP ws + 1) (words := r) (by omega), applyL_pro_all (p := headP ws) (by rw [chg_length]; simp only [List.length_cons, List.length_nil]; omega)]
    have := fit_new q.1 q.2.1 hfit
    exact ⟨.inl this.1, by show genN (chg _ _ 1 _) ≠ 0; rw [this.2]; exact l.2.2.2.2.1, by show genN (chg _ _ 1 _) ≤ _; rw [this.2]; exact l.2.2.2.2.2⟩

end Go.Proofs.YtanpglfpopbfkabGreatDoor
