/- Plain facts on logs: what an Append leaves behind, done in part and done. Plain facts for LogHolds and LogGoes: the flash behind an Append is a log, its records, and that it can be done again. The contracts of unit.within, Check, CheckMessage, is, stateOf, other, done. Gateways in memory: 'IsBools', 'BV', 'gtv', 'GIn'; a gateway's state ('gsv'). -/
import Derived.Test.YtgngpmgjoifepaaGreatDoorPq14
import Derived.Test.YtgngpmgjoifepaaGreatDoorPq13
namespace Go.Proofs.YtgngpmgjoifepaaGreatDoor
open Go.RowKit

theorem longS_erased {l : List Int} (h : l.getD 0 0 = 65535) : longS l = 0 := by
  cases l with
  | nil => rfl
  | cons x r =>
    simp at h
    simp only [longS]
    rw [if_neg (by omega)]

theorem clean_get {l : List Int} (h : cleanS l = true) (i : Nat) (hi : i < l.length) : l.getD i 0 = 65535 := by
  unfold cleanS at h
  rw [List.all_eq_true] at h
  have := h l[i] (List.getElem_mem hi)
  rw [getD_at hi]
  simpa using this

theorem drop_take_get (l : List Int) (p m i : Nat) (hi : i < m) : ((l.drop p).take m).getD i 0 = l.getD (p + i) 0 := by
  simp only [List.getD_eq_getElem?_getD]
  rw [List.getElem?_take_of_lt hi, List.getElem?_drop]

theorem applyL_pro_all {ws words : List Int} {p : Nat} (hf : p + words.length ≤ ws.length) : applyL (proC p words) ws = chg (andW words) p words.length ws := by
  have := applyL_pro (proC_pro p words) hf words.length (Nat.le_refl _)
  rw [← this, List.take_of_length_le (by rw [proC_length]; exact Nat.le_refl _)]

/-! ### r fits -/
theorem fit_stay {ws r : List Int} {f : Int} (hk : lchk ws f = 0) (hfit : fitsA ws r = true) (k : Nat) (hkr : k ≤ r.length) : logR (chg (andW r) (headP ws + 1) k ws) = logR ws ∧ genN (chg (andW r) (headP ws + 1) k ws) = genN ws := by
  have q := lchk_parts hk
  have hp := fitsA_parts hfit
  have hs := secN_01 ws
  have hf := restS_few q.2.1
  have hh : headP ws + (restS ws).length = (secN ws + 1) * 32 := by unfold headP; omega
  have hsame : ∀ i, i < 64 → i < headP ws ∨ (secN ws + 1) * 32 ≤ i → (chg (andW r) (headP ws + 1) k ws).getD i 0 = ws.getD i 0 := fun i hi hc => by
    rw [chg_get _ _ _ _ _ (by omega), if_neg (by omega)]
  refine ⟨?_, (log_rest q.2.1 (chg_length _ _ _ _) hsame).2.1⟩
  rw [log_rest_R q.2.1 (chg_length _ _ _ _) hsame, rest_us q.2.1]
  have h0 : (((chg (andW r) (headP ws + 1) k ws).drop (headP ws)).take (restS ws).length).getD 0 0 = 65535 := by
    rw [drop_take_get _ _ _ _ (by omega), chg_get _ _ _ _ _ (by omega), if_neg (by omega), ← rest_at q.2.1 0 (by omega)]
    exact clean_get hp.1 0 (by omega)
  rw [parseS_stop (longS_erased h0)]
  simp

theorem fit_new {ws r : List Int} {f : Int} (hk : lchk ws f = 0) (hr : recE r = 0) (hfit : fitsA ws r = true) :
    logR (chg (andW [headS r.length]) (headP ws) 1 (chg (andW r) (headP ws + 1) r.length ws)) = logR ws ++ [r] ∧ genN (chg (andW [headS r.length]) (headP ws) 1 (chg (andW r) (headP ws + 1) r.length ws)) = genN ws := by
  have q := lchk_parts hk
  have rr := recE_ok hr
  have hp := fitsA_parts hfit
  have hs := secN_01 ws
  have hf := restS_few q.2.1
  have hh : headP ws + (restS ws).length = (secN ws + 1) * 32 := by unfold headP; omega
  obtain ⟨us, hus⟩ : ∃ us, us = chg (andW [headS r.length]) (headP ws) 1 (chg (andW r) (headP ws + 1) r.length ws) := ⟨_, rfl⟩
  have hlen : us.length = ws.length := by rw [hus, chg_length, chg_length]
  have hget : ∀ i, i < 64 → us.getD i 0 = if i = headP ws then andW [headS r.length] 0 (ws.getD i 0) else if headP ws + 1 ≤ i ∧ i < headP ws + 1 + r.length then andW r (i - (headP ws + 1)) (ws.getD i 0) else ws.getD i 0 := fun i hi => by
    rw [hus, chg_get _ _ _ _ _ (by rw [chg_length]; omega), chg_get _ _ _ _ _ (by omega)]
    by_cases c : i = headP ws
    · rw [if_pos (by omega), if_pos c, if_neg (by omega)]
      congr 1
      omega
    · rw [if_neg (by omega), if_neg c]
  have hsame : ∀ i, i < 64 → i < headP ws ∨ (secN ws + 1) * 32 ≤ i → us.getD i 0 = ws.getD i 0 := fun i hi hc => by
    rw [hget i hi, if_neg (by omega), if_neg (by omega)]
  rw [← hus]
  refine ⟨?_, (log_rest q.2.1 hlen hsame).2.1⟩
  rw [log_rest_R q.2.1 hlen hsame, rest_us q.2.1]
  have hold : ∀ i, i < (restS ws).length → ws.getD (headP ws + i) 0 = 65535 := fun i hi => by rw [← rest_at q.2.1 i hi]; exact clean_get hp.1 i hi
  have hwords : (us.drop (headP ws)).take (restS ws).length = headS r.length :: r ++ List.replicate ((restS ws).length - 1 - r.length) 65535 := by
    apply ext_getD
    · simp [hlen]; omega
    · intro i hi
      have hi' : i < (restS ws).length := by simp at hi; omega
      rw [drop_take_get _ _ _ _ hi', hget _ (by omega), hold i hi']
      by_cases c0 : i = 0
      · subst c0
        rw [if_pos (by omega)]
        show bits .and .i64 65535 (headS r.length) = _
        rw [and_full (headS_ok rr.2.1)]
        rfl
      · rw [if_neg (by omega)]
        obtain ⟨j, rfl⟩ : ∃ j, i = j + 1 := ⟨i - 1, by omega⟩
        by_cases c1 : j < r.length
        · rw [if_pos (by omega)]
          have e : headP ws + (j + 1) - (headP ws + 1) = j := by omega
          rw [e]
          show bits .and .i64 65535 (r.getD j 0) = _
          rw [and_full (okL_get rr.2.2 j c1), List.cons_append]
          simp only [List.getD_eq_getElem?_getD, List.getElem?_cons_succ]
          rw [List.getElem?_append_left c1]
        · rw [if_neg (by omega)]
          rw [List.cons_append]
          simp only [List.getD_eq_getElem?_getD, List.getElem?_cons_succ]
          rw [List.getElem?_append_right (by omega), List.getElem?_replicate, if_pos (by omega)]
          rfl
  rw [hwords, parse_one hr _ rfl, parseS_stop (longS_clean (clean_rep _))]

/-! ### It goes into the other sector -/
theorem swap_stay {ws us : List Int} {f : Int} (hk : lchk ws f = 0) (hl : us.length = ws.length) (hsame : ∀ i, secN ws * 32 ≤ i → i < secN ws * 32 + 32 → us.getD i 0 = ws.getD i 0) (hz : us.getD ((1 - secN ws) * 32) 0 = 65535) : logR us = logR ws ∧ genN us = genN ws := by
  have q := lchk_parts hk
  have hs := secN_01 ws
  have hgn := genN_nonneg q.2.2.2.1 q.2.1
  have e1 : genS us (secN ws) = genN ws := by rw [genN_sec]; exact genS_ext (hsame _ (Nat.le_refl _) (by omega))
  have e0 : genS us (1 - secN ws) = 0 := genS_all hz
  obtain ⟨h1, h2⟩ := sec_of hs (show genS us (1 - secN ws) < genS us (secN ws) by rw [e0, e1]; omega)
  refine ⟨?_, by rw [h2, e1]⟩
  unfold logR
  rw [h1, secL_ext hl (fun i h3 h4 => hsame i (by omega) h4)]

theorem swap_new {ws us : List Int} {f : Int} {r : List Int} {keep : List (List Int)} (hk : lchk ws f = 0) (hla : (laidA r keep).2 = 0) (hl : us.length = ws.length) (hsame : us.getD (secN ws * 32) 0 = ws.getD (secN ws * 32) 0) (hz : us.getD ((1 - secN ws) * 32) 0 = genN ws + 1)
    (hw : ∀ i, i < 31 → us.getD ((1 - secN ws) * 32 + 1 + i) 0 = if i < (laidA r keep).1.length then (laidA r keep).1.getD i 0 else 65535) : logR us = keep ++ [r] ∧ genN us = genN ws + 1 := by
  have q := lchk_parts hk
  have hs := secN_01 ws
  have hgn := genN_nonneg q.2.2.2.1 q.2.1
  have e1 : genS us (secN ws) = genN ws := by rw [genN_sec]; exact genS_ext hsame
  have e0 : genS us (1 - secN ws) = genN ws + 1 := genS_word hz (by omega)
  have hoo : 1 - (1 - secN ws) = secN ws := by omega
  obtain ⟨h1, h2⟩ := sec_of (s := 1 - secN ws) (by omega) (show genS us (1 - (1 - secN ws)) < genS us (1 - secN ws) by rw [hoo, e0, e1]; omega)
  refine ⟨?_, by rw [h2, e0]⟩
  unfold logR
  rw [h1]
  obtain ⟨f1, f2⟩ := laidS_flat (keep ++ [r]) [] hla
  have hfl : (laidA r keep).1 = flat (keep ++ [r]) := by
    show (laidS (keep ++ [r]) []).1 = _
    rw [f1]; simp
  have hle : (laidA r keep).1.length ≤ 31 := laidS_few _ _ (by simp)
  have : secL us (1 - secN ws) = flat (keep ++ [r]) ++ List.replicate (31 - (laidA r keep).1.length) 65535 := by
    rw [← hfl]
    apply ext_getD
    · rw [secL_length (by omega)]; simp; omega
    · intro i hi
      rw [secL_length (by omega)] at hi
      unfold secL
      rw [drop_take_get _ _ _ _ hi, hw i hi]
      by_cases c : i < (laidA r keep).1.length
      · rw [if_pos c]
        simp only [List.getD_eq_getElem?_getD]
        rw [List.getElem?_append_left c]
      · rw [if_neg c]
        simp only [List.getD_eq_getElem?_getD]
        rw [List.getElem?_append_right (by omega), List.getElem?_replicate]
        rw [if_pos (by omega)]
        rfl
  rw [this, parse_flat _ _ f2 (clean_rep _)]

theorem eraL_cons (o : Nat) : eraL o 32 = (32 * o, none) :: (List.range 31).map (fun i => (32 * o + (i + 1), none)) := by
  unfold eraL
  rw [List.range_succ_eq_map]
  simp [Function.comp_def]

/-- However far it came, and not done: the records are those of ahead. -/
theorem app_stay {ws : List Int} {f : Int} {r : List Int} {keep : List (List Int)} (h : appErr ws f r keep = 0) (k : Nat) (hk : k < (appC ws r keep).length) : logR (applyL ((appC ws r keep).take k) ws) = logR ws ∧ genN (applyL ((appC ws r keep).take k) ws) = genN ws := by
  have q := appErr_ok h
  have l := lchk_parts q.1
  have rr := recE_ok q.2.1
  have hs := secN_01 ws
  have hf := restS_few l.2.1
  by_cases k0 : k = 0
  · subst k0; exact ⟨rfl, rfl⟩
  cases hfit : fitsA ws r
  · have hC : appC ws r keep = eraL (1 - secN ws) 32 ++ (proC ((1 - secN ws) * 32 + 1) (laidA r keep).1 ++ proC ((1 - secN ws) * 32) [genN ws + 1]) := by
      unfold appC appSteps; rw [if_neg (by simp [hfit])]; simp [stC]
    have hle : (laidA r keep).1.length ≤ 31 := laidS_few _ _ (by simp)
    rw [hC] at hk ⊢
    have hk2 : k ≤ 32 + (laidA r keep).1.length := by
      simp only [List.length_append, eraL_length, proC_length, List.length_cons, List.length_nil] at hk; omega
    rw [← List.append_assoc, List.take_append_of_le_length (by simp only [List.length_append, eraL_length, proC_length]; exact hk2)]
    obtain ⟨k', rfl⟩ : ∃ k', k = k' + 1 := ⟨k - 1, by omega⟩
    rw [eraL_cons, List.cons_append, List.take_succ_cons]
    have hmem : ∀ c ∈ ((List.range 31).map (fun i => (32 * (1 - secN ws) + (i + 1), (none : Option (Nat × Int)))) ++ proC ((1 - secN ws) * 32 + 1) (laidA r keep).1).take k', (1 - secN ws) * 32 + 1 ≤ c.1 ∧ c.1 < (1 - secN ws) * 32 + 32 := by
      intro c hc
      have hc := List.mem_of_mem_take hc
      rw [List.mem_append] at hc
      rcases hc with hc | hc
      · simp only [List.mem_map, List.mem_range] at hc
        obtain ⟨i, hi, rfl⟩ := hc
        simp only
        omega
      · have := stC_far (st := .prg ((1 - secN ws) * 32 + 1) (laidA r keep).1) hc
        simp only at this
        omega
    refine swap_stay q.1 (by rw [applyL_length]) ?_ ?_
    · intro i h1 h2
      show (applyL _ (ws.set (32 * (1 - secN ws)) 65535)).getD i 0 = _
      rw [applyL_far (fun c hc => by have := hmem c hc; omega)]
      have : 32 * (1 - secN ws) ≠ i := by omega
      simp [this]
    · show (applyL _ (ws.set (32 * (1 - secN ws)) 65535)).getD _ 0 = _
      rw [applyL_far (fun c hc => by have := hmem c hc; omega)]
      have : (1 - secN ws) * 32 < ws.length := by omega
      rw [Nat.mul_comm 32]
      simp [this]
  · have hp := fitsA_parts hfit
    have hh : headP ws + (restS ws).length = (secN ws + 1) * 32 := by unfold headP; omega
    have hC : appC ws r keep = proC (headP ws + 1) r ++ proC (headP ws) [headS r.length] := by
      unfold appC appSteps; rw [if_pos hfit]; simp [stC]
    rw [hC] at hk ⊢
    have hk2 : k ≤ r.length := by simp only [List.length_append, proC_length, List.length_cons, List.length_nil] at hk; omega
    rw [List.take_append_of_le_length (by rw [proC_length]; exact hk2), applyL_pro (proC_pro _ _) (by omega) k hk2]
    exact fit_stay q.1 hfit k hk2

/-- Done: the records are those of ahead and the new one, or those that are kept and the new one. -/
theorem app_new {ws : List Int} {f : Int} {r : List Int} {keep : List (List Int)} (h : appErr ws f r keep = 0) : (logR (applyL (appC ws r keep) ws) = logR ws ++ [r] ∨ logR (applyL (appC ws r keep) ws) = keep ++ [r]) ∧ genN (applyL (appC ws r keep) ws) ≠ 0 ∧ genN (applyL (appC ws r keep) ws) ≤ 60000 := by
  have q := appErr_ok h
  have l := lchk_parts q.1
  have rr := recE_ok q.2.1
  have hs := secN_01 ws
  have hf := restS_few l.2.1
  have hgn := genN_nonneg l.2.2.2.1 l.2.1
  cases hfit : fitsA ws r
  · have hg := q.2.2.2.resolve_left (by simp [hfit])
    have hC : appC ws r keep = eraL (1 - secN ws) 32 ++ (proC ((1 - secN ws) * 32 + 1) (laidA r keep).1 ++ proC ((1 - secN ws) * 32) [genN ws + 1]) := by
      unfold appC appSteps; rw [if_neg (by simp [hfit])]; simp [stC]
    have hle : (laidA r keep).1.length ≤ 31 := laidS_few _ _ (by simp)
    have hlok : okL (laidA r keep).1 = true := laidS_ok _ _ rfl
    have hE : applyL (appC ws r keep) ws = chg (andW [genN ws + 1]) ((1 - secN ws) * 32) 1 (chg (andW (laidA r keep).1) ((1 - secN ws) * 32 + 1) (laidA r keep).1.length (chg (fun _ _ => 65535) ((1 - secN ws) * 32) 32 ws)) := by
      rw [hC, applyL_append, applyL_append, applyL_era, applyL_pro_all (p := (1 - secN ws) * 32 + 1) (words := (laidA r keep).1) (by rw [chg_length]; omega), applyL_pro_all (p := (1 - secN ws) * 32) (by rw [chg_length, chg_length]; simp only [List.length_cons, List.length_nil]; omega)]
      rfl
    rw [hE]
    obtain ⟨us, hus⟩ : ∃ us, us = chg (andW [genN ws + 1]) ((1 - secN ws) * 32) 1 (chg (andW (laidA r keep).1) ((1 - secN ws) * 32 + 1) (laidA r keep).1.length (chg (fun _ _ => 65535) ((1 - secN ws) * 32) 32 ws)) := ⟨_, rfl⟩
    rw [← hus]
    have hlen : us.length = ws.length := by rw [hus, chg_length, chg_length, chg_length]
    have hokg : okW (genN ws + 1) = true := by unfold okW; simp; omega
    have hnew := swap_new (r := r) (keep := keep) q.1 q.2.2.1 hlen ?_ ?_ ?_
    · exact ⟨.inr hnew.1, by rw [hnew.2]; omega, by rw [hnew.2]; omega⟩
    · rw [hus, chg_get _ _ _ _ _ (by rw [chg_length, chg_length]; omega), if_neg (by omega), chg_get _ _ _ _ _ (by rw [chg_length]; omega), if_neg (by omega), chg_get _ _ _ _ _ (by omega), if_neg (by omega)]
    · rw [hus, chg_get _ _ _ _ _ (by rw [chg_length, chg_length]; omega), if_pos (by omega), chg_get _ _ _ _ _ (by rw [chg_length]; omega), if_neg (by omega), chg_get _ _ _ _ _ (by omega), if_pos (by omega)]
      rw [Nat.sub_self]
      show bits .and .i64 65535 (genN ws + 1) = _
      exact and_full hokg
    · intro i hi
      rw [hus, chg_get _ _ _ _ _ (by rw [chg_length, chg_length]; omega), if_neg (by omega), chg_get _ _ _ _ _ (by rw [chg_length]; omega), chg_get _ _ _ _ _ (by omega)]
      by_cases c : i < (laidA r keep).1.length
      · rw [if_pos (by omega), if_pos (by omega), if_pos c]
        have e : (1 - secN ws) * 32 + 1 + i - ((1 - secN ws) * 32 + 1) = i := by omega
        rw [e]
        show bits .and .i64 65535 ((laidA r keep).1.getD i 0) = _
        exact and_full (okL_get hlok i c)
      · rw [if_neg (by omega), if_pos (by omega), if_neg c]
  · have hp := fitsA_parts hfit
    have hh : headP ws + (restS ws).length = (secN ws + 1) * 32 := by unfold headP; omega
    have hC : appC ws r keep = proC (headP ws + 1) r ++ proC (headP ws) [headS r.length] := by
      unfold appC appSteps; rw [if_pos hfit]; simp [stC]
    rw [hC, applyL_append, applyL_pro_all (p := headP ws + 1) (words := r) (by omega), applyL_pro_all (p := headP ws) (by rw [chg_length]; simp only [List.length_cons, List.length_nil]; omega)]
    have := fit_new q.1 q.2.1 hfit
    exact ⟨.inl this.1, by show genN (chg _ _ 1 _) ≠ 0; rw [this.2]; exact l.2.2.2.2.1, by show genN (chg _ _ 1 _) ≤ _; rw [this.2]; exact l.2.2.2.2.2⟩

end Go.Proofs.YtgngpmgjoifepaaGreatDoor

namespace Go.Proofs.YtgngpmgjoifepaaGreatDoor
open Go.RowKit

theorem appC_ok {ws : List Int} {f : Int} {r : List Int} {keep : List (List Int)} (h : appErr ws f r keep = 0) : ∀ c ∈ appC ws r keep, ∀ b x, c.2 = some (b, x) → okW x = true := by
  intro c hc b x hx
  unfold appC at hc
  rw [List.mem_flatMap] at hc
  obtain ⟨st, hst, hc⟩ := hc
  exact stC_ok (appSteps_ok h st hst) c hc b x hx

/-- Behind the first k changes there is a log. -/
theorem part_log {ws : List Int} {f f' : Int} {r : List Int} {keep : List (List Int)} (h : appErr ws f r keep = 0) (k : Nat) (hk : k ≤ (appC ws r keep).length) (h0 : -1 ≤ f') (h1 : f' ≤ 100000) :
    lchk (applyL ((appC ws r keep).take k) ws) f' = 0 ∧ (k < (appC ws r keep).length → logR (applyL ((appC ws r keep).take k) ws) = logR ws) ∧ (k = (appC ws r keep).length → logR (applyL ((appC ws r keep).take k) ws) = logR ws ++ [r] ∨ logR (applyL ((appC ws r keep).take k) ws) = keep ++ [r]) := by
  have q := appErr_ok h
  have l := lchk_parts q.1
  have hok : okL (applyL ((appC ws r keep).take k) ws) = true := applyL_ok l.2.2.2.1 (fun c hc => appC_ok h c (List.mem_of_mem_take hc))
  have hck : chk (applyL ((appC ws r keep).take k) ws) f' = 0 := chk_of l.1 (applyL_length _ _) hok h0 h1
  by_cases c : k < (appC ws r keep).length
  · have hs := app_stay h k c
    exact ⟨lchk_mk hck (by rw [applyL_length]; exact l.2.1) (by rw [hs.2]; exact l.2.2.2.2.1) (by rw [hs.2]; exact l.2.2.2.2.2), fun _ => hs.1, fun e => by omega⟩
  · have e : k = (appC ws r keep).length := by omega
    have ht : (appC ws r keep).take k = appC ws r keep := List.take_of_length_le (by omega)
    have hn := app_new h
    rw [ht] at hck ⊢
    exact ⟨lchk_mk hck (by rw [applyL_length]; exact l.2.1) hn.2.1 hn.2.2, fun h => absurd h c, fun _ => hn.1⟩

/-- Behind an Append that is done, or lost its power. -/
theorem app_log {ws : List Int} {f : Int} {r : List Int} {keep : List (List Int)} (h : appErr ws f r keep = 0) :
    (appS ws f r keep).1.length = ws.length ∧ (-1 ≤ (appS ws f r keep).2.1 ∧ (appS ws f r keep).2.1 ≤ 100000) ∧ (∀ f', -1 ≤ f' → f' ≤ 100000 → lchk (appS ws f r keep).1 f' = 0) ∧
    ((appS ws f r keep).2.2 = 0 ∧ (logR (appS ws f r keep).1 = logR ws ++ [r] ∨ logR (appS ws f r keep).1 = keep ++ [r]) ∨ (appS ws f r keep).2.2 = 7 ∧ logR (appS ws f r keep).1 = logR ws) := by
  have q := appErr_ok h
  have l := lchk_parts q.1
  have c := chk_parts l.1
  rw [app_chg h]
  have hle := cnt_le f (appC ws r keep).length
  have bb := burn_bounds (n := (appC ws r keep).length) c.2.1 c.2.2.1 (Nat.le_refl (cnt f (appC ws r keep).length))
  refine ⟨applyL_length _ _, bb, fun f' h0 h1 => (part_log h _ hle h0 h1).1, ?_⟩
  have hp := part_log h _ hle (f' := -1) (by decide) (by decide)
  by_cases e : cnt f (appC ws r keep).length = (appC ws r keep).length
  · left
    exact ⟨perr_ok e, hp.2.2 e⟩
  · right
    exact ⟨perr_no (by omega), hp.2.1 (by omega)⟩

theorem logR_few {ws : List Int} (h : 64 ≤ ws.length) : (logR ws).length ≤ 31 := by
  have := parseS_few (secL ws (secN ws))
  rw [secL_length (by have := secN_01 ws; omega)] at this
  exact this

end Go.Proofs.YtgngpmgjoifepaaGreatDoor

namespace Go.Proofs.YtgngpmgjoifepaaGreatDoor
open Go.RowKit

/-- The slice at a holds the words ws, with room. -/
structure BW (w : World) (a : Option Addr) (n c : Nat) (ws : List Int) : Prop where
  at_ : IsInts w a ws
  len : ws.length = n
  cap : n ≤ c
  max : n ≤ maxLen
theorem BW.below {w w' : World} {a : Option Addr} {n c : Nat} {ws : List Int} (h : BW w a n c ws) (hb : Below w.heap.size w w') : BW w' a n c ws := ⟨h.at_.below hb, h.len, h.cap, h.max⟩
theorem BW.bi {w : World} {a : Option Addr} {n c : Nat} {ws : List Int} (h : BW w a n c ws) : BI w a n ws := ⟨h.at_, h.len, h.max⟩
theorem BW.turns {w w' : World} {B : Nat} {a : Option Addr} {n c : Nat} {ws : List Int} (h : BW w a n c ws) (hg : w.grownBy w' (some B)) (ho : Off B a) : BW w' a n c ws := ⟨ints_turns h.at_ hg ho, h.len, h.cap, h.max⟩

theorem inB_t {n a b : Int} (h0 : a ≤ n) (h1 : n ≤ b) : inB n a b = true := by unfold inB; simp; omega
theorem inB_lo {n a b : Int} (h0 : ¬ a ≤ n) : inB n a b = false := by unfold inB; simp; omega
theorem inB_hi {n a b : Int} (h0 : ¬ n ≤ b) : inB n a b = false := by unfold inB; simp; omega

end Go.Proofs.YtgngpmgjoifepaaGreatDoor

namespace Go.Proofs.YtgngpmgjoifepaaGreatDoor
open Go.RowKit

/-- The slice at 'a' of length 'bs.length' holds the truths 'bs'. -/
def IsBools (w : World) (a : Option Addr) (bs : List Bool) : Prop :=
  bs = [] ∨ ∃ b off, a = some ⟨b, off, none⟩ ∧ ∀ i, i < bs.length → w.cell? ⟨b, off + i, none⟩ = some (.bool (bs.getD i false))
theorem IsBools.below {w w' : World} {a : Option Addr} {bs : List Bool} (h : IsBools w a bs) (hb : Below w.heap.size w w') : IsBools w' a bs := by
  rcases h with h | ⟨b, off, rfl, hc⟩
  · exact .inl h
  · exact .inr ⟨b, off, rfl, fun i hi => by rw [hb.cell (cell_lt (hc i hi))]; exact hc i hi⟩
/-- .. with its length. -/
structure BV (w : World) (a : Option Addr) (n c : Nat) (bs : List Bool) : Prop where
  at_ : IsBools w a bs
  len : bs.length = n
  cap : n ≤ c
  max : n ≤ maxLen
theorem BV.below {w w' : World} {a : Option Addr} {n c : Nat} {bs : List Bool} (h : BV w a n c bs) (hb : Below w.heap.size w w') : BV w' a n c bs := ⟨h.at_.below hb, h.len, h.cap, h.max⟩

/-- Where a gateway's lists lie: its words, keys, who voted, who did. -/
structure GA where
  a : Option Addr
  n : Nat
  c : Nat
  ak : Option Addr
  nk : Nat
  ck : Nat
  av : Option Addr
  nv : Nat
  cv : Nat
  ad : Option Addr
  nd : Nat
  cd : Nat
def gtC (g : Gt) (m : GA) : Array Value := #[.slice m.a m.n m.c, .int .i64 g.fu, .bool g.up, .int .i64 g.t.r.v, .slice m.ak m.nk m.ck, .int .i64 g.t.r.t, .int .i64 g.t.ver, .slice m.av m.nv m.cv, .slice m.ad m.nd m.cd]
def gtv (g : Gt) (m : GA) : Value := .agg #[.slice m.a m.n m.c, .int .i64 g.fu, .bool g.up, .int .i64 g.t.r.v, .slice m.ak m.nk m.ck, .int .i64 g.t.r.t, .int .i64 g.t.ver, .slice m.av m.nv m.cv, .slice m.ad m.nd m.cd]
def gtO (g : Gt) (m : GA) : Obj := .cells #[.slice m.a m.n m.c, .int .i64 g.fu, .bool g.up, .int .i64 g.t.r.v, .slice m.ak m.nk m.ck, .int .i64 g.t.r.t, .int .i64 g.t.ver, .slice m.av m.nv m.cv, .slice m.ad m.nd m.cd] 68 (0, 0)
theorem BI.turns {w w' : World} {B : Nat} {a : Option Addr} {n : Nat} {xs : List Int} (h : BI w a n xs) (hg : w.grownBy w' (some B)) (ho : Off B a) : BI w' a n xs := ⟨ints_turns h.at_ hg ho, h.len, h.max⟩
/-- What is known of a gateway that comes in. -/
structure GIn (w : World) (m : GA) (g : Gt) : Prop where
  ws : BW w m.a m.n m.c g.ws
  ks : BI w m.ak m.nk g.t.r.ks
  vo : BV w m.av m.nv m.cv g.vo
  di : BV w m.ad m.nd m.cd g.di
theorem GIn.below {w w' : World} {m : GA} {g : Gt} (h : GIn w m g) (hb : Below w.heap.size w w') : GIn w' m g := ⟨h.ws.below hb, h.ks.below hb, h.vo.below hb, h.di.below hb⟩

def gsv (s : Gs) : Value := .agg #[.int .i64 s.n, .int .i64 s.v, .bool s.co, .bool s.ab, .bool s.en]
def gsO (s : Gs) : Obj := .cells #[.int .i64 s.n, .int .i64 s.v, .bool s.co, .bool s.ab, .bool s.en] 82 (0, 0)

theorem gtE_1 {g : Gt} (h : lchk g.ws g.fu ≠ 0) : gtE g = lchk g.ws g.fu := by unfold gtE; rw [if_pos h]
theorem gtE_2 {g : Gt} (h : lchk g.ws g.fu = 0) (h2 : gtB g = false) : gtE g = 4 := by unfold gtE; rw [if_neg (by simpa using h), if_neg (by rw [h2]; decide)]
theorem gtE_3 {g : Gt} (h : lchk g.ws g.fu = 0) (h2 : gtB g = true) : gtE g = trE g.t := by unfold gtE; rw [if_neg (by simpa using h), if_pos h2]
theorem gtE_ok {g : Gt} (h : gtE g = 0) : lchk g.ws g.fu = 0 ∧ (1 ≤ g.vo.length ∧ g.vo.length ≤ 4) ∧ g.di.length = g.vo.length ∧ trE g.t = 0 := by
  rcases Decidable.em (lchk g.ws g.fu = 0) with h1 | h1
  · cases h2 : gtB g
    · rw [gtE_2 h1 h2] at h; cases h
    · rw [gtE_3 h1 h2] at h
      unfold gtB inB at h2
      simp at h2
      exact ⟨h1, ⟨by omega, by omega⟩, h2.2, h⟩
  · rw [gtE_1 h1] at h; exact absurd h h1

end Go.Proofs.YtgngpmgjoifepaaGreatDoor
