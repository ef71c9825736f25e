/- Plain facts: what is done in turn is a list of changes, of which there is power for so many. Plain facts on logs: what the records are behind some of the changes of an Append, and behind all. Plain facts on logs: however far an Append came, the records are those of ahead; done, those and the new one, or those that are kept and the new one. -/
import Derived.Test.YtgngpmgjoifepaaGreatDoorPq9
import Derived.Test.YtgngpmgjoifepaaGreatDoorPq13
namespace Go.Proofs.YtgngpmgjoifepaaGreatDoor
open Go.RowKit

def proC (p : Nat) (words : List Int) : List (Nat × Option (Nat × Int)) := (List.range words.length).map (fun i => (p + i, some (0, words.getD i 0)))
theorem proC_length (p : Nat) (words : List Int) : (proC p words).length = words.length := by simp [proC]
theorem proC_pro (p : Nat) (words : List Int) : ProL p words words.length (proC p words) := by
  refine ⟨proC_length _ _, fun i hi => ⟨0, ?_⟩⟩
  simp [proC, hi]

/-- The changes of a step. -/
def stC : Stp → List (Nat × Option (Nat × Int))
  | .inl s => eraL s 32
  | .inr (p, words) => proC p words
def StOk (L : Nat) : Stp → Prop
  | .inl s => s * 32 + 32 ≤ L
  | .inr (p, words) => p + words.length ≤ L ∧ okL words = true

theorem doS_chg {st : Stp} {ws : List Int} {f : Int} (h : chk ws f = 0) (ho : StOk ws.length st) : doS st ws f = chgS ws f (stC st) := by
  have hp := chk_parts h
  cases st with
  | inl s => exact (chgS_era h (by simp only [StOk] at ho; omega)).symm
  | inr q => obtain ⟨p, words⟩ := q; exact (chgS_pro h (proC_pro p words) ho.1 ho.2).symm

theorem applyL_ok {ws : List Int} {cs : List (Nat × Option (Nat × Int))} (h : okL ws = true) (hc : ∀ c ∈ cs, ∀ b x, c.2 = some (b, x) → okW x = true) : okL (applyL cs ws) = true := by
  induction cs generalizing ws with
  | nil => exact h
  | cons c cs ih =>
    show okL (applyL cs (ws.set c.1 (apW c.2 (ws.getD c.1 0)))) = true
    refine ih ?_ (fun d hd => hc d (List.mem_cons_of_mem _ hd))
    by_cases hlt : c.1 < ws.length
    · apply okL_of
      intro i hi
      simp at hi
      by_cases e : c.1 = i
      · subst e
        have : (ws.set c.1 (apW c.2 (ws.getD c.1 0))).getD c.1 0 = apW c.2 (ws.getD c.1 0) := by simp [hlt]
        rw [this]
        cases h2 : c.2 with
        | none => rfl
        | some p => obtain ⟨b, x⟩ := p; exact and_ok (okL_get h _ hlt) (hc c List.mem_cons_self b x h2)
      · have : (ws.set c.1 (apW c.2 (ws.getD c.1 0))).getD i 0 = ws.getD i 0 := by simp [e]
        rw [this]
        exact okL_get h i hi
    · rw [List.set_eq_of_length_le (by omega)]
      exact h

theorem stC_ok {L : Nat} {st : Stp} (h : StOk L st) : ∀ c ∈ stC st, ∀ b x, c.2 = some (b, x) → okW x = true := by
  intro c hc b x hx
  cases st with
  | inl s => simp [stC, eraL] at hc; obtain ⟨i, _, rfl⟩ := hc; cases hx
  | inr q =>
    obtain ⟨p, words⟩ := q
    simp only [stC, proC, List.mem_map, List.mem_range] at hc
    obtain ⟨i, hi, rfl⟩ := hc
    simp only [Option.some.injEq, Prod.mk.injEq] at hx
    rw [← hx.2]
    exact okL_get h.2 i hi

theorem chk_of {ws : List Int} {f f' : Int} {us : List Int} (h : chk ws f = 0) (hl : us.length = ws.length) (hok : okL us = true) (h0 : -1 ≤ f') (h1 : f' ≤ 100000) : chk us f' = 0 := by
  have q := chk_parts h
  apply chk_ok
  · rw [hl]; exact decide_eq_true q.1
  · unfold rangeB; rw [hok]; simp; omega

theorem turn_chg (sts : List Stp) (ws : List Int) (f : Int) (h : chk ws f = 0) (ho : ∀ st ∈ sts, StOk ws.length st) : turnS sts ws f = chgS ws f (sts.flatMap stC) := by
  induction sts generalizing ws f with
  | nil =>
    have : cnt f 0 = 0 := Nat.le_zero.1 (cnt_le _ _)
    show (ws, f, (0 : Int)) = chgS ws f []
    unfold chgS
    rw [List.length_nil, this, perr_ok this]
    have : burn f 0 = f := by unfold burn; split <;> simp
    rw [this]
    rfl
  | cons st sts ih =>
    have hd := doS_chg h (ho st List.mem_cons_self)
    have q := chk_parts h
    rw [List.flatMap_cons]
    by_cases c : cnt f (stC st).length = (stC st).length
    · have e2 : (doS st ws f).2.2 = 0 := by rw [hd]; exact perr_ok c
      rw [turnS_go e2, hd, chgS_go c]
      have e1 : (chgS ws f (stC st)).1 = applyL (stC st) ws := by unfold chgS; rw [c, List.take_length]
      have e3 : (chgS ws f (stC st)).2.1 = burn f (stC st).length := by unfold chgS; rw [c]
      rw [e1, e3]
      have bb := burn_bounds q.2.1 q.2.2.1 (Nat.le_of_eq c.symm)
      refine ih _ _ ?_ ?_
      · exact chk_of h (applyL_length _ _) (applyL_ok q.2.2.2 (stC_ok (ho st List.mem_cons_self))) bb.1 bb.2
      · rw [applyL_length]; exact fun d hd => ho d (List.mem_cons_of_mem _ hd)
    · have lt : cnt f (stC st).length < (stC st).length := by have := cnt_le f (stC st).length; omega
      have e2 : (doS st ws f).2.2 ≠ 0 := by
        rw [hd]
        show perr f (stC st).length ≠ 0
        rw [perr_no lt]; decide
      rw [turnS_stop e2, hd, chgS_stop lt]

/-! ### Append as changes -/
theorem addL_ok {xs r : List Int} (h : okL xs = true) (hr : recE r = 0) : okL (addL xs r) = true := by
  have q := recE_ok hr
  unfold addL okL at *
  rw [List.all_append, List.all_cons, h, q.2.2]
  have : okW (headS r.length) = true := by unfold okW headS; simp; omega
  rw [this]
  rfl

theorem addE_rec {xs r : List Int} (h : addE xs r = 0) : recE r = 0 := by
  unfold addE at h
  split at h
  · rename_i h1; exact absurd h h1
  · rename_i h1; simpa using h1

theorem laidS_ok (rs : List (List Int)) (xs : List Int) (h : okL xs = true) : okL (laidS rs xs).1 = true := by
  induction rs generalizing xs with
  | nil => exact h
  | cons r rs ih =>
    by_cases e : addE xs r = 0
    · rw [laidS_cons_ok e]; exact ih _ (addL_ok h (addE_rec e))
    · rw [laidS_cons_no e]; rfl

/-- Where Append has no error of its own. -/
theorem appErr_ok {ws : List Int} {f : Int} {r : List Int} {keep : List (List Int)} (h : appErr ws f r keep = 0) : lchk ws f = 0 ∧ recE r = 0 ∧ (laidA r keep).2 = 0 ∧ (fitsA ws r = true ∨ genN ws ≠ 60000) := by
  unfold appErr at h
  split at h
  · rename_i h1; exact absurd h h1
  · rename_i h1
    split at h
    · rename_i h2; exact absurd h h2
    · rename_i h2
      split at h
      · rename_i h3; exact absurd h h3
      · rename_i h3
        split at h
        · simp at h
        · rename_i h4
          refine ⟨by simpa using h1, by simpa using h2, by simpa using h3, ?_⟩
          cases hf : fitsA ws r
          · right; intro hg; exact h4 ⟨hf, hg⟩
          · left; rfl

theorem lchk_mk {ws : List Int} {f : Int} (h1 : chk ws f = 0) (h2 : 64 ≤ ws.length) (h3 : genN ws ≠ 0) (h4 : genN ws ≤ 60000) : lchk ws f = 0 := by
  have hs : secS ws f = 0 := by unfold secS; rw [if_neg (by simpa using h1), if_neg (by omega)]
  unfold lchk
  rw [if_neg (by simpa using hs), if_neg (by omega)]

theorem lchk_fuel {ws : List Int} {f f' : Int} (h : lchk ws f = 0) (h0 : -1 ≤ f') (h1 : f' ≤ 100000) : lchk ws f' = 0 := by
  have q := lchk_parts h
  exact lchk_mk (chk_fuel q.1 h0 h1) q.2.1 q.2.2.2.2.1 q.2.2.2.2.2

/-- The changes of an Append. -/
def appC (ws r : List Int) (keep : List (List Int)) : List (Nat × Option (Nat × Int)) := (appSteps ws r keep).flatMap stC

theorem headS_ok {n : Nat} (h : n ≤ 4) : okW (headS n) = true := by unfold okW headS; simp; omega

theorem fitsA_parts {ws r : List Int} (h : fitsA ws r = true) : cleanS (restS ws) = true ∧ r.length < (restS ws).length := by
  unfold fitsA at h
  simpa using h

theorem appSteps_ok {ws : List Int} {f : Int} {r : List Int} {keep : List (List Int)} (h : appErr ws f r keep = 0) : ∀ st ∈ appSteps ws r keep, StOk ws.length st := by
  have q := appErr_ok h
  have l := lchk_parts q.1
  have rr := recE_ok q.2.1
  have hf := restS_few l.2.1
  have hs := secN_01 ws
  intro st hst
  unfold appSteps at hst
  split at hst
  · rename_i hfit
    have hp := fitsA_parts hfit
    simp only [List.mem_cons, List.not_mem_nil, or_false] at hst
    rcases hst with rfl | rfl
    · exact ⟨by unfold headP; rcases hs with e | e <;> rw [e] <;> omega, rr.2.2⟩
    · exact ⟨by unfold headP; simp only [List.length_cons, List.length_nil]; rcases hs with e | e <;> rw [e] <;> omega, by unfold okL; rw [List.all_cons, headS_ok rr.2.1]; rfl⟩
  · rename_i hfit
    simp only [List.mem_cons, List.not_mem_nil, or_false] at hst
    have hl : (laidA r keep).1.length ≤ 31 := laidS_few _ _ (by simp)
    have hg := q.2.2.2.resolve_left hfit
    have hgn := genN_nonneg l.2.2.2.1 l.2.1
    rcases hst with rfl | rfl | rfl
    · show (1 - secN ws) * 32 + 32 ≤ _
      omega
    · exact ⟨by omega, laidS_ok _ _ rfl⟩
    · refine ⟨by simp only [List.length_cons, List.length_nil]; omega, ?_⟩
      unfold okL
      rw [List.all_cons]
      have : okW (genN ws + 1) = true := by unfold okW; simp; omega
      rw [this]; rfl

theorem app_chg {ws : List Int} {f : Int} {r : List Int} {keep : List (List Int)} (h : appErr ws f r keep = 0) : appS ws f r keep = chgS ws f (appC ws r keep) := by
  unfold appS
  rw [if_neg (by simpa using h)]
  exact turn_chg _ _ _ (lchk_parts (appErr_ok h).1).1 (appSteps_ok h)

theorem app_err {ws : List Int} {f : Int} {r : List Int} {keep : List (List Int)} (h : appErr ws f r keep ≠ 0) : appS ws f r keep = ([], 0, appErr ws f r keep) := by
  unfold appS
  rw [if_pos h]

theorem app_full {ws : List Int} {f : Int} {r : List Int} {keep : List (List Int)} (h : appErr ws f r keep = 0) (hf : cnt f (appC ws r keep).length = (appC ws r keep).length) : appS ws f r keep = (applyL (appC ws r keep) ws, burn f (appC ws r keep).length, 0) := by
  rw [app_chg h]
  unfold chgS
  rw [hf, List.take_length, perr_ok hf]

/-- With all power. -/
theorem app_neg {ws : List Int} {r : List Int} {keep : List (List Int)} (h : appErr ws (-1) r keep = 0) : appS ws (-1) r keep = (applyL (appC ws r keep) ws, -1, 0) := by
  rw [app_full h (cnt_neg _ (by decide)), burn_negf _ (by decide)]

end Go.Proofs.YtgngpmgjoifepaaGreatDoor

namespace Go.Proofs.YtgngpmgjoifepaaGreatDoor
open Go.RowKit

/-! ### Two flashes that begin alike -/
theorem take_getD {xs ys : List Int} {k : Nat} (h : ∀ i, i < k → xs.getD i 0 = ys.getD i 0) (hx : k ≤ xs.length) (hy : k ≤ ys.length) : xs.take k = ys.take k := by
  apply ext_getD (by simp; omega)
  intro i hi
  simp at hi
  have := h i (by omega)
  simpa [show i < k by omega] using this

theorem secL_ext {ws us : List Int} {s : Nat} (hl : us.length = ws.length) (h : ∀ i, s * 32 + 1 ≤ i → i < s * 32 + 32 → us.getD i 0 = ws.getD i 0) : secL us s = secL ws s := by
  unfold secL
  apply ext_getD (by simp [hl])
  intro i hi
  simp at hi
  have := h (s * 32 + 1 + i) (by omega) (by omega)
  simpa [show i < 31 by omega] using this

theorem genS_ext {ws us : List Int} {s : Nat} (h : us.getD (s * 32) 0 = ws.getD (s * 32) 0) : genS us s = genS ws s := by unfold genS; rw [h]

theorem applyL_far {cs : List (Nat × Option (Nat × Int))} {ws : List Int} {i : Nat} (h : ∀ c ∈ cs, c.1 ≠ i) : (applyL cs ws).getD i 0 = ws.getD i 0 := by
  induction cs generalizing ws with
  | nil => rfl
  | cons c cs ih =>
    show (applyL cs (ws.set c.1 (apW c.2 (ws.getD c.1 0)))).getD i 0 = _
    rw [ih (fun d hd => h d (List.mem_cons_of_mem _ hd))]
    have := h c List.mem_cons_self
    simp [this]

theorem stC_far {st : Stp} {c : Nat × Option (Nat × Int)} (hc : c ∈ stC st) : match st with
    | .inl s => s * 32 ≤ c.1 ∧ c.1 < s * 32 + 32
    | .inr (p, words) => p ≤ c.1 ∧ c.1 < p + words.length := by
  cases st with
  | inl s => simp [stC, eraL] at hc; obtain ⟨i, hi, rfl⟩ := hc; simp only; omega
  | inr q => obtain ⟨p, words⟩ := q; simp only [stC, proC, List.mem_map, List.mem_range] at hc; obtain ⟨i, hi, rfl⟩ := hc; simp only; omega

theorem parseN_rest (k : Nat) (l : List Int) : (parseN k l).2.length ≤ l.length := by
  induction k generalizing l with
  | zero => simp [parseN]
  | succ k ih =>
    rw [parseN_succ]
    split
    · simp
    · have := ih (l.drop (1 + longS l))
      simp at this ⊢
      omega
theorem parseS_rest (l : List Int) : (parseS l).2.length ≤ l.length := parseN_rest _ _

theorem longS_congr {l l' : List Int} (h : l.getD 0 0 = l'.getD 0 0) (hl : l.length = l'.length) : longS l = longS l' := by
  cases l with
  | nil => cases l' with
    | nil => rfl
    | cons _ _ => simp at hl
  | cons x r => cases l' with
    | nil => simp at hl
    | cons y r' =>
      simp at h hl
      simp only [longS]
      rw [h, hl]

/-- Other words behind the records: the records stay, and more may come. -/
theorem parse_swap : ∀ (N : Nat) (l : List Int), l.length ≤ N → ∀ (rest' : List Int), rest'.length = (parseS l).2.length →
    parseS (l.take (l.length - (parseS l).2.length) ++ rest') = ((parseS l).1 ++ (parseS rest').1, (parseS rest').2) := by
  intro N
  induction N with
  | zero =>
    intro l hl rest' hr
    have : l = [] := List.eq_nil_of_length_eq_zero (by omega)
    subst this
    have h0 : parseS ([] : List Int) = ([], []) := rfl
    rw [h0] at hr ⊢
    simp at hr
    subst hr
    rfl
  | succ N ih =>
    intro l hl rest' hr
    by_cases h0 : longS l = 0
    · rw [parseS_stop h0] at hr ⊢
      simp
    · have hlt := longS_lt (l := l) (by omega)
      have hst := parseS_step h0
      obtain ⟨n, hn⟩ : ∃ n, n = longS l := ⟨_, rfl⟩
      rw [← hn] at hst hlt h0
      have hrl := parseS_rest (l.drop (1 + n))
      rw [List.length_drop] at hrl
      have e2 : (parseS l).2 = (parseS (l.drop (1 + n))).2 := by rw [hst]
      rw [e2] at hr
      have hih := ih (l.drop (1 + n)) (by simp; omega) rest' hr
      obtain ⟨m, hm⟩ : ∃ m, m = (parseS (l.drop (1 + n))).2.length := ⟨_, rfl⟩
      rw [← hm] at hih hr hrl
      rw [List.length_drop] at hih
      have e3 : l.length - (parseS l).2.length = l.length - m := by rw [e2, hm]
      rw [e3]
      have hlen : (l.take (l.length - m) ++ rest').length = l.length := by simp [hr]; omega
      have hlong : longS (l.take (l.length - m) ++ rest') = n := by
        rw [hn]
        refine longS_congr ?_ hlen
        cases l with
        | nil => simp at hlt
        | cons x t =>
          have : 0 < (x :: t).length - m := by omega
          obtain ⟨q, hq⟩ : ∃ q, (x :: t).length - m = q + 1 := ⟨(x :: t).length - m - 1, by omega⟩
          rw [hq]
          rfl
      have hne : longS (l.take (l.length - m) ++ rest') ≠ 0 := by rw [hlong]; exact h0
      rw [parseS_step hne, hlong]
      have hd : (l.take (l.length - m) ++ rest').drop (1 + n) = (l.drop (1 + n)).take (l.length - (1 + n) - m) ++ rest' := by
        rw [List.drop_append_of_le_length (by simp; omega), List.drop_take]
        congr 2
        omega
      have ht : ((l.take (l.length - m) ++ rest').drop 1).take n = (l.drop 1).take n := by
        rw [List.drop_append_of_le_length (by simp; omega), List.take_append_of_le_length (by simp; omega), List.drop_take, List.take_take]
        congr 1
        omega
      rw [hd, ht, hih, hst]
      simp

theorem parse_split (l : List Int) : l = l.take (l.length - (parseS l).2.length) ++ (parseS l).2 := by
  have : ∀ (N : Nat) (l : List Int), l.length ≤ N → l = l.take (l.length - (parseS l).2.length) ++ (parseS l).2 := by
    intro N
    induction N with
    | zero =>
      intro l hl
      have : l = [] := List.eq_nil_of_length_eq_zero (by omega)
      subst this
      rfl
    | succ N ih =>
      intro l hl
      by_cases h0 : longS l = 0
      · rw [parseS_stop h0]; simp
      · have hlt := longS_lt (l := l) (by omega)
        have hst := parseS_step h0
        have hih := ih (l.drop (1 + longS l)) (by simp; omega)
        have e2 : (parseS l).2 = (parseS (l.drop (1 + longS l))).2 := by rw [hst]
        have hrl := parseS_rest (l.drop (1 + longS l))
        rw [List.length_drop] at hrl hih
        rw [e2]
        obtain ⟨R, hR⟩ : ∃ R, R = (parseS (l.drop (1 + longS l))).2 := ⟨_, rfl⟩
        rw [← hR] at hih hrl ⊢
        have h1 : l = l.take (1 + longS l) ++ l.drop (1 + longS l) := (List.take_append_drop _ _).symm
        have h2 : l.take (l.length - R.length) = l.take (1 + longS l) ++ (l.drop (1 + longS l)).take (l.length - (1 + longS l) - R.length) := by
          conv => lhs; rw [show l.length - R.length = (1 + longS l) + (l.length - (1 + longS l) - R.length) by omega]
          rw [List.take_add]
        rw [h2, List.append_assoc, ← hih]
        exact h1
  exact this l.length l (Nat.le_refl _)

theorem longS_clean {l : List Int} (h : cleanS l = true) : longS l = 0 := by
  cases l with
  | nil => rfl
  | cons x r =>
    unfold cleanS at h
    simp at h
    simp only [longS]
    rw [if_neg (by omega)]

theorem clean_rep (n : Nat) : cleanS (List.replicate n 65535) = true := by
  unfold cleanS
  simp

/-- A record ahead of what is clean. -/
theorem parse_one {r rest : List Int} (hr : recE r = 0) (t : List (List Int) × List Int) (ht : parseS rest = t) : parseS (headS r.length :: r ++ rest) = (r :: t.1, t.2) := by
  have q := recE_ok hr
  have hl : longS (headS r.length :: r ++ rest) = r.length := by
    show longS (headS r.length :: (r ++ rest)) = _
    simp only [longS]
    unfold headS
    rw [if_pos (by simp; omega)]
    omega
  rw [parseS_step (by rw [hl]; omega), hl]
  have h1 : (headS r.length :: r ++ rest).drop (1 + r.length) = rest := by
    rw [Nat.add_comm]
    simp
  have h2 : ((headS r.length :: r ++ rest).drop 1).take r.length = r := by simp
  rw [h1, h2, ht]

/-- The words of records, one behind the other. -/
def flat (rs : List (List Int)) : List Int := rs.flatMap (fun r => headS r.length :: r)

theorem laidS_flat (rs : List (List Int)) (xs : List Int) (h : (laidS rs xs).2 = 0) : (laidS rs xs).1 = xs ++ flat rs ∧ ∀ r ∈ rs, recE r = 0 := by
  induction rs generalizing xs with
  | nil => exact ⟨by simp [laidS, flat], by simp⟩
  | cons r rs ih =>
    by_cases e : addE xs r = 0
    · rw [laidS_cons_ok e] at h ⊢
      obtain ⟨h1, h2⟩ := ih _ h
      refine ⟨by rw [h1]; simp [addL, flat], fun q hq => ?_⟩
      rcases List.mem_cons.1 hq with rfl | hq
      · exact addE_rec e
      · exact h2 q hq
    · rw [laidS_cons_no e] at h; exact absurd h e

theorem parse_flat (rs : List (List Int)) (rest : List Int) (h : ∀ r ∈ rs, recE r = 0) (hc : cleanS rest = true) : parseS (flat rs ++ rest) = (rs, rest) := by
  induction rs with
  | nil => exact parseS_stop (longS_clean hc)
  | cons r rs ih =>
    have := parse_one (rest := flat rs ++ rest) (h r List.mem_cons_self) _ (ih (fun q hq => h q (List.mem_cons_of_mem _ hq)))
    have e : flat (r :: rs) ++ rest = headS r.length :: r ++ (flat rs ++ rest) := by simp [flat]
    rw [e]
    exact this

end Go.Proofs.YtgngpmgjoifepaaGreatDoor

namespace Go.Proofs.YtgngpmgjoifepaaGreatDoor
open Go.RowKit

theorem genS_all {ws : List Int} {s : Nat} (h : ws.getD (s * 32) 0 = 65535) : genS ws s = 0 := by unfold genS; rw [if_pos h]
theorem genS_word {ws : List Int} {s : Nat} {x : Int} (h : ws.getD (s * 32) 0 = x) (hx : x ≠ 65535) : genS ws s = x := by unfold genS; rw [h, if_neg hx]

theorem genN_sec (ws : List Int) : genN ws = genS ws (secN ws) := by
  unfold genN secN
  split <;> rfl

/-- A log in which the sector s says more than the other one. -/
theorem sec_of {us : List Int} {s : Nat} (hs : s = 0 ∨ s = 1) (h : genS us (1 - s) < genS us s) : secN us = s ∧ genN us = genS us s := by
  rcases hs with rfl | rfl
  · have : ¬ genS us 0 < genS us 1 := by simp at h; omega
    unfold secN genN
    rw [if_neg this, if_neg this]
    exact ⟨rfl, rfl⟩
  · have : genS us 0 < genS us 1 := by simpa using h
    unfold secN genN
    rw [if_pos this, if_pos this]
    exact ⟨rfl, rfl⟩

/-! ### r fits: the records' words are programmed, then the head -/

/-- The sector's words behind its records, at their places. -/
theorem rest_at {ws : List Int} (h : 64 ≤ ws.length) (i : Nat) (hi : i < (restS ws).length) : (restS ws).getD i 0 = ws.getD (headP ws + i) 0 := by
  have hs := secN_01 ws
  have hl : (secL ws (secN ws)).length = 31 := secL_length (by omega)
  have hf := restS_few h
  have hsp := parse_split (secL ws (secN ws))
  have hr : (parseS (secL ws (secN ws))).2 = restS ws := rfl
  rw [hr, hl] at hsp
  have h1 : (secL ws (secN ws)).getD (31 - (restS ws).length + i) 0 = (restS ws).getD i 0 := by
    rw [hsp]
    have : ((secL ws (secN ws)).take (31 - (restS ws).length)).length = 31 - (restS ws).length := by rw [List.length_take, hl]; omega
    simp only [List.getD_eq_getElem?_getD]
    rw [List.getElem?_append_right (by rw [this]; omega), this]
    congr 2
    omega
  rw [← h1]
  unfold secL headP
  simp only [List.getD_eq_getElem?_getD]
  rw [List.getElem?_take_of_lt (by omega), List.getElem?_drop]
  congr 2
  omega

/-- What the log says where only words behind the records have turned. -/
theorem log_rest {ws us : List Int} (h : 64 ≤ ws.length) (hl : us.length = ws.length) (hsame : ∀ i, i < 64 → i < headP ws ∨ (secN ws + 1) * 32 ≤ i → us.getD i 0 = ws.getD i 0) :
    secN us = secN ws ∧ genN us = genN ws ∧ secL us (secN ws) = (secL ws (secN ws)).take (31 - (restS ws).length) ++ (secL us (secN ws)).drop (31 - (restS ws).length) := by
  have hs := secN_01 ws
  have hf := restS_few h
  have hh : headP ws + (restS ws).length = (secN ws + 1) * 32 := by unfold headP; omega
  have g : ∀ s, s = 0 ∨ s = 1 → genS us s = genS ws s := fun s hs' => genS_ext (hsame _ (by omega) (by omega))
  have e0 := g 0 (.inl rfl)
  have e1 := g 1 (.inr rfl)
  refine ⟨by unfold secN; rw [e0, e1], by unfold genN; rw [e0, e1], ?_⟩
  have hl1 : (secL ws (secN ws)).length = 31 := secL_length (by omega)
  have hl2 : (secL us (secN ws)).length = 31 := secL_length (by omega)
  conv => lhs; rw [← List.take_append_drop (31 - (restS ws).length) (secL us (secN ws))]
  congr 1
  apply take_getD ?_ (by omega) (by omega)
  intro i hi
  unfold secL
  simp only [List.getD_eq_getElem?_getD]
  rw [List.getElem?_take_of_lt (by omega), List.getElem?_drop, List.getElem?_take_of_lt (by omega), List.getElem?_drop]
  have := hsame (secN ws * 32 + 1 + i) (by omega) (by omega)
  simpa only [List.getD_eq_getElem?_getD] using this

theorem log_rest_R {ws us : List Int} (h : 64 ≤ ws.length) (hl : us.length = ws.length) (hsame : ∀ i, i < 64 → i < headP ws ∨ (secN ws + 1) * 32 ≤ i → us.getD i 0 = ws.getD i 0) :
    logR us = logR ws ++ (parseS ((secL us (secN ws)).drop (31 - (restS ws).length))).1 := by
  obtain ⟨h1, _, h3⟩ := log_rest h hl hsame
  have hs := secN_01 ws
  have hl1 : (secL ws (secN ws)).length = 31 := secL_length (by omega)
  have hl2 : (secL us (secN ws)).length = 31 := secL_length (by omega)
  have hf := restS_few h
  have := parse_swap 31 (secL ws (secN ws)) (by omega) ((secL us (secN ws)).drop (31 - (restS ws).length)) (by rw [List.length_drop, hl2]; show _ = (restS ws).length; omega)
  rw [hl1, show (parseS (secL ws (secN ws))).2 = restS ws from rfl, ← h3] at this
  unfold logR
  rw [h1, this]

/-- The words from the head's place on, as they lie. -/
theorem rest_us {ws us : List Int} (h : 64 ≤ ws.length) : (secL us (secN ws)).drop (31 - (restS ws).length) = (us.drop (headP ws)).take (restS ws).length := by
  have hs := secN_01 ws
  have hf := restS_few h
  unfold secL headP
  rw [List.drop_take, List.drop_drop]
  congr 1
  · omega
  · congr 1
    omega

end Go.Proofs.YtgngpmgjoifepaaGreatDoor
