/- Lists of changes that erase, and that program. What a list of changes that programs words does. Plain facts: lists of changes one behind the other, of which there is power for so many. Plain facts: what is done in turn is a list of changes, of which there is power for so many. Plain facts on logs: what the records are behind some of the changes of an Append, and behind all. Plain facts for LogHolds and LogGoes: the flash behind an Append is a log, its records, and that it can be done again. The contracts of unit.within, Check, CheckMessage, is, stateOf, other, done. -/
import Derived.Test.YtgngpmgjoifepaaGreatDoorPv12
import Derived.Test.YtgngpmgjoifepaaGreatDoorPv7
import Derived.Test.YtgngpmgjoifepaaGreatDoorPv11
namespace Go.Proofs.YtgngpmgjoifepaaGreatDoor
open Go.RowKit
attribute [local go_sem ↓] Go.wp_at_zero Go.wp_at_succ

theorem applyL_era (ws : List Int) (s k : Nat) : applyL (eraL s k) ws = chg (fun _ _ => 65535) (s * 32) k ws := by
  induction k with
  | zero => rfl
  | succ k ih =>
    rw [eraL_succ]
    have : applyL (eraL s k ++ [(32 * s + k, none)]) ws = (applyL (eraL s k) ws).set (32 * s + k) 65535 := by simp [applyL, apW]
    rw [this, ih, Nat.mul_comm 32 s]
    rfl

theorem eraL_take (s n k : Nat) (h : k ≤ n) : (eraL s n).take k = eraL s k := by
  unfold eraL
  rw [← List.map_take, List.take_range, Nat.min_eq_left h]

theorem chgS_era {ws : List Int} {fuel : Int} {s : Nat} (h : chk ws fuel = 0) (hs : (s : Int) < (ws.length : Int) / 32) : chgS ws fuel (eraL s 32) = eraS ws fuel s := by
  unfold chgS eraS
  rw [if_neg (by simpa using h), if_neg (by omega), eraL_length, eraL_take _ _ _ (cnt_le _ _), applyL_era, Int.toNat_natCast]

theorem erases_from (s : Nat) (w : World) (hs : s ≤ 6) : Calls Tryz.prog 134 #[.int .i64 s] w fun e w' => ∃ al cl, e = .returned (.slice al 32 cl) ∧ 32 ≤ cl ∧ IsChgs w' al (eraL s 32) ∧ Below w.heap.size w w' := by
  refine (erases_any s w hs).mono ?_
  rintro e w' ⟨v, rfl, hm⟩
  obtain ⟨al, cl, hv, hc, hl⟩ := hm.isChgs
  rw [eraL_length] at hv hc
  exact ⟨al, cl, by rw [hv], hc, hl, hm.below⟩

theorem programs_from (p : Nat) (a : Option Addr) (n c : Nat) (words : List Int) (w : World) (h : IsInts w a words) (hn : words.length = n) (hm : n ≤ 100000) (hp : p ≤ 100000) :
    Calls Tryz.prog 179 #[.int .i64 p, .slice a n c] w fun e w' => ∃ al cl cs, e = .returned (.slice al n cl) ∧ n ≤ cl ∧ IsChgs w' al cs ∧ ProL p words n cs ∧ Below w.heap.size w w' := by
  refine (programs_any p a n c words w h hn hm hp).mono ?_
  rintro e w' ⟨v, cs, rfl, hm, hpl⟩
  obtain ⟨al, cl, hv, hc, hl⟩ := hm.isChgs
  rw [hpl.1] at hv hc
  exact ⟨al, cl, cs, by rw [hv], hc, hl, hpl, hm.below⟩

end Go.Proofs.YtgngpmgjoifepaaGreatDoor

namespace Go.Proofs.YtgngpmgjoifepaaGreatDoor
open Go.RowKit
attribute [local go_sem ↓] Go.wp_at_zero Go.wp_at_succ

theorem ProL.lt {p n : Nat} {words : List Int} {cs : List (Nat × Option (Nat × Int))} (h : ProL p words n cs) (c : Nat × Option (Nat × Int)) (hc : c ∈ cs) : c.1 < p + n := by
  obtain ⟨i, hi, he⟩ := List.getElem_of_mem hc
  have hi' : i < n := by rw [h.1] at hi; exact hi
  obtain ⟨b, hb⟩ := h.2 i hi'
  rw [List.getElem?_eq_getElem hi, he] at hb
  have := Option.some.inj hb
  rw [this]
  simp only
  omega

theorem applyL_pro {ws words : List Int} {p n : Nat} {cs : List (Nat × Option (Nat × Int))} (h : ProL p words n cs) (hf : p + n ≤ ws.length) (k : Nat) (hk : k ≤ n) : applyL (cs.take k) ws = chg (andW words) p k ws := by
  induction k with
  | zero => rfl
  | succ k ih =>
    obtain ⟨b, hb⟩ := h.2 k (by omega)
    rw [applyL_succ cs ws k _ hb, ih (by omega)]
    simp only [apW]
    rw [chg_here (andW words) p k ws (by omega)]
    rfl

theorem chgS_pro {ws words : List Int} {fuel : Int} {p : Nat} {cs : List (Nat × Option (Nat × Int))} (h : chk ws fuel = 0) (hp : ProL p words words.length cs) (hf : p + words.length ≤ ws.length) (hok : okL words = true) : chgS ws fuel cs = progS ws fuel p words := by
  rw [prog_ok h hf hok]
  unfold chgS
  rw [hp.1, applyL_pro hp hf _ (cnt_le _ _)]

end Go.Proofs.YtgngpmgjoifepaaGreatDoor

namespace Go.Proofs.YtgngpmgjoifepaaGreatDoor
open Go.RowKit

theorem applyL_append (A B : List (Nat × Option (Nat × Int))) (ws : List Int) : applyL (A ++ B) ws = applyL B (applyL A ws) := by
  unfold applyL; rw [List.foldl_append]

theorem cnt_add_stop {f : Int} {n m : Nat} (h : cnt f n < n) : cnt f (n + m) = cnt f n := by
  by_cases hf : f < 0
  { rw [cnt_neg _ hf] at h; omega }
  { rw [cnt_nn _ hf] at *; rw [cnt_nn _ hf]; omega }
theorem cnt_add_go {f : Int} {n m : Nat} (h : cnt f n = n) : cnt f (n + m) = n + cnt (burn f n) m := by
  by_cases hf : f < 0
  { rw [cnt_neg _ hf, burn_negf _ hf, cnt_neg _ hf] }
  {
  have h' := h
  rw [cnt_nn _ hf] at h'
  rw [cnt_nn _ hf, burn_nn _ hf, cnt_nn _ (by omega)]
  omega
  }
theorem burn_add {f : Int} {n k : Nat} (h : cnt f n = n) : burn f (n + k) = burn (burn f n) k := by
  by_cases hf : f < 0
  { rw [burn_negf _ hf, burn_negf _ hf, burn_negf _ hf] }
  {
  have h' := h
  rw [cnt_nn _ hf] at h'
  rw [burn_nn _ hf, burn_nn _ hf, burn_nn _ (by omega)]
  omega

  }
theorem chgS_stop {ws : List Int} {f : Int} {A B : List (Nat × Option (Nat × Int))} (h : cnt f A.length < A.length) : chgS ws f (A ++ B) = chgS ws f A := by
  unfold chgS
  rw [List.length_append, cnt_add_stop h, perr_no h, perr_no (by rw [cnt_add_stop h]; omega), List.take_append_of_le_length (by omega)]

theorem chgS_go {ws : List Int} {f : Int} {A B : List (Nat × Option (Nat × Int))} (h : cnt f A.length = A.length) : chgS ws f (A ++ B) = chgS (applyL A ws) (burn f A.length) B := by
  unfold chgS
  rw [List.length_append, cnt_add_go h, burn_add h, List.take_length_add_append, applyL_append]
  congr 2
  unfold perr
  rw [cnt_add_go h]
  by_cases c : cnt (burn f A.length) B.length = B.length
  { rw [if_pos c, if_pos (by omega)] }
  {
  rw [if_neg c, if_neg (by omega)]

  }
end Go.Proofs.YtgngpmgjoifepaaGreatDoor

namespace Go.Proofs.YtgngpmgjoifepaaGreatDoor
open Go.RowKit

def proC (p : Nat) (words : List Int) : List (Nat × Option (Nat × Int)) := (List.range words.length).map (fun i => (p + i, some (0, words.getD i 0)))
theorem proC_length (p : Nat) (words : List Int) : (proC p words).length = words.length := by simp [proC]
theorem proC_pro (p : Nat) (words : List Int) : ProL p words words.length (proC p words) := by
  refine ⟨proC_length _ _, fun i hi => ⟨0, ?_⟩⟩
  simp [proC, hi]

def stC : Stp → List (Nat × Option (Nat × Int))
  | .inl s => eraL s 32
  | .inr (p, words) => proC p words
def StOk (L : Nat) : Stp → Prop
  | .inl s => s * 32 + 32 ≤ L
  | .inr (p, words) => p + words.length ≤ L ∧ okL words = true

theorem doS_chg {st : Stp} {ws : List Int} {f : Int} (h : chk ws f = 0) (ho : StOk ws.length st) : doS st ws f = chgS ws f (stC st) := by
  have hp := chk_parts h
  cases st with
  | inl s => exact (chgS_era h (by simp only [StOk] at ho; omega)).symm
  | inr q => obtain ⟨p, words⟩ := q; exact (chgS_pro h (proC_pro p words) ho.1 ho.2).symm

theorem applyL_ok {ws : List Int} {cs : List (Nat × Option (Nat × Int))} (h : okL ws = true) (hc : ∀ c ∈ cs, ∀ b x, c.2 = some (b, x) → okW x = true) : okL (applyL cs ws) = true := by
  induction cs generalizing ws with
  | nil => exact h
  | cons c cs ih =>
    show okL (applyL cs (ws.set c.1 (apW c.2 (ws.getD c.1 0)))) = true
    refine ih ?_ (fun d hd => hc d (List.mem_cons_of_mem _ hd))
    by_cases hlt : c.1 < ws.length
    {
    apply okL_of
    intro i hi
    simp at hi
    by_cases e : c.1 = i
    {
    subst e
    have : (ws.set c.1 (apW c.2 (ws.getD c.1 0))).getD c.1 0 = apW c.2 (ws.getD c.1 0) := by simp [hlt]
    rw [this]
    cases h2 : c.2 with
    | none => rfl
    | some p => obtain ⟨b, x⟩ := p; exact and_ok (okL_get h _ hlt) (hc c List.mem_cons_self b x h2)
    }
    {
    have : (ws.set c.1 (apW c.2 (ws.getD c.1 0))).getD i 0 = ws.getD i 0 := by simp [e]
    rw [this]
    exact okL_get h i hi
    }
    }
    {
    rw [List.set_eq_of_length_le (by omega)]
    exact h

    }
theorem stC_ok {L : Nat} {st : Stp} (h : StOk L st) : ∀ c ∈ stC st, ∀ b x, c.2 = some (b, x) → okW x = true := by
  intro c hc b x hx
  cases st with
  | inl s => simp [stC, eraL] at hc; obtain ⟨i, _, rfl⟩ := hc; cases hx
  | inr q =>
    obtain ⟨p, words⟩ := q
    simp only [stC, proC, List.mem_map, List.mem_range] at hc
    obtain ⟨i, hi, rfl⟩ := hc
    simp only [Option.some.injEq, Prod.mk.injEq] at hx
    rw [← hx.2]
    exact okL_get h.2 i hi

theorem chk_of {ws : List Int} {f f' : Int} {us : List Int} (h : chk ws f = 0) (hl : us.length = ws.length) (hok : okL us = true) (h0 : -1 ≤ f') (h1 : f' ≤ 100000) : chk us f' = 0 := by
  have q := chk_parts h
  apply chk_ok
  { rw [hl]; exact decide_eq_true q.1 }
  {
  unfold rangeB; rw [hok]; simp; omega

  }
theorem turn_chg (sts : List Stp) (ws : List Int) (f : Int) (h : chk ws f = 0) (ho : ∀ st ∈ sts, StOk ws.length st) : turnS sts ws f = chgS ws f (sts.flatMap stC) := by
  induction sts generalizing ws f with
  | nil =>
    have : cnt f 0 = 0 := Nat.le_zero.1 (cnt_le _ _)
    show (ws, f, (0 : Int)) = chgS ws f []
    unfold chgS
    rw [List.length_nil, this, perr_ok this]
    have : burn f 0 = f := by unfold burn; split <;> simp
    rw [this]
    rfl
  | cons st sts ih =>
    have hd := doS_chg h (ho st List.mem_cons_self)
    have q := chk_parts h
    rw [List.flatMap_cons]
    by_cases c : cnt f (stC st).length = (stC st).length
    {
    have e2 : (doS st ws f).2.2 = 0 := by rw [hd]; exact perr_ok c
    rw [turnS_go e2, hd, chgS_go c]
    have e1 : (chgS ws f (stC st)).1 = applyL (stC st) ws := by unfold chgS; rw [c, List.take_length]
    have e3 : (chgS ws f (stC st)).2.1 = burn f (stC st).length := by unfold chgS; rw [c]
    rw [e1, e3]
    have bb := burn_bounds q.2.1 q.2.2.1 (Nat.le_of_eq c.symm)
    refine ih _ _ ?_ ?_
    { exact chk_of h (applyL_length _ _) (applyL_ok q.2.2.2 (stC_ok (ho st List.mem_cons_self))) bb.1 bb.2 }
    { rw [applyL_length]; exact fun d hd => ho d (List.mem_cons_of_mem _ hd) }
    }
    {
    have lt : cnt f (stC st).length < (stC st).length := by have := cnt_le f (stC st).length; omega
    have e2 : (doS st ws f).2.2 ≠ 0 := by
      rw [hd]
      show perr f (stC st).length ≠ 0
      rw [perr_no lt]; decide
    rw [turnS_stop e2, hd, chgS_stop lt]

    }
/-! ### Append as changes -/
theorem addL_ok {xs r : List Int} (h : okL xs = true) (hr : recE r = 0) : okL (addL xs r) = true := by
  have q := recE_ok hr
  unfold addL okL at *
  rw [List.all_append, List.all_cons, h, q.2.2]
  have : okW (headS r.length) = true := by unfold okW headS; simp; omega
  rw [this]
  rfl

theorem addE_rec {xs r : List Int} (h : addE xs r = 0) : recE r = 0 := by
  unfold addE at h
  split at h
  { rename_i h1; exact absurd h h1 }
  {
  rename_i h1; simpa using h1

  }
theorem laidS_ok (rs : List (List Int)) (xs : List Int) (h : okL xs = true) : okL (laidS rs xs).1 = true := by
  induction rs generalizing xs with
  | nil => exact h
  | cons r rs ih =>
    by_cases e : addE xs r = 0
    { rw [laidS_cons_ok e]; exact ih _ (addL_ok h (addE_rec e)) }
    {
    rw [laidS_cons_no e]; rfl

    }
theorem appErr_ok {ws : List Int} {f : Int} {r : List Int} {keep : List (List Int)} (h : appErr ws f r keep = 0) : lchk ws f = 0 ∧ recE r = 0 ∧ (laidA r keep).2 = 0 ∧ (fitsA ws r = true ∨ genN ws ≠ 60000) := by
  unfold appErr at h
  split at h
  { rename_i h1; exact absurd h h1 }
  {
  rename_i h1
  split at h
  { rename_i h2; exact absurd h h2 }
  {
  rename_i h2
  split at h
  { rename_i h3; exact absurd h h3 }
  {
  rename_i h3
  split at h
  { simp at h }
  {
  rename_i h4
  refine ⟨by simpa using h1, by simpa using h2, by simpa using h3, ?_⟩
  cases hf : fitsA ws r
  { right; intro hg; exact h4 ⟨hf, hg⟩ }
  {
  left; rfl

  }
  }
  }
  }
  }
theorem appErr_mk {ws : List Int} {f : Int} {r : List Int} {keep : List (List Int)} (h1 : lchk ws f = 0) (h2 : recE r = 0) (h3 : (laidA r keep).2 = 0) (h4 : fitsA ws r = true ∨ genN ws ≠ 60000) : appErr ws f r keep = 0 := by
  unfold appErr
  rw [if_neg (by simpa using h1), if_neg (by simpa using h2), if_neg (by simpa using h3), if_neg]
  rintro ⟨h5, h6⟩
  rcases h4 with h4 | h4
  { rw [h5] at h4; cases h4 }
  {
  exact h4 h6

  }
theorem lchk_mk {ws : List Int} {f : Int} (h1 : chk ws f = 0) (h2 : 64 ≤ ws.length) (h3 : genN ws ≠ 0) (h4 : genN ws ≤ 60000) : lchk ws f = 0 := by
  have hs : secS ws f = 0 := by unfold secS; rw [if_neg (by simpa using h1), if_neg (by omega)]
  unfold lchk
  rw [if_neg (by simpa using hs), if_neg (by omega)]

def appC (ws r : List Int) (keep : List (List Int)) : List (Nat × Option (Nat × Int)) := (appSteps ws r keep).flatMap stC

theorem headS_ok {n : Nat} (h : n ≤ 4) : okW (headS n) = true := by unfold okW headS; simp; omega

theorem fitsA_parts {ws r : List Int} (h : fitsA ws r = true) : cleanS (restS ws) = true ∧ r.length < (restS ws).length := by
  unfold fitsA at h
  simpa using h

theorem appSteps_ok {ws : List Int} {f : Int} {r : List Int} {keep : List (List Int)} (h : appErr ws f r keep = 0) : ∀ st ∈ appSteps ws r keep, StOk ws.length st := by
  have q := appErr_ok h
  have l := lchk_parts q.1
  have rr := recE_ok q.2.1
  have hf := restS_few l.2.1
  have hs := secN_01 ws
  intro st hst
  unfold appSteps at hst
  split at hst
  {
  rename_i hfit
  have hp := fitsA_parts hfit
  simp only [List.mem_cons, List.not_mem_nil, or_false] at hst
  rcases hst with rfl | rfl
  { exact ⟨by unfold headP; rcases hs with e | e <;> rw [e] <;> omega, rr.2.2⟩ }
  { exact ⟨by unfold headP; simp only [List.length_cons, List.length_nil]; rcases hs with e | e <;> rw [e] <;> omega, by unfold okL; rw [List.all_cons, headS_ok rr.2.1]; rfl⟩ }
  }
  {
  rename_i hfit
  simp only [List.mem_cons, List.not_mem_nil, or_false] at hst
  have hl : (laidA r keep).1.length ≤ 31 := laidS_few _ _ (by simp)
  have hg := q.2.2.2.resolve_left hfit
  have hgn := genN_nonneg l.2.2.2.1 l.2.1
  rcases hst with rfl | rfl | rfl
  {
  show (1 - secN ws) * 32 + 32 ≤ _
  omega
  }
  { exact ⟨by omega, laidS_ok _ _ rfl⟩ }
  {
  refine ⟨by simp only [List.length_cons, List.length_nil]; omega, ?_⟩
  unfold okL
  rw [List.all_cons]
  have : okW (genN ws + 1) = true := by unfold okW; simp; omega
  rw [this]; rfl

  }
  }
theorem app_chg {ws : List Int} {f : Int} {r : List Int} {keep : List (List Int)} (h : appErr ws f r keep = 0) : appS ws f r keep = chgS ws f (appC ws r keep) := by
  unfold appS
  rw [if_neg (by simpa using h)]
  exact turn_chg _ _ _ (lchk_parts (appErr_ok h).1).1 (appSteps_ok h)

end Go.Proofs.YtgngpmgjoifepaaGreatDoor

namespace Go.Proofs.YtgngpmgjoifepaaGreatDoor
theorem secL_ext {ws us : List Int} {s : Nat} (hl : us.length = ws.length) (h : ∀ i, s * 32 + 1 ≤ i → i < s * 32 + 32 → us.getD i 0 = ws.getD i 0) : secL us s = secL ws s := by
  unfold secL
  apply ext_getD (by simp [hl])
  intro i hi
  simp at hi
  have := h (s * 32 + 1 + i) (by omega) (by omega)
  simpa [show i < 31 by omega] using this

theorem genS_ext {ws us : List Int} {s : Nat} (h : us.getD (s * 32) 0 = ws.getD (s * 32) 0) : genS us s = genS ws s := by unfold genS; rw [h]

theorem log_ext {ws us : List Int} (hl : us.length = ws.length) (h : ∀ i, i < 64 → us.getD i 0 = ws.getD i 0) : secN us = secN ws ∧ genN us = genN ws ∧ secL us (secN us) = secL ws (secN ws) := by
  have g0 : genS us 0 = genS ws 0 := genS_ext (h _ (by omega))
  have g1 : genS us 1 = genS ws 1 := genS_ext (h _ (by omega))
  have hs : secN us = secN ws := by unfold secN; rw [g0, g1]
  refine ⟨hs, by unfold genN; rw [g0, g1], ?_⟩
  rw [hs]
  apply secL_ext hl
  intro i h1 h2
  rcases secN_01 ws with e | e <;> rw [e] at h1 h2 <;> exact h i (by omega)

theorem logR_ext {ws us : List Int} (hl : us.length = ws.length) (h : ∀ i, i < 64 → us.getD i 0 = ws.getD i 0) : logR us = logR ws := by
  unfold logR; rw [(log_ext hl h).2.2]

theorem lchk_ext {ws us : List Int} {f f' : Int} (hk : lchk ws f = 0) (hl : us.length = ws.length) (h : ∀ i, i < 64 → us.getD i 0 = ws.getD i 0) (hok : okL us = true) (h0 : -1 ≤ f') (h1 : f' ≤ 100000) : lchk us f' = 0 := by
  have q := lchk_parts hk
  have e := (log_ext hl h).2.1
  exact lchk_mk (chk_of q.1 hl hok h0 h1) (by omega) (by rw [e]; exact q.2.2.2.2.1) (by rw [e]; exact q.2.2.2.2.2)

end Go.Proofs.YtgngpmgjoifepaaGreatDoor

namespace Go.Proofs.YtgngpmgjoifepaaGreatDoor
open Go.RowKit

theorem logR_few {ws : List Int} (h : 64 ≤ ws.length) : (logR ws).length ≤ 31 := by
  have := parseS_few (secL ws (secN ws))
  rw [secL_length (by have := secN_01 ws; omega)] at this
  exact this

end Go.Proofs.YtgngpmgjoifepaaGreatDoor

namespace Go.Proofs.YtgngpmgjoifepaaGreatDoor
open Go.RowKit

structure BW (w : World) (a : Option Addr) (n c : Nat) (ws : List Int) : Prop where
  at_ : IsInts w a ws
  len : ws.length = n
  cap : n ≤ c
  max : n ≤ maxLen
theorem BW.below {w w' : World} {a : Option Addr} {n c : Nat} {ws : List Int} (h : BW w a n c ws) (hb : Below w.heap.size w w') : BW w' a n c ws := ⟨h.at_.below hb, h.len, h.cap, h.max⟩
theorem BW.bi {w : World} {a : Option Addr} {n c : Nat} {ws : List Int} (h : BW w a n c ws) : BI w a n ws := ⟨h.at_, h.len, h.max⟩
theorem BW.turns {w w' : World} {B : Nat} {a : Option Addr} {n c : Nat} {ws : List Int} (h : BW w a n c ws) (hg : w.grownBy w' (some B)) (ho : Off B a) : BW w' a n c ws := ⟨ints_turns h.at_ hg ho, h.len, h.cap, h.max⟩

theorem inB_t {n a b : Int} (h0 : a ≤ n) (h1 : n ≤ b) : inB n a b = true := by unfold inB; simp; omega
theorem inB_lo {n a b : Int} (h0 : ¬ a ≤ n) : inB n a b = false := by unfold inB; simp; omega
theorem inB_hi {n a b : Int} (h0 : ¬ n ≤ b) : inB n a b = false := by unfold inB; simp; omega

set_option maxHeartbeats 400000 in
set_option maxRecDepth 100000 in
theorem uWithin_any (n a b : Int) (w : World) : Calls Tryz.prog 54 #[.int .i64 n, .int .i64 a, .int .i64 b] w fun e w' => e = .returned (.bool (inB n a b)) ∧ w' = w := by
  by_cases h0 : a ≤ n
  {
  by_cases h1 : n ≤ b
  {
  have hd : decide (n ≤ b) = true := by simp; omega
  go_enter Tryz.func54, Tryz.ntmps54
  go_wp2
  go_ret
  exact ⟨ret_bool (inB_t h0 h1).symm, rfl⟩
  }
  {
  have hd : decide (n ≤ b) = false := by simp; omega
  go_enter Tryz.func54, Tryz.ntmps54
  go_wp2
  go_ret
  exact ⟨ret_bool (inB_hi (by omega)).symm, rfl⟩
  }
  }
  {
  go_enter Tryz.func54, Tryz.ntmps54
  go_wp2
  go_ret
  exact ⟨ret_bool (inB_lo (by omega)).symm, rfl⟩

  }
theorem unE_1 {u : Un} (h : lchk u.ws u.fu ≠ 0) : unE u = lchk u.ws u.fu := by unfold unE; rw [if_pos h]
theorem unE_2 {u : Un} (h : lchk u.ws u.fu = 0) (h2 : u.ws.length ≠ 192) : unE u = 4 := by unfold unE; rw [if_neg (by simpa using h), if_pos h2]
theorem unE_3 {u : Un} (h : lchk u.ws u.fu = 0) (h2 : u.ws.length = 192) (h3 : (inB u.n 0 8 && inB u.hv 0 40) = false) : unE u = 3 := by unfold unE; rw [if_neg (by simpa using h), if_neg (by simpa using h2), h3]; rfl
theorem unE_0 {u : Un} (h : lchk u.ws u.fu = 0) (h2 : u.ws.length = 192) (h3 : (inB u.n 0 8 && inB u.hv 0 40) = true) : unE u = 0 := by unfold unE; rw [if_neg (by simpa using h), if_neg (by simpa using h2), h3]; rfl
theorem unE_ok {u : Un} (h : unE u = 0) : lchk u.ws u.fu = 0 ∧ u.ws.length = 192 ∧ (0 ≤ u.n ∧ u.n ≤ 8) ∧ 0 ≤ u.hv ∧ u.hv ≤ 40 := by
  unfold unE at h
  split at h
  { rename_i h1; exact absurd h h1 }
  {
  rename_i h1
  split at h
  { cases h }
  {
  rename_i h2
  split at h
  {
  rename_i h3
  rw [Bool.and_eq_true] at h3
  unfold inB at h3
  simp at h3 h1 h2
  exact ⟨h1, h2, h3.1, h3.2⟩
  }
  {
  cases h

  }
  }
  }
set_option maxHeartbeats 800000 in
set_option maxRecDepth 100000 in
theorem unitCheck_any (u : Un) (a : Option Addr) (n c : Nat) (w : World) (h : BW w a n c u.ws) :
    Calls Tryz.prog 17 #[unv u a n c] w fun e w' => e = .returned (.int .i64 (unE u)) ∧ Below w.heap.size w w' := by
  have hw0 : Below w.heap.size w (w.alloc (.cells #[.slice a n c, .int .i64 u.fu, .bool u.up, .int .i64 u.n, .int .i64 u.hv] 29)) := (Below.refl _ _).alloc (Nat.le_refl _) _
  have b0 := hide (heap_alloc_last w (.cells #[.slice a n c, .int .i64 u.fu, .bool u.up, .int .i64 u.n, .int .i64 u.hv] 29))
  have HL := hide (fun W (hW : Below w.heap.size w W) => logCheck_any a n c u.ws u.fu W (h.below hW).at_ h.len h.max)
  have L := hide h.len
  have hm := h.max
  unfold maxLen at hm
  unfold unv
  clear h
  have x0 := blk_cell b0.out 0 _ rfl
  have x1 := blk_cell b0.out 1 _ rfl
  go_enter Tryz.func17, Tryz.ntmps17
  go_wp2_with fail
  generalize w.alloc (.cells #[.slice a n c, .int .i64 u.fu, .bool u.up, .int .i64 u.n, .int .i64 u.hv] 29) = W at *
  refine (unhide HL _ hw0).mono ?_
  rintro e w1 ⟨rfl, hb⟩
  replace b0 := hide (blk_below b0.out hb)
  replace hw0 := hw0.trans (hb.mono hw0.size)
  clear hb x0 x1 HL
  by_cases z1 : lchk u.ws u.fu = 0
  rotate_left
  {
  have HE := hide (unE_1 z1)
  have hq : (lchk u.ws u.fu != 0) = true := by simpa using z1
  clear z1
  generalize lchk u.ws u.fu = q at *
  go_wp2_with fail
  go_ret
  exact ⟨ret_int HE.out.symm, hw0⟩
  }
  have E2 := hide (unE_2 z1)
  have E3 := hide (unE_3 z1)
  have E0 := hide (unE_0 z1)
  rw [z1]
  clear z1
  have x0 := blk_cell b0.out 0 _ rfl
  have x3 := blk_cell b0.out 3 _ rfl
  have x4 := blk_cell b0.out 4 _ rfl
  by_cases z2 : n = 192
  rotate_left
  {
  have HE := hide (E2.out (by rw [L.out]; exact z2))
  have hq : ((n : Int) != 192) = true := by simp; omega
  clear z2
  go_wp2_with fail
  go_ret
  exact ⟨ret_int HE.out.symm, hw0⟩
  }
  have hq : ((n : Int) != 192) = false := by simp; omega
  have hl := L.out.trans z2
  replace E3 := hide (E3.out hl)
  replace E0 := hide (E0.out hl)
  clear z2 hl
  cases g1 : inB u.n 0 8
  {
  have HE := hide (E3.out (by rw [g1]; rfl))
  go_wp2_with (go_at_call 54; refine (uWithin_any _ _ _ _).mono ?_; rintro e w' ⟨rfl, rfl⟩)
  go_ret
  exact ⟨ret_int HE.out.symm, hw0⟩
  }
  {
  cases g2 : inB u.hv 0 40
  {
  have HE := hide (E3.out (by rw [g1, g2]; rfl))
  go_wp2_with (go_at_call 54; refine (uWithin_any _ _ _ _).mono ?_; rintro e w' ⟨rfl, rfl⟩)
  go_ret
  exact ⟨ret_int HE.out.symm, hw0⟩
  }
  {
  have HE := hide (E0.out (by rw [g1, g2]; rfl))
  go_wp2_with (go_at_call 54; refine (uWithin_any _ _ _ _).mono ?_; rintro e w' ⟨rfl, rfl⟩)
  go_ret
  exact ⟨ret_int HE.out.symm, hw0⟩

  }
  }
theorem msE_bad {m : Ms} (h : msB m = false) : msE m = 3 := by unfold msE; rw [h]; rfl
theorem msE_ok {m : Ms} (h : msB m = true) : msE m = 0 := by unfold msE; rw [h]; rfl

set_option maxHeartbeats 1600000 in
set_option maxRecDepth 100000 in
theorem checkMessage_any (m : Ms) (a : Option Addr) (n c : Nat) (w : World) (h : BI w a n m.ws) :
    Calls Tryz.prog 18 #[msv m a n c] w fun e w' => e = .returned (.int .i64 (msE m)) ∧ Below w.heap.size w w' := by
  have hw0 : Below w.heap.size w (w.alloc (.cells #[.int .i64 m.k, .int .i64 m.u, .int .i64 m.n, .int .i64 m.at', .int .i64 m.im, .slice a n c, .bool m.y] 31)) := (Below.refl _ _).alloc (Nat.le_refl _) _
  have HA := hide (allWords_any a n c m.ws _ (h.below hw0).at_ h.len h.max)
  have L := hide h.len
  have hm := h.max
  unfold maxLen at hm
  unfold msv
  clear h
  have hB : Hid (∀ b, msB m = b → b = false → msE m = 3) := fun b h1 h2 => msE_bad (h1.trans h2)
  unfold msB at hB
  cases g1 : inB m.k 1 7
  {
  have HE := hide (hB.out _ rfl (by rw [g1]; rfl))
  go_enter Tryz.func18, Tryz.ntmps18
  go_wp2_with (go_at_call 54; refine (uWithin_any _ _ _ _).mono ?_; rintro e w' ⟨rfl, rfl⟩)
  go_ret
  exact ⟨ret_int HE.out.symm, hw0⟩
  }
  cases g2 : inB m.u 0 3
  {
  have HE := hide (hB.out _ rfl (by rw [g1, g2]; rfl))
  go_enter Tryz.func18, Tryz.ntmps18
  go_wp2_with (go_at_call 54; refine (uWithin_any _ _ _ _).mono ?_; rintro e w' ⟨rfl, rfl⟩)
  go_ret
  exact ⟨ret_int HE.out.symm, hw0⟩
  }
  cases g3 : inB m.n 1 8
  {
  have HE := hide (hB.out _ rfl (by rw [g1, g2, g3]; rfl))
  go_enter Tryz.func18, Tryz.ntmps18
  go_wp2_with (go_at_call 54; refine (uWithin_any _ _ _ _).mono ?_; rintro e w' ⟨rfl, rfl⟩)
  go_ret
  exact ⟨ret_int HE.out.symm, hw0⟩
  }
  cases g4 : inB m.at' 0 40
  {
  have HE := hide (hB.out _ rfl (by rw [g1, g2, g3, g4]; rfl))
  go_enter Tryz.func18, Tryz.ntmps18
  go_wp2_with (go_at_call 54; refine (uWithin_any _ _ _ _).mono ?_; rintro e w' ⟨rfl, rfl⟩)
  go_ret
  exact ⟨ret_int HE.out.symm, hw0⟩
  }
  cases g5 : inB m.im 0 60
  {
  have HE := hide (hB.out _ rfl (by rw [g1, g2, g3, g4, g5]; rfl))
  go_enter Tryz.func18, Tryz.ntmps18
  go_wp2_with (go_at_call 54; refine (uWithin_any _ _ _ _).mono ?_; rintro e w' ⟨rfl, rfl⟩)
  go_ret
  exact ⟨ret_int HE.out.symm, hw0⟩
  }
  by_cases g6 : n ≤ 8
  rotate_left
  {
  have HE := hide (hB.out _ rfl (by rw [g1, g2, g3, g4, g5, L.out]; simp [g6]))
  have d6 : decide ((n : Int) ≤ 8) = false := by simp; omega
  clear g6
  go_enter Tryz.func18, Tryz.ntmps18
  go_wp2_with (go_at_call 54; refine (uWithin_any _ _ _ _).mono ?_; rintro e w' ⟨rfl, rfl⟩)
  go_ret
  exact ⟨ret_int HE.out.symm, hw0⟩
  }
  have d6 : decide ((n : Int) ≤ 8) = true := by simp; omega
  cases g7 : okL m.ws
  {
  have HE := hide (hB.out _ rfl (by rw [g1, g2, g3, g4, g5, g7]; simp))
  rw [g7] at HA
  clear g6
  go_enter Tryz.func18, Tryz.ntmps18
  go_wp2_with (first | (go_at_call 54; refine (uWithin_any _ _ _ _).mono ?_; rintro e w' ⟨rfl, rfl⟩) | (go_at_call 66; refine (unhide HA).mono ?_; rintro e w' ⟨rfl, rfl⟩))
  go_ret
  exact ⟨ret_int HE.out.symm, hw0⟩
  }
  {
  have HE := hide (msE_ok (m := m) (by unfold msB; rw [g1, g2, g3, g4, g5, g7, L.out]; simp [g6]))
  rw [g7] at HA
  clear g6
  go_enter Tryz.func18, Tryz.ntmps18
  go_wp2_with (first | (go_at_call 54; refine (uWithin_any _ _ _ _).mono ?_; rintro e w' ⟨rfl, rfl⟩) | (go_at_call 66; refine (unhide HA).mono ?_; rintro e w' ⟨rfl, rfl⟩))
  go_ret
  exact ⟨ret_int HE.out.symm, hw0⟩

  }
set_option maxHeartbeats 400000 in
set_option maxRecDepth 100000 in
theorem unitIs_any (a : Option Addr) (n c : Nat) (r : List Int) (k : Int) (l : Nat) (w : World) (h : IsInts w a r) (hn : r.length = n) (hm : n ≤ maxLen) (h0 : 0 < l) (hl : l ≤ 10) :
    Calls Tryz.prog 119 #[.slice a n c, .int .i64 k, .int .i64 l] w fun e w' => e = .returned (.bool (isR r k l)) ∧ w' = w := by
  unfold maxLen at hm
  by_cases h1 : n = l
  rotate_left
  {
  have HE := hide (show isR r k l = false by unfold isR; rw [hn]; simp [h1])
  have d1 : ((n : Int) == (l : Int)) = false := by simp; omega
  clear hn h1
  go_enter Tryz.func119, Tryz.ntmps119
  go_wp2
  go_ret
  exact ⟨ret_bool HE.out.symm, rfl⟩
  }
  {
  have d1 : ((n : Int) == (l : Int)) = true := by simp; omega
  rcases h with e | ⟨b, off, rfl, hc⟩
  { rw [e] at hn; simp at hn; omega }
  have e0 := hc 0 (by omega)
  rw [Nat.add_zero] at e0
  have hlt : (0 : Int) < (n : Int) := by omega
  by_cases h2 : r.getD 0 0 = k
  {
  have HE := hide (show isR r k l = true by unfold isR; rw [hn]; simp only [h1, h2]; simp)
  have d2 : (r.getD 0 0 == k) = true := by simpa using h2
  clear hn h1 hc h2
  generalize r.getD 0 0 = r0 at *
  go_enter Tryz.func119, Tryz.ntmps119
  go_wp2
  go_ret
  exact ⟨ret_bool HE.out.symm, rfl⟩
  }
  {
  have HE := hide (show isR r k l = false by unfold isR; simp only [decide_eq_false h2, Bool.and_false])
  have d2 : (r.getD 0 0 == k) = false := by simpa using h2
  clear hn h1 hc h2
  generalize r.getD 0 0 = r0 at *
  go_enter Tryz.func119, Tryz.ntmps119
  go_wp2
  go_ret
  exact ⟨ret_bool HE.out.symm, rfl⟩

  }
  }
set_option maxHeartbeats 400000 in
set_option maxRecDepth 100000 in
theorem other_any (s : Us) (w : World) (h0 : 0 ≤ s.slot) (h1 : s.slot ≤ 1) : Calls Tryz.prog 155 #[.agg #[.int .i64 s.slot, .int .i64 s.by', .int .i64 s.rdy]] w fun e w' => e = .returned (.int .i64 (oth s)) ∧ Below w.heap.size w w' := by
  have hw0 : Below w.heap.size w (w.alloc (.cells #[.int .i64 s.slot, .int .i64 s.by', .int .i64 s.rdy] 40)) := (Below.refl _ _).alloc (Nat.le_refl _) _
  go_enter Tryz.func155, Tryz.ntmps155
  go_wp2
  go_ret
  exact ⟨rfl, hw0⟩

def OneM (w : World) (m : Ms) (e : Ending) (w' : World) : Prop := (∃ b, e = .returned (.slice (some ⟨b, 0, none⟩) 1 1) ∧ IsMsgs w' (some ⟨b, 0, none⟩) [m] ∧ w.heap.size ≤ b) ∧ Below w.heap.size w w'

set_option maxHeartbeats 400000 in
set_option maxRecDepth 100000 in
theorem done_any (m : Ms) (a : Option Addr) (n c : Nat) (w : World) : Calls Tryz.prog 157 #[msv m a n c] w (OneM w (doneM m)) := by
  have hw0 : Below w.heap.size w (w.alloc (.cells #[.int .i64 m.k, .int .i64 m.u, .int .i64 m.n, .int .i64 m.at', .int .i64 m.im, .slice a n c, .bool m.y] 31)) := (Below.refl _ _).alloc (Nat.le_refl _) _
  unfold msv
  go_enter Tryz.func157, Tryz.ntmps157
  go_wp2
  go_ret
  exact ⟨⟨_, rfl, isMsgs_one (m := doneM m) rfl (uLast1 _ _ _), by simp⟩, hw0.alloc hw0.size _⟩

end Go.Proofs.YtgngpmgjoifepaaGreatDoor
