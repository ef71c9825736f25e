/- Lists of changes that erase, and that program. What a list of changes that programs words does. Plain facts: lists of changes one behind the other, of which there is power for so many. Plain facts: what is done in turn is a list of changes, of which there is power for so many. Plain facts for LogHolds and LogGoes: the flash behind an Append is a log, its records, and that it can be done again. The contracts of unit.within, Check, CheckMessage, is, stateOf, other, done. Gateways in memory: 'IsBools', 'BV', 'gtv', 'GIn'; a gateway's state ('gsv'). The contracts of trust.within, slices.Index and Contains at ints and at signatures, trust.CheckSigned, CheckTrust. -/
import Derived.Test.YtgngpmgjoifepaaGreatDoorPr12
import Derived.Test.YtgngpmgjoifepaaGreatDoorPr7
import Derived.Test.YtgngpmgjoifepaaGreatDoorPr11
import Derived.Test.YtgngpmgjoifepaaGreatDoorPr10
import Derived.Laws.StructEq
namespace Go.Proofs.YtgngpmgjoifepaaGreatDoor
open Go.RowKit
attribute [local go_sem ↓] Go.wp_at_zero Go.wp_at_succ

theorem applyL_era (ws : List Int) (s k : Nat) : applyL (eraL s k) ws = chg (fun _ _ => 65535) (s * 32) k ws := by
  induction k with
  | zero => rfl
  | succ k ih =>
    rw [eraL_succ]
    have : applyL (eraL s k ++ [(32 * s + k, none)]) ws = (applyL (eraL s k) ws).set (32 * s + k) 65535 := by simp [applyL, apW]
    rw [this, ih, Nat.mul_comm 32 s]
    rfl

theorem eraL_take (s n k : Nat) (h : k ≤ n) : (eraL s n).take k = eraL s k := by
  unfold eraL
  rw [← List.map_take, List.take_range, Nat.min_eq_left h]

theorem chgS_era {ws : List Int} {fuel : Int} {s : Nat} (h : chk ws fuel = 0) (hs : (s : Int) < (ws.length : Int) / 32) : chgS ws fuel (eraL s 32) = eraS ws fuel s := by
  unfold chgS eraS
  rw [if_neg (by simpa using h), if_neg (by omega), eraL_length, eraL_take _ _ _ (cnt_le _ _), applyL_era, Int.toNat_natCast]

theorem erases_from (s : Nat) (w : World) (hs : s ≤ 6) : Calls Tryz.prog 134 #[.int .i64 s] w fun e w' => ∃ al cl, e = .returned (.slice al 32 cl) ∧ 32 ≤ cl ∧ IsChgs w' al (eraL s 32) ∧ Below w.heap.size w w' := by
  refine (erases_any s w hs).mono ?_
  rintro e w' ⟨v, rfl, hm⟩
  obtain ⟨al, cl, hv, hc, hl⟩ := hm.isChgs
  rw [eraL_length] at hv hc
  exact ⟨al, cl, by rw [hv], hc, hl, hm.below⟩

end Go.Proofs.YtgngpmgjoifepaaGreatDoor

namespace Go.Proofs.YtgngpmgjoifepaaGreatDoor
open Go.RowKit
attribute [local go_sem ↓] Go.wp_at_zero Go.wp_at_succ

theorem ProL.lt {p n : Nat} {words : List Int} {cs : List (Nat × Option (Nat × Int))} (h : ProL p words n cs) (c : Nat × Option (Nat × Int)) (hc : c ∈ cs) : c.1 < p + n := by
  obtain ⟨i, hi, he⟩ := List.getElem_of_mem hc
  have hi' : i < n := by rw [h.1] at hi; exact hi
  obtain ⟨b, hb⟩ := h.2 i hi'
  rw [List.getElem?_eq_getElem hi, he] at hb
  have := Option.some.inj hb
  rw [this]
  simp only
  omega

theorem applyL_pro {ws words : List Int} {p n : Nat} {cs : List (Nat × Option (Nat × Int))} (h : ProL p words n cs) (hf : p + n ≤ ws.length) (k : Nat) (hk : k ≤ n) : applyL (cs.take k) ws = chg (andW words) p k ws := by
  induction k with
  | zero => rfl
  | succ k ih =>
    obtain ⟨b, hb⟩ := h.2 k (by omega)
    rw [applyL_succ cs ws k _ hb, ih (by omega)]
    simp only [apW]
    rw [chg_here (andW words) p k ws (by omega)]
    rfl

theorem chgS_pro {ws words : List Int} {fuel : Int} {p : Nat} {cs : List (Nat × Option (Nat × Int))} (h : chk ws fuel = 0) (hp : ProL p words words.length cs) (hf : p + words.length ≤ ws.length) (hok : okL words = true) : chgS ws fuel cs = progS ws fuel p words := by
  rw [prog_ok h hf hok]
  unfold chgS
  rw [hp.1, applyL_pro hp hf _ (cnt_le _ _)]

end Go.Proofs.YtgngpmgjoifepaaGreatDoor

namespace Go.Proofs.YtgngpmgjoifepaaGreatDoor
open Go.RowKit

theorem applyL_append (A B : List (Nat × Option (Nat × Int))) (ws : List Int) : applyL (A ++ B) ws = applyL B (applyL A ws) := by
  unfold applyL; rw [List.foldl_append]

theorem cnt_add_stop {f : Int} {n m : Nat} (h : cnt f n < n) : cnt f (n + m) = cnt f n := by
  by_cases hf : f < 0
  · rw [cnt_neg _ hf] at h; omega
  · rw [cnt_nn _ hf] at *; rw [cnt_nn _ hf]; omega
theorem cnt_add_go {f : Int} {n m : Nat} (h : cnt f n = n) : cnt f (n + m) = n + cnt (burn f n) m := by
  by_cases hf : f < 0
  · rw [cnt_neg _ hf, burn_negf _ hf, cnt_neg _ hf]
  · have h' := h
    rw [cnt_nn _ hf] at h'
    rw [cnt_nn _ hf, burn_nn _ hf, cnt_nn _ (by omega)]
    omega
theorem burn_add {f : Int} {n k : Nat} (h : cnt f n = n) : burn f (n + k) = burn (burn f n) k := by
  by_cases hf : f < 0
  · rw [burn_negf _ hf, burn_negf _ hf, burn_negf _ hf]
  · have h' := h
    rw [cnt_nn _ hf] at h'
    rw [burn_nn _ hf, burn_nn _ hf, burn_nn _ (by omega)]
    omega

theorem chgS_stop {ws : List Int} {f : Int} {A B : List (Nat × Option (Nat × Int))} (h : cnt f A.length < A.length) : chgS ws f (A ++ B) = chgS ws f A := by
  unfold chgS
  rw [List.length_append, cnt_add_stop h, perr_no h, perr_no (by rw [cnt_add_stop h]; omega), List.take_append_of_le_length (by omega)]

theorem chgS_go {ws : List Int} {f : Int} {A B : List (Nat × Option (Nat × Int))} (h : cnt f A.length = A.length) : chgS ws f (A ++ B) = chgS (applyL A ws) (burn f A.length) B := by
  unfold chgS
  rw [List.length_append, cnt_add_go h, burn_add h, List.take_length_add_append, applyL_append]
  congr 2
  unfold perr
  rw [cnt_add_go h]
  by_cases c : cnt (burn f A.length) B.length = B.length
  · rw [if_pos c, if_pos (by omega)]
  · rw [if_neg c, if_neg (by omega)]

end Go.Proofs.YtgngpmgjoifepaaGreatDoor

namespace Go.Proofs.YtgngpmgjoifepaaGreatDoor
open Go.RowKit

def proC (p : Nat) (words : List Int) : List (Nat × Option (Nat × Int)) := (List.range words.length).map (fun i => (p + i, some (0, words.getD i 0)))
theorem proC_length (p : Nat) (words : List Int) : (proC p words).length = words.length := by simp [proC]
theorem proC_pro (p : Nat) (words : List Int) : ProL p words words.length (proC p words) := by
  refine ⟨proC_length _ _, fun i hi => ⟨0, ?_⟩⟩
  simp [proC, hi]

/-- The changes of a step. -/
def stC : Stp → List (Nat × Option (Nat × Int))
  | .inl s => eraL s 32
  | .inr (p, words) => proC p words
def StOk (L : Nat) : Stp → Prop
  | .inl s => s * 32 + 32 ≤ L
  | .inr (p, words) => p + words.length ≤ L ∧ okL words = true

theorem doS_chg {st : Stp} {ws : List Int} {f : Int} (h : chk ws f = 0) (ho : StOk ws.length st) : doS st ws f = chgS ws f (stC st) := by
  have hp := chk_parts h
  cases st with
  | inl s => exact (chgS_era h (by simp only [StOk] at ho; omega)).symm
  | inr q => obtain ⟨p, words⟩ := q; exact (chgS_pro h (proC_pro p words) ho.1 ho.2).symm

theorem applyL_ok {ws : List Int} {cs : List (Nat × Option (Nat × Int))} (h : okL ws = true) (hc : ∀ c ∈ cs, ∀ b x, c.2 = some (b, x) → okW x = true) : okL (applyL cs ws) = true := by
  induction cs generalizing ws with
  | nil => exact h
  | cons c cs ih =>
    show okL (applyL cs (ws.set c.1 (apW c.2 (ws.getD c.1 0)))) = true
    refine ih ?_ (fun d hd => hc d (List.mem_cons_of_mem _ hd))
    by_cases hlt : c.1 < ws.length
    · apply okL_of
      intro i hi
      simp at hi
      by_cases e : c.1 = i
      · subst e
        have : (ws.set c.1 (apW c.2 (ws.getD c.1 0))).getD c.1 0 = apW c.2 (ws.getD c.1 0) := by simp [hlt]
        rw [this]
        cases h2 : c.2 with
        | none => rfl
        | some p => obtain ⟨b, x⟩ := p; exact and_ok (okL_get h _ hlt) (hc c List.mem_cons_self b x h2)
      · have : (ws.set c.1 (apW c.2 (ws.getD c.1 0))).getD i 0 = ws.getD i 0 := by simp [e]
        rw [this]
        exact okL_get h i hi
    · rw [List.set_eq_of_length_le (by omega)]
      exact h

theorem stC_ok {L : Nat} {st : Stp} (h : StOk L st) : ∀ c ∈ stC st, ∀ b x, c.2 = some (b, x) → okW x = true := by
  intro c hc b x hx
  cases st with
  | inl s => simp [stC, eraL] at hc; obtain ⟨i, _, rfl⟩ := hc; cases hx
  | inr q =>
    obtain ⟨p, words⟩ := q
    simp only [stC, proC, List.mem_map, List.mem_range] at hc
    obtain ⟨i, hi, rfl⟩ := hc
    simp only [Option.some.injEq, Prod.mk.injEq] at hx
    rw [← hx.2]
    exact okL_get h.2 i hi

theorem chk_of {ws : List Int} {f f' : Int} {us : List Int} (h : chk ws f = 0) (hl : us.length = ws.length) (hok : okL us = true) (h0 : -1 ≤ f') (h1 : f' ≤ 100000) : chk us f' = 0 := by
  have q := chk_parts h
  apply chk_ok
  · rw [hl]; exact decide_eq_true q.1
  · unfold rangeB; rw [hok]; simp; omega

theorem turn_chg (sts : List Stp) (ws : List Int) (f : Int) (h : chk ws f = 0) (ho : ∀ st ∈ sts, StOk ws.length st) : turnS sts ws f = chgS ws f (sts.flatMap stC) := by
  induction sts generalizing ws f with
  | nil =>
    have : cnt f 0 = 0 := Nat.le_zero.1 (cnt_le _ _)
    show (ws, f, (0 : Int)) = chgS ws f []
    unfold chgS
    rw [List.length_nil, this, perr_ok this]
    have : burn f 0 = f := by unfold burn; split <;> simp
    rw [this]
    rfl
  | cons st sts ih =>
    have hd := doS_chg h (ho st List.mem_cons_self)
    have q := chk_parts h
    rw [List.flatMap_cons]
    by_cases c : cnt f (stC st).length = (stC st).length
    · have e2 : (doS st ws f).2.2 = 0 := by rw [hd]; exact perr_ok c
      rw [turnS_go e2, hd, chgS_go c]
      have e1 : (chgS ws f (stC st)).1 = applyL (stC st) ws := by unfold chgS; rw [c, List.take_length]
      have e3 : (chgS ws f (stC st)).2.1 = burn f (stC st).length := by unfold chgS; rw [c]
      rw [e1, e3]
      have bb := burn_bounds q.2.1 q.2.2.1 (Nat.le_of_eq c.symm)
      refine ih _ _ ?_ ?_
      · exact chk_of h (applyL_length _ _) (applyL_ok q.2.2.2 (stC_ok (ho st List.mem_cons_self))) bb.1 bb.2
      · rw [applyL_length]; exact fun d hd => ho d (List.mem_cons_of_mem _ hd)
    · have lt : cnt f (stC st).length < (stC st).length := by have := cnt_le f (stC st).length; omega
      have e2 : (doS st ws f).2.2 ≠ 0 := by
        rw [hd]
        show perr f (stC st).length ≠ 0
        rw [perr_no lt]; decide
      rw [turnS_stop e2, hd, chgS_stop lt]

/-! ### Append as changes -/
theorem addL_ok {xs r : List Int} (h : okL xs = true) (hr : recE r = 0) : okL (addL xs r) = true := by
  have q := recE_ok hr
  unfold addL okL at *
  rw [List.all_append, List.all_cons, h, q.2.2]
  have : okW (headS r.length) = true := by unfold okW headS; simp; omega
  rw [this]
  rfl

theorem addE_rec {xs r : List Int} (h : addE xs r = 0) : recE r = 0 := by
  unfold addE at h
  split at h
  · rename_i h1; exact absurd h h1
  · rename_i h1; simpa using h1

theorem laidS_ok (rs : List (List Int)) (xs : List Int) (h : okL xs = true) : okL (laidS rs xs).1 = true := by
  induction rs generalizing xs with
  | nil => exact h
  | cons r rs ih =>
    by_cases e : addE xs r = 0
    · rw [laidS_cons_ok e]; exact ih _ (addL_ok h (addE_rec e))
    · rw [laidS_cons_no e]; rfl

/-- Where Append has no error of its own. -/
theorem appErr_ok {ws : List Int} {f : Int} {r : List Int} {keep : List (List Int)} (h : appErr ws f r keep = 0) : lchk ws f = 0 ∧ recE r = 0 ∧ (laidA r keep).2 = 0 ∧ (fitsA ws r = true ∨ genN ws ≠ 60000) := by
  unfold appErr at h
  split at h
  · rename_i h1; exact absurd h h1
  · rename_i h1
    split at h
    · rename_i h2; exact absurd h h2
    · rename_i h2
      split at h
      · rename_i h3; exact absurd h h3
      · rename_i h3
        split at h
        · simp at h
        · rename_i h4
          refine ⟨by simpa using h1, by simpa using h2, by simpa using h3, ?_⟩
          cases hf : fitsA ws r
          · right; intro hg; exact h4 ⟨hf, hg⟩
          · left; rfl

theorem appErr_mk {ws : List Int} {f : Int} {r : List Int} {keep : List (List Int)} (h1 : lchk ws f = 0) (h2 : recE r = 0) (h3 : (laidA r keep).2 = 0) (h4 : fitsA ws r = true ∨ genN ws ≠ 60000) : appErr ws f r keep = 0 := by
  unfold appErr
  rw [if_neg (by simpa using h1), if_neg (by simpa using h2), if_neg (by simpa using h3), if_neg]
  rintro ⟨h5, h6⟩
  rcases h4 with h4 | h4
  · rw [h5] at h4; cases h4
  · exact h4 h6

/-- The changes of an Append. -/
def appC (ws r : List Int) (keep : List (List Int)) : List (Nat × Option (Nat × Int)) := (appSteps ws r keep).flatMap stC

theorem headS_ok {n : Nat} (h : n ≤ 4) : okW (headS n) = true := by unfold okW headS; simp; omega

theorem fitsA_parts {ws r : List Int} (h : fitsA ws r = true) : cleanS (restS ws) = true ∧ r.length < (restS ws).length := by
  unfold fitsA at h
  simpa using h

theorem appSteps_ok {ws : List Int} {f : Int} {r : List Int} {keep : List (List Int)} (h : appErr ws f r keep = 0) : ∀ st ∈ appSteps ws r keep, StOk ws.length st := by
  have q := appErr_ok h
  have l := lchk_parts q.1
  have rr := recE_ok q.2.1
  have hf := restS_few l.2.1
  have hs := secN_01 ws
  intro st hst
  unfold appSteps at hst
  split at hst
  · rename_i hfit
    have hp := fitsA_parts hfit
    simp only [List.mem_cons, List.not_mem_nil, or_false] at hst
    rcases hst with rfl | rfl
    · exact ⟨by unfold headP; rcases hs with e | e <;> rw [e] <;> omega, rr.2.2⟩
    · exact ⟨by unfold headP; simp only [List.length_cons, List.length_nil]; rcases hs with e | e <;> rw [e] <;> omega, by unfold okL; rw [List.all_cons, headS_ok rr.2.1]; rfl⟩
  · rename_i hfit
    simp only [List.mem_cons, List.not_mem_nil, or_false] at hst
    have hl : (laidA r keep).1.length ≤ 31 := laidS_few _ _ (by simp)
    have hg := q.2.2.2.resolve_left hfit
    have hgn := genN_nonneg l.2.2.2.1 l.2.1
    rcases hst with rfl | rfl | rfl
    · show (1 - secN ws) * 32 + 32 ≤ _
      omega
    · exact ⟨by omega, laidS_ok _ _ rfl⟩
    · refine ⟨by simp only [List.length_cons, List.length_nil]; omega, ?_⟩
      unfold okL
      rw [List.all_cons]
      have : okW (genN ws + 1) = true := by unfold okW; simp; omega
      rw [this]; rfl

theorem app_chg {ws : List Int} {f : Int} {r : List Int} {keep : List (List Int)} (h : appErr ws f r keep = 0) : appS ws f r keep = chgS ws f (appC ws r keep) := by
  unfold appS
  rw [if_neg (by simpa using h)]
  exact turn_chg _ _ _ (lchk_parts (appErr_ok h).1).1 (appSteps_ok h)

end Go.Proofs.YtgngpmgjoifepaaGreatDoor

namespace Go.Proofs.YtgngpmgjoifepaaGreatDoor
open Go.RowKit

theorem logR_few {ws : List Int} (h : 64 ≤ ws.length) : (logR ws).length ≤ 31 := by
  have := parseS_few (secL ws (secN ws))
  rw [secL_length (by have := secN_01 ws; omega)] at this
  exact this

end Go.Proofs.YtgngpmgjoifepaaGreatDoor

namespace Go.Proofs.YtgngpmgjoifepaaGreatDoor
open Go.RowKit

/-- The slice at a holds the words ws, with room. -/
structure BW (w : World) (a : Option Addr) (n c : Nat) (ws : List Int) : Prop where
  at_ : IsInts w a ws
  len : ws.length = n
  cap : n ≤ c
  max : n ≤ maxLen
theorem BW.below {w w' : World} {a : Option Addr} {n c : Nat} {ws : List Int} (h : BW w a n c ws) (hb : Below w.heap.size w w') : BW w' a n c ws := ⟨h.at_.below hb, h.len, h.cap, h.max⟩
theorem BW.bi {w : World} {a : Option Addr} {n c : Nat} {ws : List Int} (h : BW w a n c ws) : BI w a n ws := ⟨h.at_, h.len, h.max⟩
theorem BW.turns {w w' : World} {B : Nat} {a : Option Addr} {n c : Nat} {ws : List Int} (h : BW w a n c ws) (hg : w.grownBy w' (some B)) (ho : Off B a) : BW w' a n c ws := ⟨ints_turns h.at_ hg ho, h.len, h.cap, h.max⟩

theorem inB_t {n a b : Int} (h0 : a ≤ n) (h1 : n ≤ b) : inB n a b = true := by unfold inB; simp; omega
theorem inB_lo {n a b : Int} (h0 : ¬ a ≤ n) : inB n a b = false := by unfold inB; simp; omega
theorem inB_hi {n a b : Int} (h0 : ¬ n ≤ b) : inB n a b = false := by unfold inB; simp; omega

end Go.Proofs.YtgngpmgjoifepaaGreatDoor

namespace Go.Proofs.YtgngpmgjoifepaaGreatDoor
open Go.RowKit

/-- The slice at 'a' of length 'bs.length' holds the truths 'bs'. -/
def IsBools (w : World) (a : Option Addr) (bs : List Bool) : Prop :=
  bs = [] ∨ ∃ b off, a = some ⟨b, off, none⟩ ∧ ∀ i, i < bs.length → w.cell? ⟨b, off + i, none⟩ = some (.bool (bs.getD i false))
theorem IsBools.below {w w' : World} {a : Option Addr} {bs : List Bool} (h : IsBools w a bs) (hb : Below w.heap.size w w') : IsBools w' a bs := by
  rcases h with h | ⟨b, off, rfl, hc⟩
  · exact .inl h
  · exact .inr ⟨b, off, rfl, fun i hi => by rw [hb.cell (cell_lt (hc i hi))]; exact hc i hi⟩
/-- .. with its length. -/
structure BV (w : World) (a : Option Addr) (n c : Nat) (bs : List Bool) : Prop where
  at_ : IsBools w a bs
  len : bs.length = n
  cap : n ≤ c
  max : n ≤ maxLen
theorem BV.below {w w' : World} {a : Option Addr} {n c : Nat} {bs : List Bool} (h : BV w a n c bs) (hb : Below w.heap.size w w') : BV w' a n c bs := ⟨h.at_.below hb, h.len, h.cap, h.max⟩

/-- Where a gateway's lists lie: its words, keys, who voted, who did. -/
structure GA where
  a : Option Addr
  n : Nat
  c : Nat
  ak : Option Addr
  nk : Nat
  ck : Nat
  av : Option Addr
  nv : Nat
  cv : Nat
  ad : Option Addr
  nd : Nat
  cd : Nat
def gtC (g : Gt) (m : GA) : Array Value := #[.slice m.a m.n m.c, .int .i64 g.fu, .bool g.up, .int .i64 g.t.r.v, .slice m.ak m.nk m.ck, .int .i64 g.t.r.t, .int .i64 g.t.ver, .slice m.av m.nv m.cv, .slice m.ad m.nd m.cd]
def gtv (g : Gt) (m : GA) : Value := .agg #[.slice m.a m.n m.c, .int .i64 g.fu, .bool g.up, .int .i64 g.t.r.v, .slice m.ak m.nk m.ck, .int .i64 g.t.r.t, .int .i64 g.t.ver, .slice m.av m.nv m.cv, .slice m.ad m.nd m.cd]
def gtO (g : Gt) (m : GA) : Obj := .cells #[.slice m.a m.n m.c, .int .i64 g.fu, .bool g.up, .int .i64 g.t.r.v, .slice m.ak m.nk m.ck, .int .i64 g.t.r.t, .int .i64 g.t.ver, .slice m.av m.nv m.cv, .slice m.ad m.nd m.cd] 68 (0, 0)
theorem BI.turns {w w' : World} {B : Nat} {a : Option Addr} {n : Nat} {xs : List Int} (h : BI w a n xs) (hg : w.grownBy w' (some B)) (ho : Off B a) : BI w' a n xs := ⟨ints_turns h.at_ hg ho, h.len, h.max⟩
/-- What is known of a gateway that comes in. -/
structure GIn (w : World) (m : GA) (g : Gt) : Prop where
  ws : BW w m.a m.n m.c g.ws
  ks : BI w m.ak m.nk g.t.r.ks
  vo : BV w m.av m.nv m.cv g.vo
  di : BV w m.ad m.nd m.cd g.di
theorem GIn.below {w w' : World} {m : GA} {g : Gt} (h : GIn w m g) (hb : Below w.heap.size w w') : GIn w' m g := ⟨h.ws.below hb, h.ks.below hb, h.vo.below hb, h.di.below hb⟩

def gsv (s : Gs) : Value := .agg #[.int .i64 s.n, .int .i64 s.v, .bool s.co, .bool s.ab, .bool s.en]
def gsO (s : Gs) : Obj := .cells #[.int .i64 s.n, .int .i64 s.v, .bool s.co, .bool s.ab, .bool s.en] 82 (0, 0)

theorem gtE_1 {g : Gt} (h : lchk g.ws g.fu ≠ 0) : gtE g = lchk g.ws g.fu := by unfold gtE; rw [if_pos h]
theorem gtE_2 {g : Gt} (h : lchk g.ws g.fu = 0) (h2 : gtB g = false) : gtE g = 4 := by unfold gtE; rw [if_neg (by simpa using h), if_neg (by rw [h2]; decide)]
theorem gtE_3 {g : Gt} (h : lchk g.ws g.fu = 0) (h2 : gtB g = true) : gtE g = trE g.t := by unfold gtE; rw [if_neg (by simpa using h), if_pos h2]
theorem gtE_ok {g : Gt} (h : gtE g = 0) : lchk g.ws g.fu = 0 ∧ (1 ≤ g.vo.length ∧ g.vo.length ≤ 4) ∧ g.di.length = g.vo.length ∧ trE g.t = 0 := by
  rcases Decidable.em (lchk g.ws g.fu = 0) with h1 | h1
  · cases h2 : gtB g
    · rw [gtE_2 h1 h2] at h; cases h
    · rw [gtE_3 h1 h2] at h
      unfold gtB inB at h2
      simp at h2
      exact ⟨h1, ⟨by omega, by omega⟩, h2.2, h⟩
  · rw [gtE_1 h1] at h; exact absurd h h1

end Go.Proofs.YtgngpmgjoifepaaGreatDoor

namespace Go.Proofs.YtgngpmgjoifepaaGreatDoor
open Go.RowKit

set_option maxHeartbeats 400000 in
set_option maxRecDepth 100000 in
theorem tWithin_any (n a b : Int) (w : World) : Calls Tryz.prog 145 #[.int .i64 n, .int .i64 a, .int .i64 b] w fun e w' => e = .returned (.bool (inR n a b)) ∧ w' = w := by
  by_cases h0 : a ≤ n
  · by_cases h1 : n ≤ b
    · have hd : decide (n ≤ b) = true := by simp; omega
      go_enter Tryz.func145, Tryz.ntmps145
      go_wp2
      go_ret
      exact ⟨ret_bool (inR_t h0 h1).symm, rfl⟩
    · have hd : decide (n ≤ b) = false := by simp; omega
      go_enter Tryz.func145, Tryz.ntmps145
      go_wp2
      go_ret
      exact ⟨ret_bool (inR_hi (by omega)).symm, rfl⟩
  · go_enter Tryz.func145, Tryz.ntmps145
    go_wp2
    go_ret
    exact ⟨ret_bool (inR_lo (by omega)).symm, rfl⟩

/-! ### Is it among them? -/

theorem has_hit {α : Type} [DecidableEq α] {xs : List α} {x : α} {k : Nat} (hk : k < xs.length) (h : x = xs[k]) : has xs x = true := by
  unfold has
  rw [h]
  simp
theorem has_not {α : Type} [DecidableEq α] {xs : List α} {x : α} (h : x ∉ xs) : has xs x = false := by
  unfold has
  simp [h]
theorem not_step {α : Type} {xs : List α} {x : α} {k : Nat} (hk : k < xs.length) (h : x ∉ xs.take k) (hne : ¬ x = xs[k]) : x ∉ xs.take (k + 1) := by
  rw [List.take_succ_eq_append_getElem hk]
  simp only [List.mem_append, List.mem_singleton, not_or]
  exact ⟨h, hne⟩

set_option maxHeartbeats 400000 in
set_option maxRecDepth 100000 in
theorem index_ints (a : Option Addr) (n c : Nat) (xs : List Int) (x : Int) (w : World) (h : BI w a n xs) :
    Calls Tryz.prog 229 #[.slice a n c, .int .i64 x] w fun e w' => (∃ q : Int, e = .returned (.int .i64 q) ∧ decide (0 ≤ q) = has xs x) ∧ w' = w := by
  obtain ⟨h, hn, hm⟩ := h
  unfold maxLen at hm
  have HN : Hid (xs.length = n) := hn
  go_enter Tryz.func229, Tryz.ntmps229
  go_wp2
  go_loop [8] (fun i => ∃ k : Nat, k ≤ n ∧ i = .int .i64 k ∧ Hid (x ∉ xs.take k)) (fun i => n - (intOf i).toNat)
  case atStart => exact ⟨0, Nat.zero_le _, rfl, by show _ ∉ _; simp⟩
  case round =>
    obtain ⟨k, hk, rfl, ht⟩ := hrel
    by_cases hlt : k < n
    · rcases h with rfl | ⟨b0, o0, rfl, hc0⟩
      · simp at hn; omega
      have hkx : k < xs.length := by omega
      have e0 := hc0 k hkx
      rw [show xs.getD k 0 = xs[k] by simp [hkx]] at e0
      clear hn hc0
      by_cases he : x = xs[k]
      · have hb : (x == xs[k]) = true := by simpa using he
        have HE := hide (has_hit hkx he)
        clear he
        generalize xs[k] = y at *
        go_wp2
        go_ret
        exact ⟨⟨_, rfl, by rw [HE.out]; simp⟩, rfl⟩
      · have hb : (x == xs[k]) = false := by simpa using he
        have HE := hide (not_step hkx ht.out he)
        clear he
        generalize xs[k] = y at *
        go_wp2
        go_round
        case rel => exact ⟨k + 1, by omega, by go_num, HE.out⟩
        case measure => simp [intOf]; omega
    · go_wp2
      go_ret
      have hx := ht.out
      rw [List.take_of_length_le (by omega)] at hx
      exact ⟨⟨-1, rfl, by rw [has_not hx]; rfl⟩, rfl⟩

set_option maxHeartbeats 400000 in
set_option maxRecDepth 100000 in
theorem contains_ints (a : Option Addr) (n c : Nat) (xs : List Int) (x : Int) (w : World) (h : BI w a n xs) :
    Calls Tryz.prog 221 #[.slice a n c, .int .i64 x] w fun e w' => e = .returned (.bool (has xs x)) ∧ w' = w := by
  have hc := hide (index_ints a n c xs x w h)
  clear h
  generalize has xs x = r at *
  go_enter Tryz.func221, Tryz.ntmps221
  go_wp2_with fail
  refine (unhide hc).mono ?_
  rintro e w' ⟨⟨q, rfl, hq⟩, rfl⟩
  go_wp2
  go_ret
  exact ⟨rfl, rfl⟩

set_option maxRecDepth 100000 in
theorem sig_guard : Tryz.prog.eqGuardType Tryz.prog.depth 188 = false := by kernel_rfl

set_option maxHeartbeats 800000 in
set_option maxRecDepth 100000 in
theorem index_sigs (a : Option Addr) (n c : Nat) (l : List S2) (s : S2) (w : World) (h : BG w a n l) :
    Calls Tryz.prog 230 #[.slice a n c, sv s] w fun e w' => (∃ q : Int, e = .returned (.int .i64 q) ∧ decide (0 ≤ q) = has l s) ∧ Below w.heap.size w w' := by
  obtain ⟨h, hn, hm⟩ := h
  unfold maxLen at hm
  have HN := hide hn
  have hg := sig_guard
  have hw0 : Below w.heap.size w (w.alloc (.cells #[.int .i64 s.1, .int .i64 s.2] 188)) := (Below.refl _ _).alloc (Nat.le_refl _) _
  have b0 := heap_alloc_last w (.cells #[.int .i64 s.1, .int .i64 s.2] 188)
  have y0 := blk_cell b0 0 _ rfl
  have y1 := blk_cell b0 1 _ rfl
  have i0 := h.below hw0
  unfold sv
  clear hn b0 h
  go_enter Tryz.func230, Tryz.ntmps230
  go_wp2
  generalize w.alloc (.cells #[.int .i64 s.1, .int .i64 s.2] 188) = W at *
  go_loopw [8] (fun i wr => ∃ k : Nat, k ≤ n ∧ i = .int .i64 k ∧ Hid (s ∉ l.take k) ∧ ∃ m, wr = W.drewN m) (fun i _ => n - (intOf i).toNat)
  case atStart => exact ⟨0, Nat.zero_le _, rfl, by show _ ∉ _; simp, 0, rfl⟩
  case round =>
    obtain ⟨k, hk, rfl, ht, m, rfl⟩ := hrel
    by_cases hlt : k < n
    · rcases i0 with rfl | ⟨bb, oo, rfl, hc0⟩
      · have := HN.out
        simp at this
        omega
      have hkx : k < l.length := by rw [HN.out]; exact hlt
      obtain ⟨p0, p1⟩ := hc0 k l[k] (List.getElem?_eq_getElem hkx)
      clear hc0
      by_cases he : s = l[k]
      · have HE := hide (has_hit hkx he)
        rw [← he] at p0 p1
        clear he
        go_wp2
        go_quiet (fail)
        go_wp2
        go_ret
        exact ⟨⟨_, rfl, by rw [HE.out]; simp⟩, below_drewN (below_drewN hw0 _) _⟩
      · have HE := hide (not_step hkx ht.out he)
        generalize l[k] = y at *
        obtain ⟨s0, s1⟩ := s
        obtain ⟨z0, z1⟩ := y
        simp only at p0 p1 y0 y1
        by_cases d0 : s0 = z0
        · have d1 : ¬ s1 = z1 := fun e => he (by rw [d0, e])
          subst d0
          clear he
          go_wp2
          go_quiet (fail)
          go_wp2
          go_roundw
          case rel => exact ⟨k + 1, by omega, by go_num, HE.out, m + nq, rfl⟩
          case measure => simp [intOf]; omega
        · clear he
          go_wp2
          go_quiet (fail)
          go_wp2
          go_roundw
          case rel => exact ⟨k + 1, by omega, by go_num, HE.out, m + nq, rfl⟩
          case measure => simp [intOf]; omega
    · go_wp2
      go_ret
      have hx := ht.out
      rw [List.take_of_length_le (by rw [HN.out]; omega)] at hx
      exact ⟨⟨-1, rfl, by rw [has_not hx]; rfl⟩, below_drewN hw0 _⟩

set_option maxHeartbeats 400000 in
set_option maxRecDepth 100000 in
theorem contains_sigs (a : Option Addr) (n c : Nat) (l : List S2) (s : S2) (w : World) (h : BG w a n l) :
    Calls Tryz.prog 222 #[.slice a n c, sv s] w fun e w' => e = .returned (.bool (has l s)) ∧ Below w.heap.size w w' := by
  have hc := hide (fun W hW => index_sigs a n c l s W hW)
  have hw0 : Below w.heap.size w (w.alloc (.cells #[.int .i64 s.1, .int .i64 s.2] 188)) := (Below.refl _ _).alloc (Nat.le_refl _) _
  have i0 := h.below hw0
  clear h
  generalize has l s = r at *
  unfold sv at hc ⊢
  go_enter Tryz.func222, Tryz.ntmps222
  go_wp2_with fail
  generalize w.alloc (.cells #[.int .i64 s.1, .int .i64 s.2] 188) = W at *
  refine (unhide hc _ i0).mono ?_
  rintro e w' ⟨⟨q, rfl, hq⟩, hb⟩
  go_wp2
  go_ret
  exact ⟨rfl, hw0.trans (hb.mono hw0.size)⟩

/-! ### The checks -/

set_option maxHeartbeats 800000 in
set_option maxRecDepth 100000 in
theorem checkSigned_any (a : Option Addr) (n c : Nat) (l : List S2) (w : World) (h : BG w a n l) :
    Calls Tryz.prog 220 #[.slice a n c] w fun e w' => e = .returned (.int .i64 (sigE l)) ∧ Below w.heap.size w w' := by
  obtain ⟨h, hn, hm⟩ := h
  unfold maxLen at hm
  have HN := hide hn
  by_cases h1 : 360 < n
  · have HE := hide (sigE_many (l := l) (by omega))
    clear hn
    go_enter Tryz.func220, Tryz.ntmps220
    go_wp2_with fail
    go_ret
    exact ⟨ret_int HE.out.symm, Below.refl _ _⟩
  · have hle := hide (show l.length ≤ 360 by omega)
    clear hn
    go_enter Tryz.func220, Tryz.ntmps220
    go_wp2_with fail
    go_loopw [10] (fun i wr => ∃ k : Nat, k ≤ n ∧ i = .int .i64 k ∧ Below w.heap.size w wr ∧ Hid ((l.take k).all sOK = true)) (fun i _ => n - (intOf i).toNat)
    case atStart => exact ⟨0, Nat.zero_le _, rfl, Below.refl _ _, by show _ = _; simp⟩
    case round =>
      obtain ⟨wq, rfl⟩ : ∃ wq : World, wq = wr := ⟨_, rfl⟩
      obtain ⟨k, hk, rfl, hw, ht⟩ := hrel
      by_cases hlt : k < n
      · have i1 := h.below hw
        rcases i1 with rfl | ⟨b0, o0, rfl, hc0⟩
        · have := HN.out
          simp at this
          omega
        have hkx : k < l.length := by rw [HN.out]; exact hlt
        obtain ⟨e0, e1⟩ := hc0 k l[k] (List.getElem?_eq_getElem hkx)
        clear hc0
        have hw1 := hw.alloc hw.size (.cells #[.int .i64 l[k].1, .int .i64 l[k].2] 188)
        have HB := hide (sigE_bad hle.out hkx)
        have HX := hide (sOK_step hkx ht.out)
        generalize l[k] = s at *
        cases g1 : inR s.1 1 50
        · have HV := hide (HB.out (by unfold sOK; rw [g1]; rfl))
          go_wp2_with (go_at_call 145; refine (tWithin_any _ _ _ _).mono ?_; rintro e w' ⟨rfl, rfl⟩)
          go_ret
          exact ⟨ret_int HV.out.symm, hw1⟩
        · cases g2 : inR s.2 1 60
          · have HV := hide (HB.out (by unfold sOK; rw [g1, g2]; rfl))
            go_wp2_with (go_at_call 145; refine (tWithin_any _ _ _ _).mono ?_; rintro e w' ⟨rfl, rfl⟩)
            go_ret
            exact ⟨ret_int HV.out.symm, hw1⟩
          · have HV := hide (HX.out (by unfold sOK; rw [g1, g2]; rfl))
            go_wp2_with (go_at_call 145; refine (tWithin_any _ _ _ _).mono ?_; rintro e w' ⟨rfl, rfl⟩)
            go_roundw
            case rel => exact ⟨k + 1, by omega, by go_num, hw1, HV.out⟩
            case measure => simp [intOf]; omega
      · go_wp2_with fail
        go_ret
        have hx := ht.out
        rw [List.take_of_length_le (by rw [HN.out]; omega)] at hx
        exact ⟨ret_int (sigE_ok hle.out hx).symm, hw⟩

theorem trE_bad {t : Tr} (h : inR t.ver 0 1000 = false) : trE t = 3 := by unfold trE; rw [h]; rfl
theorem trE_go {t : Tr} (h : inR t.ver 0 1000 = true) : trE t = t.r.e := by unfold trE; rw [h]; rfl

set_option maxHeartbeats 800000 in
set_option maxRecDepth 100000 in
theorem checkTrust_any (t : Tr) (a : Option Addr) (n c : Nat) (w : World) (h : BI w a n t.r.ks) :
    Calls Tryz.prog 91 #[trv t.r.v a n c t.r.t t.ver] w fun e w' => e = .returned (.int .i64 (trE t)) ∧ Below w.heap.size w w' := by
  have hw0 : Below w.heap.size w (w.alloc (.cells #[.int .i64 t.r.v, .slice a n c, .int .i64 t.r.t, .int .i64 t.ver] 65)) := (Below.refl _ _).alloc (Nat.le_refl _) _
  have i0 := h.below hw0
  have HK := hide (fun W (hW : BI W a n t.r.ks) => checkRoot_any t.r.v a n c t.r.t t.r.ks W hW.at_ hW.len hW.max)
  unfold rv at HK
  unfold trv
  cases h1 : inR t.ver 0 1000
  · have HE := hide (trE_bad h1)
    go_enter Tryz.func91, Tryz.ntmps91
    go_wp2_with (go_at_call 145; refine (tWithin_any _ _ _ _).mono ?_; rintro e w' ⟨rfl, rfl⟩)
    go_ret
    exact ⟨ret_int HE.out.symm, hw0⟩
  · have HE := hide (trE_go h1)
    go_enter Tryz.func91, Tryz.ntmps91
    go_wp2_with (first | (go_at_call 145; refine (tWithin_any _ _ _ _).mono ?_; rintro e w' ⟨rfl, rfl⟩) | (go_at_call 146; refine (HK.out _ i0).mono ?_; rintro e w1 ⟨rfl, hb1⟩))
    go_ret
    exact ⟨ret_int HE.out.symm, hw0.trans (hb1.mono hw0.size)⟩

end Go.Proofs.YtgngpmgjoifepaaGreatDoor
