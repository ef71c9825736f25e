/- Plain facts: what is done in turn is a list of changes, of which there is power for so many. Plain facts for LogHolds and LogGoes: the flash behind an Append is a log, its records, and that it can be done again. The contracts of unit.within, Check, CheckMessage, is, stateOf, other, done. Gateways in memory: 'IsBools', 'BV', 'gtv', 'GIn'; a gateway's state ('gsv'). The contracts of trust.within, slices.Index and Contains at ints and at signatures, trust.CheckSigned, CheckTrust. The contracts of gate.within, decided, Check. The contract of gate.turned. -/
import Derived.Test.YtgngpmgjoifepaaGreatDoorPt7
import Derived.Test.YtgngpmgjoifepaaGreatDoorPt11
import Derived.Test.YtgngpmgjoifepaaGreatDoorPt10
import Derived.Laws.StructEq
namespace Go.Proofs.YtgngpmgjoifepaaGreatDoor
open Go.RowKit

def proC (p : Nat) (words : List Int) : List (Nat × Option (Nat × Int)) := (List.range words.length).map (fun i => (p + i, some (0, words.getD i 0)))
theorem proC_length (p : Nat) (words : List Int) : (proC p words).length = words.length := by simp [proC]
theorem proC_pro (p : Nat) (words : List Int) : ProL p words words.length (proC p words) := by
  refine ⟨proC_length _ _, fun i hi => ⟨0, ?_⟩⟩
  simp [proC, hi]

def stC : Stp → List (Nat × Option (Nat × Int))
  | .inl s => eraL s 32
  | .inr (p, words) => proC p words
def StOk (L : Nat) : Stp → Prop
  | .inl s => s * 32 + 32 ≤ L
  | .inr (p, words) => p + words.length ≤ L ∧ okL words = true

theorem doS_chg {st : Stp} {ws : List Int} {f : Int} (h : chk ws f = 0) (ho : StOk ws.length st) : doS st ws f = chgS ws f (stC st) := by
  have hp := chk_parts h
  cases st with
  | inl s => exact (chgS_era h (by simp only [StOk] at ho; omega)).symm
  | inr q => obtain ⟨p, words⟩ := q; exact (chgS_pro h (proC_pro p words) ho.1 ho.2).symm

theorem applyL_ok {ws : List Int} {cs : List (Nat × Option (Nat × Int))} (h : okL ws = true) (hc : ∀ c ∈ cs, ∀ b x, c.2 = some (b, x) → okW x = true) : okL (applyL cs ws) = true := by
  induction cs generalizing ws with
  | nil => exact h
  | cons c cs ih =>
    show okL (applyL cs (ws.set c.1 (apW c.2 (ws.getD c.1 0)))) = true
    refine ih ?_ (fun d hd => hc d (List.mem_cons_of_mem _ hd))
    by_cases hlt : c.1 < ws.length
    {
    apply okL_of
    intro i hi
    simp at hi
    by_cases e : c.1 = i
    {
    subst e
    have : (ws.set c.1 (apW c.2 (ws.getD c.1 0))).getD c.1 0 = apW c.2 (ws.getD c.1 0) := by simp [hlt]
    rw [this]
    cases h2 : c.2 with
    | none => rfl
    | some p => obtain ⟨b, x⟩ := p; exact and_ok (okL_get h _ hlt) (hc c List.mem_cons_self b x h2)
    }
    {
    have : (ws.set c.1 (apW c.2 (ws.getD c.1 0))).getD i 0 = ws.getD i 0 := by simp [e]
    rw [this]
    exact okL_get h i hi
    }
    }
    {
    rw [List.set_eq_of_length_le (by omega)]
    exact h

    }
theorem stC_ok {L : Nat} {st : Stp} (h : StOk L st) : ∀ c ∈ stC st, ∀ b x, c.2 = some (b, x) → okW x = true := by
  intro c hc b x hx
  cases st with
  | inl s => simp [stC, eraL] at hc; obtain ⟨i, _, rfl⟩ := hc; cases hx
  | inr q =>
    obtain ⟨p, words⟩ := q
    simp only [stC, proC, List.mem_map, List.mem_range] at hc
    obtain ⟨i, hi, rfl⟩ := hc
    simp only [Option.some.injEq, Prod.mk.injEq] at hx
    rw [← hx.2]
    exact okL_get h.2 i hi

theorem chk_of {ws : List Int} {f f' : Int} {us : List Int} (h : chk ws f = 0) (hl : us.length = ws.length) (hok : okL us = true) (h0 : -1 ≤ f') (h1 : f' ≤ 100000) : chk us f' = 0 := by
  have q := chk_parts h
  apply chk_ok
  { rw [hl]; exact decide_eq_true q.1 }
  {
  unfold rangeB; rw [hok]; simp; omega

  }
theorem turn_chg (sts : List Stp) (ws : List Int) (f : Int) (h : chk ws f = 0) (ho : ∀ st ∈ sts, StOk ws.length st) : turnS sts ws f = chgS ws f (sts.flatMap stC) := by
  induction sts generalizing ws f with
  | nil =>
    have : cnt f 0 = 0 := Nat.le_zero.1 (cnt_le _ _)
    show (ws, f, (0 : Int)) = chgS ws f []
    unfold chgS
    rw [List.length_nil, this, perr_ok this]
    have : burn f 0 = f := by unfold burn; split <;> simp
    rw [this]
    rfl
  | cons st sts ih =>
    have hd := doS_chg h (ho st List.mem_cons_self)
    have q := chk_parts h
    rw [List.flatMap_cons]
    by_cases c : cnt f (stC st).length = (stC st).length
    {
    have e2 : (doS st ws f).2.2 = 0 := by rw [hd]; exact perr_ok c
    rw [turnS_go e2, hd, chgS_go c]
    have e1 : (chgS ws f (stC st)).1 = applyL (stC st) ws := by unfold chgS; rw [c, List.take_length]
    have e3 : (chgS ws f (stC st)).2.1 = burn f (stC st).length := by unfold chgS; rw [c]
    rw [e1, e3]
    have bb := burn_bounds q.2.1 q.2.2.1 (Nat.le_of_eq c.symm)
    refine ih _ _ ?_ ?_
    { exact chk_of h (applyL_length _ _) (applyL_ok q.2.2.2 (stC_ok (ho st List.mem_cons_self))) bb.1 bb.2 }
    { rw [applyL_length]; exact fun d hd => ho d (List.mem_cons_of_mem _ hd) }
    }
    {
    have lt : cnt f (stC st).length < (stC st).length := by have := cnt_le f (stC st).length; omega
    have e2 : (doS st ws f).2.2 ≠ 0 := by
      rw [hd]
      show perr f (stC st).length ≠ 0
      rw [perr_no lt]; decide
    rw [turnS_stop e2, hd, chgS_stop lt]

    }
/-! ### Append as changes -/
theorem addL_ok {xs r : List Int} (h : okL xs = true) (hr : recE r = 0) : okL (addL xs r) = true := by
  have q := recE_ok hr
  unfold addL okL at *
  rw [List.all_append, List.all_cons, h, q.2.2]
  have : okW (headS r.length) = true := by unfold okW headS; simp; omega
  rw [this]
  rfl

theorem addE_rec {xs r : List Int} (h : addE xs r = 0) : recE r = 0 := by
  unfold addE at h
  split at h
  { rename_i h1; exact absurd h h1 }
  {
  rename_i h1; simpa using h1

  }
theorem laidS_ok (rs : List (List Int)) (xs : List Int) (h : okL xs = true) : okL (laidS rs xs).1 = true := by
  induction rs generalizing xs with
  | nil => exact h
  | cons r rs ih =>
    by_cases e : addE xs r = 0
    { rw [laidS_cons_ok e]; exact ih _ (addL_ok h (addE_rec e)) }
    {
    rw [laidS_cons_no e]; rfl

    }
theorem appErr_ok {ws : List Int} {f : Int} {r : List Int} {keep : List (List Int)} (h : appErr ws f r keep = 0) : lchk ws f = 0 ∧ recE r = 0 ∧ (laidA r keep).2 = 0 ∧ (fitsA ws r = true ∨ genN ws ≠ 60000) := by
  unfold appErr at h
  split at h
  { rename_i h1; exact absurd h h1 }
  {
  rename_i h1
  split at h
  { rename_i h2; exact absurd h h2 }
  {
  rename_i h2
  split at h
  { rename_i h3; exact absurd h h3 }
  {
  rename_i h3
  split at h
  { simp at h }
  {
  rename_i h4
  refine ⟨by simpa using h1, by simpa using h2, by simpa using h3, ?_⟩
  cases hf : fitsA ws r
  { right; intro hg; exact h4 ⟨hf, hg⟩ }
  {
  left; rfl

  }
  }
  }
  }
  }
theorem appErr_mk {ws : List Int} {f : Int} {r : List Int} {keep : List (List Int)} (h1 : lchk ws f = 0) (h2 : recE r = 0) (h3 : (laidA r keep).2 = 0) (h4 : fitsA ws r = true ∨ genN ws ≠ 60000) : appErr ws f r keep = 0 := by
  unfold appErr
  rw [if_neg (by simpa using h1), if_neg (by simpa using h2), if_neg (by simpa using h3), if_neg]
  rintro ⟨h5, h6⟩
  rcases h4 with h4 | h4
  { rw [h5] at h4; cases h4 }
  {
  exact h4 h6

  }
def appC (ws r : List Int) (keep : List (List Int)) : List (Nat × Option (Nat × Int)) := (appSteps ws r keep).flatMap stC

theorem headS_ok {n : Nat} (h : n ≤ 4) : okW (headS n) = true := by unfold okW headS; simp; omega

theorem fitsA_parts {ws r : List Int} (h : fitsA ws r = true) : cleanS (restS ws) = true ∧ r.length < (restS ws).length := by
  unfold fitsA at h
  simpa using h

theorem appSteps_ok {ws : List Int} {f : Int} {r : List Int} {keep : List (List Int)} (h : appErr ws f r keep = 0) : ∀ st ∈ appSteps ws r keep, StOk ws.length st := by
  have q := appErr_ok h
  have l := lchk_parts q.1
  have rr := recE_ok q.2.1
  have hf := restS_few l.2.1
  have hs := secN_01 ws
  intro st hst
  unfold appSteps at hst
  split at hst
  {
  rename_i hfit
  have hp := fitsA_parts hfit
  simp only [List.mem_cons, List.not_mem_nil, or_false] at hst
  rcases hst with rfl | rfl
  { exact ⟨by unfold headP; rcases hs with e | e <;> rw [e] <;> omega, rr.2.2⟩ }
  { exact ⟨by unfold headP; simp only [List.length_cons, List.length_nil]; rcases hs with e | e <;> rw [e] <;> omega, by unfold okL; rw [List.all_cons, headS_ok rr.2.1]; rfl⟩ }
  }
  {
  rename_i hfit
  simp only [List.mem_cons, List.not_mem_nil, or_false] at hst
  have hl : (laidA r keep).1.length ≤ 31 := laidS_few _ _ (by simp)
  have hg := q.2.2.2.resolve_left hfit
  have hgn := genN_nonneg l.2.2.2.1 l.2.1
  rcases hst with rfl | rfl | rfl
  {
  show (1 - secN ws) * 32 + 32 ≤ _
  omega
  }
  { exact ⟨by omega, laidS_ok _ _ rfl⟩ }
  {
  refine ⟨by simp only [List.length_cons, List.length_nil]; omega, ?_⟩
  unfold okL
  rw [List.all_cons]
  have : okW (genN ws + 1) = true := by unfold okW; simp; omega
  rw [this]; rfl

  }
  }
theorem app_chg {ws : List Int} {f : Int} {r : List Int} {keep : List (List Int)} (h : appErr ws f r keep = 0) : appS ws f r keep = chgS ws f (appC ws r keep) := by
  unfold appS
  rw [if_neg (by simpa using h)]
  exact turn_chg _ _ _ (lchk_parts (appErr_ok h).1).1 (appSteps_ok h)

end Go.Proofs.YtgngpmgjoifepaaGreatDoor

namespace Go.Proofs.YtgngpmgjoifepaaGreatDoor
open Go.RowKit

theorem logR_few {ws : List Int} (h : 64 ≤ ws.length) : (logR ws).length ≤ 31 := by
  have := parseS_few (secL ws (secN ws))
  rw [secL_length (by have := secN_01 ws; omega)] at this
  exact this

end Go.Proofs.YtgngpmgjoifepaaGreatDoor

namespace Go.Proofs.YtgngpmgjoifepaaGreatDoor
open Go.RowKit

structure BW (w : World) (a : Option Addr) (n c : Nat) (ws : List Int) : Prop where
  at_ : IsInts w a ws
  len : ws.length = n
  cap : n ≤ c
  max : n ≤ maxLen
theorem BW.below {w w' : World} {a : Option Addr} {n c : Nat} {ws : List Int} (h : BW w a n c ws) (hb : Below w.heap.size w w') : BW w' a n c ws := ⟨h.at_.below hb, h.len, h.cap, h.max⟩
theorem BW.bi {w : World} {a : Option Addr} {n c : Nat} {ws : List Int} (h : BW w a n c ws) : BI w a n ws := ⟨h.at_, h.len, h.max⟩
theorem BW.turns {w w' : World} {B : Nat} {a : Option Addr} {n c : Nat} {ws : List Int} (h : BW w a n c ws) (hg : w.grownBy w' (some B)) (ho : Off B a) : BW w' a n c ws := ⟨ints_turns h.at_ hg ho, h.len, h.cap, h.max⟩

theorem inB_t {n a b : Int} (h0 : a ≤ n) (h1 : n ≤ b) : inB n a b = true := by unfold inB; simp; omega
theorem inB_lo {n a b : Int} (h0 : ¬ a ≤ n) : inB n a b = false := by unfold inB; simp; omega
theorem inB_hi {n a b : Int} (h0 : ¬ n ≤ b) : inB n a b = false := by unfold inB; simp; omega

end Go.Proofs.YtgngpmgjoifepaaGreatDoor

namespace Go.Proofs.YtgngpmgjoifepaaGreatDoor
open Go.RowKit

def IsBools (w : World) (a : Option Addr) (bs : List Bool) : Prop :=
  bs = [] ∨ ∃ b off, a = some ⟨b, off, none⟩ ∧ ∀ i, i < bs.length → w.cell? ⟨b, off + i, none⟩ = some (.bool (bs.getD i false))
theorem IsBools.below {w w' : World} {a : Option Addr} {bs : List Bool} (h : IsBools w a bs) (hb : Below w.heap.size w w') : IsBools w' a bs := by
  rcases h with h | ⟨b, off, rfl, hc⟩
  { exact .inl h }
  { exact .inr ⟨b, off, rfl, fun i hi => by rw [hb.cell (cell_lt (hc i hi))]; exact hc i hi⟩ }
structure BV (w : World) (a : Option Addr) (n c : Nat) (bs : List Bool) : Prop where
  at_ : IsBools w a bs
  len : bs.length = n
  cap : n ≤ c
  max : n ≤ maxLen
theorem BV.below {w w' : World} {a : Option Addr} {n c : Nat} {bs : List Bool} (h : BV w a n c bs) (hb : Below w.heap.size w w') : BV w' a n c bs := ⟨h.at_.below hb, h.len, h.cap, h.max⟩

structure GA where
  a : Option Addr
  n : Nat
  c : Nat
  ak : Option Addr
  nk : Nat
  ck : Nat
  av : Option Addr
  nv : Nat
  cv : Nat
  ad : Option Addr
  nd : Nat
  cd : Nat
def gtC (g : Gt) (m : GA) : Array Value := #[.slice m.a m.n m.c, .int .i64 g.fu, .bool g.up, .int .i64 g.t.r.v, .slice m.ak m.nk m.ck, .int .i64 g.t.r.t, .int .i64 g.t.ver, .slice m.av m.nv m.cv, .slice m.ad m.nd m.cd]
def gtv (g : Gt) (m : GA) : Value := .agg #[.slice m.a m.n m.c, .int .i64 g.fu, .bool g.up, .int .i64 g.t.r.v, .slice m.ak m.nk m.ck, .int .i64 g.t.r.t, .int .i64 g.t.ver, .slice m.av m.nv m.cv, .slice m.ad m.nd m.cd]
def gtO (g : Gt) (m : GA) : Obj := .cells #[.slice m.a m.n m.c, .int .i64 g.fu, .bool g.up, .int .i64 g.t.r.v, .slice m.ak m.nk m.ck, .int .i64 g.t.r.t, .int .i64 g.t.ver, .slice m.av m.nv m.cv, .slice m.ad m.nd m.cd] 68 (0, 0)
theorem BI.turns {w w' : World} {B : Nat} {a : Option Addr} {n : Nat} {xs : List Int} (h : BI w a n xs) (hg : w.grownBy w' (some B)) (ho : Off B a) : BI w' a n xs := ⟨ints_turns h.at_ hg ho, h.len, h.max⟩
structure GIn (w : World) (m : GA) (g : Gt) : Prop where
  ws : BW w m.a m.n m.c g.ws
  ks : BI w m.ak m.nk g.t.r.ks
  vo : BV w m.av m.nv m.cv g.vo
  di : BV w m.ad m.nd m.cd g.di
theorem GIn.below {w w' : World} {m : GA} {g : Gt} (h : GIn w m g) (hb : Below w.heap.size w w') : GIn w' m g := ⟨h.ws.below hb, h.ks.below hb, h.vo.below hb, h.di.below hb⟩

def gsv (s : Gs) : Value := .agg #[.int .i64 s.n, .int .i64 s.v, .bool s.co, .bool s.ab, .bool s.en]
def gsO (s : Gs) : Obj := .cells #[.int .i64 s.n, .int .i64 s.v, .bool s.co, .bool s.ab, .bool s.en] 82 (0, 0)

theorem gtE_1 {g : Gt} (h : lchk g.ws g.fu ≠ 0) : gtE g = lchk g.ws g.fu := by unfold gtE; rw [if_pos h]
theorem gtE_2 {g : Gt} (h : lchk g.ws g.fu = 0) (h2 : gtB g = false) : gtE g = 4 := by unfold gtE; rw [if_neg (by simpa using h), if_neg (by rw [h2]; decide)]
theorem gtE_3 {g : Gt} (h : lchk g.ws g.fu = 0) (h2 : gtB g = true) : gtE g = trE g.t := by unfold gtE; rw [if_neg (by simpa using h), if_pos h2]
theorem gtE_ok {g : Gt} (h : gtE g = 0) : lchk g.ws g.fu = 0 ∧ (1 ≤ g.vo.length ∧ g.vo.length ≤ 4) ∧ g.di.length = g.vo.length ∧ trE g.t = 0 := by
  rcases Decidable.em (lchk g.ws g.fu = 0) with h1 | h1
  {
  cases h2 : gtB g
  { rw [gtE_2 h1 h2] at h; cases h }
  {
  rw [gtE_3 h1 h2] at h
  unfold gtB inB at h2
  simp at h2
  exact ⟨h1, ⟨by omega, by omega⟩, h2.2, h⟩
  }
  }
  {
  rw [gtE_1 h1] at h; exact absurd h h1

  }
end Go.Proofs.YtgngpmgjoifepaaGreatDoor

namespace Go.Proofs.YtgngpmgjoifepaaGreatDoor
open Go.RowKit

set_option maxHeartbeats 400000 in
set_option maxRecDepth 100000 in
theorem tWithin_any (n a b : Int) (w : World) : Calls Tryz.prog 145 #[.int .i64 n, .int .i64 a, .int .i64 b] w fun e w' => e = .returned (.bool (inR n a b)) ∧ w' = w := by
  by_cases h0 : a ≤ n
  {
  by_cases h1 : n ≤ b
  {
  have hd : decide (n ≤ b) = true := by simp; omega
  go_enter Tryz.func145, Tryz.ntmps145
  go_wp2
  go_ret
  exact ⟨ret_bool (inR_t h0 h1).symm, rfl⟩
  }
  {
  have hd : decide (n ≤ b) = false := by simp; omega
  go_enter Tryz.func145, Tryz.ntmps145
  go_wp2
  go_ret
  exact ⟨ret_bool (inR_hi (by omega)).symm, rfl⟩
  }
  }
  {
  go_enter Tryz.func145, Tryz.ntmps145
  go_wp2
  go_ret
  exact ⟨ret_bool (inR_lo (by omega)).symm, rfl⟩

  }
/-! ### Is it among them? -/

theorem has_hit {α : Type} [DecidableEq α] {xs : List α} {x : α} {k : Nat} (hk : k < xs.length) (h : x = xs[k]) : has xs x = true := by
  unfold has
  rw [h]
  simp
theorem has_not {α : Type} [DecidableEq α] {xs : List α} {x : α} (h : x ∉ xs) : has xs x = false := by
  unfold has
  simp [h]
theorem not_step {α : Type} {xs : List α} {x : α} {k : Nat} (hk : k < xs.length) (h : x ∉ xs.take k) (hne : ¬ x = xs[k]) : x ∉ xs.take (k + 1) := by
  rw [List.take_succ_eq_append_getElem hk]
  simp only [List.mem_append, List.mem_singleton, not_or]
  exact ⟨h, hne⟩

set_option maxHeartbeats 400000 in
set_option maxRecDepth 100000 in
theorem index_ints (a : Option Addr) (n c : Nat) (xs : List Int) (x : Int) (w : World) (h : BI w a n xs) :
    Calls Tryz.prog 229 #[.slice a n c, .int .i64 x] w fun e w' => (∃ q : Int, e = .returned (.int .i64 q) ∧ decide (0 ≤ q) = has xs x) ∧ w' = w := by
  obtain ⟨h, hn, hm⟩ := h
  unfold maxLen at hm
  have HN : Hid (xs.length = n) := hn
  go_enter Tryz.func229, Tryz.ntmps229
  go_wp2
  go_loop [8] (fun i => ∃ k : Nat, k ≤ n ∧ i = .int .i64 k ∧ Hid (x ∉ xs.take k)) (fun i => n - (intOf i).toNat)
  case atStart => exact ⟨0, Nat.zero_le _, rfl, by show _ ∉ _; simp⟩
  case round =>
    obtain ⟨k, hk, rfl, ht⟩ := hrel
    by_cases hlt : k < n
    {
    rcases h with rfl | ⟨b0, o0, rfl, hc0⟩
    { simp at hn; omega }
    have hkx : k < xs.length := by omega
    have e0 := hc0 k hkx
    rw [show xs.getD k 0 = xs[k] by simp [hkx]] at e0
    clear hn hc0
    by_cases he : x = xs[k]
    {
    have hb : (x == xs[k]) = true := by simpa using he
    have HE := hide (has_hit hkx he)
    clear he
    generalize xs[k] = y at *
    go_wp2
    go_ret
    exact ⟨⟨_, rfl, by rw [HE.out]; simp⟩, rfl⟩
    }
    {
    have hb : (x == xs[k]) = false := by simpa using he
    have HE := hide (not_step hkx ht.out he)
    clear he
    generalize xs[k] = y at *
    go_wp2
    go_round
    case rel => exact ⟨k + 1, by omega, by go_num, HE.out⟩
    case measure => simp [intOf]; omega
    }
    }
    {
    go_wp2
    go_ret
    have hx := ht.out
    rw [List.take_of_length_le (by omega)] at hx
    exact ⟨⟨-1, rfl, by rw [has_not hx]; rfl⟩, rfl⟩

    }
set_option maxHeartbeats 400000 in
set_option maxRecDepth 100000 in
theorem contains_ints (a : Option Addr) (n c : Nat) (xs : List Int) (x : Int) (w : World) (h : BI w a n xs) :
    Calls Tryz.prog 221 #[.slice a n c, .int .i64 x] w fun e w' => e = .returned (.bool (has xs x)) ∧ w' = w := by
  have hc := hide (index_ints a n c xs x w h)
  clear h
  generalize has xs x = r at *
  go_enter Tryz.func221, Tryz.ntmps221
  go_wp2_with fail
  refine (unhide hc).mono ?_
  rintro e w' ⟨⟨q, rfl, hq⟩, rfl⟩
  go_wp2
  go_ret
  exact ⟨rfl, rfl⟩

set_option maxRecDepth 100000 in
theorem sig_guard : Tryz.prog.eqGuardType Tryz.prog.depth 188 = false := by kernel_rfl

set_option maxHeartbeats 800000 in
set_option maxRecDepth 100000 in
theorem index_sigs (a : Option Addr) (n c : Nat) (l : List S2) (s : S2) (w : World) (h : BG w a n l) :
    Calls Tryz.prog 230 #[.slice a n c, sv s] w fun e w' => (∃ q : Int, e = .returned (.int .i64 q) ∧ decide (0 ≤ q) = has l s) ∧ Below w.heap.size w w' := by
  obtain ⟨h, hn, hm⟩ := h
  unfold maxLen at hm
  have HN := hide hn
  have hg := sig_guard
  have hw0 : Below w.heap.size w (w.alloc (.cells #[.int .i64 s.1, .int .i64 s.2] 188)) := (Below.refl _ _).alloc (Nat.le_refl _) _
  have b0 := heap_alloc_last w (.cells #[.int .i64 s.1, .int .i64 s.2] 188)
  have y0 := blk_cell b0 0 _ rfl
  have y1 := blk_cell b0 1 _ rfl
  have i0 := h.below hw0
  unfold sv
  clear hn b0 h
  go_enter Tryz.func230, Tryz.ntmps230
  go_wp2
  generalize w.alloc (.cells #[.int .i64 s.1, .int .i64 s.2] 188) = W at *
  go_loopw [8] (fun i wr => ∃ k : Nat, k ≤ n ∧ i = .int .i64 k ∧ Hid (s ∉ l.take k) ∧ ∃ m, wr = W.drewN m) (fun i _ => n - (intOf i).toNat)
  case atStart => exact ⟨0, Nat.zero_le _, rfl, by show _ ∉ _; simp, 0, rfl⟩
  case round =>
    obtain ⟨k, hk, rfl, ht, m, rfl⟩ := hrel
    by_cases hlt : k < n
    {
    rcases i0 with rfl | ⟨bb, oo, rfl, hc0⟩
    {
    have := HN.out
    simp at this
    omega
    }
    have hkx : k < l.length := by rw [HN.out]; exact hlt
    obtain ⟨p0, p1⟩ := hc0 k l[k] (List.getElem?_eq_getElem hkx)
    clear hc0
    by_cases he : s = l[k]
    {
    have HE := hide (has_hit hkx he)
    rw [← he] at p0 p1
    clear he
    go_wp2
    go_quiet (fail)
    go_wp2
    go_ret
    exact ⟨⟨_, rfl, by rw [HE.out]; simp⟩, below_drewN (below_drewN hw0 _) _⟩
    }
    {
    have HE := hide (not_step hkx ht.out he)
    generalize l[k] = y at *
    obtain ⟨s0, s1⟩ := s
    obtain ⟨z0, z1⟩ := y
    simp only at p0 p1 y0 y1
    by_cases d0 : s0 = z0
    {
    have d1 : ¬ s1 = z1 := fun e => he (by rw [d0, e])
    subst d0
    clear he
    go_wp2
    go_quiet (fail)
    go_wp2
    go_roundw
    case rel => exact ⟨k + 1, by omega, by go_num, HE.out, m + nq, rfl⟩
    case measure => simp [intOf]; omega
    }
    {
    clear he
    go_wp2
    go_quiet (fail)
    go_wp2
    go_roundw
    case rel => exact ⟨k + 1, by omega, by go_num, HE.out, m + nq, rfl⟩
    case measure => simp [intOf]; omega
    }
    }
    }
    {
    go_wp2
    go_ret
    have hx := ht.out
    rw [List.take_of_length_le (by rw [HN.out]; omega)] at hx
    exact ⟨⟨-1, rfl, by rw [has_not hx]; rfl⟩, below_drewN hw0 _⟩

    }
set_option maxHeartbeats 400000 in
set_option maxRecDepth 100000 in
theorem contains_sigs (a : Option Addr) (n c : Nat) (l : List S2) (s : S2) (w : World) (h : BG w a n l) :
    Calls Tryz.prog 222 #[.slice a n c, sv s] w fun e w' => e = .returned (.bool (has l s)) ∧ Below w.heap.size w w' := by
  have hc := hide (fun W hW => index_sigs a n c l s W hW)
  have hw0 : Below w.heap.size w (w.alloc (.cells #[.int .i64 s.1, .int .i64 s.2] 188)) := (Below.refl _ _).alloc (Nat.le_refl _) _
  have i0 := h.below hw0
  clear h
  generalize has l s = r at *
  unfold sv at hc ⊢
  go_enter Tryz.func222, Tryz.ntmps222
  go_wp2_with fail
  generalize w.alloc (.cells #[.int .i64 s.1, .int .i64 s.2] 188) = W at *
  refine (unhide hc _ i0).mono ?_
  rintro e w' ⟨⟨q, rfl, hq⟩, hb⟩
  go_wp2
  go_ret
  exact ⟨rfl, hw0.trans (hb.mono hw0.size)⟩

/-! ### The checks -/

set_option maxHeartbeats 800000 in
set_option maxRecDepth 100000 in
theorem checkSigned_any (a : Option Addr) (n c : Nat) (l : List S2) (w : World) (h : BG w a n l) :
    Calls Tryz.prog 220 #[.slice a n c] w fun e w' => e = .returned (.int .i64 (sigE l)) ∧ Below w.heap.size w w' := by
  obtain ⟨h, hn, hm⟩ := h
  unfold maxLen at hm
  have HN := hide hn
  by_cases h1 : 360 < n
  {
  have HE := hide (sigE_many (l := l) (by omega))
  clear hn
  go_enter Tryz.func220, Tryz.ntmps220
  go_wp2_with fail
  go_ret
  exact ⟨ret_int HE.out.symm, Below.refl _ _⟩
  }
  {
  have hle := hide (show l.length ≤ 360 by omega)
  clear hn
  go_enter Tryz.func220, Tryz.ntmps220
  go_wp2_with fail
  go_loopw [10] (fun i wr => ∃ k : Nat, k ≤ n ∧ i = .int .i64 k ∧ Below w.heap.size w wr ∧ Hid ((l.take k).all sOK = true)) (fun i _ => n - (intOf i).toNat)
  case atStart => exact ⟨0, Nat.zero_le _, rfl, Below.refl _ _, by show _ = _; simp⟩
  case round =>
    obtain ⟨wq, rfl⟩ : ∃ wq : World, wq = wr := ⟨_, rfl⟩
    obtain ⟨k, hk, rfl, hw, ht⟩ := hrel
    by_cases hlt : k < n
    {
    have i1 := h.below hw
    rcases i1 with rfl | ⟨b0, o0, rfl, hc0⟩
    {
    have := HN.out
    simp at this
    omega
    }
    have hkx : k < l.length := by rw [HN.out]; exact hlt
    obtain ⟨e0, e1⟩ := hc0 k l[k] (List.getElem?_eq_getElem hkx)
    clear hc0
    have hw1 := hw.alloc hw.size (.cells #[.int .i64 l[k].1, .int .i64 l[k].2] 188)
    have HB := hide (sigE_bad hle.out hkx)
    have HX := hide (sOK_step hkx ht.out)
    generalize l[k] = s at *
    cases g1 : inR s.1 1 50
    {
    have HV := hide (HB.out (by unfold sOK; rw [g1]; rfl))
    go_wp2_with (go_at_call 145; refine (tWithin_any _ _ _ _).mono ?_; rintro e w' ⟨rfl, rfl⟩)
    go_ret
    exact ⟨ret_int HV.out.symm, hw1⟩
    }
    {
    cases g2 : inR s.2 1 60
    {
    have HV := hide (HB.out (by unfold sOK; rw [g1, g2]; rfl))
    go_wp2_with (go_at_call 145; refine (tWithin_any _ _ _ _).mono ?_; rintro e w' ⟨rfl, rfl⟩)
    go_ret
    exact ⟨ret_int HV.out.symm, hw1⟩
    }
    {
    have HV := hide (HX.out (by unfold sOK; rw [g1, g2]; rfl))
    go_wp2_with (go_at_call 145; refine (tWithin_any _ _ _ _).mono ?_; rintro e w' ⟨rfl, rfl⟩)
    go_roundw
    case rel => exact ⟨k + 1, by omega, by go_num, hw1, HV.out⟩
    case measure => simp [intOf]; omega
    }
    }
    }
    {
    go_wp2_with fail
    go_ret
    have hx := ht.out
    rw [List.take_of_length_le (by rw [HN.out]; omega)] at hx
    exact ⟨ret_int (sigE_ok hle.out hx).symm, hw⟩

    }
  }
theorem trE_bad {t : Tr} (h : inR t.ver 0 1000 = false) : trE t = 3 := by unfold trE; rw [h]; rfl
theorem trE_go {t : Tr} (h : inR t.ver 0 1000 = true) : trE t = t.r.e := by unfold trE; rw [h]; rfl

set_option maxHeartbeats 800000 in
set_option maxRecDepth 100000 in
theorem checkTrust_any (t : Tr) (a : Option Addr) (n c : Nat) (w : World) (h : BI w a n t.r.ks) :
    Calls Tryz.prog 91 #[trv t.r.v a n c t.r.t t.ver] w fun e w' => e = .returned (.int .i64 (trE t)) ∧ Below w.heap.size w w' := by
  have hw0 : Below w.heap.size w (w.alloc (.cells #[.int .i64 t.r.v, .slice a n c, .int .i64 t.r.t, .int .i64 t.ver] 65)) := (Below.refl _ _).alloc (Nat.le_refl _) _
  have i0 := h.below hw0
  have HK := hide (fun W (hW : BI W a n t.r.ks) => checkRoot_any t.r.v a n c t.r.t t.r.ks W hW.at_ hW.len hW.max)
  unfold rv at HK
  unfold trv
  cases h1 : inR t.ver 0 1000
  {
  have HE := hide (trE_bad h1)
  go_enter Tryz.func91, Tryz.ntmps91
  go_wp2_with (go_at_call 145; refine (tWithin_any _ _ _ _).mono ?_; rintro e w' ⟨rfl, rfl⟩)
  go_ret
  exact ⟨ret_int HE.out.symm, hw0⟩
  }
  {
  have HE := hide (trE_go h1)
  go_enter Tryz.func91, Tryz.ntmps91
  go_wp2_with (first | (go_at_call 145; refine (tWithin_any _ _ _ _).mono ?_; rintro e w' ⟨rfl, rfl⟩) | (go_at_call 146; refine (HK.out _ i0).mono ?_; rintro e w1 ⟨rfl, hb1⟩))
  go_ret
  exact ⟨ret_int HE.out.symm, hw0.trans (hb1.mono hw0.size)⟩

  }
end Go.Proofs.YtgngpmgjoifepaaGreatDoor

namespace Go.Proofs.YtgngpmgjoifepaaGreatDoor
open Go.RowKit
attribute [local go_sem ↓] Go.wp_at_zero Go.wp_at_succ

set_option maxHeartbeats 400000 in
theorem gWithin_any (n a b : Int) (w : World) : Calls Tryz.prog 89 #[.int .i64 n, .int .i64 a, .int .i64 b] w fun e w' => e = .returned (.bool (inB n a b)) ∧ w' = w := by
  by_cases h0 : a ≤ n
  {
  by_cases h1 : n ≤ b
  {
  go_enter Tryz.func89, Tryz.ntmps89
  go_wp2
  go_ret
  exact ⟨ret_bool (inB_t h0 h1).symm, rfl⟩
  }
  {
  have hd : decide (n ≤ b) = false := by simpa using h1
  go_enter Tryz.func89, Tryz.ntmps89
  go_wp2
  go_ret
  exact ⟨ret_bool (inB_hi (by omega)).symm, rfl⟩
  }
  }
  {
  go_enter Tryz.func89, Tryz.ntmps89
  go_wp2
  go_ret
  exact ⟨ret_bool (inB_lo (by omega)).symm, rfl⟩

  }
set_option maxHeartbeats 400000 in
theorem decided_any (s : Gs) (w : World) : Calls Tryz.prog 87 #[gsv s] w fun e w' => e = .returned (.bool (decG s)) ∧ Below w.heap.size w w' := by
  unfold gsv decG
  cases h : s.co
  {
  go_enter Tryz.func87, Tryz.ntmps87
  go_wp2
  go_ret
  exact ⟨ret_bool (by simp), (Below.refl _ _).alloc (Nat.le_refl _) _⟩
  }
  {
  go_enter Tryz.func87, Tryz.ntmps87
  go_wp2
  go_ret
  exact ⟨ret_bool (by simp), (Below.refl _ _).alloc (Nat.le_refl _) _⟩

  }
set_option maxHeartbeats 1600000 in
set_option maxRecDepth 100000 in
theorem gateCheck_any (g : Gt) (m : GA) (w : World) (h : GIn w m g) :
    Calls Tryz.prog 37 #[gtv g m] w fun e w' => e = .returned (.int .i64 (gtE g)) ∧ Below w.heap.size w w' := by
  have hw0 : Below w.heap.size w (w.alloc (.cells (gtC g m) 68)) := (Below.refl _ _).alloc (Nat.le_refl _) _
  have b0 := hide (heap_alloc_last w (.cells (gtC g m) 68))
  have HL := hide (fun W (hW : Below w.heap.size w W) => logCheck_any m.a m.n m.c g.ws g.fu W (h.ws.below hW).at_ h.ws.len h.ws.max)
  have HT := hide (fun W (hW : Below w.heap.size w W) => checkTrust_any g.t m.ak m.nk m.ck W (h.ks.below hW))
  unfold trv at HT
  have Lv := hide h.vo.len
  have Ld := hide h.di.len
  have hv := h.vo.max
  have hd := h.di.max
  unfold maxLen at hv hd
  unfold gtv
  unfold gtC at hw0 b0
  clear h
  have x0 := blk_cell b0.out 0 _ rfl
  have x1 := blk_cell b0.out 1 _ rfl
  go_enter Tryz.func37, Tryz.ntmps37
  go_wp2_with fail
  generalize w.alloc (.cells #[.slice m.a m.n m.c, .int .i64 g.fu, .bool g.up, .int .i64 g.t.r.v, .slice m.ak m.nk m.ck, .int .i64 g.t.r.t, .int .i64 g.t.ver, .slice m.av m.nv m.cv, .slice m.ad m.nd m.cd] 68) = W at *
  refine (unhide HL _ hw0).mono ?_
  rintro e w1 ⟨rfl, hb⟩
  replace b0 := hide (blk_below b0.out hb)
  replace hw0 := hw0.trans (hb.mono hw0.size)
  clear hb x0 x1 HL
  by_cases z1 : lchk g.ws g.fu = 0
  rotate_left
  {
  have HE := hide (gtE_1 z1)
  have hq : (lchk g.ws g.fu != 0) = true := by simpa using z1
  clear z1
  generalize lchk g.ws g.fu = q at *
  go_wp2_with fail
  go_ret
  exact ⟨ret_int HE.out.symm, hw0⟩
  }
  have E2 := hide (gtE_2 z1)
  have E3 := hide (gtE_3 z1)
  rw [z1]
  clear z1
  have x3 := blk_cell b0.out 3 _ rfl
  have x4 := blk_cell b0.out 4 _ rfl
  have x5 := blk_cell b0.out 5 _ rfl
  have x6 := blk_cell b0.out 6 _ rfl
  have x7 := blk_cell b0.out 7 _ rfl
  have x8 := blk_cell b0.out 8 _ rfl
  cases g1 : inB (m.nv : Int) 1 4
  {
  have HE := hide (E2.out (by unfold gtB; rw [Lv.out, g1]; rfl))
  go_wp2_with (go_at_call 89; refine (gWithin_any _ _ _ _).mono ?_; rintro e w' ⟨rfl, rfl⟩)
  go_ret
  exact ⟨ret_int HE.out.symm, hw0⟩
  }
  {
  by_cases z2 : m.nd = m.nv
  rotate_left
  {
  have HE := hide (E2.out (by unfold gtB; rw [Lv.out, Ld.out, g1]; simpa using z2))
  have hq : ((m.nd : Int) != (m.nv : Int)) = true := by simp; omega
  clear z2
  go_wp2_with (go_at_call 89; refine (gWithin_any _ _ _ _).mono ?_; rintro e w' ⟨rfl, rfl⟩)
  go_ret
  exact ⟨ret_int HE.out.symm, hw0⟩
  }
  {
  have HE := hide (E3.out (by unfold gtB; rw [Lv.out, Ld.out, g1]; simpa using z2))
  have hq : ((m.nd : Int) != (m.nv : Int)) = false := by simp; omega
  clear z2
  go_wp2_with (first | (go_at_call 89; refine (gWithin_any _ _ _ _).mono ?_; rintro e w' ⟨rfl, rfl⟩) | (go_at_call 91; refine (unhide HT _ hw0).mono ?_; rintro e w2 ⟨rfl, hb2⟩; replace hw0 := hw0.trans (hb2.mono hw0.size)))
  go_ret
  exact ⟨ret_int HE.out.symm, hw0⟩

  }
  }
end Go.Proofs.YtgngpmgjoifepaaGreatDoor

namespace Go.Proofs.YtgngpmgjoifepaaGreatDoor
open Go.RowKit
attribute [local go_sem ↓] Go.wp_at_zero Go.wp_at_succ

theorem trnG_2 {s : Gs} {k : Int} (h : k = 2) : trnG s k = ⟨s.n, s.v, !s.ab, s.ab, s.en⟩ := by unfold trnG; rw [if_pos h]
theorem trnG_3 {s : Gs} {k : Int} (h : k = 3) : trnG s k = ⟨s.n, s.v, s.co, !s.co, s.en⟩ := by unfold trnG; rw [if_neg (by omega), if_pos h]
theorem trnG_4 {s : Gs} {k : Int} (h : k = 4) : trnG s k = ⟨s.n, s.v, s.co, s.ab, decG s⟩ := by unfold trnG; rw [if_neg (by omega), if_neg (by omega), if_pos h]
theorem trnG_0 {s : Gs} {k : Int} (h2 : k ≠ 2) (h3 : k ≠ 3) (h4 : k ≠ 4) : trnG s k = s := by unfold trnG; rw [if_neg h2, if_neg h3, if_neg h4]

set_option maxRecDepth 100000 in
set_option maxHeartbeats 1600000 in
theorem turned_any (s : Gs) (k : Int) (w : World) : Calls Tryz.prog 144 #[gsv s, .int .i64 k] w fun e w' => e = .returned (gsv (trnG s k)) ∧ Below w.heap.size w w' := by
  unfold gsv
  by_cases z2 : k = 2
  {
  have HE := hide (trnG_2 (s := s) z2)
  subst z2
  go_enter Tryz.func144, Tryz.ntmps144
  go_wp2_with fail
  refine bodyPost_ret (v := gsv ⟨s.n, s.v, !s.ab, s.ab, s.en⟩) (by simp [results, Tryz.results144, go_sem, gsv]) rfl ?_
  rw [HE.out]
  exact ⟨rfl, by (repeat (first | exact Below.refl _ _ | refine Below.setCell ?_ (by simp) _ | refine below_new ?_ _))⟩
  }
  by_cases z3 : k = 3
  {
  have HE := hide (trnG_3 (s := s) z3)
  subst z3
  go_enter Tryz.func144, Tryz.ntmps144
  go_wp2_with fail
  refine bodyPost_ret (v := gsv ⟨s.n, s.v, s.co, !s.co, s.en⟩) (by simp [results, Tryz.results144, go_sem, gsv]) rfl ?_
  rw [HE.out]
  exact ⟨rfl, by (repeat (first | exact Below.refl _ _ | refine Below.setCell ?_ (by simp) _ | refine below_new ?_ _))⟩
  }
  by_cases z4 : k = 4
  {
  have HE := hide (trnG_4 (s := s) z4)
  subst z4
  have hw0 : Below w.heap.size w ((w.alloc (.cells #[.int .i64 s.n, .int .i64 s.v, .bool s.co, .bool s.ab, .bool s.en] 82)).alloc (.cells #[.int .i64 0, .int .i64 0, .bool false, .bool false, .bool false] 82)) := ((Below.refl _ _).alloc (Nat.le_refl _) _).alloc (by simp) _
  have b0 : Hid (((w.alloc (.cells #[.int .i64 s.n, .int .i64 s.v, .bool s.co, .bool s.ab, .bool s.en] 82)).alloc (.cells #[.int .i64 0, .int .i64 0, .bool false, .bool false, .bool false] 82)).heap[w.heap.size]? = some (.cells #[.int .i64 s.n, .int .i64 s.v, .bool s.co, .bool s.ab, .bool s.en] 82 (0, 0))) := blk_alloc (heap_alloc_last _ _) _
  have b1 : Hid (((w.alloc (.cells #[.int .i64 s.n, .int .i64 s.v, .bool s.co, .bool s.ab, .bool s.en] 82)).alloc (.cells #[.int .i64 0, .int .i64 0, .bool false, .bool false, .bool false] 82)).heap[w.heap.size + 1]? = some (.cells #[.int .i64 0, .int .i64 0, .bool false, .bool false, .bool false] 82 (0, 0))) := uLast1 _ _ _
  have HD := hide (decided_any s ((w.alloc (.cells #[.int .i64 s.n, .int .i64 s.v, .bool s.co, .bool s.ab, .bool s.en] 82)).alloc (.cells #[.int .i64 0, .int .i64 0, .bool false, .bool false, .bool false] 82)))
  unfold gsv at HD
  go_enter Tryz.func144, Tryz.ntmps144
  go_wp2_with fail
  generalize ((w.alloc (.cells #[.int .i64 s.n, .int .i64 s.v, .bool s.co, .bool s.ab, .bool s.en] 82)).alloc (.cells #[.int .i64 0, .int .i64 0, .bool false, .bool false, .bool false] 82)) = W at *
  refine (unhide HD).mono ?_
  rintro e w1 ⟨rfl, hb⟩
  replace b0 := hide (blk_below b0.out hb)
  replace b1 := hide (blk_below b1.out hb)
  replace hw0 := hw0.trans (hb.mono hw0.size)
  have x0 := blk_cell b0.out 0 _ rfl
  have y0 := blk_cell b1.out 0 _ rfl
  have f0 := blk_free b0.out 0
  have g0 := blk_free b1.out 0
  have x1 := blk_cell b0.out 1 _ rfl
  have y1 := blk_cell b1.out 1 _ rfl
  have f1 := blk_free b0.out 1
  have g1 := blk_free b1.out 1
  have x2 := blk_cell b0.out 2 _ rfl
  have y2 := blk_cell b1.out 2 _ rfl
  have f2 := blk_free b0.out 2
  have g2 := blk_free b1.out 2
  have x3 := blk_cell b0.out 3 _ rfl
  have y3 := blk_cell b1.out 3 _ rfl
  have f3 := blk_free b0.out 3
  have g3 := blk_free b1.out 3
  have x4 := blk_cell b0.out 4 _ rfl
  have y4 := blk_cell b1.out 4 _ rfl
  have f4 := blk_free b0.out 4
  have g4 := blk_free b1.out 4
  clear hb HD
  go_wp2_with fail
  refine bodyPost_ret (v := gsv ⟨s.n, s.v, s.co, s.ab, decG s⟩) (by simp [results, Tryz.results144, go_sem, gsv, y0, y1, y2, y3, y4]) rfl ?_
  rw [HE.out]
  exact ⟨rfl, (((((hw0.setCell (p := ⟨w.heap.size, 4, none⟩) (Nat.le_refl _) _).setCell (p := ⟨w.heap.size + 1, 0, none⟩) (Nat.le_succ _) _).setCell (p := ⟨w.heap.size + 1, 1, none⟩) (Nat.le_succ _) _).setCell (p := ⟨w.heap.size + 1, 2, none⟩) (Nat.le_succ _) _).setCell (p := ⟨w.heap.size + 1, 3, none⟩) (Nat.le_succ _) _).setCell (p := ⟨w.heap.size + 1, 4, none⟩) (Nat.le_succ _) _⟩
  }
  {
  have HE := hide (trnG_0 (s := s) z2 z3 z4)
  have d2 : (k == 2) = false := by simpa using z2
  have d3 : (k == 3) = false := by simpa using z3
  have d4 : (k == 4) = false := by simpa using z4
  clear z2 z3 z4
  go_enter Tryz.func144, Tryz.ntmps144
  go_wp2_with fail
  refine bodyPost_ret (v := gsv s) (by simp [results, Tryz.results144, go_sem, gsv]) rfl ?_
  rw [HE.out]
  exact ⟨rfl, by (repeat (first | exact Below.refl _ _ | refine Below.setCell ?_ (by simp) _ | refine below_new ?_ _))⟩

  }
end Go.Proofs.YtgngpmgjoifepaaGreatDoor
