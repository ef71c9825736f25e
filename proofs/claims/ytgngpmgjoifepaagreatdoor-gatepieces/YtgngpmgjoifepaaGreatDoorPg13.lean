/- Plain facts of LogApart. Plain facts for LogHolds and LogGoes: the flash behind an Append is a log, its records, and that it can be done again. The contracts of unit.within, Check, CheckMessage, is, stateOf, other, done. Gateways in memory: 'IsBools', 'BV', 'gtv', 'GIn'; a gateway's state ('gsv'). The contracts of trust.within, slices.Index and Contains at ints and at signatures, trust.CheckSigned, CheckTrust. The contracts of gate.within, decided, Check. The contract of gate.turned. -/
import Derived.Test.YtgngpmgjoifepaaGreatDoorPg12
import Derived.Test.YtgngpmgjoifepaaGreatDoorPg10
import Derived.Laws.StructEq
namespace Go.Proofs.YtgngpmgjoifepaaGreatDoor
open Go.RowKit
attribute [local go_sem ↓] Go.wp_at_zero Go.wp_at_succ

theorem prog_apart {ws words : List Int} {fuel p : Int} (h : lchk ws fuel = 0) (hp : 64 ≤ p) (he : (progS ws fuel p words).2.2 = 0 ∨ (progS ws fuel p words).2.2 = 7) : recsS (progS ws fuel p words).1 (progS ws fuel p words).2.1 = (logR ws, 0) := by
  have q := lchk_parts h
  have c := chk_parts q.1
  unfold progS at he ⊢
  rw [if_neg (by simpa using q.1)] at he ⊢
  split at he
  · simp at he
  · rename_i h1
    split at he
    · simp at he
    · rename_i h2
      rw [if_neg h1, if_neg h2]
      simp [fitB] at h1
      simp at h2
      have hle := cnt_le fuel words.length
      have bb := burn_bounds (n := words.length) c.2.1 c.2.2.1 (Nat.le_refl (cnt fuel words.length))
      have hsame : ∀ i, i < 64 → (chg (andW words) p.toNat (cnt fuel words.length) ws).getD i 0 = ws.getD i 0 := fun i hi => by
        rw [chg_get _ _ _ _ _ (by omega), if_neg (by omega)]
      have hk := lchk_ext (us := chg (andW words) p.toNat (cnt fuel words.length) ws) h (chg_length _ _ _ _) hsame (chg_ok q.2.2.2.1 h2 hle (by omega)) bb.1 bb.2
      show recsS (chg (andW words) p.toNat (cnt fuel words.length) ws) (burn fuel (cnt fuel words.length)) = _
      rw [recs_ok hk, logR_ext (chg_length _ _ _ _) hsame]

theorem recE_vals (r : List Int) : recE r = 0 ∨ recE r = 2 ∨ recE r = 3 := by
  unfold recE; split
  · simp
  · split <;> simp
theorem addE_vals (xs r : List Int) : addE xs r = 0 ∨ addE xs r = 2 ∨ addE xs r = 3 ∨ addE xs r = 8 := by
  unfold addE; split
  · have := recE_vals r; omega
  · split <;> simp
theorem laidS_vals (rs : List (List Int)) (xs : List Int) : (laidS rs xs).2 = 0 ∨ (laidS rs xs).2 = 2 ∨ (laidS rs xs).2 = 3 ∨ (laidS rs xs).2 = 8 := by
  induction rs generalizing xs with
  | nil => left; rfl
  | cons r rs ih =>
    by_cases e : addE xs r = 0
    · rw [laidS_cons_ok e]; exact ih _
    · rw [laidS_cons_no e]; exact addE_vals xs r
theorem appErr_vals {ws : List Int} {f : Int} {r : List Int} {keep : List (List Int)} (h : lchk ws f = 0) : appErr ws f r keep = 0 ∨ appErr ws f r keep = 2 ∨ appErr ws f r keep = 3 ∨ appErr ws f r keep = 8 := by
  unfold appErr
  rw [if_neg (by simpa using h)]
  split
  · have := recE_vals r; omega
  · split
    · exact laidS_vals _ _
    · split <;> simp

theorem app_done {ws : List Int} {f : Int} {r : List Int} {keep : List (List Int)} (h : lchk ws f = 0) (he : (appS ws f r keep).2.2 = 0 ∨ (appS ws f r keep).2.2 = 7) : appErr ws f r keep = 0 := by
  by_cases e : appErr ws f r keep = 0
  · exact e
  · rw [app_err e] at he
    have := appErr_vals (r := r) (keep := keep) h
    simp only at he
    omega

theorem drop_same {xs ys : List Int} (hl : xs.length = ys.length) (h : ∀ i, 64 ≤ i → xs.getD i 0 = ys.getD i 0) : xs.drop 64 = ys.drop 64 := by
  apply ext_getD (by simp [hl])
  intro i _
  have := h (64 + i) (by omega)
  simpa using this

theorem errs_false {e : Int} (h : ¬ (e = 0 ∨ e = 7)) : (e == 0) = false ∧ (e == 7) = false := by
  simp; omega

end Go.Proofs.YtgngpmgjoifepaaGreatDoor

namespace Go.Proofs.YtgngpmgjoifepaaGreatDoor
open Go.RowKit

theorem appC_ok {ws : List Int} {f : Int} {r : List Int} {keep : List (List Int)} (h : appErr ws f r keep = 0) : ∀ c ∈ appC ws r keep, ∀ b x, c.2 = some (b, x) → okW x = true := by
  intro c hc b x hx
  unfold appC at hc
  rw [List.mem_flatMap] at hc
  obtain ⟨st, hst, hc⟩ := hc
  exact stC_ok (appSteps_ok h st hst) c hc b x hx

/-- Behind the first k changes there is a log. -/
theorem part_log {ws : List Int} {f f' : Int} {r : List Int} {keep : List (List Int)} (h : appErr ws f r keep = 0) (k : Nat) (hk : k ≤ (appC ws r keep).length) (h0 : -1 ≤ f') (h1 : f' ≤ 100000) :
    lchk (applyL ((appC ws r keep).take k) ws) f' = 0 ∧ (k < (appC ws r keep).length → logR (applyL ((appC ws r keep).take k) ws) = logR ws) ∧ (k = (appC ws r keep).length → logR (applyL ((appC ws r keep).take k) ws) = logR ws ++ [r] ∨ logR (applyL ((appC ws r keep).take k) ws) = keep ++ [r]) := by
  have q := appErr_ok h
  have l := lchk_parts q.1
  have hok : okL (applyL ((appC ws r keep).take k) ws) = true := applyL_ok l.2.2.2.1 (fun c hc => appC_ok h c (List.mem_of_mem_take hc))
  have hck : chk (applyL ((appC ws r keep).take k) ws) f' = 0 := chk_of l.1 (applyL_length _ _) hok h0 h1
  by_cases c : k < (appC ws r keep).length
  · have hs := app_stay h k c
    exact ⟨lchk_mk hck (by rw [applyL_length]; exact l.2.1) (by rw [hs.2]; exact l.2.2.2.2.1) (by rw [hs.2]; exact l.2.2.2.2.2), fun _ => hs.1, fun e => by omega⟩
  · have e : k = (appC ws r keep).length := by omega
    have ht : (appC ws r keep).take k = appC ws r keep := List.take_of_length_le (by omega)
    have hn := app_new h
    rw [ht] at hck ⊢
    exact ⟨lchk_mk hck (by rw [applyL_length]; exact l.2.1) hn.2.1 hn.2.2, fun h => absurd h c, fun _ => hn.1⟩

/-- Behind an Append that is done, or lost its power. -/
theorem app_log {ws : List Int} {f : Int} {r : List Int} {keep : List (List Int)} (h : appErr ws f r keep = 0) :
    (appS ws f r keep).1.length = ws.length ∧ (-1 ≤ (appS ws f r keep).2.1 ∧ (appS ws f r keep).2.1 ≤ 100000) ∧ (∀ f', -1 ≤ f' → f' ≤ 100000 → lchk (appS ws f r keep).1 f' = 0) ∧
    ((appS ws f r keep).2.2 = 0 ∧ (logR (appS ws f r keep).1 = logR ws ++ [r] ∨ logR (appS ws f r keep).1 = keep ++ [r]) ∨ (appS ws f r keep).2.2 = 7 ∧ logR (appS ws f r keep).1 = logR ws) := by
  have q := appErr_ok h
  have l := lchk_parts q.1
  have c := chk_parts l.1
  rw [app_chg h]
  have hle := cnt_le f (appC ws r keep).length
  have bb := burn_bounds (n := (appC ws r keep).length) c.2.1 c.2.2.1 (Nat.le_refl (cnt f (appC ws r keep).length))
  refine ⟨applyL_length _ _, bb, fun f' h0 h1 => (part_log h _ hle h0 h1).1, ?_⟩
  have hp := part_log h _ hle (f' := -1) (by decide) (by decide)
  by_cases e : cnt f (appC ws r keep).length = (appC ws r keep).length
  · left
    exact ⟨perr_ok e, hp.2.2 e⟩
  · right
    exact ⟨perr_no (by omega), hp.2.1 (by omega)⟩

/-- It can be done again: or the log is at its end. -/
theorem app_again {ws us : List Int} {f : Int} {r : List Int} {keep : List (List Int)} (h : appErr ws f r keep = 0) (hu : lchk us (-1) = 0) :
    (appS us (-1) r keep).2.2 = 8 ∨ (appErr us (-1) r keep = 0 ∧ (appS us (-1) r keep).2.2 = 0) := by
  have q := appErr_ok h
  by_cases e : appErr us (-1) r keep = 0
  · right
    exact ⟨e, by rw [app_neg e]⟩
  · left
    rw [app_err e]
    show appErr us (-1) r keep = 8
    unfold appErr at e ⊢
    rw [if_neg (by simpa using hu), if_neg (by simpa using q.2.1), if_neg (by simpa using q.2.2.1)] at e ⊢
    split
    · rfl
    · rename_i hc; rw [if_neg hc] at e; exact absurd rfl e

/-- With all power, done. -/
theorem app_neg_log {ws : List Int} {r : List Int} {keep : List (List Int)} (h : appErr ws (-1) r keep = 0) :
    ∃ us, appS ws (-1) r keep = (us, -1, 0) ∧ us.length = ws.length ∧ lchk us (-1) = 0 ∧ (logR us = logR ws ++ [r] ∨ logR us = keep ++ [r]) := by
  have := app_log h
  rw [app_neg h] at this
  refine ⟨_, app_neg h, this.1, this.2.2.1 (-1) (by decide) (by decide), ?_⟩
  rcases this.2.2.2 with h | h
  · exact h.2
  · have := h.1; simp at this

/-- The last one. -/
theorem logR_last {ws : List Int} {r : List Int} {keep : List (List Int)} {us : List Int} (h : logR us = logR ws ++ [r] ∨ logR us = keep ++ [r]) : ∃ X, logR us = X ++ [r] := by
  rcases h with h | h
  · exact ⟨_, h⟩
  · exact ⟨_, h⟩

theorem logR_few {ws : List Int} (h : 64 ≤ ws.length) : (logR ws).length ≤ 31 := by
  have := parseS_few (secL ws (secN ws))
  rw [secL_length (by have := secN_01 ws; omega)] at this
  exact this

theorem keep_few_aux (rs : List (List Int)) (xs : List Int) (h : (laidS rs xs).2 = 0) : xs.length + rs.length ≤ (laidS rs xs).1.length := by
  induction rs generalizing xs with
  | nil => simp [laidS]
  | cons r rs ih =>
    by_cases e : addE xs r = 0
    · rw [laidS_cons_ok e] at h ⊢
      have := ih _ h
      simp [addL] at this ⊢
      omega
    · rw [laidS_cons_no e] at h; exact absurd h e
theorem keep_few {r : List Int} {keep : List (List Int)} (h : (laidA r keep).2 = 0) : keep.length ≤ 31 := by
  have h1 := keep_few_aux (keep ++ [r]) [] h
  have h2 : (laidS (keep ++ [r]) []).1.length ≤ 31 := laidS_few _ _ (by simp)
  simp at h1
  omega

end Go.Proofs.YtgngpmgjoifepaaGreatDoor

namespace Go.Proofs.YtgngpmgjoifepaaGreatDoor
open Go.RowKit

/-- The slice at a holds the words ws, with room. -/
structure BW (w : World) (a : Option Addr) (n c : Nat) (ws : List Int) : Prop where
  at_ : IsInts w a ws
  len : ws.length = n
  cap : n ≤ c
  max : n ≤ maxLen
theorem BW.below {w w' : World} {a : Option Addr} {n c : Nat} {ws : List Int} (h : BW w a n c ws) (hb : Below w.heap.size w w') : BW w' a n c ws := ⟨h.at_.below hb, h.len, h.cap, h.max⟩
theorem BW.bi {w : World} {a : Option Addr} {n c : Nat} {ws : List Int} (h : BW w a n c ws) : BI w a n ws := ⟨h.at_, h.len, h.max⟩
theorem BW.turns {w w' : World} {B : Nat} {a : Option Addr} {n c : Nat} {ws : List Int} (h : BW w a n c ws) (hg : w.grownBy w' (some B)) (ho : Off B a) : BW w' a n c ws := ⟨ints_turns h.at_ hg ho, h.len, h.cap, h.max⟩

theorem inB_t {n a b : Int} (h0 : a ≤ n) (h1 : n ≤ b) : inB n a b = true := by unfold inB; simp; omega
theorem inB_lo {n a b : Int} (h0 : ¬ a ≤ n) : inB n a b = false := by unfold inB; simp; omega
theorem inB_hi {n a b : Int} (h0 : ¬ n ≤ b) : inB n a b = false := by unfold inB; simp; omega

set_option maxHeartbeats 400000 in
set_option maxRecDepth 100000 in
theorem uWithin_any (n a b : Int) (w : World) : Calls Tryz.prog 54 #[.int .i64 n, .int .i64 a, .int .i64 b] w fun e w' => e = .returned (.bool (inB n a b)) ∧ w' = w := by
  by_cases h0 : a ≤ n
  · by_cases h1 : n ≤ b
    · have hd : decide (n ≤ b) = true := by simp; omega
      go_enter Tryz.func54, Tryz.ntmps54
      go_wp2
      go_ret
      exact ⟨ret_bool (inB_t h0 h1).symm, rfl⟩
    · have hd : decide (n ≤ b) = false := by simp; omega
      go_enter Tryz.func54, Tryz.ntmps54
      go_wp2
      go_ret
      exact ⟨ret_bool (inB_hi (by omega)).symm, rfl⟩
  · go_enter Tryz.func54, Tryz.ntmps54
    go_wp2
    go_ret
    exact ⟨ret_bool (inB_lo (by omega)).symm, rfl⟩

theorem unE_1 {u : Un} (h : lchk u.ws u.fu ≠ 0) : unE u = lchk u.ws u.fu := by unfold unE; rw [if_pos h]
theorem unE_2 {u : Un} (h : lchk u.ws u.fu = 0) (h2 : u.ws.length ≠ 192) : unE u = 4 := by unfold unE; rw [if_neg (by simpa using h), if_pos h2]
theorem unE_3 {u : Un} (h : lchk u.ws u.fu = 0) (h2 : u.ws.length = 192) (h3 : (inB u.n 0 8 && inB u.hv 0 40) = false) : unE u = 3 := by unfold unE; rw [if_neg (by simpa using h), if_neg (by simpa using h2), h3]; rfl
theorem unE_0 {u : Un} (h : lchk u.ws u.fu = 0) (h2 : u.ws.length = 192) (h3 : (inB u.n 0 8 && inB u.hv 0 40) = true) : unE u = 0 := by unfold unE; rw [if_neg (by simpa using h), if_neg (by simpa using h2), h3]; rfl
theorem unE_ok {u : Un} (h : unE u = 0) : lchk u.ws u.fu = 0 ∧ u.ws.length = 192 ∧ (0 ≤ u.n ∧ u.n ≤ 8) ∧ 0 ≤ u.hv ∧ u.hv ≤ 40 := by
  unfold unE at h
  split at h
  · rename_i h1; exact absurd h h1
  · rename_i h1
    split at h
    · cases h
    · rename_i h2
      split at h
      · rename_i h3
        rw [Bool.and_eq_true] at h3
        unfold inB at h3
        simp at h3 h1 h2
        exact ⟨h1, h2, h3.1, h3.2⟩
      · cases h

set_option maxHeartbeats 800000 in
set_option maxRecDepth 100000 in
theorem unitCheck_any (u : Un) (a : Option Addr) (n c : Nat) (w : World) (h : BW w a n c u.ws) :
    Calls Tryz.prog 17 #[unv u a n c] w fun e w' => e = .returned (.int .i64 (unE u)) ∧ Below w.heap.size w w' := by
  have hw0 : Below w.heap.size w (w.alloc (.cells #[.slice a n c, .int .i64 u.fu, .bool u.up, .int .i64 u.n, .int .i64 u.hv] 29)) := (Below.refl _ _).alloc (Nat.le_refl _) _
  have b0 := hide (heap_alloc_last w (.cells #[.slice a n c, .int .i64 u.fu, .bool u.up, .int .i64 u.n, .int .i64 u.hv] 29))
  have HL := hide (fun W (hW : Below w.heap.size w W) => logCheck_any a n c u.ws u.fu W (h.below hW).at_ h.len h.max)
  have L := hide h.len
  have hm := h.max
  unfold maxLen at hm
  unfold unv
  clear h
  have x0 := blk_cell b0.out 0 _ rfl
  have x1 := blk_cell b0.out 1 _ rfl
  go_enter Tryz.func17, Tryz.ntmps17
  go_wp2_with fail
  generalize w.alloc (.cells #[.slice a n c, .int .i64 u.fu, .bool u.up, .int .i64 u.n, .int .i64 u.hv] 29) = W at *
  refine (unhide HL _ hw0).mono ?_
  rintro e w1 ⟨rfl, hb⟩
  replace b0 := hide (blk_below b0.out hb)
  replace hw0 := hw0.trans (hb.mono hw0.size)
  clear hb x0 x1 HL
  by_cases z1 : lchk u.ws u.fu = 0
  rotate_left
  · have HE := hide (unE_1 z1)
    have hq : (lchk u.ws u.fu != 0) = true := by simpa using z1
    clear z1
    generalize lchk u.ws u.fu = q at *
    go_wp2_with fail
    go_ret
    exact ⟨ret_int HE.out.symm, hw0⟩
  have E2 := hide (unE_2 z1)
  have E3 := hide (unE_3 z1)
  have E0 := hide (unE_0 z1)
  rw [z1]
  clear z1
  have x0 := blk_cell b0.out 0 _ rfl
  have x3 := blk_cell b0.out 3 _ rfl
  have x4 := blk_cell b0.out 4 _ rfl
  by_cases z2 : n = 192
  rotate_left
  · have HE := hide (E2.out (by rw [L.out]; exact z2))
    have hq : ((n : Int) != 192) = true := by simp; omega
    clear z2
    go_wp2_with fail
    go_ret
    exact ⟨ret_int HE.out.symm, hw0⟩
  have hq : ((n : Int) != 192) = false := by simp; omega
  have hl := L.out.trans z2
  replace E3 := hide (E3.out hl)
  replace E0 := hide (E0.out hl)
  clear z2 hl
  cases g1 : inB u.n 0 8
  · have HE := hide (E3.out (by rw [g1]; rfl))
    go_wp2_with (go_at_call 54; refine (uWithin_any _ _ _ _).mono ?_; rintro e w' ⟨rfl, rfl⟩)
    go_ret
    exact ⟨ret_int HE.out.symm, hw0⟩
  · cases g2 : inB u.hv 0 40
    · have HE := hide (E3.out (by rw [g1, g2]; rfl))
      go_wp2_with (go_at_call 54; refine (uWithin_any _ _ _ _).mono ?_; rintro e w' ⟨rfl, rfl⟩)
      go_ret
      exact ⟨ret_int HE.out.symm, hw0⟩
    · have HE := hide (E0.out (by rw [g1, g2]; rfl))
      go_wp2_with (go_at_call 54; refine (uWithin_any _ _ _ _).mono ?_; rintro e w' ⟨rfl, rfl⟩)
      go_ret
      exact ⟨ret_int HE.out.symm, hw0⟩

theorem msE_bad {m : Ms} (h : msB m = false) : msE m = 3 := by unfold msE; rw [h]; rfl
theorem msE_ok {m : Ms} (h : msB m = true) : msE m = 0 := by unfold msE; rw [h]; rfl

set_option maxHeartbeats 1600000 in
set_option maxRecDepth 100000 in
theorem checkMessage_any (m : Ms) (a : Option Addr) (n c : Nat) (w : World) (h : BI w a n m.ws) :
    Calls Tryz.prog 18 #[msv m a n c] w fun e w' => e = .returned (.int .i64 (msE m)) ∧ Below w.heap.size w w' := by
  have hw0 : Below w.heap.size w (w.alloc (.cells #[.int .i64 m.k, .int .i64 m.u, .int .i64 m.n, .int .i64 m.at', .int .i64 m.im, .slice a n c, .bool m.y] 31)) := (Below.refl _ _).alloc (Nat.le_refl _) _
  have HA := hide (allWords_any a n c m.ws _ (h.below hw0).at_ h.len h.max)
  have L := hide h.len
  have hm := h.max
  unfold maxLen at hm
  unfold msv
  clear h
  have hB : Hid (∀ b, msB m = b → b = false → msE m = 3) := fun b h1 h2 => msE_bad (h1.trans h2)
  unfold msB at hB
  cases g1 : inB m.k 1 7
  · have HE := hide (hB.out _ rfl (by rw [g1]; rfl))
    go_enter Tryz.func18, Tryz.ntmps18
    go_wp2_with (go_at_call 54; refine (uWithin_any _ _ _ _).mono ?_; rintro e w' ⟨rfl, rfl⟩)
    go_ret
    exact ⟨ret_int HE.out.symm, hw0⟩
  cases g2 : inB m.u 0 3
  · have HE := hide (hB.out _ rfl (by rw [g1, g2]; rfl))
    go_enter Tryz.func18, Tryz.ntmps18
    go_wp2_with (go_at_call 54; refine (uWithin_any _ _ _ _).mono ?_; rintro e w' ⟨rfl, rfl⟩)
    go_ret
    exact ⟨ret_int HE.out.symm, hw0⟩
  cases g3 : inB m.n 1 8
  · have HE := hide (hB.out _ rfl (by rw [g1, g2, g3]; rfl))
    go_enter Tryz.func18, Tryz.ntmps18
    go_wp2_with (go_at_call 54; refine (uWithin_any _ _ _ _).mono ?_; rintro e w' ⟨rfl, rfl⟩)
    go_ret
    exact ⟨ret_int HE.out.symm, hw0⟩
  cases g4 : inB m.at' 0 40
  · have HE := hide (hB.out _ rfl (by rw [g1, g2, g3, g4]; rfl))
    go_enter Tryz.func18, Tryz.ntmps18
    go_wp2_with (go_at_call 54; refine (uWithin_any _ _ _ _).mono ?_; rintro e w' ⟨rfl, rfl⟩)
    go_ret
    exact ⟨ret_int HE.out.symm, hw0⟩
  cases g5 : inB m.im 0 60
  · have HE := hide (hB.out _ rfl (by rw [g1, g2, g3, g4, g5]; rfl))
    go_enter Tryz.func18, Tryz.ntmps18
    go_wp2_with (go_at_call 54; refine (uWithin_any _ _ _ _).mono ?_; rintro e w' ⟨rfl, rfl⟩)
    go_ret
    exact ⟨ret_int HE.out.symm, hw0⟩
  by_cases g6 : n ≤ 8
  rotate_left
  · have HE := hide (hB.out _ rfl (by rw [g1, g2, g3, g4, g5, L.out]; simp [g6]))
    have d6 : decide ((n : Int) ≤ 8) = false := by simp; omega
    clear g6
    go_enter Tryz.func18, Tryz.ntmps18
    go_wp2_with (go_at_call 54; refine (uWithin_any _ _ _ _).mono ?_; rintro e w' ⟨rfl, rfl⟩)
    go_ret
    exact ⟨ret_int HE.out.symm, hw0⟩
  have d6 : decide ((n : Int) ≤ 8) = true := by simp; omega
  cases g7 : okL m.ws
  · have HE := hide (hB.out _ rfl (by rw [g1, g2, g3, g4, g5, g7]; simp))
    rw [g7] at HA
    clear g6
    go_enter Tryz.func18, Tryz.ntmps18
    go_wp2_with (first | (go_at_call 54; refine (uWithin_any _ _ _ _).mono ?_; rintro e w' ⟨rfl, rfl⟩) | (go_at_call 66; refine (unhide HA).mono ?_; rintro e w' ⟨rfl, rfl⟩))
    go_ret
    exact ⟨ret_int HE.out.symm, hw0⟩
  · have HE := hide (msE_ok (m := m) (by unfold msB; rw [g1, g2, g3, g4, g5, g7, L.out]; simp [g6]))
    rw [g7] at HA
    clear g6
    go_enter Tryz.func18, Tryz.ntmps18
    go_wp2_with (first | (go_at_call 54; refine (uWithin_any _ _ _ _).mono ?_; rintro e w' ⟨rfl, rfl⟩) | (go_at_call 66; refine (unhide HA).mono ?_; rintro e w' ⟨rfl, rfl⟩))
    go_ret
    exact ⟨ret_int HE.out.symm, hw0⟩

set_option maxHeartbeats 400000 in
set_option maxRecDepth 100000 in
theorem unitIs_any (a : Option Addr) (n c : Nat) (r : List Int) (k : Int) (l : Nat) (w : World) (h : IsInts w a r) (hn : r.length = n) (hm : n ≤ maxLen) (h0 : 0 < l) (hl : l ≤ 10) :
    Calls Tryz.prog 119 #[.slice a n c, .int .i64 k, .int .i64 l] w fun e w' => e = .returned (.bool (isR r k l)) ∧ w' = w := by
  unfold maxLen at hm
  by_cases h1 : n = l
  rotate_left
  · have HE := hide (show isR r k l = false by unfold isR; rw [hn]; simp [h1])
    have d1 : ((n : Int) == (l : Int)) = false := by simp; omega
    clear hn h1
    go_enter Tryz.func119, Tryz.ntmps119
    go_wp2
    go_ret
    exact ⟨ret_bool HE.out.symm, rfl⟩
  · have d1 : ((n : Int) == (l : Int)) = true := by simp; omega
    rcases h with e | ⟨b, off, rfl, hc⟩
    · rw [e] at hn; simp at hn; omega
    have e0 := hc 0 (by omega)
    rw [Nat.add_zero] at e0
    have hlt : (0 : Int) < (n : Int) := by omega
    by_cases h2 : r.getD 0 0 = k
    · have HE := hide (show isR r k l = true by unfold isR; rw [hn]; simp only [h1, h2]; simp)
      have d2 : (r.getD 0 0 == k) = true := by simpa using h2
      clear hn h1 hc h2
      generalize r.getD 0 0 = r0 at *
      go_enter Tryz.func119, Tryz.ntmps119
      go_wp2
      go_ret
      exact ⟨ret_bool HE.out.symm, rfl⟩
    · have HE := hide (show isR r k l = false by unfold isR; simp only [decide_eq_false h2, Bool.and_false])
      have d2 : (r.getD 0 0 == k) = false := by simpa using h2
      clear hn h1 hc h2
      generalize r.getD 0 0 = r0 at *
      go_enter Tryz.func119, Tryz.ntmps119
      go_wp2
      go_ret
      exact ⟨ret_bool HE.out.symm, rfl⟩

set_option maxHeartbeats 400000 in
set_option maxRecDepth 100000 in
theorem other_any (s : Us) (w : World) (h0 : 0 ≤ s.slot) (h1 : s.slot ≤ 1) : Calls Tryz.prog 155 #[.agg #[.int .i64 s.slot, .int .i64 s.by', .int .i64 s.rdy]] w fun e w' => e = .returned (.int .i64 (oth s)) ∧ Below w.heap.size w w' := by
  have hw0 : Below w.heap.size w (w.alloc (.cells #[.int .i64 s.slot, .int .i64 s.by', .int .i64 s.rdy] 40)) := (Below.refl _ _).alloc (Nat.le_refl _) _
  go_enter Tryz.func155, Tryz.ntmps155
  go_wp2
  go_ret
  exact ⟨rfl, hw0⟩

/-- What a call that answers one message without words hands back. -/
def OneM (w : World) (m : Ms) (e : Ending) (w' : World) : Prop := (∃ b, e = .returned (.slice (some ⟨b, 0, none⟩) 1 1) ∧ IsMsgs w' (some ⟨b, 0, none⟩) [m] ∧ w.heap.size ≤ b) ∧ Below w.heap.size w w'

set_option maxHeartbeats 400000 in
set_option maxRecDepth 100000 in
theorem done_any (m : Ms) (a : Option Addr) (n c : Nat) (w : World) : Calls Tryz.prog 157 #[msv m a n c] w (OneM w (doneM m)) := by
  have hw0 : Below w.heap.size w (w.alloc (.cells #[.int .i64 m.k, .int .i64 m.u, .int .i64 m.n, .int .i64 m.at', .int .i64 m.im, .slice a n c, .bool m.y] 31)) := (Below.refl _ _).alloc (Nat.le_refl _) _
  unfold msv
  go_enter Tryz.func157, Tryz.ntmps157
  go_wp2
  go_ret
  exact ⟨⟨_, rfl, isMsgs_one (m := doneM m) rfl (uLast1 _ _ _), by simp⟩, hw0.alloc hw0.size _⟩

end Go.Proofs.YtgngpmgjoifepaaGreatDoor

namespace Go.Proofs.YtgngpmgjoifepaaGreatDoor
open Go.RowKit

/-- The slice at 'a' of length 'bs.length' holds the truths 'bs'. -/
def IsBools (w : World) (a : Option Addr) (bs : List Bool) : Prop :=
  bs = [] ∨ ∃ b off, a = some ⟨b, off, none⟩ ∧ ∀ i, i < bs.length → w.cell? ⟨b, off + i, none⟩ = some (.bool (bs.getD i false))
theorem IsBools.below {w w' : World} {a : Option Addr} {bs : List Bool} (h : IsBools w a bs) (hb : Below w.heap.size w w') : IsBools w' a bs := by
  rcases h with h | ⟨b, off, rfl, hc⟩
  · exact .inl h
  · exact .inr ⟨b, off, rfl, fun i hi => by rw [hb.cell (cell_lt (hc i hi))]; exact hc i hi⟩
/-- .. with its length. -/
structure BV (w : World) (a : Option Addr) (n c : Nat) (bs : List Bool) : Prop where
  at_ : IsBools w a bs
  len : bs.length = n
  cap : n ≤ c
  max : n ≤ maxLen
theorem BV.below {w w' : World} {a : Option Addr} {n c : Nat} {bs : List Bool} (h : BV w a n c bs) (hb : Below w.heap.size w w') : BV w' a n c bs := ⟨h.at_.below hb, h.len, h.cap, h.max⟩

/-- Where a gateway's lists lie: its words, keys, who voted, who did. -/
structure GA where
  a : Option Addr
  n : Nat
  c : Nat
  ak : Option Addr
  nk : Nat
  ck : Nat
  av : Option Addr
  nv : Nat
  cv : Nat
  ad : Option Addr
  nd : Nat
  cd : Nat
def gtC (g : Gt) (m : GA) : Array Value := #[.slice m.a m.n m.c, .int .i64 g.fu, .bool g.up, .int .i64 g.t.r.v, .slice m.ak m.nk m.ck, .int .i64 g.t.r.t, .int .i64 g.t.ver, .slice m.av m.nv m.cv, .slice m.ad m.nd m.cd]
def gtv (g : Gt) (m : GA) : Value := .agg #[.slice m.a m.n m.c, .int .i64 g.fu, .bool g.up, .int .i64 g.t.r.v, .slice m.ak m.nk m.ck, .int .i64 g.t.r.t, .int .i64 g.t.ver, .slice m.av m.nv m.cv, .slice m.ad m.nd m.cd]
def gtO (g : Gt) (m : GA) : Obj := .cells #[.slice m.a m.n m.c, .int .i64 g.fu, .bool g.up, .int .i64 g.t.r.v, .slice m.ak m.nk m.ck, .int .i64 g.t.r.t, .int .i64 g.t.ver, .slice m.av m.nv m.cv, .slice m.ad m.nd m.cd] 68 (0, 0)
theorem BI.turns {w w' : World} {B : Nat} {a : Option Addr} {n : Nat} {xs : List Int} (h : BI w a n xs) (hg : w.grownBy w' (some B)) (ho : Off B a) : BI w' a n xs := ⟨ints_turns h.at_ hg ho, h.len, h.max⟩
/-- What is known of a gateway that comes in. -/
structure GIn (w : World) (m : GA) (g : Gt) : Prop where
  ws : BW w m.a m.n m.c g.ws
  ks : BI w m.ak m.nk g.t.r.ks
  vo : BV w m.av m.nv m.cv g.vo
  di : BV w m.ad m.nd m.cd g.di
theorem GIn.below {w w' : World} {m : GA} {g : Gt} (h : GIn w m g) (hb : Below w.heap.size w w') : GIn w' m g := ⟨h.ws.below hb, h.ks.below hb, h.vo.below hb, h.di.below hb⟩

def gsv (s : Gs) : Value := .agg #[.int .i64 s.n, .int .i64 s.v, .bool s.co, .bool s.ab, .bool s.en]
def gsO (s : Gs) : Obj := .cells #[.int .i64 s.n, .int .i64 s.v, .bool s.co, .bool s.ab, .bool s.en] 82 (0, 0)

theorem gtE_1 {g : Gt} (h : lchk g.ws g.fu ≠ 0) : gtE g = lchk g.ws g.fu := by unfold gtE; rw [if_pos h]
theorem gtE_2 {g : Gt} (h : lchk g.ws g.fu = 0) (h2 : gtB g = false) : gtE g = 4 := by unfold gtE; rw [if_neg (by simpa using h), if_neg (by rw [h2]; decide)]
theorem gtE_3 {g : Gt} (h : lchk g.ws g.fu = 0) (h2 : gtB g = true) : gtE g = trE g.t := by unfold gtE; rw [if_neg (by simpa using h), if_pos h2]
theorem gtE_ok {g : Gt} (h : gtE g = 0) : lchk g.ws g.fu = 0 ∧ (1 ≤ g.vo.length ∧ g.vo.length ≤ 4) ∧ g.di.length = g.vo.length ∧ trE g.t = 0 := by
  rcases Decidable.em (lchk g.ws g.fu = 0) with h1 | h1
  · cases h2 : gtB g
    · rw [gtE_2 h1 h2] at h; cases h
    · rw [gtE_3 h1 h2] at h
      unfold gtB inB at h2
      simp at h2
      exact ⟨h1, ⟨by omega, by omega⟩, h2.2, h⟩
  · rw [gtE_1 h1] at h; exact absurd h h1

end Go.Proofs.YtgngpmgjoifepaaGreatDoor

namespace Go.Proofs.YtgngpmgjoifepaaGreatDoor
open Go.RowKit

set_option maxHeartbeats 400000 in
set_option maxRecDepth 100000 in
theorem tWithin_any (n a b : Int) (w : World) : Calls Tryz.prog 145 #[.int .i64 n, .int .i64 a, .int .i64 b] w fun e w' => e = .returned (.bool (inR n a b)) ∧ w' = w := by
  by_cases h0 : a ≤ n
  · by_cases h1 : n ≤ b
    · have hd : decide (n ≤ b) = true := by simp; omega
      go_enter Tryz.func145, Tryz.ntmps145
      go_wp2
      go_ret
      exact ⟨ret_bool (inR_t h0 h1).symm, rfl⟩
    · have hd : decide (n ≤ b) = false := by simp; omega
      go_enter Tryz.func145, Tryz.ntmps145
      go_wp2
      go_ret
      exact ⟨ret_bool (inR_hi (by omega)).symm, rfl⟩
  · go_enter Tryz.func145, Tryz.ntmps145
    go_wp2
    go_ret
    exact ⟨ret_bool (inR_lo (by omega)).symm, rfl⟩

/-! ### Is it among them? -/

theorem has_hit {α : Type} [DecidableEq α] {xs : List α} {x : α} {k : Nat} (hk : k < xs.length) (h : x = xs[k]) : has xs x = true := by
  unfold has
  rw [h]
  simp
theorem has_not {α : Type} [DecidableEq α] {xs : List α} {x : α} (h : x ∉ xs) : has xs x = false := by
  unfold has
  simp [h]
theorem not_step {α : Type} {xs : List α} {x : α} {k : Nat} (hk : k < xs.length) (h : x ∉ xs.take k) (hne : ¬ x = xs[k]) : x ∉ xs.take (k + 1) := by
  rw [List.take_succ_eq_append_getElem hk]
  simp only [List.mem_append, List.mem_singleton, not_or]
  exact ⟨h, hne⟩

set_option maxHeartbeats 400000 in
set_option maxRecDepth 100000 in
theorem index_ints (a : Option Addr) (n c : Nat) (xs : List Int) (x : Int) (w : World) (h : BI w a n xs) :
    Calls Tryz.prog 229 #[.slice a n c, .int .i64 x] w fun e w' => (∃ q : Int, e = .returned (.int .i64 q) ∧ decide (0 ≤ q) = has xs x) ∧ w' = w := by
  obtain ⟨h, hn, hm⟩ := h
  unfold maxLen at hm
  have HN : Hid (xs.length = n) := hn
  go_enter Tryz.func229, Tryz.ntmps229
  go_wp2
  go_loop [8] (fun i => ∃ k : Nat, k ≤ n ∧ i = .int .i64 k ∧ Hid (x ∉ xs.take k)) (fun i => n - (intOf i).toNat)
  case atStart => exact ⟨0, Nat.zero_le _, rfl, by show _ ∉ _; simp⟩
  case round =>
    obtain ⟨k, hk, rfl, ht⟩ := hrel
    by_cases hlt : k < n
    · rcases h with rfl | ⟨b0, o0, rfl, hc0⟩
      · simp at hn; omega
      have hkx : k < xs.length := by omega
      have e0 := hc0 k hkx
      rw [show xs.getD k 0 = xs[k] by simp [hkx]] at e0
      clear hn hc0
      by_cases he : x = xs[k]
      · have hb : (x == xs[k]) = true := by simpa using he
        have HE := hide (has_hit hkx he)
        clear he
        generalize xs[k] = y at *
        go_wp2
        go_ret
        exact ⟨⟨_, rfl, by rw [HE.out]; simp⟩, rfl⟩
      · have hb : (x == xs[k]) = false := by simpa using he
        have HE := hide (not_step hkx ht.out he)
        clear he
        generalize xs[k] = y at *
        go_wp2
        go_round
        case rel => exact ⟨k + 1, by omega, by go_num, HE.out⟩
        case measure => simp [intOf]; omega
    · go_wp2
      go_ret
      have hx := ht.out
      rw [List.take_of_length_le (by omega)] at hx
      exact ⟨⟨-1, rfl, by rw [has_not hx]; rfl⟩, rfl⟩

set_option maxHeartbeats 400000 in
set_option maxRecDepth 100000 in
theorem contains_ints (a : Option Addr) (n c : Nat) (xs : List Int) (x : Int) (w : World) (h : BI w a n xs) :
    Calls Tryz.prog 221 #[.slice a n c, .int .i64 x] w fun e w' => e = .returned (.bool (has xs x)) ∧ w' = w := by
  have hc := hide (index_ints a n c xs x w h)
  clear h
  generalize has xs x = r at *
  go_enter Tryz.func221, Tryz.ntmps221
  go_wp2_with fail
  refine (unhide hc).mono ?_
  rintro e w' ⟨⟨q, rfl, hq⟩, rfl⟩
  go_wp2
  go_ret
  exact ⟨rfl, rfl⟩

set_option maxRecDepth 100000 in
theorem sig_guard : Tryz.prog.eqGuardType Tryz.prog.depth 188 = false := by kernel_rfl

set_option maxHeartbeats 800000 in
set_option maxRecDepth 100000 in
theorem index_sigs (a : Option Addr) (n c : Nat) (l : List S2) (s : S2) (w : World) (h : BG w a n l) :
    Calls Tryz.prog 230 #[.slice a n c, sv s] w fun e w' => (∃ q : Int, e = .returned (.int .i64 q) ∧ decide (0 ≤ q) = has l s) ∧ Below w.heap.size w w' := by
  obtain ⟨h, hn, hm⟩ := h
  unfold maxLen at hm
  have HN := hide hn
  have hg := sig_guard
  have hw0 : Below w.heap.size w (w.alloc (.cells #[.int .i64 s.1, .int .i64 s.2] 188)) := (Below.refl _ _).alloc (Nat.le_refl _) _
  have b0 := heap_alloc_last w (.cells #[.int .i64 s.1, .int .i64 s.2] 188)
  have y0 := blk_cell b0 0 _ rfl
  have y1 := blk_cell b0 1 _ rfl
  have i0 := h.below hw0
  unfold sv
  clear hn b0 h
  go_enter Tryz.func230, Tryz.ntmps230
  go_wp2
  generalize w.alloc (.cells #[.int .i64 s.1, .int .i64 s.2] 188) = W at *
  go_loopw [8] (fun i wr => ∃ k : Nat, k ≤ n ∧ i = .int .i64 k ∧ Hid (s ∉ l.take k) ∧ ∃ m, wr = W.drewN m) (fun i _ => n - (intOf i).toNat)
  case atStart => exact ⟨0, Nat.zero_le _, rfl, by show _ ∉ _; simp, 0, rfl⟩
  case round =>
    obtain ⟨k, hk, rfl, ht, m, rfl⟩ := hrel
    by_cases hlt : k < n
    · rcases i0 with rfl | ⟨bb, oo, rfl, hc0⟩
      · have := HN.out
        simp at this
        omega
      have hkx : k < l.length := by rw [HN.out]; exact hlt
      obtain ⟨p0, p1⟩ := hc0 k l[k] (List.getElem?_eq_getElem hkx)
      clear hc0
      by_cases he : s = l[k]
      · have HE := hide (has_hit hkx he)
        rw [← he] at p0 p1
        clear he
        go_wp2
        go_quiet (fail)
        go_wp2
        go_ret
        exact ⟨⟨_, rfl, by rw [HE.out]; simp⟩, below_drewN (below_drewN hw0 _) _⟩
      · have HE := hide (not_step hkx ht.out he)
        generalize l[k] = y at *
        obtain ⟨s0, s1⟩ := s
        obtain ⟨z0, z1⟩ := y
        simp only at p0 p1 y0 y1
        by_cases d0 : s0 = z0
        · have d1 : ¬ s1 = z1 := fun e => he (by rw [d0, e])
          subst d0
          clear he
          go_wp2
          go_quiet (fail)
          go_wp2
          go_roundw
          case rel => exact ⟨k + 1, by omega, by go_num, HE.out, m + nq, rfl⟩
          case measure => simp [intOf]; omega
        · clear he
          go_wp2
          go_quiet (fail)
          go_wp2
          go_roundw
          case rel => exact ⟨k + 1, by omega, by go_num, HE.out, m + nq, rfl⟩
          case measure => simp [intOf]; omega
    · go_wp2
      go_ret
      have hx := ht.out
      rw [List.take_of_length_le (by rw [HN.out]; omega)] at hx
      exact ⟨⟨-1, rfl, by rw [has_not hx]; rfl⟩, below_drewN hw0 _⟩

set_option maxHeartbeats 400000 in
set_option maxRecDepth 100000 in
theorem contains_sigs (a : Option Addr) (n c : Nat) (l : List S2) (s : S2) (w : World) (h : BG w a n l) :
    Calls Tryz.prog 222 #[.slice a n c, sv s] w fun e w' => e = .returned (.bool (has l s)) ∧ Below w.heap.size w w' := by
  have hc := hide (fun W hW => index_sigs a n c l s W hW)
  have hw0 : Below w.heap.size w (w.alloc (.cells #[.int .i64 s.1, .int .i64 s.2] 188)) := (Below.refl _ _).alloc (Nat.le_refl _) _
  have i0 := h.below hw0
  clear h
  generalize has l s = r at *
  unfold sv at hc ⊢
  go_enter Tryz.func222, Tryz.ntmps222
  go_wp2_with fail
  generalize w.alloc (.cells #[.int .i64 s.1, .int .i64 s.2] 188) = W at *
  refine (unhide hc _ i0).mono ?_
  rintro e w' ⟨⟨q, rfl, hq⟩, hb⟩
  go_wp2
  go_ret
  exact ⟨rfl, hw0.trans (hb.mono hw0.size)⟩

/-! ### The checks -/

set_option maxHeartbeats 800000 in
set_option maxRecDepth 100000 in
theorem checkSigned_any (a : Option Addr) (n c : Nat) (l : List S2) (w : World) (h : BG w a n l) :
    Calls Tryz.prog 220 #[.slice a n c] w fun e w' => e = .returned (.int .i64 (sigE l)) ∧ Below w.heap.size w w' := by
  obtain ⟨h, hn, hm⟩ := h
  unfold maxLen at hm
  have HN := hide hn
  by_cases h1 : 360 < n
  · have HE := hide (sigE_many (l := l) (by omega))
    clear hn
    go_enter Tryz.func220, Tryz.ntmps220
    go_wp2_with fail
    go_ret
    exact ⟨ret_int HE.out.symm, Below.refl _ _⟩
  · have hle := hide (show l.length ≤ 360 by omega)
    clear hn
    go_enter Tryz.func220, Tryz.ntmps220
    go_wp2_with fail
    go_loopw [10] (fun i wr => ∃ k : Nat, k ≤ n ∧ i = .int .i64 k ∧ Below w.heap.size w wr ∧ Hid ((l.take k).all sOK = true)) (fun i _ => n - (intOf i).toNat)
    case atStart => exact ⟨0, Nat.zero_le _, rfl, Below.refl _ _, by show _ = _; simp⟩
    case round =>
      obtain ⟨wq, rfl⟩ : ∃ wq : World, wq = wr := ⟨_, rfl⟩
      obtain ⟨k, hk, rfl, hw, ht⟩ := hrel
      by_cases hlt : k < n
      · have i1 := h.below hw
        rcases i1 with rfl | ⟨b0, o0, rfl, hc0⟩
        · have := HN.out
          simp at this
          omega
        have hkx : k < l.length := by rw [HN.out]; exact hlt
        obtain ⟨e0, e1⟩ := hc0 k l[k] (List.getElem?_eq_getElem hkx)
        clear hc0
        have hw1 := hw.alloc hw.size (.cells #[.int .i64 l[k].1, .int .i64 l[k].2] 188)
        have HB := hide (sigE_bad hle.out hkx)
        have HX := hide (sOK_step hkx ht.out)
        generalize l[k] = s at *
        cases g1 : inR s.1 1 50
        · have HV := hide (HB.out (by unfold sOK; rw [g1]; rfl))
          go_wp2_with (go_at_call 145; refine (tWithin_any _ _ _ _).mono ?_; rintro e w' ⟨rfl, rfl⟩)
          go_ret
          exact ⟨ret_int HV.out.symm, hw1⟩
        · cases g2 : inR s.2 1 60
          · have HV := hide (HB.out (by unfold sOK; rw [g1, g2]; rfl))
            go_wp2_with (go_at_call 145; refine (tWithin_any _ _ _ _).mono ?_; rintro e w' ⟨rfl, rfl⟩)
            go_ret
            exact ⟨ret_int HV.out.symm, hw1⟩
          · have HV := hide (HX.out (by unfold sOK; rw [g1, g2]; rfl))
            go_wp2_with (go_at_call 145; refine (tWithin_any _ _ _ _).mono ?_; rintro e w' ⟨rfl, rfl⟩)
            go_roundw
            case rel => exact ⟨k + 1, by omega, by go_num, hw1, HV.out⟩
            case measure => simp [intOf]; omega
      · go_wp2_with fail
        go_ret
        have hx := ht.out
        rw [List.take_of_length_le (by rw [HN.out]; omega)] at hx
        exact ⟨ret_int (sigE_ok hle.out hx).symm, hw⟩

theorem trE_bad {t : Tr} (h : inR t.ver 0 1000 = false) : trE t = 3 := by unfold trE; rw [h]; rfl
theorem trE_go {t : Tr} (h : inR t.ver 0 1000 = true) : trE t = t.r.e := by unfold trE; rw [h]; rfl

set_option maxHeartbeats 800000 in
set_option maxRecDepth 100000 in
theorem checkTrust_any (t : Tr) (a : Option Addr) (n c : Nat) (w : World) (h : BI w a n t.r.ks) :
    Calls Tryz.prog 91 #[trv t.r.v a n c t.r.t t.ver] w fun e w' => e = .returned (.int .i64 (trE t)) ∧ Below w.heap.size w w' := by
  have hw0 : Below w.heap.size w (w.alloc (.cells #[.int .i64 t.r.v, .slice a n c, .int .i64 t.r.t, .int .i64 t.ver] 65)) := (Below.refl _ _).alloc (Nat.le_refl _) _
  have i0 := h.below hw0
  have HK := hide (fun W (hW : BI W a n t.r.ks) => checkRoot_any t.r.v a n c t.r.t t.r.ks W hW.at_ hW.len hW.max)
  unfold rv at HK
  unfold trv
  cases h1 : inR t.ver 0 1000
  · have HE := hide (trE_bad h1)
    go_enter Tryz.func91, Tryz.ntmps91
    go_wp2_with (go_at_call 145; refine (tWithin_any _ _ _ _).mono ?_; rintro e w' ⟨rfl, rfl⟩)
    go_ret
    exact ⟨ret_int HE.out.symm, hw0⟩
  · have HE := hide (trE_go h1)
    go_enter Tryz.func91, Tryz.ntmps91
    go_wp2_with (first | (go_at_call 145; refine (tWithin_any _ _ _ _).mono ?_; rintro e w' ⟨rfl, rfl⟩) | (go_at_call 146; refine (HK.out _ i0).mono ?_; rintro e w1 ⟨rfl, hb1⟩))
    go_ret
    exact ⟨ret_int HE.out.symm, hw0.trans (hb1.mono hw0.size)⟩

end Go.Proofs.YtgngpmgjoifepaaGreatDoor

namespace Go.Proofs.YtgngpmgjoifepaaGreatDoor
open Go.RowKit
attribute [local go_sem ↓] Go.wp_at_zero Go.wp_at_succ

set_option maxHeartbeats 400000 in
theorem gWithin_any (n a b : Int) (w : World) : Calls Tryz.prog 89 #[.int .i64 n, .int .i64 a, .int .i64 b] w fun e w' => e = .returned (.bool (inB n a b)) ∧ w' = w := by
  by_cases h0 : a ≤ n
  · by_cases h1 : n ≤ b
    · go_enter Tryz.func89, Tryz.ntmps89
      go_wp2
      go_ret
      exact ⟨ret_bool (inB_t h0 h1).symm, rfl⟩
    · have hd : decide (n ≤ b) = false := by simpa using h1
      go_enter Tryz.func89, Tryz.ntmps89
      go_wp2
      go_ret
      exact ⟨ret_bool (inB_hi (by omega)).symm, rfl⟩
  · go_enter Tryz.func89, Tryz.ntmps89
    go_wp2
    go_ret
    exact ⟨ret_bool (inB_lo (by omega)).symm, rfl⟩

set_option maxHeartbeats 400000 in
theorem decided_any (s : Gs) (w : World) : Calls Tryz.prog 87 #[gsv s] w fun e w' => e = .returned (.bool (decG s)) ∧ Below w.heap.size w w' := by
  unfold gsv decG
  cases h : s.co
  · go_enter Tryz.func87, Tryz.ntmps87
    go_wp2
    go_ret
    exact ⟨ret_bool (by simp), (Below.refl _ _).alloc (Nat.le_refl _) _⟩
  · go_enter Tryz.func87, Tryz.ntmps87
    go_wp2
    go_ret
    exact ⟨ret_bool (by simp), (Below.refl _ _).alloc (Nat.le_refl _) _⟩

set_option maxHeartbeats 1600000 in
set_option maxRecDepth 100000 in
theorem gateCheck_any (g : Gt) (m : GA) (w : World) (h : GIn w m g) :
    Calls Tryz.prog 37 #[gtv g m] w fun e w' => e = .returned (.int .i64 (gtE g)) ∧ Below w.heap.size w w' := by
  have hw0 : Below w.heap.size w (w.alloc (.cells (gtC g m) 68)) := (Below.refl _ _).alloc (Nat.le_refl _) _
  have b0 := hide (heap_alloc_last w (.cells (gtC g m) 68))
  have HL := hide (fun W (hW : Below w.heap.size w W) => logCheck_any m.a m.n m.c g.ws g.fu W (h.ws.below hW).at_ h.ws.len h.ws.max)
  have HT := hide (fun W (hW : Below w.heap.size w W) => checkTrust_any g.t m.ak m.nk m.ck W (h.ks.below hW))
  unfold trv at HT
  have Lv := hide h.vo.len
  have Ld := hide h.di.len
  have hv := h.vo.max
  have hd := h.di.max
  unfold maxLen at hv hd
  unfold gtv
  unfold gtC at hw0 b0
  clear h
  have x0 := blk_cell b0.out 0 _ rfl
  have x1 := blk_cell b0.out 1 _ rfl
  go_enter Tryz.func37, Tryz.ntmps37
  go_wp2_with fail
  generalize w.alloc (.cells #[.slice m.a m.n m.c, .int .i64 g.fu, .bool g.up, .int .i64 g.t.r.v, .slice m.ak m.nk m.ck, .int .i64 g.t.r.t, .int .i64 g.t.ver, .slice m.av m.nv m.cv, .slice m.ad m.nd m.cd] 68) = W at *
  refine (unhide HL _ hw0).mono ?_
  rintro e w1 ⟨rfl, hb⟩
  replace b0 := hide (blk_below b0.out hb)
  replace hw0 := hw0.trans (hb.mono hw0.size)
  clear hb x0 x1 HL
  by_cases z1 : lchk g.ws g.fu = 0
  rotate_left
  · have HE := hide (gtE_1 z1)
    have hq : (lchk g.ws g.fu != 0) = true := by simpa using z1
    clear z1
    generalize lchk g.ws g.fu = q at *
    go_wp2_with fail
    go_ret
    exact ⟨ret_int HE.out.symm, hw0⟩
  have E2 := hide (gtE_2 z1)
  have E3 := hide (gtE_3 z1)
  rw [z1]
  clear z1
  have x3 := blk_cell b0.out 3 _ rfl
  have x4 := blk_cell b0.out 4 _ rfl
  have x5 := blk_cell b0.out 5 _ rfl
  have x6 := blk_cell b0.out 6 _ rfl
  have x7 := blk_cell b0.out 7 _ rfl
  have x8 := blk_cell b0.out 8 _ rfl
  cases g1 : inB (m.nv : Int) 1 4
  · have HE := hide (E2.out (by unfold gtB; rw [Lv.out, g1]; rfl))
    go_wp2_with (go_at_call 89; refine (gWithin_any _ _ _ _).mono ?_; rintro e w' ⟨rfl, rfl⟩)
    go_ret
    exact ⟨ret_int HE.out.symm, hw0⟩
  · by_cases z2 : m.nd = m.nv
    rotate_left
    · have HE := hide (E2.out (by unfold gtB; rw [Lv.out, Ld.out, g1]; simpa using z2))
      have hq : ((m.nd : Int) != (m.nv : Int)) = true := by simp; omega
      clear z2
      go_wp2_with (go_at_call 89; refine (gWithin_any _ _ _ _).mono ?_; rintro e w' ⟨rfl, rfl⟩)
      go_ret
      exact ⟨ret_int HE.out.symm, hw0⟩
    · have HE := hide (E3.out (by unfold gtB; rw [Lv.out, Ld.out, g1]; simpa using z2))
      have hq : ((m.nd : Int) != (m.nv : Int)) = false := by simp; omega
      clear z2
      go_wp2_with (first | (go_at_call 89; refine (gWithin_any _ _ _ _).mono ?_; rintro e w' ⟨rfl, rfl⟩) | (go_at_call 91; refine (unhide HT _ hw0).mono ?_; rintro e w2 ⟨rfl, hb2⟩; replace hw0 := hw0.trans (hb2.mono hw0.size)))
      go_ret
      exact ⟨ret_int HE.out.symm, hw0⟩

end Go.Proofs.YtgngpmgjoifepaaGreatDoor

namespace Go.Proofs.YtgngpmgjoifepaaGreatDoor
open Go.RowKit
attribute [local go_sem ↓] Go.wp_at_zero Go.wp_at_succ

theorem trnG_2 {s : Gs} {k : Int} (h : k = 2) : trnG s k = ⟨s.n, s.v, !s.ab, s.ab, s.en⟩ := by unfold trnG; rw [if_pos h]
theorem trnG_3 {s : Gs} {k : Int} (h : k = 3) : trnG s k = ⟨s.n, s.v, s.co, !s.co, s.en⟩ := by unfold trnG; rw [if_neg (by omega), if_pos h]
theorem trnG_4 {s : Gs} {k : Int} (h : k = 4) : trnG s k = ⟨s.n, s.v, s.co, s.ab, decG s⟩ := by unfold trnG; rw [if_neg (by omega), if_neg (by omega), if_pos h]
theorem trnG_0 {s : Gs} {k : Int} (h2 : k ≠ 2) (h3 : k ≠ 3) (h4 : k ≠ 4) : trnG s k = s := by unfold trnG; rw [if_neg h2, if_neg h3, if_neg h4]

set_option maxRecDepth 100000 in
set_option maxHeartbeats 1600000 in
theorem turned_any (s : Gs) (k : Int) (w : World) : Calls Tryz.prog 144 #[gsv s, .int .i64 k] w fun e w' => e = .returned (gsv (trnG s k)) ∧ Below w.heap.size w w' := by
  unfold gsv
  by_cases z2 : k = 2
  · have HE := hide (trnG_2 (s := s) z2)
    subst z2
    go_enter Tryz.func144, Tryz.ntmps144
    go_wp2_with fail
    refine bodyPost_ret (v := gsv ⟨s.n, s.v, !s.ab, s.ab, s.en⟩) (by simp [results, Tryz.results144, go_sem, gsv]) rfl ?_
    rw [HE.out]
    exact ⟨rfl, by (repeat (first | exact Below.refl _ _ | refine Below.setCell ?_ (by simp) _ | refine below_new ?_ _))⟩
  by_cases z3 : k = 3
  · have HE := hide (trnG_3 (s := s) z3)
    subst z3
    go_enter Tryz.func144, Tryz.ntmps144
    go_wp2_with fail
    refine bodyPost_ret (v := gsv ⟨s.n, s.v, s.co, !s.co, s.en⟩) (by simp [results, Tryz.results144, go_sem, gsv]) rfl ?_
    rw [HE.out]
    exact ⟨rfl, by (repeat (first | exact Below.refl _ _ | refine Below.setCell ?_ (by simp) _ | refine below_new ?_ _))⟩
  by_cases z4 : k = 4
  · have HE := hide (trnG_4 (s := s) z4)
    subst z4
    have hw0 : Below w.heap.size w ((w.alloc (.cells #[.int .i64 s.n, .int .i64 s.v, .bool s.co, .bool s.ab, .bool s.en] 82)).alloc (.cells #[.int .i64 0, .int .i64 0, .bool false, .bool false, .bool false] 82)) := ((Below.refl _ _).alloc (Nat.le_refl _) _).alloc (by simp) _
    have b0 : Hid (((w.alloc (.cells #[.int .i64 s.n, .int .i64 s.v, .bool s.co, .bool s.ab, .bool s.en] 82)).alloc (.cells #[.int .i64 0, .int .i64 0, .bool false, .bool false, .bool false] 82)).heap[w.heap.size]? = some (.cells #[.int .i64 s.n, .int .i64 s.v, .bool s.co, .bool s.ab, .bool s.en] 82 (0, 0))) := blk_alloc (heap_alloc_last _ _) _
    have b1 : Hid (((w.alloc (.cells #[.int .i64 s.n, .int .i64 s.v, .bool s.co, .bool s.ab, .bool s.en] 82)).alloc (.cells #[.int .i64 0, .int .i64 0, .bool false, .bool false, .bool false] 82)).heap[w.heap.size + 1]? = some (.cells #[.int .i64 0, .int .i64 0, .bool false, .bool false, .bool false] 82 (0, 0))) := uLast1 _ _ _
    have HD := hide (decided_any s ((w.alloc (.cells #[.int .i64 s.n, .int .i64 s.v, .bool s.co, .bool s.ab, .bool s.en] 82)).alloc (.cells #[.int .i64 0, .int .i64 0, .bool false, .bool false, .bool false] 82)))
    unfold gsv at HD
    go_enter Tryz.func144, Tryz.ntmps144
    go_wp2_with fail
    generalize ((w.alloc (.cells #[.int .i64 s.n, .int .i64 s.v, .bool s.co, .bool s.ab, .bool s.en] 82)).alloc (.cells #[.int .i64 0, .int .i64 0, .bool false, .bool false, .bool false] 82)) = W at *
    refine (unhide HD).mono ?_
    rintro e w1 ⟨rfl, hb⟩
    replace b0 := hide (blk_below b0.out hb)
    replace b1 := hide (blk_below b1.out hb)
    replace hw0 := hw0.trans (hb.mono hw0.size)
    have x0 := blk_cell b0.out 0 _ rfl
    have y0 := blk_cell b1.out 0 _ rfl
    have f0 := blk_free b0.out 0
    have g0 := blk_free b1.out 0
    have x1 := blk_cell b0.out 1 _ rfl
    have y1 := blk_cell b1.out 1 _ rfl
    have f1 := blk_free b0.out 1
    have g1 := blk_free b1.out 1
    have x2 := blk_cell b0.out 2 _ rfl
    have y2 := blk_cell b1.out 2 _ rfl
    have f2 := blk_free b0.out 2
    have g2 := blk_free b1.out 2
    have x3 := blk_cell b0.out 3 _ rfl
    have y3 := blk_cell b1.out 3 _ rfl
    have f3 := blk_free b0.out 3
    have g3 := blk_free b1.out 3
    have x4 := blk_cell b0.out 4 _ rfl
    have y4 := blk_cell b1.out 4 _ rfl
    have f4 := blk_free b0.out 4
    have g4 := blk_free b1.out 4
    clear hb HD
    go_wp2_with fail
    refine bodyPost_ret (v := gsv ⟨s.n, s.v, s.co, s.ab, decG s⟩) (by simp [results, Tryz.results144, go_sem, gsv, y0, y1, y2, y3, y4]) rfl ?_
    rw [HE.out]
    exact ⟨rfl, (((((hw0.setCell (p := ⟨w.heap.size, 4, none⟩) (Nat.le_refl _) _).setCell (p := ⟨w.heap.size + 1, 0, none⟩) (Nat.le_succ _) _).setCell (p := ⟨w.heap.size + 1, 1, none⟩) (Nat.le_succ _) _).setCell (p := ⟨w.heap.size + 1, 2, none⟩) (Nat.le_succ _) _).setCell (p := ⟨w.heap.size + 1, 3, none⟩) (Nat.le_succ _) _).setCell (p := ⟨w.heap.size + 1, 4, none⟩) (Nat.le_succ _) _⟩
  · have HE := hide (trnG_0 (s := s) z2 z3 z4)
    have d2 : (k == 2) = false := by simpa using z2
    have d3 : (k == 3) = false := by simpa using z3
    have d4 : (k == 4) = false := by simpa using z4
    clear z2 z3 z4
    go_enter Tryz.func144, Tryz.ntmps144
    go_wp2_with fail
    refine bodyPost_ret (v := gsv s) (by simp [results, Tryz.results144, go_sem, gsv]) rfl ?_
    rw [HE.out]
    exact ⟨rfl, by (repeat (first | exact Below.refl _ _ | refine Below.setCell ?_ (by simp) _ | refine below_new ?_ _))⟩

end Go.Proofs.YtgngpmgjoifepaaGreatDoor
