/- Plain facts for LogHolds and LogGoes: the flash behind an Append is a log, its records, and that it can be done again. The contracts of unit.within, Check, CheckMessage, is, stateOf, other, done. -/
import Derived.Test.YtanpglfpopbfkabGreatDoorPk20
import Derived.Test.YtanpglfpopbfkabGreatDoorPk19
import Derived.Test.YtanpglfpopbfkabGreatDoorPk18
namespace Go.Proofs.YtanpglfpopbfkabGreatDoor
open Go.RowKit

theorem appC_ok {ws : List Int} {f : Int} {r : List Int} {keep : List (List Int)} (h : appErr ws f r keep = 0) : ∀ c ∈ appC ws r keep, ∀ b x, c.2 = some (b, x) → okW x = true := by
  intro c hc b x hx
  unfold appC at hc
  rw [List.mem_flatMap] at hc
  obtain ⟨st, hst, hc⟩ := hc
  exact stC_ok (appSteps_ok h st hst) c hc b x hx

/-- Behind the first k changes there is a log. -/
theorem part_log {ws : List Int} {f f' : Int} {r : List Int} {keep : List (List Int)} (h : appErr ws f r keep = 0) (k : Nat) (hk : k ≤ (appC ws r keep).length) (h0 : -1 ≤ f') (h1 : f' ≤ 100000) :
    lchk (applyL ((appC ws r keep).take k) ws) f' = 0 ∧ (k < (appC ws r keep).length → logR (applyL ((appC ws r keep).take k) ws) = logR ws) ∧ (k = (appC ws r keep).length → logR (applyL ((appC ws r keep).take k) ws) = logR ws ++ [r] ∨ logR (applyL ((appC ws r keep).take k) ws) = keep ++ [r]) := by
  have q := appErr_ok h
  have l := lchk_parts q.1
  have hok : okL (applyL ((appC ws r keep).take k) ws) = true := applyL_ok l.2.2.2.1 (fun c hc => appC_ok h c (List.mem_of_mem_take hc))
  have hck : chk (applyL ((appC ws r keep).take k) ws) f' = 0 := chk_of l.1 (applyL_length _ _) hok h0 h1
  by_cases c : k < (appC ws r keep).length
  · have hs := app_stay h k c
    exact ⟨lchk_mk hck (by rw [applyL_length]; exact l.2.1) (by rw [hs.2]; exact l.2.2.2.2.1) (by rw [hs.2]; exact l.2.2.2.2.2), fun _ => hs.1, fun e => by omega⟩
  · have e : k = (appC ws r keep).length := by omega
    have ht : (appC ws r keep).take k = appC ws r keep := List.take_of_length_le (by omega)
    have hn := app_new h
    rw [ht] at hck ⊢
    exact ⟨lchk_mk hck (by rw [applyL_length]; exact l.2.1) hn.2.1 hn.2.2, fun h => absurd h c, fun _ => hn.1⟩

/-- Behind an Append that is done, or lost its power. -/
theorem app_log {ws : List Int} {f : Int} {r : List Int} {keep : List (List Int)} (h : appErr ws f r keep = 0) :
    (appS ws f r keep).1.length = ws.length ∧ (-1 ≤ (appS ws f r keep).2.1 ∧ (appS ws f r keep).2.1 ≤ 100000) ∧ (∀ f', -1 ≤ f' → f' ≤ 100000 → lchk (appS ws f r keep).1 f' = 0) ∧
    ((appS ws f r keep).2.2 = 0 ∧ (logR (appS ws f r keep).1 = logR ws ++ [r] ∨ logR (appS ws f r keep).1 = keep ++ [r]) ∨ (appS ws f r keep).2.2 = 7 ∧ logR (appS ws f r keep).1 = logR ws) := by
  have q := appErr_ok h
  have l := lchk_parts q.1
  have c := chk_parts l.1
  rw [app_chg h]
  have hle := cnt_le f (appC ws r keep).length
  have bb := burn_bounds (n := (appC ws r keep).length) c.2.1 c.2.2.1 (Nat.le_refl (cnt f (appC ws r keep).length))
  refine ⟨applyL_length _ _, bb, fun f' h0 h1 => (part_log h _ hle h0 h1).1, ?_⟩
  have hp := part_log h _ hle (f' := -1) (by decide) (by decide)
  by_cases e : cnt f (appC ws r keep).length = (appC ws r keep).length
  · left
    exact ⟨perr_ok e, hp.2.2 e⟩
  · right
    exact ⟨perr_no (by omega), hp.2.1 (by omega)⟩

theorem logR_few {ws : List Int} (h : 64 ≤ ws.length) : (logR ws).length ≤ 31 := by
  have := parseS_few (secL ws (secN ws))
  rw [secL_length (by have := secN_01 ws; omega)] at this
  exact this

end Go.Proofs.YtanpglfpopbfkabGreatDoor

namespace Go.Proofs.YtanpglfpopbfkabGreatDoor
open Go.RowKit

/-- The slice at a holds the words ws, with room. -/
structure BW (w : World) (a : Option Addr) (n c : Nat) (ws : List Int) : Prop where
  at_ : IsInts w a ws
  len : ws.length = n
  cap : n ≤ c
  max : n ≤ maxLen
theorem BW.below {w w' : World} {a : Option Addr} {n c : Nat} {ws : List Int} (h : BW w a n c ws) (hb : Below w.heap.size w w') : BW w' a n c ws := ⟨h.at_.below hb, h.len, h.cap, h.max⟩
theorem BW.bi {w : World} {a : Option Addr} {n c : Nat} {ws : List Int} (h : BW w a n c ws) : BI w a n ws := ⟨h.at_, h.len, h.max⟩
theorem BW.turns {w w' : World} {B : Nat} {a : Option Addr} {n c : Nat} {ws : List Int} (h : BW w a n c ws) (hg : w.grownBy w' (some B)) (ho : Off B a) : BW w' a n c ws := ⟨ints_turns h.at_ hg ho, h.len, h.cap, h.max⟩

theorem inB_t {n a b : Int} (h0 : a ≤ n) (h1 : n ≤ b) : inB n a b = true := by unfold inB; simp; omega
theorem inB_lo {n a b : Int} (h0 : ¬ a ≤ n) : inB n a b = false := by unfold inB; simp; omega
theorem inB_hi {n a b : Int} (h0 : ¬ n ≤ b) : inB n a b = false := by unfold inB; simp; omega

set_option maxHeartbeats 400000 in
set_option maxRecDepth 100000 in
theorem uWithin_any (n a b : Int) (w : World) : Calls Tryz.prog 63 #[.int .i64 n, .int .i64 a, .int .i64 b] w fun e w' => e = .returned (.bool (inB n a b)) ∧ w' = w := by
  by_cases h0 : a ≤ n
  · by_cases h1 : n ≤ b
    · have hd : decide (n ≤ b) = true := by simp; omega
      go_enter Tryz.func63, Tryz.ntmps63
      go_wp2
      go_ret
      exact ⟨ret_bool (inB_t h0 h1).symm, rfl⟩
    · have hd : decide (n ≤ b) = false := by simp; omega
      go_enter Tryz.func63, Tryz.ntmps63
      go_wp2
      go_ret
      exact ⟨ret_bool (inB_hi (by omega)).symm, rfl⟩
  · go_enter Tryz.func63, Tryz.ntmps63
    go_wp2
    go_ret
    exact ⟨ret_bool (inB_lo (by omega)).symm, rfl⟩

theorem unE_1 {u : Un} (h : lchk u.ws u.fu ≠ 0) : unE u = lchk u.ws u.fu := by unfold unE; rw [if_pos h]
theorem unE_2 {u : Un} (h : lchk u.ws u.fu = 0) (h2 : u.ws.length ≠ 192) : unE u = 4 := by unfold unE; rw [if_neg (by simpa using h), if_pos h2]
theorem unE_3 {u : Un} (h : lchk u.ws u.fu = 0) (h2 : u.ws.length = 192) (h3 : (inB u.n 0 8 && inB u.hv 0 40) = false) : unE u = 3 := by unfold unE; rw [if_neg (by simpa using h), if_neg (by simpa using h2), h3]; rfl
theorem unE_0 {u : Un} (h : lchk u.ws u.fu = 0) (h2 : u.ws.length = 192) (h3 : (inB u.n 0 8 && inB u.hv 0 40) = true) : unE u = 0 := by unfold unE; rw [if_neg (by simpa using h), if_neg (by simpa using h2), h3]; rfl
theorem unE_ok {u : Un} (h : unE u = 0) : lchk u.ws u.fu = 0 ∧ u.ws.length = 192 ∧ (0 ≤ u.n ∧ u.n ≤ 8) ∧ 0 ≤ u.hv ∧ u.hv ≤ 40 := by
  unfold unE at h
  split at h
  · rename_i h1; exact absurd h h1
  · rename_i h1
    split at h
    · cases h
    · rename_i h2
      split at h
      · rename_i h3
        rw [Bool.and_eq_true] at h3
        unfold inB at h3
        simp at h3 h1 h2
        exact ⟨h1, h2, h3.1, h3.2⟩
      · cases h

set_option maxHeartbeats 800000 in
set_option maxRecDepth 100000 in
theorem unitCheck_any (u : Un) (a : Option Addr) (n c : Nat) (w : World) (h : BW w a n c u.ws) :
    Calls Tryz.prog 31 #[unv u a n c] w fun e w' => e = .returned (.int .i64 (unE u)) ∧ Below w.heap.size w w' := by
  have hw0 : Below w.heap.size w (w.alloc (.cells #[.slice a n c, .int .i64 u.fu, .bool u.up, .int .i64 u.n, .int .i64 u.hv] 50)) := (Below.refl _ _).alloc (Nat.le_refl _) _
  have b0 := hide (heap_alloc_last w (.cells #[.slice a n c, .int .i64 u.fu, .bool u.up, .int .i64 u.n, .int .i64 u.hv] 50))
  have HL := hide (fun W (hW : Below w.heap.size w W) => logCheck_any a n c u.ws u.fu W (h.below hW).at_ h.len h.max)
  have L := hide h.len
  have hm := h.max
  unfold maxLen at hm
  unfold unv
  clear h
  have x0 := blk_cell b0.out 0 _ rfl
  have x1 := blk_cell b0.out 1 _ rfl
  go_enter Tryz.func31, Tryz.ntmps31
  go_wp2_with fail
  generalize w.alloc (.cells #[.slice a n c, .int .i64 u.fu, .bool u.up, .int .i64 u.n, .int .i64 u.hv] 50) = W at *
  refine (unhide HL _ hw0).mono ?_
  rintro e w1 ⟨rfl, hb⟩
  replace b0 := hide (blk_below b0.out hb)
  replace hw0 := hw0.trans (hb.mono hw0.size)
  clear hb x0 x1 HL
  by_cases z1 : lchk u.ws u.fu = 0
  rotate_left
  · have HE := hide (unE_1 z1)
    have hq : (lchk u.ws u.fu != 0) = true := by simpa using z1
    clear z1
    generalize lchk u.ws u.fu = q at *
    go_wp2_with fail
    go_ret
    exact ⟨ret_int HE.out.symm, hw0⟩
  have E2 := hide (unE_2 z1)
  have E3 := hide (unE_3 z1)
  have E0 := hide (unE_0 z1)
  rw [z1]
  clear z1
  have x0 := blk_cell b0.out 0 _ rfl
  have x3 := blk_cell b0.out 3 _ rfl
  have x4 := blk_cell b0.out 4 _ rfl
  by_cases z2 : n = 192
  rotate_left
  · have HE := hide (E2.out (by rw [L.out]; exact z2))
    have hq : ((n : Int) != 192) = true := by simp; omega
    clear z2
    go_wp2_with fail
    go_ret
    exact ⟨ret_int HE.out.symm, hw0⟩
  have hq : ((n : Int) != 192) = false := by simp; omega
  have hl := L.out.trans z2
  replace E3 := hide (E3.out hl)
  replace E0 := hide (E0.out hl)
  clear z2 hl
  cases g1 : inB u.n 0 8
  · have HE := hide (E3.out (by rw [g1]; rfl))
    go_wp2_with (go_at_call 63; refine (uWithin_any _ _ _ _).mono ?_; rintro e w' ⟨rfl, rfl⟩)
    go_ret
    exact ⟨ret_int HE.out.symm, hw0⟩
  · cases g2 : inB u.hv 0 40
    · have HE := hide (E3.out (by rw [g1, g2]; rfl))
      go_wp2_with (go_at_call 63; refine (uWithin_any _ _ _ _).mono ?_; rintro e w' ⟨rfl, rfl⟩)
      go_ret
      exact ⟨ret_int HE.out.symm, hw0⟩
    · have HE := hide (E0.out (by rw [g1, g2]; rfl))
      go_wp2_with (go_at_call 63; refine (uWithin_any _ _ _ _).mono ?_; rintro e w' ⟨rfl, rfl⟩)
      go_ret
      exact ⟨ret_int HE.out.symm, hw0⟩

theorem msE_bad {m : Ms} (h : msB m = false) : msE m = 3 := by unfold msE; rw [h]; rfl
theorem msE_ok {m : Ms} (h : msB m = true) : msE m = 0 := by unfold msE; rw [h]; rfl

set_option maxHeartbeats 1600000 in
set_option maxRecDepth 100000 in
theorem checkMessage_any (m : Ms) (a : Option Addr) (n c : Nat) (w : World) (h : BI w a n m.ws) :
    Calls Tryz.prog 97 #[msv m a n c] w fun e w' => e = .returned (.int .i64 (msE m)) ∧ Below w.heap.size w w' := by
  have hw0 : Below w.heap.size w (w.alloc (.cells #[.int .i64 m.k, .int .i64 m.u, .int .i64 m.n, .int .i64 m.at', .int .i64 m.im, .slice a n c, .bool m.y] 52)) := (Below.refl _ _).alloc (Nat.le_refl _) _
  have HA := hide (allWords_any a n c m.ws _ (h.below hw0).at_ h.len h.max)
  have L := hide h.len
  have hm := h.max
  unfold maxLen at hm
  unfold msv
  clear h
  have hB : Hid (∀ b, msB m = b → b = false → msE m = 3) := fun b h1 h2 => msE_bad (h1.trans h2)
  unfold msB at hB
  cases g1 : inB m.k 1 7
  · have HE := hide (hB.out _ rfl (by rw [g1]; rfl))
    go_enter Tryz.func97, Tryz.ntmps97
    go_wp2_with (go_at_call 63; refine (uWithin_any _ _ _ _).mono ?_; rintro e w' ⟨rfl, rfl⟩)
    go_ret
    exact ⟨ret_int HE.out.symm, hw0⟩
  cases g2 : inB m.u 0 3
  · have HE := hide (hB.out _ rfl (by rw [g1, g2]; rfl))
    go_enter Tryz.func97, Tryz.ntmps97
    go_wp2_with (go_at_call 63; refine (uWithin_any _ _ _ _).mono ?_; rintro e w' ⟨rfl, rfl⟩)
    go_ret
    exact ⟨ret_int HE.out.symm, hw0⟩
  cases g3 : inB m.n 1 8
  · have HE := hide (hB.out _ rfl (by rw [g1, g2, g3]; rfl))
    go_enter Tryz.func97, Tryz.ntmps97
    go_wp2_with (go_at_call 63; refine (uWithin_any _ _ _ _).mono ?_; rintro e w' ⟨rfl, rfl⟩)
    go_ret
    exact ⟨ret_int HE.out.symm, hw0⟩
  cases g4 : inB m.at' 0 40
  · have HE := hide (hB.out _ rfl (by rw [g1, g2, g3, g4]; rfl))
    go_enter Tryz.func97, Tryz.ntmps97
    go_wp2_with (go_at_call 63; refine (uWithin_any _ _ _ _).mono ?_; rintro e w' ⟨rfl, rfl⟩)
    go_ret
    exact ⟨ret_int HE.out.symm, hw0⟩
  cases g5 : inB m.im 0 60
  · have HE := hide (hB.out _ rfl (by rw [g1, g2, g3, g4, g5]; rfl))
    go_enter Tryz.func97, Tryz.ntmps97
    go_wp2_with (go_at_call 63; refine (uWithin_any _ _ _ _).mono ?_; rintro e w' ⟨rfl, rfl⟩)
    go_ret
    exact ⟨ret_int HE.out.symm, hw0⟩
  by_cases g6 : n ≤ 8
  rotate_left
  · have HE := hide (hB.out _ rfl (by rw [g1, g2, g3, g4, g5, L.out]; simp [g6]))
    have d6 : decide ((n : Int) ≤ 8) = false := by simp; omega
    clear g6
    go_enter Tryz.func97, Tryz.ntmps97
    go_wp2_with (go_at_call 63; refine (uWithin_any _ _ _ _).mono ?_; rintro e w' ⟨rfl, rfl⟩)
    go_ret
    exact ⟨ret_int HE.out.symm, hw0⟩
  have d6 : decide ((n : Int) ≤ 8) = true := by simp; omega
  cases g7 : okL m.ws
  · have HE := hide (hB.out _ rfl (by rw [g1, g2, g3, g4, g5, g7]; simp))
    rw [g7] at HA
    clear g6
    go_enter Tryz.func97, Tryz.ntmps97
    go_wp2_with (first | (go_at_call 63; refine (uWithin_any _ _ _ _).mono ?_; rintro e w' ⟨rfl, rfl⟩) | (go_at_call 46; refine (unhide HA).mono ?_; rintro e w' ⟨rfl, rfl⟩))
    go_ret
    exact ⟨ret_int HE.out.symm, hw0⟩
  · have HE := hide (msE_ok (m := m) (by unfold msB; rw [g1, g2, g3, g4, g5, g7, L.out]; simp [g6]))
    rw [g7] at HA
    clear g6
    go_enter Tryz.func97, Tryz.ntmps97
    go_wp2_with (first | (go_at_call 63; refine (uWithin_any _ _ _ _).mono ?_; rintro e w' ⟨rfl, rfl⟩) | (go_at_call 46; refine (unhide HA).mono ?_; rintro e w' ⟨rfl, rfl⟩))
    go_ret
    exact ⟨ret_int HE.out.symm, hw0⟩

set_option maxHeartbeats 400000 in
set_option maxRecDepth 100000 in
theorem unitIs_any (a : Option Addr) (n c : Nat) (r : List Int) (k : Int) (l : Nat) (w : World) (h : IsInts w a r) (hn : r.length = n) (hm : n ≤ maxLen) (h0 : 0 < l) (hl : l ≤ 10) :
    Calls Tryz.prog 89 #[.slice a n c, .int .i64 k, .int .i64 l] w fun e w' => e = .returned (.bool (isR r k l)) ∧ w' = w := by
  unfold maxLen at hm
  by_cases h1 : n = l
  rotate_left
  · have HE := hide (show isR r k l = false by unfold isR; rw [hn]; simp [h1])
    have d1 : ((n : Int) == (l : Int)) = false := by simp; omega
    clear hn h1
    go_enter Tryz.func89, Tryz.ntmps89
    go_wp2
    go_ret
    exact ⟨ret_bool HE.out.symm, rfl⟩
  · have d1 : ((n : Int) == (l : Int)) = true := by simp; omega
    rcases h with e | ⟨b, off, rfl, hc⟩
    · rw [e] at hn; simp at hn; omega
    have e0 := hc 0 (by omega)
    rw [Nat.add_zero] at e0
    have hlt : (0 : Int) < (n : Int) := by omega
    by_cases h2 : r.getD 0 0 = k
    · have HE := hide (show isR r k l = true by unfold isR; rw [hn]; simp only [h1, h2]; simp)
      have d2 : (r.getD 0 0 == k) = true := by simpa using h2
      clear hn h1 hc h2
      generalize r.getD 0 0 = r0 at *
      go_enter Tryz.func89, Tryz.ntmps89
      go_wp2
      go_ret
      exact ⟨ret_bool HE.out.symm, rfl⟩
    · have HE := hide (show isR r k l = false by unfold isR; simp only [decide_eq_false h2, Bool.and_false])
      have d2 : (r.getD 0 0 == k) = false := by simpa using h2
      clear hn h1 hc h2
      generalize r.getD 0 0 = r0 at *
      go_enter Tryz.func89, Tryz.ntmps89
      go_wp2
      go_ret
      exact ⟨ret_bool HE.out.symm, rfl⟩

set_option maxHeartbeats 400000 in
set_option maxRecDepth 100000 in
theorem other_any (s : Us) (w : World) (h0 : 0 ≤ s.slot) (h1 : s.slot ≤ 1) : Calls Tryz.prog 142 #[.agg #[.int .i64 s.slot, .int .i64 s.by', .int .i64 s.rdy]] w fun e w' => e = .returned (.int .i64 (oth s)) ∧ Below w.heap.size w w' := by
  have hw0 : Below w.heap.size w (w.alloc (.cells #[.int .i64 s.slot, .int .i64 s.by', .int .i64 s.rdy] 57)) := (Below.refl _ _).alloc (Nat.le_refl _) _
  go_enter Tryz.func142, Tryz.ntmps142
  go_wp2
  go_ret
  exact ⟨rfl, hw0⟩

/-- What a call that answers one message without words hands back. -/
def OneM (w : World) (m : Ms) (e : Ending) (w' : World) : Prop := (∃ b, e = .returned (.slice (some ⟨b, 0, none⟩) 1 1) ∧ IsMsgs w' (some ⟨b, 0, none⟩) [m] ∧ w.heap.size ≤ b) ∧ Below w.heap.size w w'

set_option maxHeartbeats 400000 in
set_option maxRecDepth 100000 in
theorem done_any (m : Ms) (a : Option Addr) (n c : Nat) (w : World) : Calls Tryz.prog 144 #[msv m a n c] w (OneM w (doneM m)) := by
  have hw0 : Below w.heap.size w (w.alloc (.cells #[.int .i64 m.k, .int .i64 m.u, .int .i64 m.n, .int .i64 m.at', .int .i64 m.im, .slice a n c, .bool m.y] 52)) := (Below.refl _ _).alloc (Nat.le_refl _) _
  unfold msv
  go_enter Tryz.func144, Tryz.ntmps144
  go_wp2
  go_ret
  exact ⟨⟨_, rfl, isMsgs_one (m := doneM m) rfl (uLast1 _ _ _), by simp⟩, hw0.alloc hw0.size _⟩

end Go.Proofs.YtanpglfpopbfkabGreatDoor
