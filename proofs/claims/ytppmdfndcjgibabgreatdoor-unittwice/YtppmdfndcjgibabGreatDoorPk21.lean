/- The contracts of unit.within, Check, CheckMessage, is, stateOf, other, done. log.Records once more: where its records lie ('RecM'); the contract of unit.stateOf. -/
import Derived.Test.YtppmdfndcjgibabGreatDoorPk16
import Derived.Test.YtppmdfndcjgibabGreatDoorPk20
namespace Go.Proofs.YtppmdfndcjgibabGreatDoor
open Go.RowKit

/-- The slice at a holds the words ws, with room. -/
structure BW (w : World) (a : Option Addr) (n c : Nat) (ws : List Int) : Prop where
  at_ : IsInts w a ws
  len : ws.length = n
  cap : n ≤ c
  max : n ≤ maxLen
theorem BW.below {w w' : World} {a : Option Addr} {n c : Nat} {ws : List Int} (h : BW w a n c ws) (hb : Below w.heap.size w w') : BW w' a n c ws := ⟨h.at_.below hb, h.len, h.cap, h.max⟩
theorem BW.bi {w : World} {a : Option Addr} {n c : Nat} {ws : List Int} (h : BW w a n c ws) : BI w a n ws := ⟨h.at_, h.len, h.max⟩
theorem BW.turns {w w' : World} {B : Nat} {a : Option Addr} {n c : Nat} {ws : List Int} (h : BW w a n c ws) (hg : w.grownBy w' (some B)) (ho : Off B a) : BW w' a n c ws := ⟨ints_turns h.at_ hg ho, h.len, h.cap, h.max⟩

theorem inB_t {n a b : Int} (h0 : a ≤ n) (h1 : n ≤ b) : inB n a b = true := by unfold inB; simp; omega
theorem inB_lo {n a b : Int} (h0 : ¬ a ≤ n) : inB n a b = false := by unfold inB; simp; omega
theorem inB_hi {n a b : Int} (h0 : ¬ n ≤ b) : inB n a b = false := by unfold inB; simp; omega

set_option maxHeartbeats 400000 in
set_option maxRecDepth 100000 in
theorem uWithin_any (n a b : Int) (w : World) : Calls Tryz.prog 69 #[.int .i64 n, .int .i64 a, .int .i64 b] w fun e w' => e = .returned (.bool (inB n a b)) ∧ w' = w := by
  by_cases h0 : a ≤ n
  · by_cases h1 : n ≤ b
    · have hd : decide (n ≤ b) = true := by simp; omega
      go_enter Tryz.func69, Tryz.ntmps69
      go_wp2
      go_ret
      exact ⟨ret_bool (inB_t h0 h1).symm, rfl⟩
    · have hd : decide (n ≤ b) = false := by simp; omega
      go_enter Tryz.func69, Tryz.ntmps69
      go_wp2
      go_ret
      exact ⟨ret_bool (inB_hi (by omega)).symm, rfl⟩
  · go_enter Tryz.func69, Tryz.ntmps69
    go_wp2
    go_ret
    exact ⟨ret_bool (inB_lo (by omega)).symm, rfl⟩

theorem unE_1 {u : Un} (h : lchk u.ws u.fu ≠ 0) : unE u = lchk u.ws u.fu := by unfold unE; rw [if_pos h]
theorem unE_2 {u : Un} (h : lchk u.ws u.fu = 0) (h2 : u.ws.length ≠ 192) : unE u = 4 := by unfold unE; rw [if_neg (by simpa using h), if_pos h2]
theorem unE_3 {u : Un} (h : lchk u.ws u.fu = 0) (h2 : u.ws.length = 192) (h3 : (inB u.n 0 8 && inB u.hv 0 40) = false) : unE u = 3 := by unfold unE; rw [if_neg (by simpa using h), if_neg (by simpa using h2), h3]; rfl
theorem unE_0 {u : Un} (h : lchk u.ws u.fu = 0) (h2 : u.ws.length = 192) (h3 : (inB u.n 0 8 && inB u.hv 0 40) = true) : unE u = 0 := by unfold unE; rw [if_neg (by simpa using h), if_neg (by simpa using h2), h3]; rfl
theorem unE_ok {u : Un} (h : unE u = 0) : lchk u.ws u.fu = 0 ∧ u.ws.length = 192 ∧ (0 ≤ u.n ∧ u.n ≤ 8) ∧ 0 ≤ u.hv ∧ u.hv ≤ 40 := by
  unfold unE at h
  split at h
  · rename_i h1; exact absurd h h1
  · rename_i h1
    split at h
    · cases h
    · rename_i h2
      split at h
      · rename_i h3
        rw [Bool.and_eq_true] at h3
        unfold inB at h3
        simp at h3 h1 h2
        exact ⟨h1, h2, h3.1, h3.2⟩
      · cases h

set_option maxHeartbeats 800000 in
set_option maxRecDepth 100000 in
theorem unitCheck_any (u : Un) (a : Option Addr) (n c : Nat) (w : World) (h : BW w a n c u.ws) :
    Calls Tryz.prog 33 #[unv u a n c] w fun e w' => e = .returned (.int .i64 (unE u)) ∧ Below w.heap.size w w' := by
  have hw0 : Below w.heap.size w (w.alloc (.cells #[.slice a n c, .int .i64 u.fu, .bool u.up, .int .i64 u.n, .int .i64 u.hv] 50)) := (Below.refl _ _).alloc (Nat.le_refl _) _
  have b0 := hide (heap_alloc_last w (.cells #[.slice a n c, .int .i64 u.fu, .bool u.up, .int .i64 u.n, .int .i64 u.hv] 50))
  have HL := hide (fun W (hW : Below w.heap.size w W) => logCheck_any a n c u.ws u.fu W (h.below hW).at_ h.len h.max)
  have L := hide h.len
  have hm := h.max
  unfold maxLen at hm
  unfold unv
  clear h
  have x0 := blk_cell b0.out 0 _ rfl
  have x1 := blk_cell b0.out 1 _ rfl
  go_enter Tryz.func33, Tryz.ntmps33
  go_wp2_with fail
  generalize w.alloc (.cells #[.slice a n c, .int .i64 u.fu, .bool u.up, .int .i64 u.n, .int .i64 u.hv] 50) = W at *
  refine (unhide HL _ hw0).mono ?_
  rintro e w1 ⟨rfl, hb⟩
  replace b0 := hide (blk_below b0.out hb)
  replace hw0 := hw0.trans (hb.mono hw0.size)
  clear hb x0 x1 HL
  by_cases z1 : lchk u.ws u.fu = 0
  rotate_left
  · have HE := hide (unE_1 z1)
    have hq : (lchk u.ws u.fu != 0) = true := by simpa using z1
    clear z1
    generalize lchk u.ws u.fu = q at *
    go_wp2_with fail
    go_ret
    exact ⟨ret_int HE.out.symm, hw0⟩
  have E2 := hide (unE_2 z1)
  have E3 := hide (unE_3 z1)
  have E0 := hide (unE_0 z1)
  rw [z1]
  clear z1
  have x0 := blk_cell b0.out 0 _ rfl
  have x3 := blk_cell b0.out 3 _ rfl
  have x4 := blk_cell b0.out 4 _ rfl
  by_cases z2 : n = 192
  rotate_left
  · have HE := hide (E2.out (by rw [L.out]; exact z2))
    have hq : ((n : Int) != 192) = true := by simp; omega
    clear z2
    go_wp2_with fail
    go_ret
    exact ⟨ret_int HE.out.symm, hw0⟩
  have hq : ((n : Int) != 192) = false := by simp; omega
  have hl := L.out.trans z2
  replace E3 := hide (E3.out hl)
  replace E0 := hide (E0.out hl)
  clear z2 hl
  cases g1 : inB u.n 0 8
  · have HE := hide (E3.out (by rw [g1]; rfl))
    go_wp2_with (go_at_call 69; refine (uWithin_any _ _ _ _).mono ?_; rintro e w' ⟨rfl, rfl⟩)
    go_ret
    exact ⟨ret_int HE.out.symm, hw0⟩
  · cases g2 : inB u.hv 0 40
    · have HE := hide (E3.out (by rw [g1, g2]; rfl))
      go_wp2_with (go_at_call 69; refine (uWithin_any _ _ _ _).mono ?_; rintro e w' ⟨rfl, rfl⟩)
      go_ret
      exact ⟨ret_int HE.out.symm, hw0⟩
    · have HE := hide (E0.out (by rw [g1, g2]; rfl))
      go_wp2_with (go_at_call 69; refine (uWithin_any _ _ _ _).mono ?_; rintro e w' ⟨rfl, rfl⟩)
      go_ret
      exact ⟨ret_int HE.out.symm, hw0⟩

theorem msE_bad {m : Ms} (h : msB m = false) : msE m = 3 := by unfold msE; rw [h]; rfl
theorem msE_ok {m : Ms} (h : msB m = true) : msE m = 0 := by unfold msE; rw [h]; rfl

set_option maxHeartbeats 1600000 in
set_option maxRecDepth 100000 in
theorem checkMessage_any (m : Ms) (a : Option Addr) (n c : Nat) (w : World) (h : BI w a n m.ws) :
    Calls Tryz.prog 34 #[msv m a n c] w fun e w' => e = .returned (.int .i64 (msE m)) ∧ Below w.heap.size w w' := by
  have hw0 : Below w.heap.size w (w.alloc (.cells #[.int .i64 m.k, .int .i64 m.u, .int .i64 m.n, .int .i64 m.at', .int .i64 m.im, .slice a n c, .bool m.y] 52)) := (Below.refl _ _).alloc (Nat.le_refl _) _
  have HA := hide (allWords_any a n c m.ws _ (h.below hw0).at_ h.len h.max)
  have L := hide h.len
  have hm := h.max
  unfold maxLen at hm
  unfold msv
  clear h
  have hB : Hid (∀ b, msB m = b → b = false → msE m = 3) := fun b h1 h2 => msE_bad (h1.trans h2)
  unfold msB at hB
  cases g1 : inB m.k 1 7
  · have HE := hide (hB.out _ rfl (by rw [g1]; rfl))
    go_enter Tryz.func34, Tryz.ntmps34
    go_wp2_with (go_at_call 69; refine (uWithin_any _ _ _ _).mono ?_; rintro e w' ⟨rfl, rfl⟩)
    go_ret
    exact ⟨ret_int HE.out.symm, hw0⟩
  cases g2 : inB m.u 0 3
  · have HE := hide (hB.out _ rfl (by rw [g1, g2]; rfl))
    go_enter Tryz.func34, Tryz.ntmps34
    go_wp2_with (go_at_call 69; refine (uWithin_any _ _ _ _).mono ?_; rintro e w' ⟨rfl, rfl⟩)
    go_ret
    exact ⟨ret_int HE.out.symm, hw0⟩
  cases g3 : inB m.n 1 8
  · have HE := hide (hB.out _ rfl (by rw [g1, g2, g3]; rfl))
    go_enter Tryz.func34, Tryz.ntmps34
    go_wp2_with (go_at_call 69; refine (uWithin_any _ _ _ _).mono ?_; rintro e w' ⟨rfl, rfl⟩)
    go_ret
    exact ⟨ret_int HE.out.symm, hw0⟩
  cases g4 : inB m.at' 0 40
  · have HE := hide (hB.out _ rfl (by rw [g1, g2, g3, g4]; rfl))
    go_enter Tryz.func34, Tryz.ntmps34
    go_wp2_with (go_at_call 69; refine (uWithin_any _ _ _ _).mono ?_; rintro e w' ⟨rfl, rfl⟩)
    go_ret
    exact ⟨ret_int HE.out.symm, hw0⟩
  cases g5 : inB m.im 0 60
  · have HE := hide (hB.out _ rfl (by rw [g1, g2, g3, g4, g5]; rfl))
    go_enter Tryz.func34, Tryz.ntmps34
    go_wp2_with (go_at_call 69; refine (uWithin_any _ _ _ _).mono ?_; rintro e w' ⟨rfl, rfl⟩)
    go_ret
    exact ⟨ret_int HE.out.symm, hw0⟩
  by_cases g6 : n ≤ 8
  rotate_left
  · have HE := hide (hB.out _ rfl (by rw [g1, g2, g3, g4, g5, L.out]; simp [g6]))
    have d6 : decide ((n : Int) ≤ 8) = false := by simp; omega
    clear g6
    go_enter Tryz.func34, Tryz.ntmps34
    go_wp2_with (go_at_call 69; refine (uWithin_any _ _ _ _).mono ?_; rintro e w' ⟨rfl, rfl⟩)
    go_ret
    exact ⟨ret_int HE.out.symm, hw0⟩
  have d6 : decide ((n : Int) ≤ 8) = true := by simp; omega
  cases g7 : okL m.ws
  · have HE := hide (hB.out _ rfl (by rw [g1, g2, g3, g4, g5, g7]; simp))
    rw [g7] at HA
    clear g6
    go_enter Tryz.func34, Tryz.ntmps34
    go_wp2_with (first | (go_at_call 69; refine (uWithin_any _ _ _ _).mono ?_; rintro e w' ⟨rfl, rfl⟩) | (go_at_call 56; refine (unhide HA).mono ?_; rintro e w' ⟨rfl, rfl⟩))
    go_ret
    exact ⟨ret_int HE.out.symm, hw0⟩
  · have HE := hide (msE_ok (m := m) (by unfold msB; rw [g1, g2, g3, g4, g5, g7, L.out]; simp [g6]))
    rw [g7] at HA
    clear g6
    go_enter Tryz.func34, Tryz.ntmps34
    go_wp2_with (first | (go_at_call 69; refine (uWithin_any _ _ _ _).mono ?_; rintro e w' ⟨rfl, rfl⟩) | (go_at_call 56; refine (unhide HA).mono ?_; rintro e w' ⟨rfl, rfl⟩))
    go_ret
    exact ⟨ret_int HE.out.symm, hw0⟩

set_option maxHeartbeats 400000 in
set_option maxRecDepth 100000 in
theorem unitIs_any (a : Option Addr) (n c : Nat) (r : List Int) (k : Int) (l : Nat) (w : World) (h : IsInts w a r) (hn : r.length = n) (hm : n ≤ maxLen) (h0 : 0 < l) (hl : l ≤ 10) :
    Calls Tryz.prog 131 #[.slice a n c, .int .i64 k, .int .i64 l] w fun e w' => e = .returned (.bool (isR r k l)) ∧ w' = w := by
  unfold maxLen at hm
  by_cases h1 : n = l
  rotate_left
  · have HE := hide (show isR r k l = false by unfold isR; rw [hn]; simp [h1])
    have d1 : ((n : Int) == (l : Int)) = false := by simp; omega
    clear hn h1
    go_enter Tryz.func131, Tryz.ntmps131
    go_wp2
    go_ret
    exact ⟨ret_bool HE.out.symm, rfl⟩
  · have d1 : ((n : Int) == (l : Int)) = true := by simp; omega
    rcases h with e | ⟨b, off, rfl, hc⟩
    · rw [e] at hn; simp at hn; omega
    have e0 := hc 0 (by omega)
    rw [Nat.add_zero] at e0
    have hlt : (0 : Int) < (n : Int) := by omega
    by_cases h2 : r.getD 0 0 = k
    · have HE := hide (show isR r k l = true by unfold isR; rw [hn]; simp only [h1, h2]; simp)
      have d2 : (r.getD 0 0 == k) = true := by simpa using h2
      clear hn h1 hc h2
      generalize r.getD 0 0 = r0 at *
      go_enter Tryz.func131, Tryz.ntmps131
      go_wp2
      go_ret
      exact ⟨ret_bool HE.out.symm, rfl⟩
    · have HE := hide (show isR r k l = false by unfold isR; simp only [decide_eq_false h2, Bool.and_false])
      have d2 : (r.getD 0 0 == k) = false := by simpa using h2
      clear hn h1 hc h2
      generalize r.getD 0 0 = r0 at *
      go_enter Tryz.func131, Tryz.ntmps131
      go_wp2
      go_ret
      exact ⟨ret_bool HE.out.symm, rfl⟩

set_option maxHeartbeats 400000 in
set_option maxRecDepth 100000 in
theorem other_any (s : Us) (w : World) (h0 : 0 ≤ s.slot) (h1 : s.slot ≤ 1) : Calls Tryz.prog 166 #[.agg #[.int .i64 s.slot, .int .i64 s.by', .int .i64 s.rdy]] w fun e w' => e = .returned (.int .i64 (oth s)) ∧ Below w.heap.size w w' := by
  have hw0 : Below w.heap.size w (w.alloc (.cells #[.int .i64 s.slot, .int .i64 s.by', .int .i64 s.rdy] 60)) := (Below.refl _ _).alloc (Nat.le_refl _) _
  go_enter Tryz.func166, Tryz.ntmps166
  go_wp2
  go_ret
  exact ⟨rfl, hw0⟩

/-- What a call that answers one message without words hands back. -/
def OneM (w : World) (m : Ms) (e : Ending) (w' : World) : Prop := (∃ b, e = .returned (.slice (some ⟨b, 0, none⟩) 1 1) ∧ IsMsgs w' (some ⟨b, 0, none⟩) [m] ∧ w.heap.size ≤ b) ∧ Below w.heap.size w w'

set_option maxHeartbeats 400000 in
set_option maxRecDepth 100000 in
theorem done_any (m : Ms) (a : Option Addr) (n c : Nat) (w : World) : Calls Tryz.prog 168 #[msv m a n c] w (OneM w (doneM m)) := by
  have hw0 : Below w.heap.size w (w.alloc (.cells #[.int .i64 m.k, .int .i64 m.u, .int .i64 m.n, .int .i64 m.at', .int .i64 m.im, .slice a n c, .bool m.y] 52)) := (Below.refl _ _).alloc (Nat.le_refl _) _
  unfold msv
  go_enter Tryz.func168, Tryz.ntmps168
  go_wp2
  go_ret
  exact ⟨⟨_, rfl, isMsgs_one (m := doneM m) rfl (uLast1 _ _ _), by simp⟩, hw0.alloc hw0.size _⟩

end Go.Proofs.YtppmdfndcjgibabGreatDoor

namespace Go.Proofs.YtppmdfndcjgibabGreatDoor
open Go.RowKit
attribute [local go_sem ↓] Go.wp_at_zero Go.wp_at_succ

/-- Records in memory, in rows of their own kinds. -/
def RecM (w : World) (a : Option Addr) (rs : List (List Int)) : Prop :=
  rs = [] ∨ ∃ b cur, a = some ⟨b, 0, none⟩ ∧ w.heap[b]? = some (.cells cur 140 (0, 0)) ∧ ∀ (i : Nat) (r : List Int), rs[i]? = some r → ∃ g c, cur[i]? = some (Value.slice (some ⟨g, 0, none⟩) r.length c) ∧ OwnCap w g r ∧ r.length ≤ c ∧ c ≤ maxLen

set_option maxRecDepth 100000 in
theorem RecM.turns {w w' : World} {a : Option Addr} {rs : List (List Int)} {S : Nat} {cs : Array Value} (h : RecM w a rs) (hS : w.heap[S]? = some (.cells cs 60 (0, 0))) (hg : w.grownBy w' (some S)) : RecM w' a rs := by
  rcases h with h | ⟨b, cur, rfl, hb, hr⟩
  · exact .inl h
  · have hne : ∀ (g : Nat) (cs' : Array Value) (t : TypeId), w.heap[g]? = some (.cells cs' t (0, 0)) → t ≠ 60 → g ≠ S := by
      rintro g cs' t h1 h2 rfl
      rw [hS] at h1
      simp at h1
      exact h2 h1.2.symm
    refine .inr ⟨b, cur, rfl, blk_turns hb hg (hne _ _ _ hb (by decide)), fun i r hi => ?_⟩
    obtain ⟨g, c, h1, ⟨cu, h2, h3⟩, h4⟩ := hr i r hi
    exact ⟨g, c, h1, ⟨cu, blk_turns h2 hg (hne _ _ _ h2 (by decide)), h3⟩, h4⟩

theorem MakingR.recM {w0 w : World} {v : Value} {rs : List (List Int)} (h : MakingR w0 w v rs) : ∃ a c, v = .slice a rs.length c ∧ rs.length ≤ c ∧ c ≤ maxLen ∧ RecM w a rs := by
  obtain ⟨vs, hown, hr⟩ := h.own
  obtain ⟨_, ⟨hv, hn⟩ | ⟨g, cap, cur, hv, hg, hh, hc, hm, _, ht⟩⟩ := hown
  · exact ⟨none, 0, by rw [hv, hn], by omega, by unfold maxLen; omega, .inl (List.eq_nil_of_length_eq_zero hn)⟩
  · refine ⟨some ⟨g, 0, none⟩, cap, hv, hc, hm, .inr ⟨g, cur, rfl, hh, fun i r hi => ?_⟩⟩
    obtain ⟨g1, c1, h1, h2, h3, h4⟩ := hr i r hi
    refine ⟨g1, c1, ?_, h2, h3, h4⟩
    rw [← ht, List.getElem?_take] at h1
    split at h1
    · simpa using h1
    · cases h1

def RecsM (w : World) (rs : List (List Int)) (e : Ending) (w' : World) : Prop :=
  (∃ a c, e = .returned (.tuple #[.slice a rs.length c, .int .i64 0]) ∧ RecM w' a rs ∧ rs.length ≤ c ∧ c ≤ maxLen) ∧ Below w.heap.size w w'

set_option maxRecDepth 100000 in
set_option maxHeartbeats 1000000 in
theorem recordsM_any (a : Option Addr) (n c : Nat) (ws : List Int) (fuel : Int) (w : World) (h : BW w a n c ws) (e1 : lchk ws fuel = 0) :
    Calls Tryz.prog 130 #[.agg #[.slice a n c, .int .i64 fuel]] w (RecsM w (logR ws)) := by
  have hw : Below w.heap.size w (w.alloc (.cells #[.slice a n c, .int .i64 fuel] 48)) := (Below.refl _ _).alloc (Nat.le_refl _) _
  have i0 := h.at_.below hw
  have HS := hide (fun W (h' : IsInts W a ws) => logCheck_any a n c ws fuel W h' h.len h.max)
  have HG := hide (fun W (h' : IsInts W a ws) (h64 : 64 ≤ n) => counting_any a n c ws fuel W h' h.len h.max h64)
  have HP := hide (fun W (h' : IsInts W a ws) (hm : n ≤ 192) (hok : okL ws = true) (h64 : 64 ≤ n) => parse_any a n c ws fuel (secN ws) W h' h.len h.cap hm hok (secN_01 ws) h64)
  have B0 := hide (heap_alloc_last w (.cells #[.slice a n c, .int .i64 fuel] 48))
  have parts := lchk_parts e1
  rw [h.len] at parts
  rw [e1] at HS
  clear h e1
  go_enter Tryz.func130, Tryz.ntmps130
  go_wp2_with fail
  generalize w.alloc (.cells #[.slice a n c, .int .i64 fuel] 48) = W at *
  refine (unhide HS _ i0).mono ?_
  rintro e w1 ⟨rfl, hb1⟩
  have hw1 := hw.trans (hb1.mono hw.size)
  have c00 := blk_cell (blk_below B0.out hb1) 0 _ rfl
  have c01 := blk_cell (blk_below B0.out hb1) 1 _ rfl
  go_wp2_with fail
  refine (unhide HG _ (i0.below hb1) parts.2.1).mono ?_
  rintro e w2 ⟨rfl, hb2⟩
  have hw2 := hw1.trans (hb2.mono hw1.size)
  have c10 := blk_cell (blk_below (blk_below B0.out hb1) hb2) 0 _ rfl
  have c11 := blk_cell (blk_below (blk_below B0.out hb1) hb2) 1 _ rfl
  go_wp2_with fail
  refine (unhide HP _ ((i0.below hb1).below hb2) parts.2.2.1 parts.2.2.2.1 parts.2.1).mono ?_
  rintro e w3 ⟨⟨v, a3, m3, cc3, rfl, hmk, hi3, hn3, hm3, hok3⟩, hb3⟩
  obtain ⟨av, cv, rfl, q1, q2, q3⟩ := hmk.recM
  have HQ := hide q3
  clear hmk hn3 q3
  have hw3 := hw2.trans (hb3.mono hw2.size)
  go_wp2
  go_ret2
  exact ⟨⟨av, cv, rfl, HQ.out, q1, q2⟩, hw3⟩

def usO (s : Us) : Obj := .cells #[.int .i64 s.slot, .int .i64 s.by', .int .i64 s.rdy] 60 (0, 0)
def usv (s : Us) : Value := .agg #[.int .i64 s.slot, .int .i64 s.by', .int .i64 s.rdy]
theorem stR_step {rs : List (List Int)} {k : Nat} (hk : k < rs.length) : stR (rs.take (k + 1)) = stNext (stR (rs.take k)) rs[k] := by
  unfold stR
  rw [List.take_succ_eq_append_getElem hk, List.foldl_append]
  rfl
theorem stNext_1 {s : Us} {r : List Int} (h : isR r 1 3 = true) (h2 : r.getD 1 0 ≤ 1) : stNext s r = ⟨r.getD 1 0, r.getD 2 0, 0⟩ := by unfold stNext; rw [if_pos (by rw [h]; simpa using h2)]
theorem stNext_2 {s : Us} {r : List Int} (h : ¬ (isR r 1 3 = true ∧ r.getD 1 0 ≤ 1)) (h2 : isR r 2 2 = true) : stNext s r = ⟨s.slot, s.by', r.getD 1 0⟩ := by unfold stNext; rw [if_neg (by simpa using h), if_pos h2]
theorem stNext_3 {s : Us} {r : List Int} (h : ¬ (isR r 1 3 = true ∧ r.getD 1 0 ≤ 1)) (h2 : ¬ isR r 2 2 = true) (h3 : isR r 3 2 = true) : stNext s r = ⟨s.slot, s.by', 0⟩ := by unfold stNext; rw [if_neg (by simpa using h), if_neg h2, if_pos h3]
theorem stNext_0 {s : Us} {r : List Int} (h : ¬ (isR r 1 3 = true ∧ r.getD 1 0 ≤ 1)) (h2 : ¬ isR r 2 2 = true) (h3 : ¬ isR r 3 2 = true) : stNext s r = s := by unfold stNext; rw [if_neg (by simpa using h), if_neg h2, if_neg h3]
theorem isR_len {r : List Int} {k : Int} {l : Nat} (h : isR r k l = true) : r.length = l := by
  unfold isR at h
  rw [Bool.and_eq_true] at h
  simpa using h.1

/-- What stateOf has: its three variables. -/
structure SB (W : World) (B : Nat) (s : Us) : Prop where
  b1 : W.heap[B + 1]? = some (usO us0)
  b2 : W.heap[B + 1 + 1]? = some (usO s)

theorem us_set3 {W : World} {b : Nat} {s t : Us} (h : W.heap[b]? = some (usO s)) : (((W.setCell ⟨b, 0, none⟩ (.int .i64 t.slot)).setCell ⟨b, 1, none⟩ (.int .i64 t.by')).setCell ⟨b, 2, none⟩ (.int .i64 t.rdy)).heap[b]? = some (usO t) := by
  unfold usO at h ⊢
  simp only [World.setCell, Array.getElem?_modify]
  simp [h]
theorem us_set1 {W : World} {b : Nat} {s : Us} {x : Int} (h : W.heap[b]? = some (usO s)) : (W.setCell ⟨b, 2, none⟩ (.int .i64 x)).heap[b]? = some (usO ⟨s.slot, s.by', x⟩) := by
  unfold usO at h ⊢
  simp only [World.setCell, Array.getElem?_modify]
  simp [h]
theorem grown_drew' {w w' : World} {B : Option Nat} (h : w.grownBy w' B) : w.grownBy w'.drew B := ⟨h.os, h.tape, h.output, h.size, h.block⟩
theorem blk_drew {w : World} {b : Nat} {o : Obj} (h : w.heap[b]? = some o) : w.drew.heap[b]? = some o := h
/-- 'is', with its length as the program has it. -/
def isI (r : List Int) (k l : Int) : Bool := isR r k l.toNat
theorem unitIsI_any (a : Option Addr) (n c : Nat) (r : List Int) (k l : Int) (w : World) (h : IsInts w a r) (hn : r.length = n) (hm : n ≤ maxLen) (h0 : 0 < l) (hl : l ≤ 10) :
    Calls Tryz.prog 131 #[.slice a n c, .int .i64 k, .int .i64 l] w fun e w' => e = .returned (.bool (isI r k l)) ∧ w' = w := by
  obtain ⟨q, rfl⟩ : ∃ q : Nat, l = q := ⟨l.toNat, by omega⟩
  exact unitIs_any a n c r k q w h hn hm (by omega) (by omega)
theorem turns_set1 (w : World) (B i : Nat) (v : Value) : w.grownBy (w.setCell ⟨B, i, none⟩ v) (some B) := turns_set (World.grownBy.refl _ _) i v

set_option maxRecDepth 100000 in
set_option maxHeartbeats 3200000 in
theorem stateOf_any (a : Option Addr) (n c : Nat) (ws : List Int) (fuel : Int) (w : World) (h : BW w a n c ws) (e1 : lchk ws fuel = 0) :
    Calls Tryz.prog 76 #[.agg #[.slice a n c, .int .i64 fuel]] w fun e w' => e = .returned (usv (stOf ws)) ∧ Below w.heap.size w w' := by
  have hw0 : Below w.heap.size w (((w.alloc (.cells #[.slice a n c, .int .i64 fuel] 48)).alloc (usO us0)).alloc (usO us0)) := (((Below.refl _ _).alloc (Nat.le_refl _) _).alloc (by simp) _).alloc (by simp; omega) _
  have b0 : Hid ((((w.alloc (.cells #[.slice a n c, .int .i64 fuel] 48)).alloc (usO us0)).alloc (usO us0)).heap[w.heap.size]? = some (.cells #[.slice a n c, .int .i64 fuel] 48 (0, 0))) := blk_alloc (blk_alloc (heap_alloc_last _ _) _) _
  have sb : Hid (SB (((w.alloc (.cells #[.slice a n c, .int .i64 fuel] 48)).alloc (usO us0)).alloc (usO us0)) w.heap.size us0) := ⟨blk_alloc (uLast1 _ _ _) _, uLast2 _ _ _ _⟩
  have HR := hide (fun W (hW : Below w.heap.size w W) => recordsM_any a n c ws fuel W (h.below hW) e1)
  have hfew : (logR ws).length ≤ 31 := logR_few (by have := lchk_parts e1; omega)
  have HS : Hid (stOf ws = stR (logR ws)) := rfl
  clear h e1
  generalize logR ws = rs at *
  have x0 := blk_cell b0.out 0 _ rfl
  have x1 := blk_cell b0.out 1 _ rfl
  unfold usO us0 at hw0 b0 sb x0 x1
  go_enter Tryz.func76, Tryz.ntmps76
  go_wp2_with fail
  generalize ((w.alloc (.cells #[.slice a n c, .int .i64 fuel] 48)).alloc (.cells #[.int .i64 0, .int .i64 0, .int .i64 0] 60)).alloc (.cells #[.int .i64 0, .int .i64 0, .int .i64 0] 60) = W at *
  refine (unhide HR _ hw0).mono ?_
  rintro e w1 ⟨⟨ar, cr, rfl, hrm, hlc, hcm⟩, hb⟩
  replace sb : Hid (SB w1 w.heap.size us0) := ⟨blk_below sb.out.b1 hb, blk_below sb.out.b2 hb⟩
  replace hw0 := hw0.trans (hb.mono hw0.size)
  clear hb HR x0 x1 b0
  obtain ⟨nr, hnr⟩ : ∃ nr, nr = rs.length := ⟨_, rfl⟩
  rw [← hnr] at hfew hlc ⊢
  have LR := hide hnr
  have HM := hide hrm
  clear hnr hrm
  go_wp2_with fail
  go_loopw [15] (fun i wr => ∃ k : Nat, k ≤ nr ∧ i = .int .i64 k ∧ Below w.heap.size w wr ∧ Hid (SB wr w.heap.size (stR (rs.take k))) ∧ Hid (RecM wr ar rs)) (fun i _ => nr - (intOf i).toNat)
  case atStart => exact ⟨0, Nat.zero_le _, rfl, hw0, by show SB _ _ _; simpa [stR] using sb.out, HM⟩
  case round =>
    clear hw0 sb HM
    obtain ⟨wq, rfl⟩ : ∃ wq : World, wq = wr := ⟨_, rfl⟩
    obtain ⟨k, hk, rfl, hw, sb, hm⟩ := hrel
    generalize hst : stR (rs.take k) = st at *
    by_cases hlt : k < nr
    · have hkx : k < rs.length := by rw [← LR.out]; exact hlt
      have HX := hide (stR_step hkx)
      rw [hst] at HX
      rcases hm.out with e | ⟨b, cur, rfl, hb, hr⟩
      · rw [e] at hkx; simp at hkx
      obtain ⟨g, cg, h1, h2, h3, h4⟩ := hr k rs[k] (List.getElem?_eq_getElem hkx)
      have ec := blk_cell hb k _ h1
      have hin := h2.isInts
      have hcell := fun i hi => h2.cell i hi
      clear hst hr h1 hb
      generalize rs[k] = r at *
      obtain ⟨m, hmr⟩ : ∃ m, m = r.length := ⟨_, rfl⟩
      rw [← hmr] at ec h3
      unfold maxLen at h4
      have HI := hide (fun (k : Int) (l : Int) (h0 : 0 < l) (h1 : l ≤ 10) => unitIsI_any (some ⟨g, 0, none⟩) m cg r k l wq hin hmr.symm (by unfold maxLen; omega) h0 h1)
      have LM := hide hmr
      have S2 := hide sb.out.b2
      have S1 := hide sb.out.b1
      have N1 := hide (stNext_1 (s := st) (r := r))
      have N2 := hide (stNext_2 (s := st) (r := r))
      have N3 := hide (stNext_3 (s := st) (r := r))
      have N0 := hide (stNext_0 (s := st) (r := r))
      have C1 := hide (hcell 1)
      have C2 := hide (hcell 2)
      clear hmr hcell hin h2
      have frame : ∀ (w' : World) (s' : Us), wq.grownBy w' (some (w.heap.size + 1 + 1)) → w'.heap[w.heap.size + 1 + 1]? = some (usO s') → Below w.heap.size w w' ∧ SB w' w.heap.size s' ∧ RecM w' (some ⟨b, 0, none⟩) rs := by
        intro w' s' hg hb2
        exact ⟨turns_below hw hg (by omega) hw.size, ⟨blk_turns S1.out hg (by omega), hb2⟩, hm.out.turns (by unfold usO at S2; exact S2.out) hg⟩
      have FR := hide frame
      clear frame
      unfold usO us0 at S1
      unfold usO at S2
      have s0 := blk_cell S2.out 0 _ rfl
      have s1 := blk_cell S2.out 1 _ rfl
      have s2 := blk_cell S2.out 2 _ rfl
      have f0 := blk_free S2.out 0
      have f1 := blk_free S2.out 1
      have f2 := blk_free S2.out 2
      cases g1 : isI r 1 3
      · have hno : ¬ (isR r 1 3 = true ∧ r.getD 1 0 ≤ 1) := fun h => by rw [show isR r 1 3 = isI r 1 3 from rfl, g1] at h; cases h.1
        cases g2 : isI r 2 2
        · have hn2 : ¬ isR r 2 2 = true := by rw [show isR r 2 2 = isI r 2 2 from rfl, g2]; decide
          cases g3 : isI r 3 2
          · have HN := hide (HX.out.trans (N0.out hno hn2 (by rw [show isR r 3 2 = isI r 3 2 from rfl, g3]; decide)))
            clear hno hn2
            go_wp2_with (go_at_call 131; refine (unhide HI _ _ (by decide) (by decide)).mono ?_; rintro e w' ⟨rfl, rfl⟩)
            go_roundw
            case rel => exact ⟨k + 1, by omega, by go_num, hw, by show SB _ _ _; rw [HN.out]; exact sb.out, hm⟩
            case measure => simp [intOf]; omega
          · have HN := hide (HX.out.trans (N3.out hno hn2 g3))
            clear hno hn2
            go_wp2_with (go_at_call 131; refine (unhide HI _ _ (by decide) (by decide)).mono ?_; rintro e w' ⟨rfl, rfl⟩)
            go_roundw
            case rel =>
              obtain ⟨q1, q2, q3⟩ := FR.out _ ⟨st.slot, st.by', 0⟩ (turns_set1 _ _ _ _) (us_set1 S2.out)
              exact ⟨k + 1, by omega, by go_num, q1, by show SB _ _ _; rw [HN.out]; exact q2, q3⟩
            case measure => simp [intOf]; omega
        · have HN := hide (HX.out.trans (N2.out hno g2))
          have hl : m = 2 := by rw [LM.out]; exact isR_len g2
          subst hl
          have c1 := C1.out (by rw [← LM.out]; omega)
          clear hno
          generalize r.getD 1 0 = r1 at *
          go_wp2_with (go_at_call 131; refine (unhide HI _ _ (by decide) (by decide)).mono ?_; rintro e w' ⟨rfl, rfl⟩)
          go_roundw
          case rel =>
            obtain ⟨q1, q2, q3⟩ := FR.out _ ⟨st.slot, st.by', r1⟩ (turns_set1 _ _ _ _) (us_set1 S2.out)
            exact ⟨k + 1, by omega, by go_num, q1, by show SB _ _ _; rw [HN.out]; exact q2, q3⟩
          case measure => simp [intOf]; omega
      · have hl : m = 3 := by rw [LM.out]; exact isR_len g1
        subst hl
        have c1 := C1.out (by rw [← LM.out]; omega)
        have c2 := C2.out (by rw [← LM.out]; omega)
        by_cases z : r.getD 1 0 ≤ 1
        · have HN := hide (HX.out.trans (N1.out g1 z))
          clear N1 N2 N3 N0
          generalize r.getD 1 0 = r1 at *
          generalize r.getD 2 0 = r2 at *
          go_upto_region 7 with (go_at_call 131; refine (unhide HI _ _ (by decide) (by decide)).mono ?_; rintro e w' ⟨rfl, rfl⟩)
          go_region
          go_wp2_with fail
          go_roundw
          case rel =>
            obtain ⟨q1, q2, q3⟩ := FR.out _ ⟨r1, r2, 0⟩ (turns_set (turns_set (turns_set (grown_drew' (World.grownBy.refl _ _)) _ _) _ _) _ _) (us_set3 (t := ⟨r1, r2, 0⟩) (blk_drew S2.out))
            exact ⟨k + 1, by omega, by go_num, q1, by show SB _ _ _; rw [HN.out]; exact q2, q3⟩
          case measure => simp [intOf]; omega
        · have hno : ¬ (isR r 1 3 = true ∧ r.getD 1 0 ≤ 1) := fun h => z h.2
          have g2 : isI r 2 2 = false := by unfold isI isR; rw [← LM.out]; rfl
          have g3 : isI r 3 2 = false := by unfold isI isR; rw [← LM.out]; rfl
          have HN := hide (HX.out.trans (N0.out hno (by rw [show isR r 2 2 = isI r 2 2 from rfl, g2]; decide) (by rw [show isR r 3 2 = isI r 3 2 from rfl, g3]; decide)))
          have d1 : decide (r.getD 1 0 ≤ 1) = false := by simpa using z
          clear hno N1 N2 N3 N0 z
          generalize r.getD 1 0 = r1 at *
          go_wp2_with (go_at_call 131; refine (unhide HI _ _ (by decide) (by decide)).mono ?_; rintro e w' ⟨rfl, rfl⟩)
          go_roundw
          case rel => exact ⟨k + 1, by omega, by go_num, hw, by show SB _ _ _; rw [HN.out]; exact sb.out, hm⟩
          case measure => simp [intOf]; omega
    · have hx : stR rs = st := by rw [← hst, List.take_of_length_le (by rw [← LR.out]; omega)]
      have HE := hide (HS.out.trans hx)
      have S2 := hide sb.out.b2
      have S1 := hide sb.out.b1
      unfold usO us0 at S1
      unfold usO at S2
      have s0 := blk_cell S2.out 0 _ rfl
      have s1 := blk_cell S2.out 1 _ rfl
      have s2 := blk_cell S2.out 2 _ rfl
      have y0 := blk_cell S1.out 0 _ rfl
      have y1 := blk_cell S1.out 1 _ rfl
      have y2 := blk_cell S1.out 2 _ rfl
      have f0 := blk_free S1.out 0
      have f1 := blk_free S1.out 1
      have f2 := blk_free S1.out 2
      clear hx hst
      go_wp2_with fail
      refine bodyPost_ret (v := usv st) (by simp [results, Tryz.results76, go_sem, usv, y0, y1, y2]) rfl ?_
      rw [HE.out]
      exact ⟨rfl, ((hw.setCell (by show w.heap.size ≤ w.heap.size + 1; omega) _).setCell (by show w.heap.size ≤ w.heap.size + 1; omega) _).setCell (by show w.heap.size ≤ w.heap.size + 1; omega) _⟩

end Go.Proofs.YtppmdfndcjgibabGreatDoor
