/- log.Records once more: where its records lie ('RecM'); the contract of unit.stateOf. The contract of gate.stateOf. The contracts of gate.Read, stateUp. The steps of a unit: unit.clearing, filling, sealing, and what they make. The contracts of unit.clearing, filling, sealing, noting: they make steps. The contracts of unit.hearCommit, hearAbort. -/
import Derived.Test.YtgngpmgjoifepaaGreatDoorPt12
import Derived.BigQuiet
import Derived.Deep.RegionWith
namespace Go.Proofs.YtgngpmgjoifepaaGreatDoor
open Go.RowKit
attribute [local go_sem ↓] Go.wp_at_zero Go.wp_at_succ

def RecM (w : World) (a : Option Addr) (rs : List (List Int)) : Prop :=
  rs = [] ∨ ∃ b cur, a = some ⟨b, 0, none⟩ ∧ w.heap[b]? = some (.cells cur 133 (0, 0)) ∧ ∀ (i : Nat) (r : List Int), rs[i]? = some r → ∃ g c, cur[i]? = some (Value.slice (some ⟨g, 0, none⟩) r.length c) ∧ OwnCap w g r ∧ r.length ≤ c ∧ c ≤ maxLen

set_option maxRecDepth 100000 in
theorem RecM.turns {w w' : World} {a : Option Addr} {rs : List (List Int)} {S : Nat} {cs : Array Value} (h : RecM w a rs) (hS : w.heap[S]? = some (.cells cs 40 (0, 0))) (hg : w.grownBy w' (some S)) : RecM w' a rs := by
  rcases h with h | ⟨b, cur, rfl, hb, hr⟩
  { exact .inl h }
  {
  have hne : ∀ (g : Nat) (cs' : Array Value) (t : TypeId), w.heap[g]? = some (.cells cs' t (0, 0)) → t ≠ 40 → g ≠ S := by
    rintro g cs' t h1 h2 rfl
    rw [hS] at h1
    simp at h1
    exact h2 h1.2.symm
  refine .inr ⟨b, cur, rfl, blk_turns hb hg (hne _ _ _ hb (by decide)), fun i r hi => ?_⟩
  obtain ⟨g, c, h1, ⟨cu, h2, h3⟩, h4⟩ := hr i r hi
  exact ⟨g, c, h1, ⟨cu, blk_turns h2 hg (hne _ _ _ h2 (by decide)), h3⟩, h4⟩

  }
theorem MakingR.recM {w0 w : World} {v : Value} {rs : List (List Int)} (h : MakingR w0 w v rs) : ∃ a c, v = .slice a rs.length c ∧ rs.length ≤ c ∧ c ≤ maxLen ∧ RecM w a rs := by
  obtain ⟨vs, hown, hr⟩ := h.own
  obtain ⟨_, ⟨hv, hn⟩ | ⟨g, cap, cur, hv, hg, hh, hc, hm, _, ht⟩⟩ := hown
  { exact ⟨none, 0, by rw [hv, hn], by omega, by unfold maxLen; omega, .inl (List.eq_nil_of_length_eq_zero hn)⟩ }
  {
  refine ⟨some ⟨g, 0, none⟩, cap, hv, hc, hm, .inr ⟨g, cur, rfl, hh, fun i r hi => ?_⟩⟩
  obtain ⟨g1, c1, h1, h2, h3, h4⟩ := hr i r hi
  refine ⟨g1, c1, ?_, h2, h3, h4⟩
  rw [← ht, List.getElem?_take] at h1
  split at h1
  { simpa using h1 }
  {
  cases h1

  }
  }
def RecsM (w : World) (rs : List (List Int)) (e : Ending) (w' : World) : Prop :=
  (∃ a c, e = .returned (.tuple #[.slice a rs.length c, .int .i64 0]) ∧ RecM w' a rs ∧ rs.length ≤ c ∧ c ≤ maxLen) ∧ Below w.heap.size w w'

set_option maxRecDepth 100000 in
set_option maxHeartbeats 1000000 in
theorem recordsM_any (a : Option Addr) (n c : Nat) (ws : List Int) (fuel : Int) (w : World) (h : BW w a n c ws) (e1 : lchk ws fuel = 0) :
    Calls Tryz.prog 118 #[.agg #[.slice a n c, .int .i64 fuel]] w (RecsM w (logR ws)) := by
  have hw : Below w.heap.size w (w.alloc (.cells #[.slice a n c, .int .i64 fuel] 27)) := (Below.refl _ _).alloc (Nat.le_refl _) _
  have i0 := h.at_.below hw
  have HS := hide (fun W (h' : IsInts W a ws) => logCheck_any a n c ws fuel W h' h.len h.max)
  have HG := hide (fun W (h' : IsInts W a ws) (h64 : 64 ≤ n) => counting_any a n c ws fuel W h' h.len h.max h64)
  have HP := hide (fun W (h' : IsInts W a ws) (hm : n ≤ 192) (hok : okL ws = true) (h64 : 64 ≤ n) => parse_any a n c ws fuel (secN ws) W h' h.len h.cap hm hok (secN_01 ws) h64)
  have B0 := hide (heap_alloc_last w (.cells #[.slice a n c, .int .i64 fuel] 27))
  have parts := lchk_parts e1
  rw [h.len] at parts
  rw [e1] at HS
  clear h e1
  go_enter Tryz.func118, Tryz.ntmps118
  go_wp2_with fail
  generalize w.alloc (.cells #[.slice a n c, .int .i64 fuel] 27) = W at *
  refine (unhide HS _ i0).mono ?_
  rintro e w1 ⟨rfl, hb1⟩
  have hw1 := hw.trans (hb1.mono hw.size)
  have c00 := blk_cell (blk_below B0.out hb1) 0 _ rfl
  have c01 := blk_cell (blk_below B0.out hb1) 1 _ rfl
  go_wp2_with fail
  refine (unhide HG _ (i0.below hb1) parts.2.1).mono ?_
  rintro e w2 ⟨rfl, hb2⟩
  have hw2 := hw1.trans (hb2.mono hw1.size)
  have c10 := blk_cell (blk_below (blk_below B0.out hb1) hb2) 0 _ rfl
  have c11 := blk_cell (blk_below (blk_below B0.out hb1) hb2) 1 _ rfl
  go_wp2_with fail
  refine (unhide HP _ ((i0.below hb1).below hb2) parts.2.2.1 parts.2.2.2.1 parts.2.1).mono ?_
  rintro e w3 ⟨⟨v, a3, m3, cc3, rfl, hmk, hi3, hn3, hm3, hok3⟩, hb3⟩
  obtain ⟨av, cv, rfl, q1, q2, q3⟩ := hmk.recM
  have HQ := hide q3
  clear hmk hn3 q3
  have hw3 := hw2.trans (hb3.mono hw2.size)
  go_wp2
  go_ret2
  exact ⟨⟨av, cv, rfl, HQ.out, q1, q2⟩, hw3⟩

def usO (s : Us) : Obj := .cells #[.int .i64 s.slot, .int .i64 s.by', .int .i64 s.rdy] 40 (0, 0)
theorem grown_drew' {w w' : World} {B : Option Nat} (h : w.grownBy w' B) : w.grownBy w'.drew B := ⟨h.os, h.tape, h.output, h.size, h.block⟩
theorem blk_drew {w : World} {b : Nat} {o : Obj} (h : w.heap[b]? = some o) : w.drew.heap[b]? = some o := h
theorem turns_set1 (w : World) (B i : Nat) (v : Value) : w.grownBy (w.setCell ⟨B, i, none⟩ v) (some B) := turns_set (World.grownBy.refl _ _) i v

end Go.Proofs.YtgngpmgjoifepaaGreatDoor

namespace Go.Proofs.YtgngpmgjoifepaaGreatDoor
open Go.RowKit
attribute [local go_sem ↓] Go.wp_at_zero Go.wp_at_succ

set_option maxRecDepth 100000 in
theorem RecM.turnsG {w w' : World} {a : Option Addr} {rs : List (List Int)} {S : Nat} {cs : Array Value} (h : RecM w a rs) (hS : w.heap[S]? = some (.cells cs 82 (0, 0))) (hg : w.grownBy w' (some S)) : RecM w' a rs := by
  rcases h with h | ⟨b, cur, rfl, hb, hr⟩
  { exact .inl h }
  {
  have hne : ∀ (g : Nat) (cs' : Array Value) (t : TypeId), w.heap[g]? = some (.cells cs' t (0, 0)) → t ≠ 82 → g ≠ S := by
    rintro g cs' t h1 h2 rfl
    rw [hS] at h1
    simp at h1
    exact h2 h1.2.symm
  refine .inr ⟨b, cur, rfl, blk_turns hb hg (hne _ _ _ hb (by decide)), fun i r hi => ?_⟩
  obtain ⟨g, c, h1, ⟨cu, h2, h3⟩, h4⟩ := hr i r hi
  exact ⟨g, c, h1, ⟨cu, blk_turns h2 hg (hne _ _ _ h2 (by decide)), h3⟩, h4⟩

  }
theorem gR_step {rs : List (List Int)} {k : Nat} (hk : k < rs.length) : gR (rs.take (k + 1)) = gNext (gR (rs.take k)) rs[k] := by
  unfold gR
  rw [List.take_succ_eq_append_getElem hk, List.foldl_append]
  rfl
theorem gNext_1 {s : Gs} {r : List Int} (h : isBeg r = true) : gNext s r = ⟨r.getD 1 0, r.getD 2 0, false, false, false⟩ := by unfold gNext; rw [if_pos h]
theorem gNext_2 {s : Gs} {r : List Int} (h : isBeg r = false) (h2 : isOf s r = true) : gNext s r = trnG s (r.getD 0 0) := by unfold gNext; rw [if_neg (by rw [h]; decide), if_pos h2]
theorem gNext_0 {s : Gs} {r : List Int} (h : isBeg r = false) (h2 : isOf s r = false) : gNext s r = s := by unfold gNext; rw [if_neg (by rw [h]; decide), if_neg (by rw [h2]; decide)]

structure SG (W : World) (B : Nat) (s : Gs) : Prop where
  b1 : W.heap[B + 1]? = some (gsO gs0)
  b2 : W.heap[B + 1 + 1]? = some (gsO s)
theorem gs_set5 {W : World} {b : Nat} {s t : Gs} (h : W.heap[b]? = some (gsO s)) : (((((W.setCell ⟨b, 0, none⟩ (.int .i64 t.n)).setCell ⟨b, 1, none⟩ (.int .i64 t.v)).setCell ⟨b, 2, none⟩ (.bool t.co)).setCell ⟨b, 3, none⟩ (.bool t.ab)).setCell ⟨b, 4, none⟩ (.bool t.en)).heap[b]? = some (gsO t) := by
  unfold gsO at h ⊢
  simp only [World.setCell, Array.getElem?_modify]
  simp [h]
theorem turns_set5 (w : World) (B : Nat) (v0 v1 v2 v3 v4 : Value) : w.grownBy (((((w.setCell ⟨B, 0, none⟩ v0).setCell ⟨B, 1, none⟩ v1).setCell ⟨B, 2, none⟩ v2).setCell ⟨B, 3, none⟩ v3).setCell ⟨B, 4, none⟩ v4) (some B) :=
  turns_set (turns_set (turns_set (turns_set (turns_set (World.grownBy.refl _ _) 0 v0) 1 v1) 2 v2) 3 v3) 4 v4

set_option maxRecDepth 100000 in
set_option maxHeartbeats 6400000 in
theorem gStateOf_any (a : Option Addr) (n c : Nat) (ws : List Int) (fuel : Int) (w : World) (h : BW w a n c ws) (e1 : lchk ws fuel = 0) :
    Calls Tryz.prog 88 #[.agg #[.slice a n c, .int .i64 fuel]] w fun e w' => e = .returned (gsv (gOf ws)) ∧ Below w.heap.size w w' := by
  have hw0 : Below w.heap.size w (((w.alloc (.cells #[.slice a n c, .int .i64 fuel] 27)).alloc (gsO gs0)).alloc (gsO gs0)) := (((Below.refl _ _).alloc (Nat.le_refl _) _).alloc (by simp) _).alloc (by simp; omega) _
  have b0 : Hid ((((w.alloc (.cells #[.slice a n c, .int .i64 fuel] 27)).alloc (gsO gs0)).alloc (gsO gs0)).heap[w.heap.size]? = some (.cells #[.slice a n c, .int .i64 fuel] 27 (0, 0))) := blk_alloc (blk_alloc (heap_alloc_last _ _) _) _
  have sb : Hid (SG (((w.alloc (.cells #[.slice a n c, .int .i64 fuel] 27)).alloc (gsO gs0)).alloc (gsO gs0)) w.heap.size gs0) := ⟨blk_alloc (uLast1 _ _ _) _, uLast2 _ _ _ _⟩
  have HR := hide (fun W (hW : Below w.heap.size w W) => recordsM_any a n c ws fuel W (h.below hW) e1)
  have hfew : (logR ws).length ≤ 31 := logR_few (by have := lchk_parts e1; omega)
  have HS : Hid (gOf ws = gR (logR ws)) := rfl
  clear h e1
  generalize logR ws = rs at *
  have x0 := blk_cell b0.out 0 _ rfl
  have x1 := blk_cell b0.out 1 _ rfl
  unfold gsO gs0 at hw0 b0 sb x0 x1
  go_enter Tryz.func88, Tryz.ntmps88
  go_wp2_with fail
  generalize ((w.alloc (.cells #[.slice a n c, .int .i64 fuel] 27)).alloc (.cells #[.int .i64 0, .int .i64 0, .bool false, .bool false, .bool false] 82)).alloc (.cells #[.int .i64 0, .int .i64 0, .bool false, .bool false, .bool false] 82) = W at *
  refine (unhide HR _ hw0).mono ?_
  rintro e w1 ⟨⟨ar, cr, rfl, hrm, hlc, hcm⟩, hb⟩
  replace sb : Hid (SG w1 w.heap.size gs0) := ⟨blk_below sb.out.b1 hb, blk_below sb.out.b2 hb⟩
  replace hw0 := hw0.trans (hb.mono hw0.size)
  clear hb HR x0 x1 b0
  obtain ⟨nr, hnr⟩ : ∃ nr, nr = rs.length := ⟨_, rfl⟩
  rw [← hnr] at hfew hlc ⊢
  have LR := hide hnr
  have HM := hide hrm
  clear hnr hrm
  go_wp2_with fail
  go_loopw [15] (fun i wr => ∃ k : Nat, k ≤ nr ∧ i = .int .i64 k ∧ Below w.heap.size w wr ∧ Hid (SG wr w.heap.size (gR (rs.take k))) ∧ Hid (RecM wr ar rs)) (fun i _ => nr - (intOf i).toNat)
  case atStart => exact ⟨0, Nat.zero_le _, rfl, hw0, by show SG _ _ _; simpa [gR] using sb.out, HM⟩
  case round =>
    clear hw0 sb HM
    obtain ⟨wq, rfl⟩ : ∃ wq : World, wq = wr := ⟨_, rfl⟩
    obtain ⟨k, hk, rfl, hw, sb, hm⟩ := hrel
    generalize hst : gR (rs.take k) = st at *
    by_cases hlt : k < nr
    {
    have hkx : k < rs.length := by rw [← LR.out]; exact hlt
    have HX := hide (gR_step hkx)
    rw [hst] at HX
    rcases hm.out with e | ⟨b, cur, rfl, hb, hr⟩
    { rw [e] at hkx; simp at hkx }
    obtain ⟨g, cg, h1, h2, h3, h4⟩ := hr k rs[k] (List.getElem?_eq_getElem hkx)
    have ec := blk_cell hb k _ h1
    have hcell := fun i hi => h2.cell i hi
    clear hst hr h1 hb
    generalize rs[k] = r at *
    obtain ⟨m, hmr⟩ : ∃ m, m = r.length := ⟨_, rfl⟩
    rw [← hmr] at ec h3
    unfold maxLen at h4
    have LM := hide hmr
    have S2 := hide sb.out.b2
    have S1 := hide sb.out.b1
    have N1 := hide (gNext_1 (s := st) (r := r))
    have N2 := hide (gNext_2 (s := st) (r := r))
    have N0 := hide (gNext_0 (s := st) (r := r))
    have C0 := hide (hcell 0)
    have C1 := hide (hcell 1)
    have C2 := hide (hcell 2)
    clear hmr hcell h2
    have frame : ∀ (w' : World) (s' : Gs), wq.grownBy w' (some (w.heap.size + 1 + 1)) → w'.heap[w.heap.size + 1 + 1]? = some (gsO s') → Below w.heap.size w w' ∧ SG w' w.heap.size s' ∧ RecM w' (some ⟨b, 0, none⟩) rs := by
      intro w' s' hg hb2
      exact ⟨turns_below hw hg (by omega) hw.size, ⟨blk_turns S1.out hg (by omega), hb2⟩, hm.out.turnsG (by unfold gsO at S2; exact S2.out) hg⟩
    have FR := hide frame
    clear frame
    unfold gsO gs0 at S1
    unfold gsO at S2
    obtain ⟨s0, s1, s2, s3, s4⟩ := cl5 S2.out
    have f0 := blk_free S2.out 0
    have f1 := blk_free S2.out 1
    have f2 := blk_free S2.out 2
    have f3 := blk_free S2.out 3
    have f4 := blk_free S2.out 4
    by_cases z3 : m = 3
    {
    subst z3
    have hl3 : r.length = 3 := LM.out.symm
    have c0 := C0.out (by rw [hl3]; decide)
    have c1 := C1.out (by rw [hl3]; decide)
    have c2 := C2.out (by rw [hl3]; decide)
    have hof : isOf st r = false := by unfold isOf; rw [hl3]; rfl
    by_cases y0 : r.getD 0 0 = 1
    {
    cases y1 : inB (r.getD 1 0) 1 8
    {
    have HN := hide (HX.out.trans (N0.out (by unfold isBeg; rw [y1]; simp) hof))
    rw [y0] at c0
    clear N1 N2 N0 y0 hof hl3 C0 C1 C2
    generalize r.getD 1 0 = r1 at *
    generalize r.getD 2 0 = r2 at *
    go_upto_region 8 with (go_at_call 89; refine (gWithin_any _ _ _ _).mono ?_; rintro e w' ⟨rfl, rfl⟩)
    go_quiet (fail)
    go_wp2_with fail
    go_roundw
    case rel =>
      obtain ⟨q1, q2, q3⟩ := FR.out _ st (turns_of (below_drewN (Below.refl _ _) nq) _) (blk_below (by unfold gsO; exact S2.out) (below_drewN (Below.refl _ _) nq))
      exact ⟨k + 1, by omega, by go_num, q1, by show SG _ _ _; rw [HN.out]; exact q2, q3⟩
    case measure => simp [intOf]; omega
    }
    {
    have HN := hide (HX.out.trans (N1.out (by unfold isBeg; rw [hl3, y0, y1]; rfl)))
    rw [y0] at c0
    clear N1 N2 N0 y0 hof hl3 C0 C1 C2
    generalize r.getD 1 0 = r1 at *
    generalize r.getD 2 0 = r2 at *
    go_upto_region 7 with (go_at_call 89; refine (gWithin_any _ _ _ _).mono ?_; rintro e w' ⟨rfl, rfl⟩)
    go_region
    go_wp2_with fail
    go_roundw
    case rel =>
      obtain ⟨q1, q2, q3⟩ := FR.out _ ⟨r1, r2, false, false, false⟩ ((grown_drew' (World.grownBy.refl _ _)).trans (turns_set5 _ _ _ _ _ _ _)) (gs_set5 (s := st) (t := ⟨r1, r2, false, false, false⟩) (by unfold gsO; exact blk_drew S2.out))
      exact ⟨k + 1, by omega, by go_num, q1, by show SG _ _ _; rw [HN.out]; exact q2, q3⟩
    case measure => simp [intOf]; omega
    }
    }
    {
    have HN := hide (HX.out.trans (N0.out (by unfold isBeg; rw [decide_eq_false y0]; simp) hof))
    have d0 : (r.getD 0 0 == 1) = false := by simpa using y0
    clear N1 N2 N0 y0 hof hl3 C0 C1 C2
    generalize r.getD 0 0 = r0 at *
    go_upto_region 8 with (go_at_call 89; refine (gWithin_any _ _ _ _).mono ?_; rintro e w' ⟨rfl, rfl⟩)
    go_quiet (fail)
    go_wp2_with fail
    go_roundw
    case rel =>
      obtain ⟨q1, q2, q3⟩ := FR.out _ st (turns_of (below_drewN (Below.refl _ _) nq) _) (blk_below (by unfold gsO; exact S2.out) (below_drewN (Below.refl _ _) nq))
      exact ⟨k + 1, by omega, by go_num, q1, by show SG _ _ _; rw [HN.out]; exact q2, q3⟩
    case measure => simp [intOf]; omega
    }
    }
    have d3 : ((m : Int) == 3) = false := by simp; omega
    have hbeg : isBeg r = false := by unfold isBeg; rw [← LM.out]; simp [z3]
    by_cases z2 : m = 2
    rotate_left
    {
    have d2 : ((m : Int) == 2) = false := by simp; omega
    have HN := hide (HX.out.trans (N0.out hbeg (by unfold isOf; rw [← LM.out]; simp [z2])))
    clear N1 N2 N0 C0 C1 C2 z2 z3 hbeg
    go_upto_region 8 with (go_at_call 89; refine (gWithin_any _ _ _ _).mono ?_; rintro e w' ⟨rfl, rfl⟩)
    go_quiet (fail)
    go_wp2_with fail
    go_roundw
    case rel =>
      obtain ⟨q1, q2, q3⟩ := FR.out _ st (turns_of (below_drewN (Below.refl _ _) nq) _) (blk_below (by unfold gsO; exact S2.out) (below_drewN (Below.refl _ _) nq))
      exact ⟨k + 1, by omega, by go_num, q1, by show SG _ _ _; rw [HN.out]; exact q2, q3⟩
    case measure => simp [intOf]; omega
    }
    subst z2
    have hl2 : r.length = 2 := LM.out.symm
    have c0 := C0.out (by rw [hl2]; decide)
    have c1 := C1.out (by rw [hl2]; decide)
    clear d3 z3
    by_cases y0 : st.n = 0
    {
    have HN := hide (HX.out.trans (N0.out hbeg (by unfold isOf; simp [y0])))
    have e0 : (st.n != 0) = false := by simpa using y0
    clear N1 N2 N0 C0 C1 C2 hbeg y0 hl2
    go_upto_region 8 with (go_at_call 89; refine (gWithin_any _ _ _ _).mono ?_; rintro e w' ⟨rfl, rfl⟩)
    go_quiet (fail)
    go_wp2_with fail
    go_roundw
    case rel =>
      obtain ⟨q1, q2, q3⟩ := FR.out _ st (turns_of (below_drewN (Below.refl _ _) nq) _) (blk_below (by unfold gsO; exact S2.out) (below_drewN (Below.refl _ _) nq))
      exact ⟨k + 1, by omega, by go_num, q1, by show SG _ _ _; rw [HN.out]; exact q2, q3⟩
    case measure => simp [intOf]; omega
    }
    have e0 : (st.n != 0) = true := by simpa using y0
    by_cases y1 : r.getD 1 0 = st.n
    rotate_left
    {
    have HN := hide (HX.out.trans (N0.out hbeg (by unfold isOf; rw [decide_eq_false y1]; simp)))
    have e1 : (r.getD 1 0 == st.n) = false := by simpa using y1
    clear N1 N2 N0 C0 C1 C2 hbeg y0 y1 hl2
    generalize r.getD 1 0 = r1 at *
    go_upto_region 8 with (go_at_call 89; refine (gWithin_any _ _ _ _).mono ?_; rintro e w' ⟨rfl, rfl⟩)
    go_quiet (fail)
    go_wp2_with fail
    go_roundw
    case rel =>
      obtain ⟨q1, q2, q3⟩ := FR.out _ st (turns_of (below_drewN (Below.refl _ _) nq) _) (blk_below (by unfold gsO; exact S2.out) (below_drewN (Below.refl _ _) nq))
      exact ⟨k + 1, by omega, by go_num, q1, by show SG _ _ _; rw [HN.out]; exact q2, q3⟩
    case measure => simp [intOf]; omega
    }
    have e1 : (r.getD 1 0 == st.n) = true := by simpa using y1
    have HN := hide (HX.out.trans (N2.out hbeg (by unfold isOf; rw [hl2, decide_eq_true (p := st.n ≠ 0) y0, decide_eq_true y1]; rfl)))
    have HT := hide (fun W => turned_any st (r.getD 0 0) W)
    unfold gsv at HT
    clear N1 N2 N0 C0 C1 C2 hbeg y0 y1 hl2
    generalize trnG st (r.getD 0 0) = tt at *
    generalize r.getD 0 0 = r0 at *
    generalize r.getD 1 0 = r1 at *
    go_upto_region 8 with (go_at_call 89; refine (gWithin_any _ _ _ _).mono ?_; rintro e w' ⟨rfl, rfl⟩)
    go_quiet (fail)
    go_upto_region 9 with fail
    have hbq : Below wq.heap.size wq (wq.drewN nq) := below_drewN (Below.refl _ _) nq
    have ltS := blk_lt S2.out
    generalize hWq : wq.drewN nq = W2 at *
    clear hWq
    have X2 := hide (blk_below S2.out hbq)
    have cg0 := (hbq.cell (cell_lt c0)).trans c0
    obtain ⟨x0, x1, x2, x3, x4⟩ := cl5 X2.out
    clear s0 s1 s2 s3 s4 f0 f1 f2 f3 f4 c0 c1 ec e0 e1
    go_region_with ((go_at_call 144; refine (unhide HT _).mono ?_; rintro e w6 ⟨rfl, hb6⟩; have hk6 : Below W2.heap.size W2 w6 := (Below.refl _ W2).drew.trans (hb6.mono (Nat.le_refl _)); have X6 := hide (blk_below X2.out hk6); have t0 := blk_cell X6.out 0 _ rfl; have q0 := blk_free X6.out 0; have t1 := blk_cell X6.out 1 _ rfl; have q1 := blk_free X6.out 1; have t2 := blk_cell X6.out 2 _ rfl; have q2 := blk_free X6.out 2; have t3 := blk_cell X6.out 3 _ rfl; have q3 := blk_free X6.out 3; have t4 := blk_cell X6.out 4 _ rfl; have q4 := blk_free X6.out 4))
    all_goals
      go_wp2_with fail
      go_roundw
      case rel =>
        obtain ⟨q1, q2, q3⟩ := FR.out _ tt ((turns_of (hbq.trans (hk6.mono hbq.size)) _).trans (turns_set5 _ _ _ _ _ _ _)) (gs_set5 (s := st) (t := tt) (by unfold gsO; exact X6.out))
        exact ⟨k + 1, by omega, by go_num, q1, by show SG _ _ _; rw [HN.out]; exact q2, q3⟩
      case measure => simp [intOf]; omega
    }
    {
    have hx : gR rs = st := by rw [← hst, List.take_of_length_le (by rw [← LR.out]; omega)]
    have HE := hide (HS.out.trans hx)
    have S2 := hide sb.out.b2
    have S1 := hide sb.out.b1
    unfold gsO gs0 at S1
    unfold gsO at S2
    have s0 := blk_cell S2.out 0 _ rfl
    have y0 := blk_cell S1.out 0 _ rfl
    have f0 := blk_free S1.out 0
    have s1 := blk_cell S2.out 1 _ rfl
    have y1 := blk_cell S1.out 1 _ rfl
    have f1 := blk_free S1.out 1
    have s2 := blk_cell S2.out 2 _ rfl
    have y2 := blk_cell S1.out 2 _ rfl
    have f2 := blk_free S1.out 2
    have s3 := blk_cell S2.out 3 _ rfl
    have y3 := blk_cell S1.out 3 _ rfl
    have f3 := blk_free S1.out 3
    have s4 := blk_cell S2.out 4 _ rfl
    have y4 := blk_cell S1.out 4 _ rfl
    have f4 := blk_free S1.out 4
    clear hx hst
    go_wp2_with fail
    refine bodyPost_ret (v := gsv st) (by simp [results, Tryz.results88, go_sem, gsv, y0, y1, y2, y3, y4]) rfl ?_
    rw [HE.out]
    exact ⟨rfl, turns_below hw (turns_set5 _ _ _ _ _ _ _) (by omega) hw.size⟩

    }
end Go.Proofs.YtgngpmgjoifepaaGreatDoor

namespace Go.Proofs.YtgngpmgjoifepaaGreatDoor
open Go.RowKit
attribute [local go_sem ↓] Go.wp_at_zero Go.wp_at_succ

theorem gReadS_e {g : Gt} (h : gtE g ≠ 0) : gReadS g = (gs0, gtE g) := by unfold gReadS; rw [if_pos h]
theorem gReadS_0 {g : Gt} (h : gtE g = 0) : gReadS g = (gOf g.ws, 0) := by unfold gReadS; rw [if_neg (by simpa using h)]
def gUpS (g : Gt) : Gs × Int := if upE g ≠ 0 then (gs0, upE g) else (gOf g.ws, 0)
theorem upE_e {g : Gt} (h : gtE g ≠ 0) : upE g = gtE g := by unfold upE; rw [if_pos h]
theorem upE_7 {g : Gt} (h : gtE g = 0) (h2 : g.up = false) : upE g = 7 := by unfold upE; rw [if_neg (by simpa using h), if_neg (by rw [h2]; decide)]
theorem upE_0 {g : Gt} (h : gtE g = 0) (h2 : g.up = true) : upE g = 0 := by unfold upE; rw [if_neg (by simpa using h), if_pos h2]
theorem gUpS_e {g : Gt} (h : gtE g ≠ 0) : gUpS g = (gs0, gtE g) := by unfold gUpS; rw [upE_e h, if_pos h]
theorem gUpS_7 {g : Gt} (h : gtE g = 0) (h2 : g.up = false) : gUpS g = (gs0, 7) := by unfold gUpS; rw [upE_7 h h2, if_pos (by decide)]
theorem gUpS_0 {g : Gt} (h : gtE g = 0) (h2 : g.up = true) : gUpS g = (gOf g.ws, 0) := by unfold gUpS; rw [upE_0 h h2, if_neg (by decide)]

set_option maxRecDepth 100000 in
set_option maxHeartbeats 1600000 in
theorem gateRead_any (g : Gt) (m : GA) (w : World) (h : GIn w m g) :
    Calls Tryz.prog 33 #[gtv g m] w fun e w' => e = .returned (.tuple #[gsv (gReadS g).1, .int .i64 (gReadS g).2]) ∧ Below w.heap.size w w' := by
  have E1 := fun h => gReadS_e (g := g) h
  have E0 := fun h => gReadS_0 (g := g) h
  have hw0 : Below w.heap.size w ((w.alloc (.cells #[.slice m.a m.n m.c, .int .i64 g.fu, .bool g.up, .int .i64 g.t.r.v, .slice m.ak m.nk m.ck, .int .i64 g.t.r.t, .int .i64 g.t.ver, .slice m.av m.nv m.cv, .slice m.ad m.nd m.cd] 68)).alloc (.cells #[.int .i64 0, .int .i64 0, .bool false, .bool false, .bool false] 82)) := ((Below.refl _ _).alloc (Nat.le_refl _) _).alloc (by simp) _
  have b0 : Hid (((w.alloc (.cells #[.slice m.a m.n m.c, .int .i64 g.fu, .bool g.up, .int .i64 g.t.r.v, .slice m.ak m.nk m.ck, .int .i64 g.t.r.t, .int .i64 g.t.ver, .slice m.av m.nv m.cv, .slice m.ad m.nd m.cd] 68)).alloc (.cells #[.int .i64 0, .int .i64 0, .bool false, .bool false, .bool false] 82)).heap[w.heap.size]? = some (.cells #[.slice m.a m.n m.c, .int .i64 g.fu, .bool g.up, .int .i64 g.t.r.v, .slice m.ak m.nk m.ck, .int .i64 g.t.r.t, .int .i64 g.t.ver, .slice m.av m.nv m.cv, .slice m.ad m.nd m.cd] 68 (0, 0))) := blk_alloc (heap_alloc_last _ _) _
  have b1 : Hid (((w.alloc (.cells #[.slice m.a m.n m.c, .int .i64 g.fu, .bool g.up, .int .i64 g.t.r.v, .slice m.ak m.nk m.ck, .int .i64 g.t.r.t, .int .i64 g.t.ver, .slice m.av m.nv m.cv, .slice m.ad m.nd m.cd] 68)).alloc (.cells #[.int .i64 0, .int .i64 0, .bool false, .bool false, .bool false] 82)).heap[w.heap.size + 1]? = some (.cells #[.int .i64 0, .int .i64 0, .bool false, .bool false, .bool false] 82 (0, 0))) := uLast1 _ _ _
  have HC := hide (fun W (hW : Below w.heap.size w W) => gateCheck_any g m W (h.below hW))
  have HS := hide (fun (e1 : lchk g.ws g.fu = 0) W (hW : Below w.heap.size w W) => gStateOf_any m.a m.n m.c g.ws g.fu W (h.ws.below hW) e1)
  have hx : w.heap.size ≤ w.heap.size + 1 := by omega
  unfold gtv at *
  clear h
  go_enter Tryz.func33, Tryz.ntmps33
  go_wp2_with fail
  generalize ((w.alloc (.cells #[.slice m.a m.n m.c, .int .i64 g.fu, .bool g.up, .int .i64 g.t.r.v, .slice m.ak m.nk m.ck, .int .i64 g.t.r.t, .int .i64 g.t.ver, .slice m.av m.nv m.cv, .slice m.ad m.nd m.cd] 68)).alloc (.cells #[.int .i64 0, .int .i64 0, .bool false, .bool false, .bool false] 82)) = W at *
  refine (unhide HC _ hw0).mono ?_
  rintro e w1 ⟨rfl, hb⟩
  replace b0 := hide (blk_below b0.out hb)
  replace b1 := hide (blk_below b1.out hb)
  replace hw0 := hw0.trans (hb.mono hw0.size)
  clear hb HC
  by_cases z1 : gtE g = 0
  rotate_left
  {
  have HE := hide (E1 z1)
  have d1 : (gtE g != 0) = true := by simpa using z1
  obtain ⟨y0, y1, y2, y3, y4⟩ := cl5 b1.out
  have f0 := blk_free b1.out 0
  have f1 := blk_free b1.out 1
  have f2 := blk_free b1.out 2
  have f3 := blk_free b1.out 3
  have f4 := blk_free b1.out 4
  clear z1 E1 E0
  generalize gtE g = q at *
  go_wp2_with fail
  refine bodyPost_ret (v := .tuple #[gsv gs0, .int .i64 q]) (by simp [results, Tryz.results33, go_sem, gsv, gs0, y0, y1, y2, y3, y4]) rfl ?_
  rw [HE.out]
  exact ⟨rfl, ((((hw0.setCell hx _).setCell hx _).setCell hx _).setCell hx _).setCell hx _⟩
  }
  have HE := hide (E0 z1)
  have HSt := hide (HS.out (gtE_ok z1).1 _ hw0)
  rw [z1]
  clear z1 E1 E0 HS
  have x0 := blk_cell b0.out 0 _ rfl
  have x1 := blk_cell b0.out 1 _ rfl
  go_wp2_with fail
  refine (unhide HSt).mono ?_
  rintro e w2 ⟨rfl, hb⟩
  replace b1 := hide (blk_below b1.out hb)
  replace hw0 := hw0.trans (hb.mono hw0.size)
  clear hb HSt x0 x1
  obtain ⟨y0, y1, y2, y3, y4⟩ := cl5 b1.out
  have f0 := blk_free b1.out 0
  have f1 := blk_free b1.out 1
  have f2 := blk_free b1.out 2
  have f3 := blk_free b1.out 3
  have f4 := blk_free b1.out 4
  generalize gOf g.ws = s at *
  unfold gsv
  go_wp2_with fail
  refine bodyPost_ret (v := .tuple #[gsv s, .int .i64 0]) (by simp [results, Tryz.results33, go_sem, gsv, y0, y1, y2, y3, y4]) rfl ?_
  rw [HE.out]
  exact ⟨rfl, ((((hw0.setCell hx _).setCell hx _).setCell hx _).setCell hx _).setCell hx _⟩

set_option maxRecDepth 100000 in
set_option maxHeartbeats 1600000 in
theorem stateUp_any (g : Gt) (m : GA) (w : World) (h : GIn w m g) :
    Calls Tryz.prog 82 #[gtv g m] w fun e w' => e = .returned (.tuple #[gsv (gUpS g).1, .int .i64 (gUpS g).2]) ∧ Below w.heap.size w w' := by
  have E1 := fun h => gUpS_e (g := g) h
  have E7 := fun h h2 => gUpS_7 (g := g) h h2
  have E0 := fun h h2 => gUpS_0 (g := g) h h2
  have hw0 : Below w.heap.size w ((w.alloc (.cells #[.slice m.a m.n m.c, .int .i64 g.fu, .bool g.up, .int .i64 g.t.r.v, .slice m.ak m.nk m.ck, .int .i64 g.t.r.t, .int .i64 g.t.ver, .slice m.av m.nv m.cv, .slice m.ad m.nd m.cd] 68)).alloc (.cells #[.int .i64 0, .int .i64 0, .bool false, .bool false, .bool false] 82)) := ((Below.refl _ _).alloc (Nat.le_refl _) _).alloc (by simp) _
  have b0 : Hid (((w.alloc (.cells #[.slice m.a m.n m.c, .int .i64 g.fu, .bool g.up, .int .i64 g.t.r.v, .slice m.ak m.nk m.ck, .int .i64 g.t.r.t, .int .i64 g.t.ver, .slice m.av m.nv m.cv, .slice m.ad m.nd m.cd] 68)).alloc (.cells #[.int .i64 0, .int .i64 0, .bool false, .bool false, .bool false] 82)).heap[w.heap.size]? = some (.cells #[.slice m.a m.n m.c, .int .i64 g.fu, .bool g.up, .int .i64 g.t.r.v, .slice m.ak m.nk m.ck, .int .i64 g.t.r.t, .int .i64 g.t.ver, .slice m.av m.nv m.cv, .slice m.ad m.nd m.cd] 68 (0, 0))) := blk_alloc (heap_alloc_last _ _) _
  have b1 : Hid (((w.alloc (.cells #[.slice m.a m.n m.c, .int .i64 g.fu, .bool g.up, .int .i64 g.t.r.v, .slice m.ak m.nk m.ck, .int .i64 g.t.r.t, .int .i64 g.t.ver, .slice m.av m.nv m.cv, .slice m.ad m.nd m.cd] 68)).alloc (.cells #[.int .i64 0, .int .i64 0, .bool false, .bool false, .bool false] 82)).heap[w.heap.size + 1]? = some (.cells #[.int .i64 0, .int .i64 0, .bool false, .bool false, .bool false] 82 (0, 0))) := uLast1 _ _ _
  have HC := hide (fun W (hW : Below w.heap.size w W) => gateCheck_any g m W (h.below hW))
  have HS := hide (fun (e1 : lchk g.ws g.fu = 0) W (hW : Below w.heap.size w W) => gStateOf_any m.a m.n m.c g.ws g.fu W (h.ws.below hW) e1)
  have hx : w.heap.size ≤ w.heap.size + 1 := by omega
  unfold gtv at *
  clear h
  go_enter Tryz.func82, Tryz.ntmps82
  go_wp2_with fail
  generalize ((w.alloc (.cells #[.slice m.a m.n m.c, .int .i64 g.fu, .bool g.up, .int .i64 g.t.r.v, .slice m.ak m.nk m.ck, .int .i64 g.t.r.t, .int .i64 g.t.ver, .slice m.av m.nv m.cv, .slice m.ad m.nd m.cd] 68)).alloc (.cells #[.int .i64 0, .int .i64 0, .bool false, .bool false, .bool false] 82)) = W at *
  refine (unhide HC _ hw0).mono ?_
  rintro e w1 ⟨rfl, hb⟩
  replace b0 := hide (blk_below b0.out hb)
  replace b1 := hide (blk_below b1.out hb)
  replace hw0 := hw0.trans (hb.mono hw0.size)
  clear hb HC
  by_cases z1 : gtE g = 0
  rotate_left
  {
  have HE := hide (E1 z1)
  have d1 : (gtE g != 0) = true := by simpa using z1
  obtain ⟨y0, y1, y2, y3, y4⟩ := cl5 b1.out
  have f0 := blk_free b1.out 0
  have f1 := blk_free b1.out 1
  have f2 := blk_free b1.out 2
  have f3 := blk_free b1.out 3
  have f4 := blk_free b1.out 4
  clear z1 E1 E0 E7
  generalize gtE g = q at *
  go_wp2_with fail
  refine bodyPost_ret (v := .tuple #[gsv gs0, .int .i64 q]) (by simp [results, Tryz.results82, go_sem, gsv, gs0, y0, y1, y2, y3, y4]) rfl ?_
  rw [HE.out]
  exact ⟨rfl, ((((hw0.setCell hx _).setCell hx _).setCell hx _).setCell hx _).setCell hx _⟩
  }
  have x2 := blk_cell b0.out 2 _ rfl
  cases zu : g.up
  {
  have HE := hide (E7 z1 zu)
  rw [zu] at x2
  rw [z1]
  obtain ⟨y0, y1, y2, y3, y4⟩ := cl5 b1.out
  have f0 := blk_free b1.out 0
  have f1 := blk_free b1.out 1
  have f2 := blk_free b1.out 2
  have f3 := blk_free b1.out 3
  have f4 := blk_free b1.out 4
  clear z1 E1 E0 E7 zu
  go_wp2_with fail
  refine bodyPost_ret (v := .tuple #[gsv gs0, .int .i64 7]) (by simp [results, Tryz.results82, go_sem, gsv, gs0, y0, y1, y2, y3, y4]) rfl ?_
  rw [HE.out]
  exact ⟨rfl, ((((hw0.setCell hx _).setCell hx _).setCell hx _).setCell hx _).setCell hx _⟩
  }
  rw [zu] at x2
  have HE := hide (E0 z1 zu)
  have HSt := hide (HS.out (gtE_ok z1).1 _ hw0)
  rw [z1]
  clear z1 E1 E0 HS E7 zu
  have x0 := blk_cell b0.out 0 _ rfl
  have x1 := blk_cell b0.out 1 _ rfl
  go_wp2_with fail
  refine (unhide HSt).mono ?_
  rintro e w2 ⟨rfl, hb⟩
  replace b1 := hide (blk_below b1.out hb)
  replace hw0 := hw0.trans (hb.mono hw0.size)
  clear hb HSt x0 x1 x2
  obtain ⟨y0, y1, y2, y3, y4⟩ := cl5 b1.out
  have f0 := blk_free b1.out 0
  have f1 := blk_free b1.out 1
  have f2 := blk_free b1.out 2
  have f3 := blk_free b1.out 3
  have f4 := blk_free b1.out 4
  generalize gOf g.ws = s at *
  unfold gsv
  go_wp2_with fail
  refine bodyPost_ret (v := .tuple #[gsv s, .int .i64 0]) (by simp [results, Tryz.results82, go_sem, gsv, y0, y1, y2, y3, y4]) rfl ?_
  rw [HE.out]
  exact ⟨rfl, ((((hw0.setCell hx _).setCell hx _).setCell hx _).setCell hx _).setCell hx _⟩

end Go.Proofs.YtgngpmgjoifepaaGreatDoor

namespace Go.Proofs.YtgngpmgjoifepaaGreatDoor
open Go.RowKit
attribute [local go_sem ↓] Go.wp_at_zero Go.wp_at_succ

theorem progS_len (ws : List Int) (fuel p : Int) (words : List Int) : (progS ws fuel p words).1.length ≤ ws.length := by
  unfold progS
  split
  { simp }
  {
  split
  { simp }
  {
  split
  { simp }
  { rw [chg_length]; exact Nat.le_refl _ }
  }
  }
theorem doS_le (st : Stp) (ws : List Int) (f : Int) : (doS st ws f).1.length ≤ ws.length := by
  cases st with
  | inl s => exact eraS_len _ _ _
  | inr q => obtain ⟨p, words⟩ := q; exact progS_len _ _ _ _
theorem turnS_le (sts : List Stp) : ∀ (ws : List Int) (f : Int), (turnS sts ws f).1.length ≤ ws.length := by
  induction sts with
  | nil => intro ws f; exact Nat.le_refl _
  | cons st r ih =>
    intro ws f
    by_cases h : (doS st ws f).2.2 = 0
    { rw [turnS_go h]; exact Nat.le_trans (ih _ _) (doS_le _ _ _) }
    { rw [turnS_stop h]; exact doS_le _ _ _ }
end Go.Proofs.YtgngpmgjoifepaaGreatDoor

namespace Go.Proofs.YtgngpmgjoifepaaGreatDoor
open Go.RowKit
attribute [local go_sem ↓] Go.wp_at_zero Go.wp_at_succ

theorem isInts2 {w : World} {b : Nat} {x y : Int} (h0 : w.cell? ⟨b, 0, none⟩ = some (.int .i64 x)) (h1 : w.cell? ⟨b, 1, none⟩ = some (.int .i64 y)) : IsInts w (some ⟨b, 0, none⟩) [x, y] := by
  refine .inr ⟨b, 0, rfl, fun i hi => ?_⟩
  simp at hi
  rcases i with _ | _ | i
  { exact h0 }
  { exact h1 }
  { omega }
structure NB (W : World) (n : Nat) (s : Us) (ar : Option Addr) (nr cr : Nat) : Prop where
  b0 : W.heap[n]? = some (usO s)
  b1 : W.heap[n + 1]? = some (.cells #[.slice ar nr cr] 25 (0, 0))
  b2 : W.heap[n + 1 + 1]? = some (.cells #[.int .i64 1, .int .i64 s.slot, .int .i64 s.by'] 3 (0, 0))
  b3 : W.heap[n + 1 + 1 + 1]? = some (.cells #[.slice (some ⟨n + 1 + 1, 0, none⟩) 3 3] 133 (0, 0))
  b4 : W.heap[n + 1 + 1 + 1 + 1]? = some (.cells #[.slice (some ⟨n + 1 + 1 + 1, 0, none⟩) 1 1] 130 (0, 0))
end Go.Proofs.YtgngpmgjoifepaaGreatDoor

namespace Go.Proofs.YtgngpmgjoifepaaGreatDoor
open Go.RowKit
attribute [local go_sem ↓] Go.wp_at_zero Go.wp_at_succ

structure HB (W : World) (X : Nat) (s : Us) (m : Ms) (a : Option Addr) (n c : Nat) : Prop where
  b0 : W.heap[X]? = some (.cells #[.int .i64 s.slot, .int .i64 s.by', .int .i64 s.rdy] 40 (0, 0))
  b1 : W.heap[X + 1]? = some (.cells #[.int .i64 m.k, .int .i64 m.u, .int .i64 m.n, .int .i64 m.at', .int .i64 m.im, .slice a n c, .bool m.y] 31 (0, 0))
theorem HB.turns {W W' : World} {X B : Nat} {s : Us} {m : Ms} {a : Option Addr} {n c : Nat} (h : HB W X s m a n c) (hg : W.grownBy W' (some B)) (hX : B < X) : HB W' X s m a n c := ⟨blk_turns h.b0 hg (by omega), blk_turns h.b1 hg (by omega)⟩
theorem HB.below {W W' : World} {X : Nat} {s : Us} {m : Ms} {a : Option Addr} {n c : Nat} (h : HB W X s m a n c) (hb : Below W.heap.size W W') : HB W' X s m a n c := ⟨blk_below h.b0 hb, blk_below h.b1 hb⟩
def hW (w : World) (s : Us) (m : Ms) (a : Option Addr) (n c : Nat) : World :=
  (w.alloc (.cells #[.int .i64 s.slot, .int .i64 s.by', .int .i64 s.rdy] 40)).alloc (.cells #[.int .i64 m.k, .int .i64 m.u, .int .i64 m.n, .int .i64 m.at', .int .i64 m.im, .slice a n c, .bool m.y] 31)
def HS (X : Nat) (s : Us) (m : Ms) (a : Option Addr) (n c : Nat) (W : World) : Prop :=
  W.cell? ⟨X, 0, none⟩ = some (.int .i64 s.slot) ∧ W.cell? ⟨X, 1, none⟩ = some (.int .i64 s.by') ∧ W.cell? ⟨X, 2, none⟩ = some (.int .i64 s.rdy) ∧ W.cell? ⟨X + 1, 2, none⟩ = some (.int .i64 m.n) ∧ W.cell? ⟨X + 1, 3, none⟩ = some (.int .i64 m.at') ∧ W.cell? ⟨X + 1, 4, none⟩ = some (.int .i64 m.im) ∧ W.cell? ⟨X + 1, 5, none⟩ = some (.slice a n c)
theorem HB.hs {W : World} {X : Nat} {s : Us} {m : Ms} {a : Option Addr} {n c : Nat} (h : HB W X s m a n c) : HS X s m a n c W :=
  ⟨blk_cell h.b0 0 _ rfl, blk_cell h.b0 1 _ rfl, blk_cell h.b0 2 _ rfl, blk_cell h.b1 2 _ rfl, blk_cell h.b1 3 _ rfl, blk_cell h.b1 4 _ rfl, blk_cell h.b1 5 _ rfl⟩

end Go.Proofs.YtgngpmgjoifepaaGreatDoor
