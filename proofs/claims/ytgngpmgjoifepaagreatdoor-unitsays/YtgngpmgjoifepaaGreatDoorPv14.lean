/- log.Records once more: where its records lie ('RecM'); the contract of unit.stateOf. The contracts of wainwrightref.generation, counts, CheckLog, checkRecord: the same as the program's. -/
import Derived.Test.YtgngpmgjoifepaaGreatDoorPv13
import Derived.Test.YtgngpmgjoifepaaGreatDoorPv7
import Derived.Test.YtgngpmgjoifepaaGreatDoorPv11
namespace Go.Proofs.YtgngpmgjoifepaaGreatDoor
open Go.RowKit
attribute [local go_sem ↓] Go.wp_at_zero Go.wp_at_succ

def RecM (w : World) (a : Option Addr) (rs : List (List Int)) : Prop :=
  rs = [] ∨ ∃ b cur, a = some ⟨b, 0, none⟩ ∧ w.heap[b]? = some (.cells cur 133 (0, 0)) ∧ ∀ (i : Nat) (r : List Int), rs[i]? = some r → ∃ g c, cur[i]? = some (Value.slice (some ⟨g, 0, none⟩) r.length c) ∧ OwnCap w g r ∧ r.length ≤ c ∧ c ≤ maxLen

set_option maxRecDepth 100000 in
theorem RecM.turns {w w' : World} {a : Option Addr} {rs : List (List Int)} {S : Nat} {cs : Array Value} (h : RecM w a rs) (hS : w.heap[S]? = some (.cells cs 40 (0, 0))) (hg : w.grownBy w' (some S)) : RecM w' a rs := by
  rcases h with h | ⟨b, cur, rfl, hb, hr⟩
  { exact .inl h }
  {
  have hne : ∀ (g : Nat) (cs' : Array Value) (t : TypeId), w.heap[g]? = some (.cells cs' t (0, 0)) → t ≠ 40 → g ≠ S := by
    rintro g cs' t h1 h2 rfl
    rw [hS] at h1
    simp at h1
    exact h2 h1.2.symm
  refine .inr ⟨b, cur, rfl, blk_turns hb hg (hne _ _ _ hb (by decide)), fun i r hi => ?_⟩
  obtain ⟨g, c, h1, ⟨cu, h2, h3⟩, h4⟩ := hr i r hi
  exact ⟨g, c, h1, ⟨cu, blk_turns h2 hg (hne _ _ _ h2 (by decide)), h3⟩, h4⟩

  }
theorem MakingR.recM {w0 w : World} {v : Value} {rs : List (List Int)} (h : MakingR w0 w v rs) : ∃ a c, v = .slice a rs.length c ∧ rs.length ≤ c ∧ c ≤ maxLen ∧ RecM w a rs := by
  obtain ⟨vs, hown, hr⟩ := h.own
  obtain ⟨_, ⟨hv, hn⟩ | ⟨g, cap, cur, hv, hg, hh, hc, hm, _, ht⟩⟩ := hown
  { exact ⟨none, 0, by rw [hv, hn], by omega, by unfold maxLen; omega, .inl (List.eq_nil_of_length_eq_zero hn)⟩ }
  {
  refine ⟨some ⟨g, 0, none⟩, cap, hv, hc, hm, .inr ⟨g, cur, rfl, hh, fun i r hi => ?_⟩⟩
  obtain ⟨g1, c1, h1, h2, h3, h4⟩ := hr i r hi
  refine ⟨g1, c1, ?_, h2, h3, h4⟩
  rw [← ht, List.getElem?_take] at h1
  split at h1
  { simpa using h1 }
  {
  cases h1

  }
  }
def RecsM (w : World) (rs : List (List Int)) (e : Ending) (w' : World) : Prop :=
  (∃ a c, e = .returned (.tuple #[.slice a rs.length c, .int .i64 0]) ∧ RecM w' a rs ∧ rs.length ≤ c ∧ c ≤ maxLen) ∧ Below w.heap.size w w'

set_option maxRecDepth 100000 in
set_option maxHeartbeats 1000000 in
theorem recordsM_any (a : Option Addr) (n c : Nat) (ws : List Int) (fuel : Int) (w : World) (h : BW w a n c ws) (e1 : lchk ws fuel = 0) :
    Calls Tryz.prog 118 #[.agg #[.slice a n c, .int .i64 fuel]] w (RecsM w (logR ws)) := by
  have hw : Below w.heap.size w (w.alloc (.cells #[.slice a n c, .int .i64 fuel] 27)) := (Below.refl _ _).alloc (Nat.le_refl _) _
  have i0 := h.at_.below hw
  have HS := hide (fun W (h' : IsInts W a ws) => logCheck_any a n c ws fuel W h' h.len h.max)
  have HG := hide (fun W (h' : IsInts W a ws) (h64 : 64 ≤ n) => counting_any a n c ws fuel W h' h.len h.max h64)
  have HP := hide (fun W (h' : IsInts W a ws) (hm : n ≤ 192) (hok : okL ws = true) (h64 : 64 ≤ n) => parse_any a n c ws fuel (secN ws) W h' h.len h.cap hm hok (secN_01 ws) h64)
  have B0 := hide (heap_alloc_last w (.cells #[.slice a n c, .int .i64 fuel] 27))
  have parts := lchk_parts e1
  rw [h.len] at parts
  rw [e1] at HS
  clear h e1
  go_enter Tryz.func118, Tryz.ntmps118
  go_wp2_with fail
  generalize w.alloc (.cells #[.slice a n c, .int .i64 fuel] 27) = W at *
  refine (unhide HS _ i0).mono ?_
  rintro e w1 ⟨rfl, hb1⟩
  have hw1 := hw.trans (hb1.mono hw.size)
  have c00 := blk_cell (blk_below B0.out hb1) 0 _ rfl
  have c01 := blk_cell (blk_below B0.out hb1) 1 _ rfl
  go_wp2_with fail
  refine (unhide HG _ (i0.below hb1) parts.2.1).mono ?_
  rintro e w2 ⟨rfl, hb2⟩
  have hw2 := hw1.trans (hb2.mono hw1.size)
  have c10 := blk_cell (blk_below (blk_below B0.out hb1) hb2) 0 _ rfl
  have c11 := blk_cell (blk_below (blk_below B0.out hb1) hb2) 1 _ rfl
  go_wp2_with fail
  refine (unhide HP _ ((i0.below hb1).below hb2) parts.2.2.1 parts.2.2.2.1 parts.2.1).mono ?_
  rintro e w3 ⟨⟨v, a3, m3, cc3, rfl, hmk, hi3, hn3, hm3, hok3⟩, hb3⟩
  obtain ⟨av, cv, rfl, q1, q2, q3⟩ := hmk.recM
  have HQ := hide q3
  clear hmk hn3 q3
  have hw3 := hw2.trans (hb3.mono hw2.size)
  go_wp2
  go_ret2
  exact ⟨⟨av, cv, rfl, HQ.out, q1, q2⟩, hw3⟩

def usO (s : Us) : Obj := .cells #[.int .i64 s.slot, .int .i64 s.by', .int .i64 s.rdy] 40 (0, 0)
def usv (s : Us) : Value := .agg #[.int .i64 s.slot, .int .i64 s.by', .int .i64 s.rdy]
theorem stR_step {rs : List (List Int)} {k : Nat} (hk : k < rs.length) : stR (rs.take (k + 1)) = stNext (stR (rs.take k)) rs[k] := by
  unfold stR
  rw [List.take_succ_eq_append_getElem hk, List.foldl_append]
  rfl
theorem stNext_1 {s : Us} {r : List Int} (h : isR r 1 3 = true) (h2 : r.getD 1 0 ≤ 1) : stNext s r = ⟨r.getD 1 0, r.getD 2 0, 0⟩ := by unfold stNext; rw [if_pos (by rw [h]; simpa using h2)]
theorem stNext_2 {s : Us} {r : List Int} (h : ¬ (isR r 1 3 = true ∧ r.getD 1 0 ≤ 1)) (h2 : isR r 2 2 = true) : stNext s r = ⟨s.slot, s.by', r.getD 1 0⟩ := by unfold stNext; rw [if_neg (by simpa using h), if_pos h2]
theorem stNext_3 {s : Us} {r : List Int} (h : ¬ (isR r 1 3 = true ∧ r.getD 1 0 ≤ 1)) (h2 : ¬ isR r 2 2 = true) (h3 : isR r 3 2 = true) : stNext s r = ⟨s.slot, s.by', 0⟩ := by unfold stNext; rw [if_neg (by simpa using h), if_neg h2, if_pos h3]
theorem stNext_0 {s : Us} {r : List Int} (h : ¬ (isR r 1 3 = true ∧ r.getD 1 0 ≤ 1)) (h2 : ¬ isR r 2 2 = true) (h3 : ¬ isR r 3 2 = true) : stNext s r = s := by unfold stNext; rw [if_neg (by simpa using h), if_neg h2, if_neg h3]
theorem isR_len {r : List Int} {k : Int} {l : Nat} (h : isR r k l = true) : r.length = l := by
  unfold isR at h
  rw [Bool.and_eq_true] at h
  simpa using h.1

structure SB (W : World) (B : Nat) (s : Us) : Prop where
  b1 : W.heap[B + 1]? = some (usO us0)
  b2 : W.heap[B + 1 + 1]? = some (usO s)

theorem us_set3 {W : World} {b : Nat} {s t : Us} (h : W.heap[b]? = some (usO s)) : (((W.setCell ⟨b, 0, none⟩ (.int .i64 t.slot)).setCell ⟨b, 1, none⟩ (.int .i64 t.by')).setCell ⟨b, 2, none⟩ (.int .i64 t.rdy)).heap[b]? = some (usO t) := by
  unfold usO at h ⊢
  simp only [World.setCell, Array.getElem?_modify]
  simp [h]
theorem us_set1 {W : World} {b : Nat} {s : Us} {x : Int} (h : W.heap[b]? = some (usO s)) : (W.setCell ⟨b, 2, none⟩ (.int .i64 x)).heap[b]? = some (usO ⟨s.slot, s.by', x⟩) := by
  unfold usO at h ⊢
  simp only [World.setCell, Array.getElem?_modify]
  simp [h]
theorem grown_drew' {w w' : World} {B : Option Nat} (h : w.grownBy w' B) : w.grownBy w'.drew B := ⟨h.os, h.tape, h.output, h.size, h.block⟩
theorem blk_drew {w : World} {b : Nat} {o : Obj} (h : w.heap[b]? = some o) : w.drew.heap[b]? = some o := h
def isI (r : List Int) (k l : Int) : Bool := isR r k l.toNat
theorem unitIsI_any (a : Option Addr) (n c : Nat) (r : List Int) (k l : Int) (w : World) (h : IsInts w a r) (hn : r.length = n) (hm : n ≤ maxLen) (h0 : 0 < l) (hl : l ≤ 10) :
    Calls Tryz.prog 119 #[.slice a n c, .int .i64 k, .int .i64 l] w fun e w' => e = .returned (.bool (isI r k l)) ∧ w' = w := by
  obtain ⟨q, rfl⟩ : ∃ q : Nat, l = q := ⟨l.toNat, by omega⟩
  exact unitIs_any a n c r k q w h hn hm (by omega) (by omega)
theorem turns_set1 (w : World) (B i : Nat) (v : Value) : w.grownBy (w.setCell ⟨B, i, none⟩ v) (some B) := turns_set (World.grownBy.refl _ _) i v

set_option maxRecDepth 100000 in
set_option maxHeartbeats 3200000 in
theorem stateOf_any (a : Option Addr) (n c : Nat) (ws : List Int) (fuel : Int) (w : World) (h : BW w a n c ws) (e1 : lchk ws fuel = 0) :
    Calls Tryz.prog 61 #[.agg #[.slice a n c, .int .i64 fuel]] w fun e w' => e = .returned (usv (stOf ws)) ∧ Below w.heap.size w w' := by
  have hw0 : Below w.heap.size w (((w.alloc (.cells #[.slice a n c, .int .i64 fuel] 27)).alloc (usO us0)).alloc (usO us0)) := (((Below.refl _ _).alloc (Nat.le_refl _) _).alloc (by simp) _).alloc (by simp; omega) _
  have b0 : Hid ((((w.alloc (.cells #[.slice a n c, .int .i64 fuel] 27)).alloc (usO us0)).alloc (usO us0)).heap[w.heap.size]? = some (.cells #[.slice a n c, .int .i64 fuel] 27 (0, 0))) := blk_alloc (blk_alloc (heap_alloc_last _ _) _) _
  have sb : Hid (SB (((w.alloc (.cells #[.slice a n c, .int .i64 fuel] 27)).alloc (usO us0)).alloc (usO us0)) w.heap.size us0) := ⟨blk_alloc (uLast1 _ _ _) _, uLast2 _ _ _ _⟩
  have HR := hide (fun W (hW : Below w.heap.size w W) => recordsM_any a n c ws fuel W (h.below hW) e1)
  have hfew : (logR ws).length ≤ 31 := logR_few (by have := lchk_parts e1; omega)
  have HS : Hid (stOf ws = stR (logR ws)) := rfl
  clear h e1
  generalize logR ws = rs at *
  have x0 := blk_cell b0.out 0 _ rfl
  have x1 := blk_cell b0.out 1 _ rfl
  unfold usO us0 at hw0 b0 sb x0 x1
  go_enter Tryz.func61, Tryz.ntmps61
  go_wp2_with fail
  generalize ((w.alloc (.cells #[.slice a n c, .int .i64 fuel] 27)).alloc (.cells #[.int .i64 0, .int .i64 0, .int .i64 0] 40)).alloc (.cells #[.int .i64 0, .int .i64 0, .int .i64 0] 40) = W at *
  refine (unhide HR _ hw0).mono ?_
  rintro e w1 ⟨⟨ar, cr, rfl, hrm, hlc, hcm⟩, hb⟩
  replace sb : Hid (SB w1 w.heap.size us0) := ⟨blk_below sb.out.b1 hb, blk_below sb.out.b2 hb⟩
  replace hw0 := hw0.trans (hb.mono hw0.size)
  clear hb HR x0 x1 b0
  obtain ⟨nr, hnr⟩ : ∃ nr, nr = rs.length := ⟨_, rfl⟩
  rw [← hnr] at hfew hlc ⊢
  have LR := hide hnr
  have HM := hide hrm
  clear hnr hrm
  go_wp2_with fail
  go_loopw [15] (fun i wr => ∃ k : Nat, k ≤ nr ∧ i = .int .i64 k ∧ Below w.heap.size w wr ∧ Hid (SB wr w.heap.size (stR (rs.take k))) ∧ Hid (RecM wr ar rs)) (fun i _ => nr - (intOf i).toNat)
  case atStart => exact ⟨0, Nat.zero_le _, rfl, hw0, by show SB _ _ _; simpa [stR] using sb.out, HM⟩
  case round =>
    clear hw0 sb HM
    obtain ⟨wq, rfl⟩ : ∃ wq : World, wq = wr := ⟨_, rfl⟩
    obtain ⟨k, hk, rfl, hw, sb, hm⟩ := hrel
    generalize hst : stR (rs.take k) = st at *
    by_cases hlt : k < nr
    {
    have hkx : k < rs.length := by rw [← LR.out]; exact hlt
    have HX := hide (stR_step hkx)
    rw [hst] at HX
    rcases hm.out with e | ⟨b, cur, rfl, hb, hr⟩
    { rw [e] at hkx; simp at hkx }
    obtain ⟨g, cg, h1, h2, h3, h4⟩ := hr k rs[k] (List.getElem?_eq_getElem hkx)
    have ec := blk_cell hb k _ h1
    have hin := h2.isInts
    have hcell := fun i hi => h2.cell i hi
    clear hst hr h1 hb
    generalize rs[k] = r at *
    obtain ⟨m, hmr⟩ : ∃ m, m = r.length := ⟨_, rfl⟩
    rw [← hmr] at ec h3
    unfold maxLen at h4
    have HI := hide (fun (k : Int) (l : Int) (h0 : 0 < l) (h1 : l ≤ 10) => unitIsI_any (some ⟨g, 0, none⟩) m cg r k l wq hin hmr.symm (by unfold maxLen; omega) h0 h1)
    have LM := hide hmr
    have S2 := hide sb.out.b2
    have S1 := hide sb.out.b1
    have N1 := hide (stNext_1 (s := st) (r := r))
    have N2 := hide (stNext_2 (s := st) (r := r))
    have N3 := hide (stNext_3 (s := st) (r := r))
    have N0 := hide (stNext_0 (s := st) (r := r))
    have C1 := hide (hcell 1)
    have C2 := hide (hcell 2)
    clear hmr hcell hin h2
    have frame : ∀ (w' : World) (s' : Us), wq.grownBy w' (some (w.heap.size + 1 + 1)) → w'.heap[w.heap.size + 1 + 1]? = some (usO s') → Below w.heap.size w w' ∧ SB w' w.heap.size s' ∧ RecM w' (some ⟨b, 0, none⟩) rs := by
      intro w' s' hg hb2
      exact ⟨turns_below hw hg (by omega) hw.size, ⟨blk_turns S1.out hg (by omega), hb2⟩, hm.out.turns (by unfold usO at S2; exact S2.out) hg⟩
    have FR := hide frame
    clear frame
    unfold usO us0 at S1
    unfold usO at S2
    have s0 := blk_cell S2.out 0 _ rfl
    have s1 := blk_cell S2.out 1 _ rfl
    have s2 := blk_cell S2.out 2 _ rfl
    have f0 := blk_free S2.out 0
    have f1 := blk_free S2.out 1
    have f2 := blk_free S2.out 2
    cases g1 : isI r 1 3
    {
    have hno : ¬ (isR r 1 3 = true ∧ r.getD 1 0 ≤ 1) := fun h => by rw [show isR r 1 3 = isI r 1 3 from rfl, g1] at h; cases h.1
    cases g2 : isI r 2 2
    {
    have hn2 : ¬ isR r 2 2 = true := by rw [show isR r 2 2 = isI r 2 2 from rfl, g2]; decide
    cases g3 : isI r 3 2
    {
    have HN := hide (HX.out.trans (N0.out hno hn2 (by rw [show isR r 3 2 = isI r 3 2 from rfl, g3]; decide)))
    clear hno hn2
    go_wp2_with (go_at_call 119; refine (unhide HI _ _ (by decide) (by decide)).mono ?_; rintro e w' ⟨rfl, rfl⟩)
    go_roundw
    case rel => exact ⟨k + 1, by omega, by go_num, hw, by show SB _ _ _; rw [HN.out]; exact sb.out, hm⟩
    case measure => simp [intOf]; omega
    }
    {
    have HN := hide (HX.out.trans (N3.out hno hn2 g3))
    clear hno hn2
    go_wp2_with (go_at_call 119; refine (unhide HI _ _ (by decide) (by decide)).mono ?_; rintro e w' ⟨rfl, rfl⟩)
    go_roundw
    case rel =>
      obtain ⟨q1, q2, q3⟩ := FR.out _ ⟨st.slot, st.by', 0⟩ (turns_set1 _ _ _ _) (us_set1 S2.out)
      exact ⟨k + 1, by omega, by go_num, q1, by show SB _ _ _; rw [HN.out]; exact q2, q3⟩
    case measure => simp [intOf]; omega
    }
    }
    {
    have HN := hide (HX.out.trans (N2.out hno g2))
    have hl : m = 2 := by rw [LM.out]; exact isR_len g2
    subst hl
    have c1 := C1.out (by rw [← LM.out]; omega)
    clear hno
    generalize r.getD 1 0 = r1 at *
    go_wp2_with (go_at_call 119; refine (unhide HI _ _ (by decide) (by decide)).mono ?_; rintro e w' ⟨rfl, rfl⟩)
    go_roundw
    case rel =>
      obtain ⟨q1, q2, q3⟩ := FR.out _ ⟨st.slot, st.by', r1⟩ (turns_set1 _ _ _ _) (us_set1 S2.out)
      exact ⟨k + 1, by omega, by go_num, q1, by show SB _ _ _; rw [HN.out]; exact q2, q3⟩
    case measure => simp [intOf]; omega
    }
    }
    {
    have hl : m = 3 := by rw [LM.out]; exact isR_len g1
    subst hl
    have c1 := C1.out (by rw [← LM.out]; omega)
    have c2 := C2.out (by rw [← LM.out]; omega)
    by_cases z : r.getD 1 0 ≤ 1
    {
    have HN := hide (HX.out.trans (N1.out g1 z))
    clear N1 N2 N3 N0
    generalize r.getD 1 0 = r1 at *
    generalize r.getD 2 0 = r2 at *
    go_upto_region 7 with (go_at_call 119; refine (unhide HI _ _ (by decide) (by decide)).mono ?_; rintro e w' ⟨rfl, rfl⟩)
    go_region
    go_wp2_with fail
    go_roundw
    case rel =>
      obtain ⟨q1, q2, q3⟩ := FR.out _ ⟨r1, r2, 0⟩ (turns_set (turns_set (turns_set (grown_drew' (World.grownBy.refl _ _)) _ _) _ _) _ _) (us_set3 (t := ⟨r1, r2, 0⟩) (blk_drew S2.out))
      exact ⟨k + 1, by omega, by go_num, q1, by show SB _ _ _; rw [HN.out]; exact q2, q3⟩
    case measure => simp [intOf]; omega
    }
    {
    have hno : ¬ (isR r 1 3 = true ∧ r.getD 1 0 ≤ 1) := fun h => z h.2
    have g2 : isI r 2 2 = false := by unfold isI isR; rw [← LM.out]; rfl
    have g3 : isI r 3 2 = false := by unfold isI isR; rw [← LM.out]; rfl
    have HN := hide (HX.out.trans (N0.out hno (by rw [show isR r 2 2 = isI r 2 2 from rfl, g2]; decide) (by rw [show isR r 3 2 = isI r 3 2 from rfl, g3]; decide)))
    have d1 : decide (r.getD 1 0 ≤ 1) = false := by simpa using z
    clear hno N1 N2 N3 N0 z
    generalize r.getD 1 0 = r1 at *
    go_wp2_with (go_at_call 119; refine (unhide HI _ _ (by decide) (by decide)).mono ?_; rintro e w' ⟨rfl, rfl⟩)
    go_roundw
    case rel => exact ⟨k + 1, by omega, by go_num, hw, by show SB _ _ _; rw [HN.out]; exact sb.out, hm⟩
    case measure => simp [intOf]; omega
    }
    }
    }
    {
    have hx : stR rs = st := by rw [← hst, List.take_of_length_le (by rw [← LR.out]; omega)]
    have HE := hide (HS.out.trans hx)
    have S2 := hide sb.out.b2
    have S1 := hide sb.out.b1
    unfold usO us0 at S1
    unfold usO at S2
    have s0 := blk_cell S2.out 0 _ rfl
    have s1 := blk_cell S2.out 1 _ rfl
    have s2 := blk_cell S2.out 2 _ rfl
    have y0 := blk_cell S1.out 0 _ rfl
    have y1 := blk_cell S1.out 1 _ rfl
    have y2 := blk_cell S1.out 2 _ rfl
    have f0 := blk_free S1.out 0
    have f1 := blk_free S1.out 1
    have f2 := blk_free S1.out 2
    clear hx hst
    go_wp2_with fail
    refine bodyPost_ret (v := usv st) (by simp [results, Tryz.results61, go_sem, usv, y0, y1, y2]) rfl ?_
    rw [HE.out]
    exact ⟨rfl, ((hw.setCell (by show w.heap.size ≤ w.heap.size + 1; omega) _).setCell (by show w.heap.size ≤ w.heap.size + 1; omega) _).setCell (by show w.heap.size ≤ w.heap.size + 1; omega) _⟩

    }
end Go.Proofs.YtgngpmgjoifepaaGreatDoor

namespace Go.Proofs.YtgngpmgjoifepaaGreatDoor
open Go.RowKit
attribute [local go_sem ↓] Go.wp_at_zero Go.wp_at_succ

set_option maxRecDepth 100000 in
set_option maxHeartbeats 400000 in
theorem refGen_any (a : Option Addr) (n c : Nat) (ws : List Int) (fuel : Int) (s : Nat) (w : World) (h : IsInts w a ws) (hn : ws.length = n) (hm : n ≤ maxLen) (hs : s * 32 < n) :
    Calls Tryz.prog 173 #[.agg #[.slice a n c, .int .i64 fuel], .int .i64 s] w fun e w' => e = .returned (.int .i64 (genS ws s)) ∧ Below w.heap.size w w' := by
  have hw : Below w.heap.size w (w.alloc (.cells #[.slice a n c, .int .i64 fuel] 27)) := (Below.refl _ _).alloc (Nat.le_refl _) _
  have i0 := h.below hw
  have HN := hide hn
  have hs2 : s * 32 < ws.length := by omega
  clear hn
  unfold maxLen at hm
  rcases i0 with rfl | ⟨b, off, rfl, hc⟩
  { simp at hs2 }
  have e0 := hc (s * 32) hs2
  clear hc
  have i1 : (0 : Int) ≤ 32 * (s : Int) := by omega
  have i2 : 32 * (s : Int) < (n : Int) := by omega
  have i4 : (32 * (s : Int)).toNat = s * 32 := by omega
  obtain ⟨g, hg⟩ : ∃ g, g = ws.getD (s * 32) 0 := ⟨_, rfl⟩
  rw [← hg] at e0
  by_cases hz : g = 65535
  {
  have hr : Hid (genS ws s = 0) := by show _ = _; unfold genS; rw [← hg, if_pos hz]
  subst hz
  clear hg
  go_enter Tryz.func173, Tryz.ntmps173
  go_wp2
  go_ret
  exact ⟨ret_intk hr.out.symm, hw⟩
  }
  {
  have hr : Hid (genS ws s = g) := by show _ = _; unfold genS; rw [← hg, if_neg hz]
  have hz' : (g != 65535) = true := by simpa using hz
  clear hg
  go_enter Tryz.func173, Tryz.ntmps173
  go_wp2
  go_ret
  exact ⟨ret_intk hr.out.symm, hw⟩

  }
theorem refGenI_any (a : Option Addr) (n c : Nat) (ws : List Int) (fuel : Int) (s : Int) (w : World) (h : IsInts w a ws) (hn : ws.length = n) (hm : n ≤ maxLen) (hs : 0 ≤ s ∧ s < 2) (h64 : 64 ≤ n) :
    Calls Tryz.prog 173 #[.agg #[.slice a n c, .int .i64 fuel], .int .i64 s] w fun e w' => e = .returned (.int .i64 (genI ws s)) ∧ Below w.heap.size w w' := by
  obtain ⟨k, rfl⟩ := Int.eq_ofNat_of_zero_le hs.1
  exact refGen_any a n c ws fuel k w h hn hm (by omega)

set_option maxRecDepth 100000 in
set_option maxHeartbeats 1000000 in
theorem refCounts_any (a : Option Addr) (n c : Nat) (ws : List Int) (fuel : Int) (w : World) (h : IsInts w a ws) (hn : ws.length = n) (hm : n ≤ maxLen) (h64 : 64 ≤ n) :
    Calls Tryz.prog 126 #[.agg #[.slice a n c, .int .i64 fuel]] w (CountsAns w ws) := by
  have hw : Below w.heap.size w (w.alloc (.cells #[.slice a n c, .int .i64 fuel] 27)) := (Below.refl _ _).alloc (Nat.le_refl _) _
  have i0 := h.below hw
  have HG := hide (fun W (s : Int) (h : IsInts W a ws) (hs : 0 ≤ s ∧ s < 2) => refGenI_any a n c ws fuel s W h hn hm hs h64)
  have B0 := hide (heap_alloc_last w (.cells #[.slice a n c, .int .i64 fuel] 27))
  clear hn
  unfold maxLen at hm
  go_enter Tryz.func126, Tryz.ntmps126
  go_upto_region 1 with fail
  generalize w.alloc (.cells #[.slice a n c, .int .i64 fuel] 27) = W at *
  have x0 : W.cell? ⟨w.heap.size, 0, none⟩ = some (.slice a n c) := blk_cell B0.out 0 _ rfl
  have x1 : W.cell? ⟨w.heap.size, 1, none⟩ = some (.int .i64 fuel) := blk_cell B0.out 1 _ rfl
  have lt0 := blk_lt B0.out
  go_cut [4, 5] (fun v4 v5 wx => v4 = .int .i64 (genI ws 0) ∧ v5 = .int .i64 (genI ws 1) ∧ Below W.heap.size W wx)
  case first =>
    have hW : Below W.heap.size W W := Below.refl _ _
    go_wp2_with fail
    go_region_held3 (fun w' => w'.cell? ⟨w.heap.size, 0, none⟩ = some (.slice a n c) ∧ w'.cell? ⟨w.heap.size, 1, none⟩ = some (.int .i64 fuel)) (first | exact ⟨by assumption, by assumption⟩ | go_keep)
      ((go_at_call 173; refine (unhide HG _ _ ?_ ?_).mono ?_; (first | exact i0 | exact i0.below hW); decide; rintro e w1 ⟨rfl, hb1⟩; replace hW : Below W.heap.size W w1 := (by first | exact hW.drew.trans (hb1.mono hW.drew.size) | exact hW.trans (hb1.mono hW.size)); have z0 : w1.cell? ⟨w.heap.size, 0, none⟩ = some (.slice a n c) := (by rw [hW.cell lt0]; exact x0); have z1 : w1.cell? ⟨w.heap.size, 1, none⟩ = some (.int .i64 fuel) := (by rw [hW.cell lt0]; exact x1)))
    all_goals
      go_wp2
      go_meet
      case rel => exact ⟨rfl, rfl, hW⟩
  case rest =>
    obtain ⟨rfl, rfl, hW⟩ := hcut
    obtain ⟨wB, rfl⟩ : ∃ wB : World, wB = wc := ⟨_, rfl⟩
    have hwB := hw.trans (hW.mono hw.size)
    obtain ⟨g0, hg0⟩ : ∃ g, g = genI ws 0 := ⟨_, rfl⟩
    obtain ⟨g1, hg1⟩ : ∃ g, g = genI ws 1 := ⟨_, rfl⟩
    rw [← hg0, ← hg1]
    by_cases hlt : g1 ≤ g0
    {
    have hr : Hid (secN ws = 0 ∧ genN ws = g0) := by show _ ∧ _; unfold secN genN; rw [show genS ws 0 = g0 from hg0.symm, show genS ws 1 = g1 from hg1.symm, if_neg (by omega), if_neg (by omega)]; exact ⟨rfl, rfl⟩
    clear hg0 hg1
    go_wp2
    go_ret2
    exact ⟨ret_two (by rw [hr.out.1]; rfl) hr.out.2.symm, hwB⟩
    }
    {
    have hr : Hid (secN ws = 1 ∧ genN ws = g1) := by show _ ∧ _; unfold secN genN; rw [show genS ws 0 = g0 from hg0.symm, show genS ws 1 = g1 from hg1.symm, if_pos (by omega), if_pos (by omega)]; exact ⟨rfl, rfl⟩
    have hlt' : decide (g1 ≤ g0) = false := by simpa using hlt
    clear hg0 hg1
    go_wp2
    go_ret2
    exact ⟨ret_two (by rw [hr.out.1]; rfl) hr.out.2.symm, hwB⟩

    }
set_option maxRecDepth 100000 in
set_option maxHeartbeats 1000000 in
theorem refCheckLog_any (a : Option Addr) (n c : Nat) (ws : List Int) (fuel : Int) (w : World) (h : IsInts w a ws) (hn : ws.length = n) (hm : n ≤ maxLen) :
    Calls Tryz.prog 63 #[.agg #[.slice a n c, .int .i64 fuel]] w fun e w' => e = .returned (.int .i64 (lchk ws fuel)) ∧ Below w.heap.size w w' := by
  have hw : Below w.heap.size w (w.alloc (.cells #[.slice a n c, .int .i64 fuel] 27)) := (Below.refl _ _).alloc (Nat.le_refl _) _
  have i0 := h.below hw
  have HS := hide (fun W (h : IsInts W a ws) => refCheck_any a n c ws fuel W h hn hm)
  have HG := hide (fun W (h : IsInts W a ws) (h64 : 64 ≤ n) => refCounts_any a n c ws fuel W h hn hm h64)
  have B0 := hide (heap_alloc_last w (.cells #[.slice a n c, .int .i64 fuel] 27))
  have HN := hide hn
  clear hn
  go_enter Tryz.func63, Tryz.ntmps63
  go_wp2_with fail
  generalize w.alloc (.cells #[.slice a n c, .int .i64 fuel] 27) = W at *
  refine (unhide HS _ i0).mono ?_
  rintro e w1 ⟨rfl, hb1⟩
  have hw1 := hw.trans (hb1.mono hw.size)
  by_cases e1 : chk ws fuel = 0
  rotate_left
  {
  have e1' : (chk ws fuel != 0) = true := by simpa using e1
  have hr : Hid (lchk ws fuel = chk ws fuel) := by
    have : secS ws fuel = chk ws fuel := by unfold secS; rw [if_pos e1]
    show _ = _
    unfold lchk; rw [this, if_pos e1]
  go_wp2
  go_ret
  exact ⟨ret_intk hr.out.symm, hw1⟩
  }
  have e1' : (chk ws fuel != 0) = false := by simpa using e1
  have E1 := hide e1
  have parts := chk_parts e1
  rw [HN.out] at parts
  clear e1
  have c00 := blk_cell (blk_below B0.out hb1) 0 _ rfl
  have c01 := blk_cell (blk_below B0.out hb1) 1 _ rfl
  by_cases h32 : n = 32
  {
  subst h32
  have hr : Hid (lchk ws fuel = 4) := by
    have : secS ws fuel = 4 := by unfold secS; rw [if_neg (by simpa using E1.out), if_pos (by rw [HN.out]; decide)]
    show _ = _
    unfold lchk; rw [this, if_pos (by decide)]
  go_wp2
  go_ret
  exact ⟨ret_intk hr.out.symm, hw1⟩
  }
  have h32' : ((n : Int) == 32) = false := by simp; omega
  have h64 : 64 ≤ n := by omega
  have hs0 : Hid (secS ws fuel = 0) := by show _ = _; unfold secS; rw [if_neg (by simpa using E1.out), if_neg (by rw [HN.out]; omega)]
  clear h32
  go_wp2_with fail
  refine (unhide HG _ (i0.below hb1) h64).mono ?_
  rintro e w2 ⟨rfl, hb2⟩
  have hw2 := hw1.trans (hb2.mono hw1.size)
  obtain ⟨g, hg⟩ : ∃ g, g = genN ws := ⟨_, rfl⟩
  rw [← hg]
  by_cases g0 : g = 0
  {
  have hr : Hid (lchk ws fuel = 5) := by show _ = _; unfold lchk; rw [if_neg (by simpa using hs0.out), if_pos (by rw [← hg]; exact .inl g0)]
  subst g0
  clear hg
  go_wp2
  go_ret
  exact ⟨ret_intk hr.out.symm, hw2⟩
  }
  have g0' : (g == 0) = false := by simpa using g0
  by_cases g1 : 60000 < g
  {
  have hr : Hid (lchk ws fuel = 5) := by show _ = _; unfold lchk; rw [if_neg (by simpa using hs0.out), if_pos (by rw [← hg]; exact .inr g1)]
  clear hg
  go_wp2
  go_ret
  exact ⟨ret_intk hr.out.symm, hw2⟩
  }
  {
  have hr : Hid (lchk ws fuel = 0) := by show _ = _; unfold lchk; rw [if_neg (by simpa using hs0.out), if_neg (by rw [← hg]; omega)]
  have g1' : decide (60000 < g) = false := by simpa using g1
  clear hg
  go_wp2
  go_ret
  exact ⟨ret_intk hr.out.symm, hw2⟩

  }
set_option maxRecDepth 100000 in
set_option maxHeartbeats 400000 in
theorem refCheckRecord_any (a : Option Addr) (n c : Nat) (r : List Int) (w : World) (h : IsInts w a r) (hn : r.length = n) (hm : n ≤ maxLen) :
    Calls Tryz.prog 181 #[.slice a n c] w fun e w' => e = .returned (.int .i64 (recE r)) ∧ w' = w := by
  have HA := hide (refAllWords_any a n c r w h hn hm)
  have HN := hide hn
  clear hn
  unfold maxLen at hm
  by_cases c1 : n < 1
  {
  have hr : Hid (recE r = 2) := by show _ = _; unfold recE; rw [HN.out, if_pos (.inl c1)]
  have c1' : (n : Int) < 1 := by omega
  go_enter Tryz.func181, Tryz.ntmps181
  go_wp2
  go_ret
  exact ⟨ret_intk hr.out.symm, rfl⟩
  }
  have c1' : decide ((n : Int) < 1) = false := by simp; omega
  by_cases c2 : 4 < n
  {
  have hr : Hid (recE r = 2) := by show _ = _; unfold recE; rw [HN.out, if_pos (.inr c2)]
  go_enter Tryz.func181, Tryz.ntmps181
  go_wp2
  go_ret
  exact ⟨ret_intk hr.out.symm, rfl⟩
  }
  have c2' : decide (4 < (n : Int)) = false := by simp; omega
  cases hok : okL r
  {
  have hr : Hid (recE r = 3) := by show _ = _; unfold recE; rw [HN.out, if_neg (by omega), if_pos hok]
  have HO := hide hok
  clear hok
  go_enter Tryz.func181, Tryz.ntmps181
  go_wp2_with fail
  refine (unhide HA).mono ?_
  rintro e w' ⟨rfl, rfl⟩
  rw [HO.out]
  go_wp2
  go_ret
  exact ⟨ret_intk hr.out.symm, rfl⟩
  }
  {
  have hr : Hid (recE r = 0) := by show _ = _; unfold recE; rw [HN.out, if_neg (by omega), if_neg (by simp [hok])]
  have HO := hide hok
  clear hok
  go_enter Tryz.func181, Tryz.ntmps181
  go_wp2_with fail
  refine (unhide HA).mono ?_
  rintro e w' ⟨rfl, rfl⟩
  rw [HO.out]
  go_wp2
  go_ret
  exact ⟨ret_intk hr.out.symm, rfl⟩

  }
end Go.Proofs.YtgngpmgjoifepaaGreatDoor
