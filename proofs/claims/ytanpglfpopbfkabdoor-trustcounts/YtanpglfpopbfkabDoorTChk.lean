/- The contracts of trust.within, slices.Index and Contains at ints and at signatures, trust.CheckSigned, CheckTrust. -/
import Derived.Test.YtanpglfpopbfkabDoorTMem
import Derived.Laws.StructEq
namespace Go.Proofs.YtanpglfpopbfkabDoor
open Go.RowKit

set_option maxHeartbeats 400000 in
set_option maxRecDepth 100000 in
theorem tWithin_any (n a b : Int) (w : World) : Calls Tryd.prog 63 #[.int .i64 n, .int .i64 a, .int .i64 b] w fun e w' => e = .returned (.bool (inR n a b)) ∧ w' = w := by
  by_cases h0 : a ≤ n
  · by_cases h1 : n ≤ b
    · have hd : decide (n ≤ b) = true := by simp; omega
      go_enter Tryd.func63, Tryd.ntmps63
      go_wp2
      go_ret
      exact ⟨ret_bool (inR_t h0 h1).symm, rfl⟩
    · have hd : decide (n ≤ b) = false := by simp; omega
      go_enter Tryd.func63, Tryd.ntmps63
      go_wp2
      go_ret
      exact ⟨ret_bool (inR_hi (by omega)).symm, rfl⟩
  · go_enter Tryd.func63, Tryd.ntmps63
    go_wp2
    go_ret
    exact ⟨ret_bool (inR_lo (by omega)).symm, rfl⟩

/-! ### Is it among them? -/

theorem has_hit {α : Type} [DecidableEq α] {xs : List α} {x : α} {k : Nat} (hk : k < xs.length) (h : x = xs[k]) : has xs x = true := by
  unfold has
  rw [h]
  simp
theorem has_not {α : Type} [DecidableEq α] {xs : List α} {x : α} (h : x ∉ xs) : has xs x = false := by
  unfold has
  simp [h]
theorem not_step {α : Type} {xs : List α} {x : α} {k : Nat} (hk : k < xs.length) (h : x ∉ xs.take k) (hne : ¬ x = xs[k]) : x ∉ xs.take (k + 1) := by
  rw [List.take_succ_eq_append_getElem hk]
  simp only [List.mem_append, List.mem_singleton, not_or]
  exact ⟨h, hne⟩

set_option maxHeartbeats 400000 in
set_option maxRecDepth 100000 in
theorem index_ints (a : Option Addr) (n c : Nat) (xs : List Int) (x : Int) (w : World) (h : BI w a n xs) :
    Calls Tryd.prog 82 #[.slice a n c, .int .i64 x] w fun e w' => (∃ q : Int, e = .returned (.int .i64 q) ∧ decide (0 ≤ q) = has xs x) ∧ w' = w := by
  obtain ⟨h, hn, hm⟩ := h
  unfold maxLen at hm
  have HN : Hid (xs.length = n) := hn
  go_enter Tryd.func82, Tryd.ntmps82
  go_wp2
  go_loop [8] (fun i => ∃ k : Nat, k ≤ n ∧ i = .int .i64 k ∧ Hid (x ∉ xs.take k)) (fun i => n - (intOf i).toNat)
  case atStart => exact ⟨0, Nat.zero_le _, rfl, by show _ ∉ _; simp⟩
  case round =>
    obtain ⟨k, hk, rfl, ht⟩ := hrel
    by_cases hlt : k < n
    · rcases h with rfl | ⟨b0, o0, rfl, hc0⟩
      · simp at hn; omega
      have hkx : k < xs.length := by omega
      have e0 := hc0 k hkx
      rw [show xs.getD k 0 = xs[k] by simp [hkx]] at e0
      clear hn hc0
      by_cases he : x = xs[k]
      · have hb : (x == xs[k]) = true := by simpa using he
        have HE := hide (has_hit hkx he)
        clear he
        generalize xs[k] = y at *
        go_wp2
        go_ret
        exact ⟨⟨_, rfl, by rw [HE.out]; simp⟩, rfl⟩
      · have hb : (x == xs[k]) = false := by simpa using he
        have HE := hide (not_step hkx ht.out he)
        clear he
        generalize xs[k] = y at *
        go_wp2
        go_round
        case rel => exact ⟨k + 1, by omega, by go_num, HE.out⟩
        case measure => simp [intOf]; omega
    · go_wp2
      go_ret
      have hx := ht.out
      rw [List.take_of_length_le (by omega)] at hx
      exact ⟨⟨-1, rfl, by rw [has_not hx]; rfl⟩, rfl⟩

set_option maxHeartbeats 400000 in
set_option maxRecDepth 100000 in
theorem contains_ints (a : Option Addr) (n c : Nat) (xs : List Int) (x : Int) (w : World) (h : BI w a n xs) :
    Calls Tryd.prog 52 #[.slice a n c, .int .i64 x] w fun e w' => e = .returned (.bool (has xs x)) ∧ w' = w := by
  have hc := hide (index_ints a n c xs x w h)
  clear h
  generalize has xs x = r at *
  go_enter Tryd.func52, Tryd.ntmps52
  go_wp2_with fail
  refine (unhide hc).mono ?_
  rintro e w' ⟨⟨q, rfl, hq⟩, rfl⟩
  go_wp2
  go_ret
  exact ⟨rfl, rfl⟩

set_option maxRecDepth 100000 in
theorem sig_guard : Tryd.prog.eqGuardType Tryd.prog.depth 68 = false := by kernel_rfl

set_option maxHeartbeats 800000 in
set_option maxRecDepth 100000 in
theorem index_sigs (a : Option Addr) (n c : Nat) (l : List S2) (s : S2) (w : World) (h : BG w a n l) :
    Calls Tryd.prog 83 #[.slice a n c, sv s] w fun e w' => (∃ q : Int, e = .returned (.int .i64 q) ∧ decide (0 ≤ q) = has l s) ∧ Below w.heap.size w w' := by
  obtain ⟨h, hn, hm⟩ := h
  unfold maxLen at hm
  have HN := hide hn
  have hg := sig_guard
  have hw0 : Below w.heap.size w (w.alloc (.cells #[.int .i64 s.1, .int .i64 s.2] 68)) := (Below.refl _ _).alloc (Nat.le_refl _) _
  have b0 := heap_alloc_last w (.cells #[.int .i64 s.1, .int .i64 s.2] 68)
  have y0 := blk_cell b0 0 _ rfl
  have y1 := blk_cell b0 1 _ rfl
  have i0 := h.below hw0
  unfold sv
  clear hn b0 h
  go_enter Tryd.func83, Tryd.ntmps83
  go_wp2
  generalize w.alloc (.cells #[.int .i64 s.1, .int .i64 s.2] 68) = W at *
  go_loopw [8] (fun i wr => ∃ k : Nat, k ≤ n ∧ i = .int .i64 k ∧ Hid (s ∉ l.take k) ∧ ∃ m, wr = W.drewN m) (fun i _ => n - (intOf i).toNat)
  case atStart => exact ⟨0, Nat.zero_le _, rfl, by show _ ∉ _; simp, 0, rfl⟩
  case round =>
    obtain ⟨k, hk, rfl, ht, m, rfl⟩ := hrel
    by_cases hlt : k < n
    · rcases i0 with rfl | ⟨bb, oo, rfl, hc0⟩
      · have := HN.out
        simp at this
        omega
      have hkx : k < l.length := by rw [HN.out]; exact hlt
      obtain ⟨p0, p1⟩ := hc0 k l[k] (List.getElem?_eq_getElem hkx)
      clear hc0
      by_cases he : s = l[k]
      · have HE := hide (has_hit hkx he)
        rw [← he] at p0 p1
        clear he
        go_wp2
        go_quiet (fail)
        go_wp2
        go_ret
        exact ⟨⟨_, rfl, by rw [HE.out]; simp⟩, below_drewN (below_drewN hw0 _) _⟩
      · have HE := hide (not_step hkx ht.out he)
        generalize l[k] = y at *
        obtain ⟨s0, s1⟩ := s
        obtain ⟨z0, z1⟩ := y
        simp only at p0 p1 y0 y1
        by_cases d0 : s0 = z0
        · have d1 : ¬ s1 = z1 := fun e => he (by rw [d0, e])
          subst d0
          clear he
          go_wp2
          go_quiet (fail)
          go_wp2
          go_roundw
          case rel => exact ⟨k + 1, by omega, by go_num, HE.out, m + nq, rfl⟩
          case measure => simp [intOf]; omega
        · clear he
          go_wp2
          go_quiet (fail)
          go_wp2
          go_roundw
          case rel => exact ⟨k + 1, by omega, by go_num, HE.out, m + nq, rfl⟩
          case measure => simp [intOf]; omega
    · go_wp2
      go_ret
      have hx := ht.out
      rw [List.take_of_length_le (by rw [HN.out]; omega)] at hx
      exact ⟨⟨-1, rfl, by rw [has_not hx]; rfl⟩, below_drewN hw0 _⟩

set_option maxHeartbeats 400000 in
set_option maxRecDepth 100000 in
theorem contains_sigs (a : Option Addr) (n c : Nat) (l : List S2) (s : S2) (w : World) (h : BG w a n l) :
    Calls Tryd.prog 53 #[.slice a n c, sv s] w fun e w' => e = .returned (.bool (has l s)) ∧ Below w.heap.size w w' := by
  have hc := hide (fun W hW => index_sigs a n c l s W hW)
  have hw0 : Below w.heap.size w (w.alloc (.cells #[.int .i64 s.1, .int .i64 s.2] 68)) := (Below.refl _ _).alloc (Nat.le_refl _) _
  have i0 := h.below hw0
  clear h
  generalize has l s = r at *
  unfold sv at hc ⊢
  go_enter Tryd.func53, Tryd.ntmps53
  go_wp2_with fail
  generalize w.alloc (.cells #[.int .i64 s.1, .int .i64 s.2] 68) = W at *
  refine (unhide hc _ i0).mono ?_
  rintro e w' ⟨⟨q, rfl, hq⟩, hb⟩
  go_wp2
  go_ret
  exact ⟨rfl, hw0.trans (hb.mono hw0.size)⟩

/-! ### The checks -/

set_option maxHeartbeats 800000 in
set_option maxRecDepth 100000 in
theorem checkSigned_any (a : Option Addr) (n c : Nat) (l : List S2) (w : World) (h : BG w a n l) :
    Calls Tryd.prog 28 #[.slice a n c] w fun e w' => e = .returned (.int .i64 (sigE l)) ∧ Below w.heap.size w w' := by
  obtain ⟨h, hn, hm⟩ := h
  unfold maxLen at hm
  have HN := hide hn
  by_cases h1 : 360 < n
  · have HE := hide (sigE_many (l := l) (by omega))
    clear hn
    go_enter Tryd.func28, Tryd.ntmps28
    go_wp2_with fail
    go_ret
    exact ⟨ret_int HE.out.symm, Below.refl _ _⟩
  · have hle := hide (show l.length ≤ 360 by omega)
    clear hn
    go_enter Tryd.func28, Tryd.ntmps28
    go_wp2_with fail
    go_loopw [10] (fun i wr => ∃ k : Nat, k ≤ n ∧ i = .int .i64 k ∧ Below w.heap.size w wr ∧ Hid ((l.take k).all sOK = true)) (fun i _ => n - (intOf i).toNat)
    case atStart => exact ⟨0, Nat.zero_le _, rfl, Below.refl _ _, by show _ = _; simp⟩
    case round =>
      obtain ⟨wq, rfl⟩ : ∃ wq : World, wq = wr := ⟨_, rfl⟩
      obtain ⟨k, hk, rfl, hw, ht⟩ := hrel
      by_cases hlt : k < n
      · have i1 := h.below hw
        rcases i1 with rfl | ⟨b0, o0, rfl, hc0⟩
        · have := HN.out
          simp at this
          omega
        have hkx : k < l.length := by rw [HN.out]; exact hlt
        obtain ⟨e0, e1⟩ := hc0 k l[k] (List.getElem?_eq_getElem hkx)
        clear hc0
        have hw1 := hw.alloc hw.size (.cells #[.int .i64 l[k].1, .int .i64 l[k].2] 68)
        have HB := hide (sigE_bad hle.out hkx)
        have HX := hide (sOK_step hkx ht.out)
        generalize l[k] = s at *
        cases g1 : inR s.1 1 50
        · have HV := hide (HB.out (by unfold sOK; rw [g1]; rfl))
          go_wp2_with (go_at_call 63; refine (tWithin_any _ _ _ _).mono ?_; rintro e w' ⟨rfl, rfl⟩)
          go_ret
          exact ⟨ret_int HV.out.symm, hw1⟩
        · cases g2 : inR s.2 1 60
          · have HV := hide (HB.out (by unfold sOK; rw [g1, g2]; rfl))
            go_wp2_with (go_at_call 63; refine (tWithin_any _ _ _ _).mono ?_; rintro e w' ⟨rfl, rfl⟩)
            go_ret
            exact ⟨ret_int HV.out.symm, hw1⟩
          · have HV := hide (HX.out (by unfold sOK; rw [g1, g2]; rfl))
            go_wp2_with (go_at_call 63; refine (tWithin_any _ _ _ _).mono ?_; rintro e w' ⟨rfl, rfl⟩)
            go_roundw
            case rel => exact ⟨k + 1, by omega, by go_num, hw1, HV.out⟩
            case measure => simp [intOf]; omega
      · go_wp2_with fail
        go_ret
        have hx := ht.out
        rw [List.take_of_length_le (by rw [HN.out]; omega)] at hx
        exact ⟨ret_int (sigE_ok hle.out hx).symm, hw⟩

theorem trE_bad {t : Tr} (h : inR t.ver 0 1000 = false) : trE t = 3 := by unfold trE; rw [h]; rfl
theorem trE_go {t : Tr} (h : inR t.ver 0 1000 = true) : trE t = t.r.e := by unfold trE; rw [h]; rfl

set_option maxHeartbeats 800000 in
set_option maxRecDepth 100000 in
theorem checkTrust_any (t : Tr) (a : Option Addr) (n c : Nat) (w : World) (h : BI w a n t.r.ks) :
    Calls Tryd.prog 30 #[trv t.r.v a n c t.r.t t.ver] w fun e w' => e = .returned (.int .i64 (trE t)) ∧ Below w.heap.size w w' := by
  have hw0 : Below w.heap.size w (w.alloc (.cells #[.int .i64 t.r.v, .slice a n c, .int .i64 t.r.t, .int .i64 t.ver] 53)) := (Below.refl _ _).alloc (Nat.le_refl _) _
  have i0 := h.below hw0
  have HK := hide (fun W (hW : BI W a n t.r.ks) => checkRoot_any t.r.v a n c t.r.t t.r.ks W hW.at_ hW.len hW.max)
  unfold rv at HK
  unfold trv
  cases h1 : inR t.ver 0 1000
  · have HE := hide (trE_bad h1)
    go_enter Tryd.func30, Tryd.ntmps30
    go_wp2_with (go_at_call 63; refine (tWithin_any _ _ _ _).mono ?_; rintro e w' ⟨rfl, rfl⟩)
    go_ret
    exact ⟨ret_int HE.out.symm, hw0⟩
  · have HE := hide (trE_go h1)
    go_enter Tryd.func30, Tryd.ntmps30
    go_wp2_with (first | (go_at_call 63; refine (tWithin_any _ _ _ _).mono ?_; rintro e w' ⟨rfl, rfl⟩) | (go_at_call 51; refine (HK.out _ i0).mono ?_; rintro e w1 ⟨rfl, hb1⟩))
    go_ret
    exact ⟨ret_int HE.out.symm, hw0.trans (hb1.mono hw0.size)⟩

end Go.Proofs.YtanpglfpopbfkabDoor
