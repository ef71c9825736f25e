/- The ref's CheckBook, NameOf. -/
import Derived.Test.YtanpglfpopbfkabDoorMRel
namespace Go.Proofs.YtanpglfpopbfkabDoor
open Go.RowKit

theorem nameN_take {ss : List ByteArray} {s : ByteArray} : ∀ {k : Nat}, nameN (ss.take k) s ≠ 0 → nameN ss s = nameN (ss.take k) s := by
  induction ss with
  | nil => intro k h; simp [nameN] at h
  | cons t r ih =>
    intro k h
    cases k with
    | zero => simp [nameN] at h
    | succ k =>
      simp only [List.take_succ_cons] at h ⊢
      unfold nameN at h ⊢
      by_cases e : t = s
      · rw [if_pos e, if_pos e]
      · rw [if_neg e] at h ⊢
        rw [if_neg e]
        by_cases h0 : nameN (r.take k) s = 0
        · rw [if_pos h0] at h; exact absurd rfl h
        · rw [ih h0]

theorem index_before {ss : List ByteArray} {k : Nat} (hk : k < ss.length) : decide ((nameN ss ss[k] : Int) - 1 < (k : Int)) = hasB (ss.take k) ss[k] := by
  unfold hasB
  rw [decide_eq_decide]
  by_cases h : nameN (ss.take k) ss[k] = 0
  · rw [nameN_hit (nameN_zero.1 h) (List.getElem?_eq_getElem hk)]
    simp only [ne_eq, h, not_true_eq_false, iff_false]
    omega
  · have h1 := nameN_take h
    have h2 := nameN_le (ss.take k) ss[k]
    rw [List.length_take] at h2
    simp only [ne_eq, h, not_false_eq_true, iff_true]
    omega

set_option maxHeartbeats 800000 in
set_option maxRecDepth 100000 in
theorem refCheckBook_any (a : Option Addr) (n c : Nat) (ss : List ByteArray) (w : World) (h : IsStrs w a ss) (hn : ss.length = n) (hm : n ≤ maxLen) (hz : ∀ s ∈ ss, s.size ≤ maxLen) :
    Calls Tryd.prog 11 #[bookv a n c] w fun e w' => e = .returned (.int .i64 (bookE ss)) ∧ Below w.heap.size w w' := by
  have HN := hide hn
  have HI := hide (fun W s (hW : IsStrs W a ss) => index_strs a n c ss s W hW hn hm)
  unfold maxLen at hm hz
  unfold bookv
  have hw0 : Below w.heap.size w (w.alloc (.cells #[.slice a n c] 24)) := (Below.refl _ _).alloc (Nat.le_refl _) _
  by_cases h1 : 60 < n
  · have HE := hide (show bookE ss = 2 by unfold bookE; rw [if_pos (by omega)])
    clear hn
    go_enter Tryd.func11, Tryd.ntmps11
    go_wp2_with fail
    go_ret
    exact ⟨ret_int HE.out.symm, hw0⟩
  · have HE := hide (show bookE ss = booksE [] ss by unfold bookE; rw [if_neg (by omega)])
    clear hn
    go_enter Tryd.func11, Tryd.ntmps11
    go_wp2_with fail
    go_loopw [12] (fun i wr => ∃ k : Nat, k ≤ n ∧ i = .int .i64 k ∧ wr = w.alloc (.cells #[.slice a n c] 24) ∧ Hid (booksE (ss.take k) (ss.drop k) = booksE [] ss)) (fun i _ => n - (intOf i).toNat)
    case atStart => exact ⟨0, Nat.zero_le _, rfl, rfl, by show _ = _; simp⟩
    case round =>
      obtain ⟨k, hk, rfl, rfl, ht⟩ := hrel
      by_cases hlt : k < n
      · have i1 := h.below hw0
        have hkx : k < ss.length := by rw [HN.out]; exact hlt
        have HIk := hide (unhide HI _ ss[k] i1)
        have hdec := index_before hkx
        rcases i1 with rfl | ⟨b0, o0, rfl, hc0⟩
        · have := HN.out
          simp at this
          omega
        have e0 := hc0 k hkx
        rw [show ss.getD k ByteArray.empty = ss[k] by simp [hkx]] at e0
        have hzk := hz ss[k] (List.getElem_mem hkx)
        clear hc0
        obtain ⟨q, hq⟩ : ∃ q : Int, q = (nameN ss ss[k] : Int) - 1 := ⟨_, rfl⟩
        rw [← hq] at hdec HIk
        clear hq
        by_cases h2 : 2000 < ss[k].size
        · have HV := hide (booksE_long hkx h2)
          clear hdec
          generalize ss[k] = sk at *
          go_wp2_with fail
          go_ret
          exact ⟨ret_int (by rw [HE.out, ← ht.out, HV.out]), hw0⟩
        · cases h3 : hasB (ss.take k) ss[k]
          · have HV := hide (booksE_next hkx h2 h3)
            rw [h3] at hdec
            clear h3
            generalize ss[k] = sk at *
            go_wp2_with (go_at_call 40; refine (unhide HIk).mono ?_; rintro e w' ⟨rfl, rfl⟩)
            go_roundw
            case rel => exact ⟨k + 1, by omega, by go_num, trivial, by show _ = _; rw [← ht.out, HV.out]⟩
            case measure => simp [intOf]; omega
          · have HV := hide (booksE_two hkx h2 h3)
            rw [h3] at hdec
            clear h3
            generalize ss[k] = sk at *
            go_wp2_with (go_at_call 40; refine (unhide HIk).mono ?_; rintro e w' ⟨rfl, rfl⟩)
            go_ret
            exact ⟨ret_int (by rw [HE.out, ← ht.out, HV.out]), hw0⟩
      · go_wp2_with fail
        go_ret
        have hx := ht.out
        rw [List.drop_eq_nil_of_le (by rw [HN.out]; omega)] at hx
        exact ⟨ret_int (by rw [HE.out, ← hx]; rfl), hw0⟩

set_option maxHeartbeats 800000 in
set_option maxRecDepth 100000 in
theorem refNameOf_any (a : Option Addr) (n c : Nat) (ss : List ByteArray) (s : ByteArray) (w : World) (h : IsStrs w a ss) (hn : ss.length = n) (hm : n ≤ maxLen) :
    Calls Tryd.prog 14 #[bookv a n c, .string s] w fun e w' => e = .returned (.int .i64 (nameN ss s : Int)) ∧ Below w.heap.size w w' := by
  have HN := hide hn
  unfold maxLen at hm
  unfold bookv
  have hw0 : Below w.heap.size w (w.alloc (.cells #[.slice a n c] 24)) := (Below.refl _ _).alloc (Nat.le_refl _) _
  clear hn
  go_enter Tryd.func14, Tryd.ntmps14
  go_wp2_with fail
  go_loopw [10] (fun i wr => ∃ k : Nat, k ≤ n ∧ i = .int .i64 k ∧ wr = w.alloc (.cells #[.slice a n c] 24) ∧ Hid (s ∉ ss.take k)) (fun i _ => n - (intOf i).toNat)
  case atStart => exact ⟨0, Nat.zero_le _, rfl, rfl, by show _ ∉ _; simp⟩
  case round =>
    obtain ⟨k, hk, rfl, rfl, ht⟩ := hrel
    by_cases hlt : k < n
    · have i1 := h.below hw0
      have hkx : k < ss.length := by rw [HN.out]; exact hlt
      rcases i1 with rfl | ⟨b0, o0, rfl, hc0⟩
      · have := HN.out
        simp at this
        omega
      have e0 := hc0 k hkx
      rw [show ss.getD k ByteArray.empty = ss[k] by simp [hkx]] at e0
      clear hc0
      by_cases he : ss[k] = s
      · have hb : (ss[k].toList == s.toList) = true := (Lib.bytes_beq_iff _ _).2 he
        have HE := hide (nameN_hit ht.out (by rw [List.getElem?_eq_getElem hkx, he]))
        clear he
        generalize ss[k] = sk at *
        go_wp2_with fail
        go_ret
        refine ⟨ret_int ?_, hw0⟩
        rw [HE.out]
        rfl
      · have hb : (ss[k].toList == s.toList) = false := (Lib.bytes_beq_false_iff _ _).2 he
        have HE := hide (not_take_step hkx ht.out (fun e => he e.symm))
        clear he
        generalize ss[k] = sk at *
        go_wp2_with fail
        go_roundw
        case rel => exact ⟨k + 1, by omega, by go_num, trivial, HE.out⟩
        case measure => simp [intOf]; omega
    · go_wp2_with fail
      go_ret
      have hx := ht.out
      rw [List.take_of_length_le (by rw [HN.out]; omega)] at hx
      exact ⟨ret_int (by rw [nameN_zero.2 hx]; rfl), hw0⟩

end Go.Proofs.YtanpglfpopbfkabDoor
