/- The contracts of meta.CheckRelease, CheckImage, CheckBook. -/
import Derived.Test.YtanpglfpopbfkabGreatDoorPm6
namespace Go.Proofs.YtanpglfpopbfkabGreatDoor
open Go.RowKit

theorem relE_1 {v u : Int} {ts : List T3} (h1 : inR v 1 1000 = false) : relE v u ts = 3 := by simp [relE, h1]
theorem relE_2 {v u : Int} {ts : List T3} (h1 : inR u 0 100000 = false) : relE v u ts = 3 := by simp [relE, h1]
theorem relE_3 {v u : Int} {ts : List T3} (h1 : inR v 1 1000 = true) (h2 : inR u 0 100000 = true) (h3 : inR ts.length 1 4 = false) : relE v u ts = 2 := by simp [relE, h1, h2, h3]
theorem relE_4 {v u : Int} {ts : List T3} (h1 : inR v 1 1000 = true) (h2 : inR u 0 100000 = true) (h3 : inR ts.length 1 4 = true) : relE v u ts = tgtsE 0 ts := by simp [relE, h1, h2, h3]

theorem tgtsE_bad {ts : List T3} {k : Nat} (hk : k < ts.length) (h : tOK k ts[k] = false) : tgtsE k (ts.drop k) = 3 := by
  rw [List.drop_eq_getElem_cons hk]
  simp [tgtsE, h]
theorem tgtsE_next {ts : List T3} {k : Nat} (hk : k < ts.length) (h : tOK k ts[k] = true) : tgtsE k (ts.drop k) = tgtsE (k + 1) (ts.drop (k + 1)) := by
  rw [List.drop_eq_getElem_cons hk]
  simp [tgtsE, h]

def relv (v u : Int) (a : Option Addr) (n c : Nat) : Value := .agg #[.int .i64 v, .int .i64 u, .slice a n c]

set_option maxHeartbeats 800000 in
set_option maxRecDepth 100000 in
theorem checkRelease_any (v u : Int) (a : Option Addr) (n c : Nat) (ts : List T3) (w : World) (h : IsTgts w a ts) (hn : ts.length = n) (hm : n ≤ maxLen) :
    Calls Tryz.prog 18 #[relv v u a n c] w fun e w' => e = .returned (.int .i64 (relE v u ts)) ∧ Below w.heap.size w w' := by
  have HN := hide hn
  unfold maxLen at hm
  unfold relv
  clear hn
  cases h1 : inR v 1 1000
  · go_enter Tryz.func18, Tryz.ntmps18
    go_wp2_with (go_at_call 43; refine (within_any _ _ _ _).mono ?_; rintro e w' ⟨rfl, rfl⟩)
    go_ret
    exact ⟨ret_int (relE_1 h1).symm, (Below.refl _ _).alloc (Nat.le_refl _) _⟩
  · cases h2 : inR u 0 100000
    · go_enter Tryz.func18, Tryz.ntmps18
      go_wp2_with (go_at_call 43; refine (within_any _ _ _ _).mono ?_; rintro e w' ⟨rfl, rfl⟩)
      go_ret
      exact ⟨ret_int (relE_2 h2).symm, (Below.refl _ _).alloc (Nat.le_refl _) _⟩
    · cases h3 : inR (n : Int) 1 4
      · go_enter Tryz.func18, Tryz.ntmps18
        go_wp2_with (go_at_call 43; refine (within_any _ _ _ _).mono ?_; rintro e w' ⟨rfl, rfl⟩)
        go_ret
        exact ⟨ret_int (relE_3 h1 h2 (by rw [HN.out]; exact h3)).symm, (Below.refl _ _).alloc (Nat.le_refl _) _⟩
      · have HE := hide (relE_4 h1 h2 (ts := ts) (by rw [HN.out]; exact h3))
        have hw0 : Below w.heap.size w (w.alloc (.cells #[.int .i64 v, .int .i64 u, .slice a n c] 27)) := (Below.refl _ _).alloc (Nat.le_refl _) _
        go_enter Tryz.func18, Tryz.ntmps18
        go_wp2_with (go_at_call 43; refine (within_any _ _ _ _).mono ?_; rintro e w' ⟨rfl, rfl⟩)
        go_loopw [23] (fun i wr => ∃ k : Nat, k ≤ n ∧ i = .int .i64 k ∧ Below w.heap.size w wr ∧ Hid (tgtsE k (ts.drop k) = tgtsE 0 ts)) (fun i _ => n - (intOf i).toNat)
        case atStart => exact ⟨0, Nat.zero_le _, rfl, hw0, rfl⟩
        case round =>
          clear hw0
          obtain ⟨k, hk, rfl, hw, ht⟩ := hrel
          by_cases hlt : k < n
          · have i1 := h.below hw
            rcases i1 with rfl | ⟨b0, o0, rfl, hc0⟩
            · have := HN.out
              simp at this
              omega
            have hkx : k < ts.length := by rw [HN.out]; exact hlt
            obtain ⟨e0, e1, e2⟩ := hc0 k ts[k] (List.getElem?_eq_getElem hkx)
            clear hc0
            have hw1 := hw.alloc hw.size (.cells #[.int .i64 ts[k].1, .int .i64 ts[k].2.1, .int .i64 ts[k].2.2] 78)
            have HB := hide (tgtsE_bad hkx)
            have HX := hide (tgtsE_next hkx)
            generalize ts[k] = tk at *
            cases hv : tOK k tk
            · have HF := hide (fun W => fits_any tk k W)
              rw [hv] at HF
              unfold tv at HF
              have HV := hide (HB.out hv)
              clear hv
              go_wp2_with fail
              refine (unhide HF _).mono ?_
              rintro e w1 ⟨rfl, hb1⟩
              replace hw1 := hw1.trans (hb1.mono hw1.size)
              go_wp2_with fail
              go_ret
              exact ⟨ret_int (by rw [HE.out, ← ht.out, HV.out]), hw1⟩
            · have HF := hide (fun W => fits_any tk k W)
              rw [hv] at HF
              unfold tv at HF
              have HV := hide (HX.out hv)
              clear hv
              go_wp2_with fail
              refine (unhide HF _).mono ?_
              rintro e w1 ⟨rfl, hb1⟩
              replace hw1 := hw1.trans (hb1.mono hw1.size)
              go_wp2_with fail
              go_roundw
              case rel => exact ⟨k + 1, by omega, by go_num, hw1, by show _ = _; rw [← ht.out, HV.out]⟩
              case measure => simp [intOf]; omega
          · go_wp2_with fail
            go_ret
            have hx := ht.out
            rw [List.drop_eq_nil_of_le (by rw [HN.out]; omega)] at hx
            exact ⟨ret_int (by rw [HE.out, ← hx]; rfl), hw⟩

/-! ### Images -/

theorem okL_word (xs : List Int) : okL xs = xs.all wordB := rfl

theorem imgE_1 {w : List Int} (h : inR w.length 1 40 = false) : imgE w = 2 := by simp [imgE, h]
theorem imgE_2 {w : List Int} (h : inR w.length 1 40 = true) (h2 : okL w = false) : imgE w = 3 := by rw [okL_word] at h2; simp [imgE, h, h2]
theorem imgE_3 {w : List Int} (h : inR w.length 1 40 = true) (h2 : okL w = true) : imgE w = 0 := by rw [okL_word] at h2; simp only [imgE, h, h2]; rfl

set_option maxHeartbeats 800000 in
set_option maxRecDepth 100000 in
theorem checkImage_any (a : Option Addr) (n c : Nat) (xs : List Int) (w : World) (h : IsInts w a xs) (hn : xs.length = n) (hm : n ≤ maxLen) :
    Calls Tryz.prog 19 #[.slice a n c] w fun e w' => e = .returned (.int .i64 (imgE xs)) ∧ w' = w := by
  have HN := hide hn
  have HA := hide (allWords_any a n c xs w h hn hm)
  clear hn
  cases h1 : inR (n : Int) 1 40
  · have HE := hide (imgE_1 (w := xs) (by rw [HN.out]; exact h1))
    go_enter Tryz.func19, Tryz.ntmps19
    go_wp2_with (go_at_call 43; refine (within_any _ _ _ _).mono ?_; rintro e w' ⟨rfl, rfl⟩)
    go_ret
    exact ⟨ret_int HE.out.symm, rfl⟩
  · cases h2 : okL xs
    · have HE := hide (imgE_2 (by rw [HN.out]; exact h1) h2)
      rw [h2] at HA
      go_enter Tryz.func19, Tryz.ntmps19
      go_wp2_with (first | (go_at_call 43; refine (within_any _ _ _ _).mono ?_; rintro e w' ⟨rfl, rfl⟩) | (go_at_call 46; refine (unhide HA).mono ?_; rintro e w' ⟨rfl, rfl⟩))
      go_ret
      exact ⟨ret_int HE.out.symm, rfl⟩
    · have HE := hide (imgE_3 (by rw [HN.out]; exact h1) h2)
      rw [h2] at HA
      go_enter Tryz.func19, Tryz.ntmps19
      go_wp2_with (first | (go_at_call 43; refine (within_any _ _ _ _).mono ?_; rintro e w' ⟨rfl, rfl⟩) | (go_at_call 46; refine (unhide HA).mono ?_; rintro e w' ⟨rfl, rfl⟩))
      go_ret
      exact ⟨ret_int HE.out.symm, rfl⟩

/-! ### Books -/

theorem booksE_long {ss : List ByteArray} {k : Nat} (hk : k < ss.length) (h : 2000 < ss[k].size) : booksE (ss.take k) (ss.drop k) = 2 := by
  rw [List.drop_eq_getElem_cons hk]
  simp only [booksE]
  rw [if_pos h]
theorem booksE_two {ss : List ByteArray} {k : Nat} (hk : k < ss.length) (h : ¬ 2000 < ss[k].size) (h2 : hasB (ss.take k) ss[k] = true) : booksE (ss.take k) (ss.drop k) = 6 := by
  rw [List.drop_eq_getElem_cons hk]
  simp only [booksE]
  rw [if_neg h, if_neg (by simpa [hasB] using h2)]
theorem booksE_next {ss : List ByteArray} {k : Nat} (hk : k < ss.length) (h : ¬ 2000 < ss[k].size) (h2 : hasB (ss.take k) ss[k] = false) : booksE (ss.take k) (ss.drop k) = booksE (ss.take (k + 1)) (ss.drop (k + 1)) := by
  rw [List.drop_eq_getElem_cons hk, List.take_succ_eq_append_getElem hk]
  simp only [booksE]
  rw [if_neg h, if_pos (by simpa [hasB] using h2)]

def bookv (a : Option Addr) (n c : Nat) : Value := .agg #[.slice a n c]

set_option maxHeartbeats 800000 in
set_option maxRecDepth 100000 in
theorem checkBook_any (a : Option Addr) (n c : Nat) (ss : List ByteArray) (w : World) (h : IsStrs w a ss) (hn : ss.length = n) (hc : n ≤ c) (hz : ∀ s ∈ ss, s.size ≤ maxLen) :
    Calls Tryz.prog 96 #[bookv a n c] w fun e w' => e = .returned (.int .i64 (bookE ss)) ∧ Below w.heap.size w w' := by
  have HN := hide hn
  unfold maxLen at hz
  unfold bookv
  have hw0 : Below w.heap.size w (w.alloc (.cells #[.slice a n c] 46)) := (Below.refl _ _).alloc (Nat.le_refl _) _
  by_cases h1 : 60 < n
  · have HE := hide (show bookE ss = 2 by unfold bookE; rw [if_pos (by omega)])
    clear hn
    go_enter Tryz.func96, Tryz.ntmps96
    go_wp2_with fail
    go_ret
    exact ⟨ret_int HE.out.symm, hw0⟩
  · have HE := hide (show bookE ss = booksE [] ss by unfold bookE; rw [if_neg (by omega)])
    clear hn
    go_enter Tryz.func96, Tryz.ntmps96
    go_wp2_with fail
    go_loopw [12] (fun i wr => ∃ k : Nat, k ≤ n ∧ i = .int .i64 k ∧ wr = w.alloc (.cells #[.slice a n c] 46) ∧ Hid (booksE (ss.take k) (ss.drop k) = booksE [] ss)) (fun i _ => n - (intOf i).toNat)
    case atStart => exact ⟨0, Nat.zero_le _, rfl, rfl, by show _ = _; simp⟩
    case round =>
      obtain ⟨k, hk, rfl, rfl, ht⟩ := hrel
      by_cases hlt : k < n
      · have i1 := h.below hw0
        have i2 := i1.take k
        have hkx : k < ss.length := by rw [HN.out]; exact hlt
        rcases i1 with rfl | ⟨b0, o0, rfl, hc0⟩
        · have := HN.out
          simp at this
          omega
        have e0 := h
        have e0 := hc0 k hkx
        rw [show ss.getD k ByteArray.empty = ss[k] by simp [hkx]] at e0
        have hzk := hz ss[k] (List.getElem_mem hkx)
        clear hc0
        by_cases h2 : 2000 < ss[k].size
        · have HV := hide (booksE_long hkx h2)
          generalize ss[k] = sk at *
          go_wp2_with fail
          go_ret
          exact ⟨ret_int (by rw [HE.out, ← ht.out, HV.out]), hw0⟩
        · have HC := hide (contains_strs (some ⟨b0, o0, none⟩) k c (ss.take k) ss[k] _ i2 (by simp; omega) (by unfold maxLen; omega))
          cases h3 : hasB (ss.take k) ss[k]
          · have HV := hide (booksE_next hkx h2 h3)
            rw [h3] at HC
            generalize ss[k] = sk at *
            go_wp2_with (go_at_call 140; refine (unhide HC).mono ?_; rintro e w' ⟨rfl, rfl⟩)
            go_roundw
            case rel => exact ⟨k + 1, by omega, by go_num, trivial, by show _ = _; rw [← ht.out, HV.out]⟩
            case measure => simp [intOf]; omega
          · have HV := hide (booksE_two hkx h2 h3)
            rw [h3] at HC
            generalize ss[k] = sk at *
            go_wp2_with (go_at_call 140; refine (unhide HC).mono ?_; rintro e w' ⟨rfl, rfl⟩)
            go_ret
            exact ⟨ret_int (by rw [HE.out, ← ht.out, HV.out]), hw0⟩
      · go_wp2_with fail
        go_ret
        have hx := ht.out
        rw [List.drop_eq_nil_of_le (by rw [HN.out]; omega)] at hx
        exact ⟨ret_int (by rw [HE.out, ← hx]; rfl), hw0⟩

end Go.Proofs.YtanpglfpopbfkabGreatDoor
