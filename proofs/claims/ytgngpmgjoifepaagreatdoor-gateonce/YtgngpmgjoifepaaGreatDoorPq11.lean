/- The contracts of meta.checkKeys, CheckRoot, rowOf, fits, CheckRelease, CheckImage, CheckBook. The contracts of meta.CheckRelease, CheckImage, CheckBook. -/
import Derived.Test.YtgngpmgjoifepaaGreatDoorPq10
namespace Go.Proofs.YtgngpmgjoifepaaGreatDoor
open Go.RowKit

theorem keysE_bad {xs : List Int} {k : Nat} (hk : k < xs.length) (a : Int) (h : inR xs[k] 1 50 = false) : keysE a (xs.drop k) = 3 := by
  rw [List.drop_eq_getElem_cons hk]
  simp [keysE, h]
theorem keysE_two {xs : List Int} {k : Nat} (hk : k < xs.length) (a : Int) (h : inR xs[k] 1 50 = true) (h2 : xs[k] ≤ a) : keysE a (xs.drop k) = 6 := by
  rw [List.drop_eq_getElem_cons hk]
  simp [keysE, h, h2]
theorem keysE_next {xs : List Int} {k : Nat} (hk : k < xs.length) (a : Int) (h : inR xs[k] 1 50 = true) (h2 : ¬ xs[k] ≤ a) : keysE a (xs.drop k) = keysE xs[k] (xs.drop (k + 1)) := by
  rw [List.drop_eq_getElem_cons hk]
  simp [keysE, h, h2]

theorem ret_int {a b : Int} (h : a = b) : Ending.returned (.int .i64 a) = .returned (.int .i64 b) := by rw [h]

set_option maxHeartbeats 400000 in
set_option maxRecDepth 100000 in
theorem checkKeys_any (a : Option Addr) (n c : Nat) (xs : List Int) (w : World) (h : IsInts w a xs) (hn : xs.length = n) (hm : n ≤ maxLen) :
    Calls Tryz.prog 189 #[.slice a n c] w fun e w' => e = .returned (.int .i64 (keysE 0 xs)) ∧ w' = w := by
  unfold maxLen at hm
  have HN : Hid (xs.length = n) := hn
  go_enter Tryz.func189, Tryz.ntmps189
  go_wp2
  go_loop [3, 8] (fun p i => ∃ (k : Nat) (q : Int), k ≤ n ∧ p = .int .i64 q ∧ i = .int .i64 k ∧ Hid (keysE q (xs.drop k) = keysE 0 xs)) (fun _ i => n - (intOf i).toNat)
  case atStart => exact ⟨0, 0, Nat.zero_le _, rfl, rfl, rfl⟩
  case round =>
    obtain ⟨k, q, hk, rfl, rfl, ht⟩ := hrel
    by_cases hlt : k < n
    · rcases h with rfl | ⟨b0, o0, rfl, hc0⟩
      · simp at hn; omega
      have hkx : k < xs.length := by omega
      have e0 := hc0 k hkx
      rw [show xs.getD k 0 = xs[k] by simp [hkx]] at e0
      clear hn hc0
      go_wp2_with fail
      refine (within_any _ _ _ _).mono ?_
      rintro e w' ⟨rfl, rfl⟩
      cases hv : inR xs[k] 1 50
      · have HV := hide hv
        clear hv
        go_wp2_with fail
        go_ret
        exact ⟨ret_int (by rw [← ht.out, keysE_bad hkx _ HV.out]), rfl⟩
      · have HV := hide hv
        clear hv
        by_cases hq : xs[k] ≤ q
        · go_wp2_with fail
          go_ret
          exact ⟨ret_int (by rw [← ht.out, keysE_two hkx _ HV.out hq]), rfl⟩
        · have hd : decide (xs[k] ≤ q) = false := by simp; omega
          go_wp2_with fail
          go_round
          case rel => exact ⟨k + 1, xs[k], by omega, rfl, by go_num, by show _ = _; rw [← ht.out, keysE_next hkx _ HV.out (by omega)]⟩
          case measure => simp [intOf]; omega
    · go_wp2_with fail
      go_ret
      have hx := ht.out
      rw [List.drop_eq_nil_of_le (by omega)] at hx
      exact ⟨ret_int (by rw [← hx]; rfl), rfl⟩

theorem rootE_1 {v : Int} {ks : List Int} {t : Int} (h1 : inR v 1 1000 = false) : rootE v ks t = 3 := by simp [rootE, h1]
theorem rootE_2 {v : Int} {ks : List Int} {t : Int} (h1 : inR v 1 1000 = true) (h2 : inR ks.length 1 6 = false) : rootE v ks t = 2 := by simp [rootE, h1, h2]
theorem rootE_3 {v : Int} {ks : List Int} {t : Int} (h1 : inR v 1 1000 = true) (h2 : inR ks.length 1 6 = true) (h3 : keysE 0 ks ≠ 0) : rootE v ks t = keysE 0 ks := by simp [rootE, h1, h2, h3]
theorem rootE_4 {v : Int} {ks : List Int} {t : Int} (h1 : inR v 1 1000 = true) (h2 : inR ks.length 1 6 = true) (h3 : keysE 0 ks = 0) (h4 : inR t 1 ks.length = false) : rootE v ks t = 4 := by simp [rootE, h1, h2, h3, h4]
theorem rootE_0 {v : Int} {ks : List Int} {t : Int} (h1 : inR v 1 1000 = true) (h2 : inR ks.length 1 6 = true) (h3 : keysE 0 ks = 0) (h4 : inR t 1 ks.length = true) : rootE v ks t = 0 := by simp [rootE, h1, h2, h3, h4]

def rv (v : Int) (a : Option Addr) (n c : Nat) (t : Int) : Value := .agg #[.int .i64 v, .slice a n c, .int .i64 t]

set_option maxHeartbeats 800000 in
set_option maxRecDepth 100000 in
theorem checkRoot_any (v : Int) (a : Option Addr) (n c : Nat) (t : Int) (xs : List Int) (w : World) (h : IsInts w a xs) (hn : xs.length = n) (hm : n ≤ maxLen) :
    Calls Tryz.prog 146 #[rv v a n c t] w fun e w' => e = .returned (.int .i64 (rootE v xs t)) ∧ Below w.heap.size w w' := by
  have HN := hide hn
  have HK := hide (fun W (hW : IsInts W a xs) => checkKeys_any a n c xs W hW hn hm)
  unfold maxLen at hm
  unfold rv
  clear hn
  cases h1 : inR v 1 1000
  · go_enter Tryz.func146, Tryz.ntmps146
    go_wp2_with (go_at_call 107; refine (within_any _ _ _ _).mono ?_; rintro e w' ⟨rfl, rfl⟩)
    go_ret
    exact ⟨ret_int (rootE_1 h1).symm, (Below.refl _ _).alloc (Nat.le_refl _) _⟩
  · cases h2 : inR (n : Int) 1 6
    · go_enter Tryz.func146, Tryz.ntmps146
      go_wp2_with (go_at_call 107; refine (within_any _ _ _ _).mono ?_; rintro e w' ⟨rfl, rfl⟩)
      go_ret
      exact ⟨ret_int (rootE_2 h1 (by rw [HN.out]; exact h2)).symm, (Below.refl _ _).alloc (Nat.le_refl _) _⟩
    · by_cases h3 : keysE 0 xs = 0
      · cases h4 : inR t 1 n
        · go_enter Tryz.func146, Tryz.ntmps146
          go_wp2_with (first
            | (go_at_call 107; refine (within_any _ _ _ _).mono ?_; rintro e w' ⟨rfl, rfl⟩)
            | (go_at_call 189; refine (HK.out _ (h.alloc _)).mono ?_; rintro e w' ⟨rfl, rfl⟩))
          go_ret
          exact ⟨ret_int (rootE_4 h1 (by rw [HN.out]; exact h2) h3 (by rw [HN.out]; exact h4)).symm, (Below.refl _ _).alloc (Nat.le_refl _) _⟩
        · go_enter Tryz.func146, Tryz.ntmps146
          go_wp2_with (first
            | (go_at_call 107; refine (within_any _ _ _ _).mono ?_; rintro e w' ⟨rfl, rfl⟩)
            | (go_at_call 189; refine (HK.out _ (h.alloc _)).mono ?_; rintro e w' ⟨rfl, rfl⟩))
          go_ret
          exact ⟨ret_int (rootE_0 h1 (by rw [HN.out]; exact h2) h3 (by rw [HN.out]; exact h4)).symm, (Below.refl _ _).alloc (Nat.le_refl _) _⟩
      · have hb : (keysE 0 xs != 0) = true := by simpa using h3
        have H3 := hide h3
        have HE := hide (rootE_3 (t := t) h1 (by rw [HN.out]; exact h2) h3)
        clear h3
        generalize keysE 0 xs = q at HK hb HE
        go_enter Tryz.func146, Tryz.ntmps146
        go_wp2_with (first
          | (go_at_call 107; refine (within_any _ _ _ _).mono ?_; rintro e w' ⟨rfl, rfl⟩)
          | (go_at_call 189; refine (HK.out _ (h.alloc _)).mono ?_; rintro e w' ⟨rfl, rfl⟩))
        go_ret
        exact ⟨ret_int HE.out.symm, (Below.refl _ _).alloc (Nat.le_refl _) _⟩

/-! ### A target, a release -/

set_option maxRecDepth 100000 in
theorem rowOf_any (t : T3) (w : World) : Calls Tryz.prog 211 #[tv t] w fun e w' => e = .returned (tv t) ∧ Below w.heap.size w w' := by
  unfold tv
  go_enter Tryz.func211, Tryz.ntmps211
  go_wp2
  refine bodyPost_ret (v := .agg #[.int .i64 t.1, .int .i64 t.2.1, .int .i64 t.2.2]) (by simp [results, Tryz.results211, go_sem]) rfl ⟨rfl, ?_⟩
  exact ((Below.refl _ _).alloc (Nat.le_refl _) _).alloc (by simp) _

def preB (p : Nat) (t : T3) (k : Nat) : Bool := (decide (k ≤ 0) || inR t.1 p p) && (decide (k ≤ 1) || inR t.2.1 1 60) && (decide (k ≤ 2) || inR t.2.2 1 40)

set_option maxRecDepth 100000 in
theorem ix0 (a b c : Int) (W : World) : (Instr.index 261 (.agg #[.int .i64 a, .int .i64 b, .int .i64 c]) (.int .i64 0)).run Tryz.prog W = .ok (.int .i64 a) W := by kernel_rfl
set_option maxRecDepth 100000 in
theorem ix1 (a b c : Int) (W : World) : (Instr.index 261 (.agg #[.int .i64 a, .int .i64 b, .int .i64 c]) (.int .i64 1)).run Tryz.prog W = .ok (.int .i64 b) W := by kernel_rfl
set_option maxRecDepth 100000 in
theorem ix2 (a b c : Int) (W : World) : (Instr.index 261 (.agg #[.int .i64 a, .int .i64 b, .int .i64 c]) (.int .i64 2)).run Tryz.prog W = .ok (.int .i64 c) W := by kernel_rfl

def bnds (p : Nat) : Obj := .cells #[.int .i64 p, .int .i64 p, .int .i64 1, .int .i64 60, .int .i64 1, .int .i64 40] 285

set_option maxHeartbeats 800000 in
set_option maxRecDepth 100000 in
theorem fits_any (t : T3) (p : Nat) (w : World) :
    Calls Tryz.prog 219 #[tv t, .int .i64 p] w fun e w' => e = .returned (.bool (tOK p t)) ∧ Below w.heap.size w w' := by
  have HR := hide (fun W => rowOf_any t W)
  unfold tv
  unfold tv at HR
  go_enter Tryz.func219, Tryz.ntmps219
  go_wp2_with fail
  have hw : Below w.heap.size w ((w.alloc (.cells #[.int .i64 t.1, .int .i64 t.2.1, .int .i64 t.2.2] 104)).alloc (bnds p)) := ((Below.refl _ _).alloc (Nat.le_refl _) _).alloc (by simp) _
  have b0 := hide (heap_alloc_last (w.alloc (.cells #[.int .i64 t.1, .int .i64 t.2.1, .int .i64 t.2.2] 104)) (bnds p))
  rw [World.size_alloc] at b0
  unfold bnds at b0 hw
  generalize (w.alloc (.cells #[.int .i64 t.1, .int .i64 t.2.1, .int .i64 t.2.2] 104)).alloc (.cells #[.int .i64 p, .int .i64 p, .int .i64 1, .int .i64 60, .int .i64 1, .int .i64 40] 285) = W at *
  refine (unhide HR _).mono ?_
  rintro e w1 ⟨rfl, hb1⟩
  replace b0 := hide (blk_below b0.out hb1)
  replace hw := hw.trans (hb1.mono hw.size)
  clear hb1
  go_wp2_with fail
  go_loopw [16] (fun i wr => ∃ k : Nat, k ≤ 3 ∧ i = .int .i64 k ∧ Below w.heap.size w wr ∧ Hid (wr.heap[w.heap.size + 1]? = some (.cells #[.int .i64 p, .int .i64 p, .int .i64 1, .int .i64 60, .int .i64 1, .int .i64 40] 285 (0, 0))) ∧ Hid (preB p t k = true)) (fun i _ => 3 - (intOf i).toNat)
  case atStart => exact ⟨0, by decide, rfl, hw, b0, by show _ = _; simp [preB]⟩
  case round =>
    clear hw b0
    obtain ⟨k, hk, rfl, hw, b0, ht⟩ := hrel
    have c0 := blk_cell b0.out 0 _ rfl
    have c1 := blk_cell b0.out 1 _ rfl
    have c2 := blk_cell b0.out 2 _ rfl
    have c3 := blk_cell b0.out 3 _ rfl
    have c4 := blk_cell b0.out 4 _ rfl
    have c5 := blk_cell b0.out 5 _ rfl
    have hk' : k = 0 ∨ k = 1 ∨ k = 2 ∨ k = 3 := by omega
    rcases hk' with rfl | rfl | rfl | rfl
    · have hix := fun W => ix0 t.1 t.2.1 t.2.2 W
      cases hv : inR t.1 p p
      · have HV := hide hv
        go_wp2_with fail
        go_quiet ((go_at_call 107; refine Calls.quiet_of_same (within_any _ _ _ _)))
        go_wp2_with fail
        go_ret
        exact ⟨ret_bool (by simp [tOK, HV.out]), below_drewN hw _⟩
      · have HV := hide hv
        go_wp2_with fail
        go_quiet ((go_at_call 107; refine Calls.quiet_of_same (within_any _ _ _ _)))
        go_wp2_with fail
        go_roundw
        case rel => exact ⟨1, by decide, rfl, below_drewN hw _, b0, by show _ = _; simp [preB, HV.out]⟩
        case measure => simp [intOf]
    · have hix := fun W => ix1 t.1 t.2.1 t.2.2 W
      have h0 := hide (show inR t.1 p p = true by have := ht.out; simpa [preB] using this)
      cases hv : inR t.2.1 1 60
      · have HV := hide hv
        go_wp2_with fail
        go_quiet ((go_at_call 107; refine Calls.quiet_of_same (within_any _ _ _ _)))
        go_wp2_with fail
        go_ret
        exact ⟨ret_bool (by simp [tOK, HV.out]), below_drewN hw _⟩
      · have HV := hide hv
        go_wp2_with fail
        go_quiet ((go_at_call 107; refine Calls.quiet_of_same (within_any _ _ _ _)))
        go_wp2_with fail
        go_roundw
        case rel => exact ⟨2, by decide, rfl, below_drewN hw _, b0, by show _ = _; simp [preB, HV.out, h0.out]⟩
        case measure => simp [intOf]
    · have hix := fun W => ix2 t.1 t.2.1 t.2.2 W
      have h0 := hide (show inR t.1 p p = true ∧ inR t.2.1 1 60 = true by have := ht.out; simpa [preB] using this)
      cases hv : inR t.2.2 1 40
      · have HV := hide hv
        go_wp2_with fail
        go_quiet ((go_at_call 107; refine Calls.quiet_of_same (within_any _ _ _ _)))
        go_wp2_with fail
        go_ret
        exact ⟨ret_bool (by simp [tOK, HV.out]), below_drewN hw _⟩
      · have HV := hide hv
        go_wp2_with fail
        go_quiet ((go_at_call 107; refine Calls.quiet_of_same (within_any _ _ _ _)))
        go_wp2_with fail
        go_roundw
        case rel => exact ⟨3, by decide, rfl, below_drewN hw _, b0, by show _ = _; simp [preB, HV.out, h0.out.1, h0.out.2]⟩
        case measure => simp [intOf]
    · have h0 := hide (show (inR t.1 p p = true ∧ inR t.2.1 1 60 = true) ∧ inR t.2.2 1 40 = true by have := ht.out; simpa [preB] using this)
      go_wp2_with fail
      go_ret
      exact ⟨ret_bool (by simp [tOK, h0.out.1.1, h0.out.1.2, h0.out.2]), hw⟩

end Go.Proofs.YtgngpmgjoifepaaGreatDoor

namespace Go.Proofs.YtgngpmgjoifepaaGreatDoor
open Go.RowKit

theorem relE_1 {v u : Int} {ts : List T3} (h1 : inR v 1 1000 = false) : relE v u ts = 3 := by simp [relE, h1]
theorem relE_2 {v u : Int} {ts : List T3} (h1 : inR u 0 100000 = false) : relE v u ts = 3 := by simp [relE, h1]
theorem relE_3 {v u : Int} {ts : List T3} (h1 : inR v 1 1000 = true) (h2 : inR u 0 100000 = true) (h3 : inR ts.length 1 4 = false) : relE v u ts = 2 := by simp [relE, h1, h2, h3]
theorem relE_4 {v u : Int} {ts : List T3} (h1 : inR v 1 1000 = true) (h2 : inR u 0 100000 = true) (h3 : inR ts.length 1 4 = true) : relE v u ts = tgtsE 0 ts := by simp [relE, h1, h2, h3]

theorem tgtsE_bad {ts : List T3} {k : Nat} (hk : k < ts.length) (h : tOK k ts[k] = false) : tgtsE k (ts.drop k) = 3 := by
  rw [List.drop_eq_getElem_cons hk]
  simp [tgtsE, h]
theorem tgtsE_next {ts : List T3} {k : Nat} (hk : k < ts.length) (h : tOK k ts[k] = true) : tgtsE k (ts.drop k) = tgtsE (k + 1) (ts.drop (k + 1)) := by
  rw [List.drop_eq_getElem_cons hk]
  simp [tgtsE, h]

def relv (v u : Int) (a : Option Addr) (n c : Nat) : Value := .agg #[.int .i64 v, .int .i64 u, .slice a n c]

set_option maxHeartbeats 800000 in
set_option maxRecDepth 100000 in
theorem checkRelease_any (v u : Int) (a : Option Addr) (n c : Nat) (ts : List T3) (w : World) (h : IsTgts w a ts) (hn : ts.length = n) (hm : n ≤ maxLen) :
    Calls Tryz.prog 209 #[relv v u a n c] w fun e w' => e = .returned (.int .i64 (relE v u ts)) ∧ Below w.heap.size w w' := by
  have HN := hide hn
  unfold maxLen at hm
  unfold relv
  clear hn
  cases h1 : inR v 1 1000
  · go_enter Tryz.func209, Tryz.ntmps209
    go_wp2_with (go_at_call 107; refine (within_any _ _ _ _).mono ?_; rintro e w' ⟨rfl, rfl⟩)
    go_ret
    exact ⟨ret_int (relE_1 h1).symm, (Below.refl _ _).alloc (Nat.le_refl _) _⟩
  · cases h2 : inR u 0 100000
    · go_enter Tryz.func209, Tryz.ntmps209
      go_wp2_with (go_at_call 107; refine (within_any _ _ _ _).mono ?_; rintro e w' ⟨rfl, rfl⟩)
      go_ret
      exact ⟨ret_int (relE_2 h2).symm, (Below.refl _ _).alloc (Nat.le_refl _) _⟩
    · cases h3 : inR (n : Int) 1 4
      · go_enter Tryz.func209, Tryz.ntmps209
        go_wp2_with (go_at_call 107; refine (within_any _ _ _ _).mono ?_; rintro e w' ⟨rfl, rfl⟩)
        go_ret
        exact ⟨ret_int (relE_3 h1 h2 (by rw [HN.out]; exact h3)).symm, (Below.refl _ _).alloc (Nat.le_refl _) _⟩
      · have HE := hide (relE_4 h1 h2 (ts := ts) (by rw [HN.out]; exact h3))
        have hw0 : Below w.heap.size w (w.alloc (.cells #[.int .i64 v, .int .i64 u, .slice a n c] 73)) := (Below.refl _ _).alloc (Nat.le_refl _) _
        go_enter Tryz.func209, Tryz.ntmps209
        go_wp2_with (go_at_call 107; refine (within_any _ _ _ _).mono ?_; rintro e w' ⟨rfl, rfl⟩)
        go_loopw [23] (fun i wr => ∃ k : Nat, k ≤ n ∧ i = .int .i64 k ∧ Below w.heap.size w wr ∧ Hid (tgtsE k (ts.drop k) = tgtsE 0 ts)) (fun i _ => n - (intOf i).toNat)
        case atStart => exact ⟨0, Nat.zero_le _, rfl, hw0, rfl⟩
        case round =>
          clear hw0
          obtain ⟨k, hk, rfl, hw, ht⟩ := hrel
          by_cases hlt : k < n
          · have i1 := h.below hw
            rcases i1 with rfl | ⟨b0, o0, rfl, hc0⟩
            · have := HN.out
              simp at this
              omega
            have hkx : k < ts.length := by rw [HN.out]; exact hlt
            obtain ⟨e0, e1, e2⟩ := hc0 k ts[k] (List.getElem?_eq_getElem hkx)
            clear hc0
            have hw1 := hw.alloc hw.size (.cells #[.int .i64 ts[k].1, .int .i64 ts[k].2.1, .int .i64 ts[k].2.2] 104)
            have HB := hide (tgtsE_bad hkx)
            have HX := hide (tgtsE_next hkx)
            generalize ts[k] = tk at *
            cases hv : tOK k tk
            · have HF := hide (fun W => fits_any tk k W)
              rw [hv] at HF
              unfold tv at HF
              have HV := hide (HB.out hv)
              clear hv
              go_wp2_with fail
              refine (unhide HF _).mono ?_
              rintro e w1 ⟨rfl, hb1⟩
              replace hw1 := hw1.trans (hb1.mono hw1.size)
              go_wp2_with fail
              go_ret
              exact ⟨ret_int (by rw [HE.out, ← ht.out, HV.out]), hw1⟩
            · have HF := hide (fun W => fits_any tk k W)
              rw [hv] at HF
              unfold tv at HF
              have HV := hide (HX.out hv)
              clear hv
              go_wp2_with fail
              refine (unhide HF _).mono ?_
              rintro e w1 ⟨rfl, hb1⟩
              replace hw1 := hw1.trans (hb1.mono hw1.size)
              go_wp2_with fail
              go_roundw
              case rel => exact ⟨k + 1, by omega, by go_num, hw1, by show _ = _; rw [← ht.out, HV.out]⟩
              case measure => simp [intOf]; omega
          · go_wp2_with fail
            go_ret
            have hx := ht.out
            rw [List.drop_eq_nil_of_le (by rw [HN.out]; omega)] at hx
            exact ⟨ret_int (by rw [HE.out, ← hx]; rfl), hw⟩

/-! ### Images -/

theorem okL_word (xs : List Int) : okL xs = xs.all wordB := rfl

theorem imgE_1 {w : List Int} (h : inR w.length 1 40 = false) : imgE w = 2 := by simp [imgE, h]
theorem imgE_2 {w : List Int} (h : inR w.length 1 40 = true) (h2 : okL w = false) : imgE w = 3 := by rw [okL_word] at h2; simp [imgE, h, h2]
theorem imgE_3 {w : List Int} (h : inR w.length 1 40 = true) (h2 : okL w = true) : imgE w = 0 := by rw [okL_word] at h2; simp only [imgE, h, h2]; rfl

set_option maxHeartbeats 800000 in
set_option maxRecDepth 100000 in
theorem checkImage_any (a : Option Addr) (n c : Nat) (xs : List Int) (w : World) (h : IsInts w a xs) (hn : xs.length = n) (hm : n ≤ maxLen) :
    Calls Tryz.prog 53 #[.slice a n c] w fun e w' => e = .returned (.int .i64 (imgE xs)) ∧ w' = w := by
  have HN := hide hn
  have HA := hide (allWords_any a n c xs w h hn hm)
  clear hn
  cases h1 : inR (n : Int) 1 40
  · have HE := hide (imgE_1 (w := xs) (by rw [HN.out]; exact h1))
    go_enter Tryz.func53, Tryz.ntmps53
    go_wp2_with (go_at_call 107; refine (within_any _ _ _ _).mono ?_; rintro e w' ⟨rfl, rfl⟩)
    go_ret
    exact ⟨ret_int HE.out.symm, rfl⟩
  · cases h2 : okL xs
    · have HE := hide (imgE_2 (by rw [HN.out]; exact h1) h2)
      rw [h2] at HA
      go_enter Tryz.func53, Tryz.ntmps53
      go_wp2_with (first | (go_at_call 107; refine (within_any _ _ _ _).mono ?_; rintro e w' ⟨rfl, rfl⟩) | (go_at_call 66; refine (unhide HA).mono ?_; rintro e w' ⟨rfl, rfl⟩))
      go_ret
      exact ⟨ret_int HE.out.symm, rfl⟩
    · have HE := hide (imgE_3 (by rw [HN.out]; exact h1) h2)
      rw [h2] at HA
      go_enter Tryz.func53, Tryz.ntmps53
      go_wp2_with (first | (go_at_call 107; refine (within_any _ _ _ _).mono ?_; rintro e w' ⟨rfl, rfl⟩) | (go_at_call 66; refine (unhide HA).mono ?_; rintro e w' ⟨rfl, rfl⟩))
      go_ret
      exact ⟨ret_int HE.out.symm, rfl⟩

/-! ### Books -/

theorem booksE_long {ss : List ByteArray} {k : Nat} (hk : k < ss.length) (h : 2000 < ss[k].size) : booksE (ss.take k) (ss.drop k) = 2 := by
  rw [List.drop_eq_getElem_cons hk]
  simp only [booksE]
  rw [if_pos h]
theorem booksE_two {ss : List ByteArray} {k : Nat} (hk : k < ss.length) (h : ¬ 2000 < ss[k].size) (h2 : hasB (ss.take k) ss[k] = true) : booksE (ss.take k) (ss.drop k) = 6 := by
  rw [List.drop_eq_getElem_cons hk]
  simp only [booksE]
  rw [if_neg h, if_neg (by simpa [hasB] using h2)]
theorem booksE_next {ss : List ByteArray} {k : Nat} (hk : k < ss.length) (h : ¬ 2000 < ss[k].size) (h2 : hasB (ss.take k) ss[k] = false) : booksE (ss.take k) (ss.drop k) = booksE (ss.take (k + 1)) (ss.drop (k + 1)) := by
  rw [List.drop_eq_getElem_cons hk, List.take_succ_eq_append_getElem hk]
  simp only [booksE]
  rw [if_neg h, if_pos (by simpa [hasB] using h2)]

def bookv (a : Option Addr) (n c : Nat) : Value := .agg #[.slice a n c]

set_option maxHeartbeats 800000 in
set_option maxRecDepth 100000 in
theorem checkBook_any (a : Option Addr) (n c : Nat) (ss : List ByteArray) (w : World) (h : IsStrs w a ss) (hn : ss.length = n) (hc : n ≤ c) (hz : ∀ s ∈ ss, s.size ≤ maxLen) :
    Calls Tryz.prog 101 #[bookv a n c] w fun e w' => e = .returned (.int .i64 (bookE ss)) ∧ Below w.heap.size w w' := by
  have HN := hide hn
  unfold maxLen at hz
  unfold bookv
  have hw0 : Below w.heap.size w (w.alloc (.cells #[.slice a n c] 24)) := (Below.refl _ _).alloc (Nat.le_refl _) _
  by_cases h1 : 60 < n
  · have HE := hide (show bookE ss = 2 by unfold bookE; rw [if_pos (by omega)])
    clear hn
    go_enter Tryz.func101, Tryz.ntmps101
    go_wp2_with fail
    go_ret
    exact ⟨ret_int HE.out.symm, hw0⟩
  · have HE := hide (show bookE ss = booksE [] ss by unfold bookE; rw [if_neg (by omega)])
    clear hn
    go_enter Tryz.func101, Tryz.ntmps101
    go_wp2_with fail
    go_loopw [12] (fun i wr => ∃ k : Nat, k ≤ n ∧ i = .int .i64 k ∧ wr = w.alloc (.cells #[.slice a n c] 24) ∧ Hid (booksE (ss.take k) (ss.drop k) = booksE [] ss)) (fun i _ => n - (intOf i).toNat)
    case atStart => exact ⟨0, Nat.zero_le _, rfl, rfl, by show _ = _; simp⟩
    case round =>
      obtain ⟨k, hk, rfl, rfl, ht⟩ := hrel
      by_cases hlt : k < n
      · have i1 := h.below hw0
        have i2 := i1.take k
        have hkx : k < ss.length := by rw [HN.out]; exact hlt
        rcases i1 with rfl | ⟨b0, o0, rfl, hc0⟩
        · have := HN.out
          simp at this
          omega
        have e0 := h
        have e0 := hc0 k hkx
        rw [show ss.getD k ByteArray.empty = ss[k] by simp [hkx]] at e0
        have hzk := hz ss[k] (List.getElem_mem hkx)
        clear hc0
        by_cases h2 : 2000 < ss[k].size
        · have HV := hide (booksE_long hkx h2)
          generalize ss[k] = sk at *
          go_wp2_with fail
          go_ret
          exact ⟨ret_int (by rw [HE.out, ← ht.out, HV.out]), hw0⟩
        · have HC := hide (contains_strs (some ⟨b0, o0, none⟩) k c (ss.take k) ss[k] _ i2 (by simp; omega) (by unfold maxLen; omega))
          cases h3 : hasB (ss.take k) ss[k]
          · have HV := hide (booksE_next hkx h2 h3)
            rw [h3] at HC
            generalize ss[k] = sk at *
            go_wp2_with (go_at_call 153; refine (unhide HC).mono ?_; rintro e w' ⟨rfl, rfl⟩)
            go_roundw
            case rel => exact ⟨k + 1, by omega, by go_num, trivial, by show _ = _; rw [← ht.out, HV.out]⟩
            case measure => simp [intOf]; omega
          · have HV := hide (booksE_two hkx h2 h3)
            rw [h3] at HC
            generalize ss[k] = sk at *
            go_wp2_with (go_at_call 153; refine (unhide HC).mono ?_; rintro e w' ⟨rfl, rfl⟩)
            go_ret
            exact ⟨ret_int (by rw [HE.out, ← ht.out, HV.out]), hw0⟩
      · go_wp2_with fail
        go_ret
        have hx := ht.out
        rw [List.drop_eq_nil_of_le (by rw [HN.out]; omega)] at hx
        exact ⟨ret_int (by rw [HE.out, ← hx]; rfl), hw0⟩

end Go.Proofs.YtgngpmgjoifepaaGreatDoor
