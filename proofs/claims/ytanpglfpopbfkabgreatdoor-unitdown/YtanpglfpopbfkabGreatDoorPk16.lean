/- What package meta's checks say, as plain functions: 'rootE', 'relE', 'imgE', 'bookE', 'nameN'. No program in this text. Texts and targets in memory ('IsStrs', 'IsTgts'); rows of texts of one's own ('OwnStrs'); the contracts of slices.Index, slices.Contains at texts, and of meta.within. The contracts of meta.checkKeys, CheckRoot, rowOf, fits, CheckRelease, CheckImage, CheckBook. The contracts of meta.CheckRelease, CheckImage, CheckBook. -/
import Derived.Test.YtanpglfpopbfkabGreatDoorPk15
import Derived.Test.YtanpglfpopbfkabGreatDoorPk0
import Derived.Lib.SlicesS
namespace Go.Proofs.YtanpglfpopbfkabGreatDoor
open Go.Lib

def inR (n a b : Int) : Bool := decide (a ≤ n ∧ n ≤ b)
theorem inR_t {n a b : Int} (h0 : a ≤ n) (h1 : n ≤ b) : inR n a b = true := by unfold inR; simp; omega
theorem inR_lo {n a b : Int} (h0 : ¬ a ≤ n) : inR n a b = false := by unfold inR; simp; omega
theorem inR_hi {n a b : Int} (h0 : ¬ n ≤ b) : inR n a b = false := by unfold inR; simp; omega
theorem inR_iff {n a b : Int} : inR n a b = true ↔ a ≤ n ∧ n ≤ b := by unfold inR; simp

def keysE (ahead : Int) : List Int → Int
  | [] => 0
  | k :: r => if inR k 1 50 then (if k ≤ ahead then 6 else keysE k r) else 3

def rootE (v : Int) (ks : List Int) (n : Int) : Int :=
  if inR v 1 1000 then (if inR ks.length 1 6 then (if keysE 0 ks = 0 then (if inR n 1 ks.length then 0 else 4) else keysE 0 ks) else 2) else 3

def wordB (n : Int) : Bool := decide (0 ≤ n ∧ n ≤ 65535)
def imgE (w : List Int) : Int := if inR w.length 1 40 then (if w.all wordB then 0 else 3) else 2

/-- The place of a text, from 1 on; 0: it isn't there. -/
def nameN (ss : List ByteArray) (s : ByteArray) : Nat := match ss with
  | [] => 0
  | t :: r => if t = s then 1 else if nameN r s = 0 then 0 else nameN r s + 1

def booksE (seen : List ByteArray) : List ByteArray → Int
  | [] => 0
  | s :: r => if 2000 < s.size then 2 else if nameN seen s = 0 then booksE (seen ++ [s]) r else 6
def bookE (ss : List ByteArray) : Int := if 60 < ss.length then 2 else booksE [] ss

/-! ### What they give -/

theorem imgE_ok {w : List Int} (h : imgE w = 0) : (1 ≤ w.length ∧ w.length ≤ 40) ∧ ∀ x ∈ w, 0 ≤ x ∧ x ≤ 65535 := by
  unfold imgE at h
  split at h
  · rename_i h1
    split at h
    · rename_i h2
      rw [inR_iff] at h1
      refine ⟨by omega, fun x hx => ?_⟩
      have := List.all_eq_true.1 h2 x hx
      simpa [wordB] using this
    · cases h
  · cases h

/-! ### A release's text is short -/

theorem nameN_zero {ss : List ByteArray} {s : ByteArray} : nameN ss s = 0 ↔ s ∉ ss := by
  induction ss with
  | nil => simp [nameN]
  | cons t r ih =>
    unfold nameN
    by_cases h : t = s
    · simp [h]
    · rw [if_neg h]
      by_cases h0 : nameN r s = 0
      · rw [if_pos h0]
        simp only [List.mem_cons, not_or, true_iff]
        exact ⟨fun e => h e.symm, ih.1 h0⟩
      · rw [if_neg h0]
        have : s ∈ r := Classical.byContradiction fun hn => h0 (ih.2 hn)
        simp [this]

theorem nameN_le (ss : List ByteArray) (s : ByteArray) : nameN ss s ≤ ss.length := by
  induction ss with
  | nil => simp [nameN]
  | cons t r ih =>
    unfold nameN
    split
    · simp
    · split
      · simp
      · simp; omega

theorem nameN_drop {ss : List ByteArray} {s : ByteArray} : ∀ {k : Nat}, s ∉ ss.take k → nameN ss s = if nameN (ss.drop k) s = 0 then 0 else nameN (ss.drop k) s + k := by
  induction ss with
  | nil => intro k _; simp [nameN]
  | cons t r ih =>
    intro k hk
    cases k with
    | zero => simp
    | succ k =>
      simp only [List.take_succ_cons, List.mem_cons, not_or] at hk
      simp only [List.drop_succ_cons]
      rw [nameN, if_neg (fun e => hk.1 e.symm), ih hk.2]
      split
      · simp
      · rename_i h
        rw [if_neg (by omega)]
        omega

theorem nameN_hit {ss : List ByteArray} {s : ByteArray} {k : Nat} (h : s ∉ ss.take k) (hk : ss[k]? = some s) : nameN ss s = k + 1 := by
  rw [nameN_drop h]
  have : ss.drop k = s :: ss.drop (k + 1) := by
    obtain ⟨hl, e⟩ := List.getElem?_eq_some_iff.1 hk
    rw [List.drop_eq_getElem_cons hl, e]
  rw [this]
  simp [nameN]
  omega

end Go.Proofs.YtanpglfpopbfkabGreatDoor

namespace Go.Proofs.YtanpglfpopbfkabGreatDoor
open Go.RowKit

/-! ### Texts -/

/-- The slice at 'a' of length 'ss.length' holds the texts 'ss'. -/
def IsStrs (w : World) (a : Option Addr) (ss : List ByteArray) : Prop :=
  ss = [] ∨ ∃ b off, a = some ⟨b, off, none⟩ ∧ ∀ i, i < ss.length → w.cell? ⟨b, off + i, none⟩ = some (.string (ss.getD i ByteArray.empty))

theorem IsStrs.below {w w' : World} {a : Option Addr} {ss : List ByteArray} (h : IsStrs w a ss) (hb : Below w.heap.size w w') : IsStrs w' a ss := by
  rcases h with h | ⟨b, off, rfl, hc⟩
  · exact .inl h
  · exact .inr ⟨b, off, rfl, fun i hi => by rw [hb.cell (cell_lt (hc i hi))]; exact hc i hi⟩

theorem IsStrs.alloc {w : World} {a : Option Addr} {ss : List ByteArray} (h : IsStrs w a ss) (o : Obj) : IsStrs (w.alloc o) a ss :=
  h.below ((Below.refl _ _).alloc (Nat.le_refl _) _)

theorem IsStrs.take {w : World} {a : Option Addr} {ss : List ByteArray} (h : IsStrs w a ss) (k : Nat) : IsStrs w a (ss.take k) := by
  rcases h with rfl | ⟨b, off, rfl, hc⟩
  · exact .inl (by simp)
  · refine .inr ⟨b, off, rfl, fun i hi => ?_⟩
    simp at hi
    rw [hc i (by omega)]
    simp [show i < k by omega]

def svals (ss : List ByteArray) : List Value := ss.map Value.string

/-- Block g is a row that holds just the texts ss. -/
def OwnStrs (w : World) (g : Nat) (ss : List ByteArray) : Prop := w.heap[g]? = some (.cells (svals ss).toArray 9 (0, 0))

theorem OwnStrs.cell {w : World} {g : Nat} {ss : List ByteArray} (h : OwnStrs w g ss) (i : Nat) (hi : i < ss.length) : w.cell? ⟨g, i, none⟩ = some (.string (ss.getD i ByteArray.empty)) := by
  unfold OwnStrs at h
  simp [World.cell?, h, svals, hi]
theorem OwnStrs.free {w : World} {g : Nat} {ss : List ByteArray} (h : OwnStrs w g ss) (i : Nat) : w.frozen? ⟨g, i, none⟩ = false := by
  unfold OwnStrs at h
  simp [World.frozen?, h]
theorem OwnStrs.isStrs {w : World} {g : Nat} {ss : List ByteArray} (h : OwnStrs w g ss) : IsStrs w (some ⟨g, 0, none⟩) ss :=
  .inr ⟨g, 0, rfl, fun i hi => by rw [Nat.zero_add]; exact h.cell i hi⟩
theorem OwnStrs.lt {w : World} {g : Nat} {ss : List ByteArray} (h : OwnStrs w g ss) : g < w.heap.size := (Array.getElem?_eq_some_iff.1 h).1
theorem OwnStrs.below {B : Nat} {w w' : World} {g : Nat} {ss : List ByteArray} (h : OwnStrs w g ss) (hb : Below B w w') (hg : g < B) : OwnStrs w' g ss := by
  unfold OwnStrs; rw [hb.block g hg]; exact h
theorem OwnStrs.set {w : World} {g : Nat} {ss : List ByteArray} (h : OwnStrs w g ss) (i : Nat) (s : ByteArray) : OwnStrs (w.setCell ⟨g, i, none⟩ (.string s)) g (ss.set i s) := by
  unfold OwnStrs at h ⊢
  simp only [World.setCell, Array.getElem?_modify]
  simp [h, svals]

set_option maxRecDepth 100000 in
theorem info_str : (Tryz.prog.info? 9).map (fun i => (i.zero, i.size, i.bytes)) = some (some (.string ByteArray.empty), 1, 16) := by kernel_rfl

theorem made_svals (n : Nat) : madeCells (Value.string ByteArray.empty).cells n = (svals (List.replicate n ByteArray.empty)).toArray := by
  apply Array.toList_inj.1
  show (madeCells #[Value.string ByteArray.empty] n).toList = _
  rw [toList_madeCells_one]
  simp [svals]

set_option maxRecDepth 100000 in
theorem make_strs (n : Nat) (w : World) (h : n * 16 ≤ 281474976710656) :
    (Instr.makeSlice 44 (.int .i64 n) (.int .i64 n)).run Tryz.prog w = .ok (.slice (some ⟨w.heap.size, 0, none⟩) n n) (w.alloc (.cells (svals (List.replicate n ByteArray.empty)).toArray 9)) := by
  obtain ⟨i0, hi, hz0, hz1, hz2⟩ := info_parts info_str
  have := run_make (P := Tryz.prog) w 44 9 i0 (.string ByteArray.empty) Tryz.underlying44 hi hz0 .i64 .i64 n n (by omega) (by omega) (by rw [hz2]; omega) (by omega)
  rw [hz1, Int.toNat_natCast, Nat.mul_one, made_svals] at this
  exact this

/-! ### Targets -/

set_option maxHeartbeats 400000 in
set_option maxRecDepth 100000 in
theorem within_any (n a b : Int) (w : World) : Calls Tryz.prog 43 #[.int .i64 n, .int .i64 a, .int .i64 b] w fun e w' => e = .returned (.bool (inR n a b)) ∧ w' = w := by
  by_cases h0 : a ≤ n
  · by_cases h1 : n ≤ b
    · have hd : decide (n ≤ b) = true := by simp; omega
      go_enter Tryz.func43, Tryz.ntmps43
      go_wp2
      go_ret
      exact ⟨ret_bool (inR_t h0 h1).symm, rfl⟩
    · have hd : decide (n ≤ b) = false := by simp; omega
      go_enter Tryz.func43, Tryz.ntmps43
      go_wp2
      go_ret
      exact ⟨ret_bool (inR_hi (by omega)).symm, rfl⟩
  · go_enter Tryz.func43, Tryz.ntmps43
    go_wp2
    go_ret
    exact ⟨ret_bool (inR_lo (by omega)).symm, rfl⟩

theorem not_take_step {ss : List ByteArray} {s : ByteArray} {k : Nat} (hk : k < ss.length) (h : s ∉ ss.take k) (hne : ¬ s = ss[k]) : s ∉ ss.take (k + 1) := by
  rw [List.take_succ_eq_append_getElem hk]
  simp only [List.mem_append, List.mem_singleton, not_or]
  exact ⟨h, hne⟩

set_option maxHeartbeats 400000 in
set_option maxRecDepth 100000 in
theorem index_strs (a : Option Addr) (n c : Nat) (ss : List ByteArray) (s : ByteArray) (w : World) (h : IsStrs w a ss) (hn : ss.length = n) (hm : n ≤ maxLen) :
    Calls Tryz.prog 109 #[.slice a n c, .string s] w fun e w' => e = .returned (.int .i64 ((nameN ss s : Int) - 1)) ∧ w' = w := by
  unfold maxLen at hm
  have HN : Hid (ss.length = n) := hn
  go_enter Tryz.func109, Tryz.ntmps109
  go_wp2
  go_loop [8] (fun i => ∃ k : Nat, k ≤ n ∧ i = .int .i64 k ∧ Hid (s ∉ ss.take k)) (fun i => n - (intOf i).toNat)
  case atStart => exact ⟨0, Nat.zero_le _, rfl, by show _ ∉ _; simp⟩
  case round =>
    obtain ⟨k, hk, rfl, ht⟩ := hrel
    by_cases hlt : k < n
    · rcases h with rfl | ⟨b0, o0, rfl, hc0⟩
      · simp at hn; omega
      have hkx : k < ss.length := by omega
      have e0 := hc0 k hkx
      rw [show ss.getD k ByteArray.empty = ss[k] by simp [hkx]] at e0
      clear hn hc0
      by_cases he : s = ss[k]
      · have hb : (s.toList == ss[k].toList) = true := (Lib.bytes_beq_iff _ _).2 he
        have HE := hide he
        clear he
        go_wp2
        go_ret
        refine ⟨?_, rfl⟩
        rw [nameN_hit ht.out (by rw [List.getElem?_eq_getElem hkx, ← HE.out]), show (((k + 1 : Nat) : Int) - 1) = (k : Int) by omega]
        rfl
      · have hb : (s.toList == ss[k].toList) = false := (Lib.bytes_beq_false_iff _ _).2 he
        have HE := hide he
        clear he
        go_wp2
        go_round
        case rel => exact ⟨k + 1, by omega, by go_num, not_take_step hkx ht.out HE.out⟩
        case measure => simp [intOf]; omega
    · go_wp2
      go_ret
      have hx := ht.out
      rw [List.take_of_length_le (by omega)] at hx
      rw [nameN_zero.2 hx]
      exact ⟨rfl, rfl⟩

def hasB (ss : List ByteArray) (s : ByteArray) : Bool := decide (nameN ss s ≠ 0)

set_option maxHeartbeats 400000 in
set_option maxRecDepth 100000 in
theorem contains_strs (a : Option Addr) (n c : Nat) (ss : List ByteArray) (s : ByteArray) (w : World) (h : IsStrs w a ss) (hn : ss.length = n) (hm : n ≤ maxLen) :
    Calls Tryz.prog 140 #[.slice a n c, .string s] w fun e w' => e = .returned (.bool (hasB ss s)) ∧ w' = w := by
  have hc := hide (index_strs a n c ss s w h hn hm)
  have hd : decide (0 ≤ ((nameN ss s : Int) - 1)) = hasB ss s := by
    unfold hasB
    rw [decide_eq_decide]
    omega
  generalize hq : ((nameN ss s : Int) - 1) = q at hc hd
  clear hn hq
  go_enter Tryz.func140, Tryz.ntmps140
  go_wp2_with fail
  refine (unhide hc).mono ?_
  rintro e w' ⟨rfl, rfl⟩
  go_wp2
  go_ret
  exact ⟨rfl, rfl⟩

end Go.Proofs.YtanpglfpopbfkabGreatDoor

namespace Go.Proofs.YtanpglfpopbfkabGreatDoor
open Go.RowKit

theorem ret_int {a b : Int} (h : a = b) : Ending.returned (.int .i64 a) = .returned (.int .i64 b) := by rw [h]

end Go.Proofs.YtanpglfpopbfkabGreatDoor

namespace Go.Proofs.YtanpglfpopbfkabGreatDoor
open Go.RowKit

theorem okL_word (xs : List Int) : okL xs = xs.all wordB := rfl

theorem imgE_1 {w : List Int} (h : inR w.length 1 40 = false) : imgE w = 2 := by simp [imgE, h]
theorem imgE_2 {w : List Int} (h : inR w.length 1 40 = true) (h2 : okL w = false) : imgE w = 3 := by rw [okL_word] at h2; simp [imgE, h, h2]
theorem imgE_3 {w : List Int} (h : inR w.length 1 40 = true) (h2 : okL w = true) : imgE w = 0 := by rw [okL_word] at h2; simp only [imgE, h, h2]; rfl

set_option maxHeartbeats 800000 in
set_option maxRecDepth 100000 in
theorem checkImage_any (a : Option Addr) (n c : Nat) (xs : List Int) (w : World) (h : IsInts w a xs) (hn : xs.length = n) (hm : n ≤ maxLen) :
    Calls Tryz.prog 19 #[.slice a n c] w fun e w' => e = .returned (.int .i64 (imgE xs)) ∧ w' = w := by
  have HN := hide hn
  have HA := hide (allWords_any a n c xs w h hn hm)
  clear hn
  cases h1 : inR (n : Int) 1 40
  · have HE := hide (imgE_1 (w := xs) (by rw [HN.out]; exact h1))
    go_enter Tryz.func19, Tryz.ntmps19
    go_wp2_with (go_at_call 43; refine (within_any _ _ _ _).mono ?_; rintro e w' ⟨rfl, rfl⟩)
    go_ret
    exact ⟨ret_int HE.out.symm, rfl⟩
  · cases h2 : okL xs
    · have HE := hide (imgE_2 (by rw [HN.out]; exact h1) h2)
      rw [h2] at HA
      go_enter Tryz.func19, Tryz.ntmps19
      go_wp2_with (first | (go_at_call 43; refine (within_any _ _ _ _).mono ?_; rintro e w' ⟨rfl, rfl⟩) | (go_at_call 46; refine (unhide HA).mono ?_; rintro e w' ⟨rfl, rfl⟩))
      go_ret
      exact ⟨ret_int HE.out.symm, rfl⟩
    · have HE := hide (imgE_3 (by rw [HN.out]; exact h1) h2)
      rw [h2] at HA
      go_enter Tryz.func19, Tryz.ntmps19
      go_wp2_with (first | (go_at_call 43; refine (within_any _ _ _ _).mono ?_; rintro e w' ⟨rfl, rfl⟩) | (go_at_call 46; refine (unhide HA).mono ?_; rintro e w' ⟨rfl, rfl⟩))
      go_ret
      exact ⟨ret_int HE.out.symm, rfl⟩

/-! ### Books -/

theorem booksE_long {ss : List ByteArray} {k : Nat} (hk : k < ss.length) (h : 2000 < ss[k].size) : booksE (ss.take k) (ss.drop k) = 2 := by
  rw [List.drop_eq_getElem_cons hk]
  simp only [booksE]
  rw [if_pos h]
theorem booksE_two {ss : List ByteArray} {k : Nat} (hk : k < ss.length) (h : ¬ 2000 < ss[k].size) (h2 : hasB (ss.take k) ss[k] = true) : booksE (ss.take k) (ss.drop k) = 6 := by
  rw [List.drop_eq_getElem_cons hk]
  simp only [booksE]
  rw [if_neg h, if_neg (by simpa [hasB] using h2)]
theorem booksE_next {ss : List ByteArray} {k : Nat} (hk : k < ss.length) (h : ¬ 2000 < ss[k].size) (h2 : hasB (ss.take k) ss[k] = false) : booksE (ss.take k) (ss.drop k) = booksE (ss.take (k + 1)) (ss.drop (k + 1)) := by
  rw [List.drop_eq_getElem_cons hk, List.take_succ_eq_append_getElem hk]
  simp only [booksE]
  rw [if_neg h, if_pos (by simpa [hasB] using h2)]

def bookv (a : Option Addr) (n c : Nat) : Value := .agg #[.slice a n c]

set_option maxHeartbeats 800000 in
set_option maxRecDepth 100000 in
theorem checkBook_any (a : Option Addr) (n c : Nat) (ss : List ByteArray) (w : World) (h : IsStrs w a ss) (hn : ss.length = n) (hc : n ≤ c) (hz : ∀ s ∈ ss, s.size ≤ maxLen) :
    Calls Tryz.prog 96 #[bookv a n c] w fun e w' => e = .returned (.int .i64 (bookE ss)) ∧ Below w.heap.size w w' := by
  have HN := hide hn
  unfold maxLen at hz
  unfold bookv
  have hw0 : Below w.heap.size w (w.alloc (.cells #[.slice a n c] 46)) := (Below.refl _ _).alloc (Nat.le_refl _) _
  by_cases h1 : 60 < n
  · have HE := hide (show bookE ss = 2 by unfold bookE; rw [if_pos (by omega)])
    clear hn
    go_enter Tryz.func96, Tryz.ntmps96
    go_wp2_with fail
    go_ret
    exact ⟨ret_int HE.out.symm, hw0⟩
  · have HE := hide (show bookE ss = booksE [] ss by unfold bookE; rw [if_neg (by omega)])
    clear hn
    go_enter Tryz.func96, Tryz.ntmps96
    go_wp2_with fail
    go_loopw [12] (fun i wr => ∃ k : Nat, k ≤ n ∧ i = .int .i64 k ∧ wr = w.alloc (.cells #[.slice a n c] 46) ∧ Hid (booksE (ss.take k) (ss.drop k) = booksE [] ss)) (fun i _ => n - (intOf i).toNat)
    case atStart => exact ⟨0, Nat.zero_le _, rfl, rfl, by show _ = _; simp⟩
    case round =>
      obtain ⟨k, hk, rfl, rfl, ht⟩ := hrel
      by_cases hlt : k < n
      · have i1 := h.below hw0
        have i2 := i1.take k
        have hkx : k < ss.length := by rw [HN.out]; exact hlt
        rcases i1 with rfl | ⟨b0, o0, rfl, hc0⟩
        · have := HN.out
          simp at this
          omega
        have e0 := h
        have e0 := hc0 k hkx
        rw [show ss.getD k ByteArray.empty = ss[k] by simp [hkx]] at e0
        have hzk := hz ss[k] (List.getElem_mem hkx)
        clear hc0
        by_cases h2 : 2000 < ss[k].size
        · have HV := hide (booksE_long hkx h2)
          generalize ss[k] = sk at *
          go_wp2_with fail
          go_ret
          exact ⟨ret_int (by rw [HE.out, ← ht.out, HV.out]), hw0⟩
        · have HC := hide (contains_strs (some ⟨b0, o0, none⟩) k c (ss.take k) ss[k] _ i2 (by simp; omega) (by unfold maxLen; omega))
          cases h3 : hasB (ss.take k) ss[k]
          · have HV := hide (booksE_next hkx h2 h3)
            rw [h3] at HC
            generalize ss[k] = sk at *
            go_wp2_with (go_at_call 140; refine (unhide HC).mono ?_; rintro e w' ⟨rfl, rfl⟩)
            go_roundw
            case rel => exact ⟨k + 1, by omega, by go_num, trivial, by show _ = _; rw [← ht.out, HV.out]⟩
            case measure => simp [intOf]; omega
          · have HV := hide (booksE_two hkx h2 h3)
            rw [h3] at HC
            generalize ss[k] = sk at *
            go_wp2_with (go_at_call 140; refine (unhide HC).mono ?_; rintro e w' ⟨rfl, rfl⟩)
            go_ret
            exact ⟨ret_int (by rw [HE.out, ← ht.out, HV.out]), hw0⟩
      · go_wp2_with fail
        go_ret
        have hx := ht.out
        rw [List.drop_eq_nil_of_le (by rw [HN.out]; omega)] at hx
        exact ⟨ret_int (by rw [HE.out, ← hx]; rfl), hw0⟩

end Go.Proofs.YtanpglfpopbfkabGreatDoor
