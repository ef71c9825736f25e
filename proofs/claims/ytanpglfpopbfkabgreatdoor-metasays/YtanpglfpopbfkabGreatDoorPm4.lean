/- What package meta's checks say, as plain functions: 'rootE', 'relE', 'imgE', 'bookE', 'nameN'. No program in this text. -/
import Derived.Test.YtanpglfpopbfkabGreatDoorPm3
namespace Go.Proofs.YtanpglfpopbfkabGreatDoor
open Go.Lib

def inR (n a b : Int) : Bool := decide (a ≤ n ∧ n ≤ b)
theorem inR_t {n a b : Int} (h0 : a ≤ n) (h1 : n ≤ b) : inR n a b = true := by unfold inR; simp; omega
theorem inR_lo {n a b : Int} (h0 : ¬ a ≤ n) : inR n a b = false := by unfold inR; simp; omega
theorem inR_hi {n a b : Int} (h0 : ¬ n ≤ b) : inR n a b = false := by unfold inR; simp; omega
theorem inR_iff {n a b : Int} : inR n a b = true ↔ a ≤ n ∧ n ≤ b := by unfold inR; simp

def keysE (ahead : Int) : List Int → Int
  | [] => 0
  | k :: r => if inR k 1 50 then (if k ≤ ahead then 6 else keysE k r) else 3

def rootE (v : Int) (ks : List Int) (n : Int) : Int :=
  if inR v 1 1000 then (if inR ks.length 1 6 then (if keysE 0 ks = 0 then (if inR n 1 ks.length then 0 else 4) else keysE 0 ks) else 2) else 3

def tOK (i : Nat) (t : T3) : Bool := inR t.1 i i && inR t.2.1 1 60 && inR t.2.2 1 40
def tgtsE (i : Nat) : List T3 → Int
  | [] => 0
  | t :: r => if tOK i t then tgtsE (i + 1) r else 3

def relE (v u : Int) (ts : List T3) : Int :=
  if inR v 1 1000 && inR u 0 100000 then (if inR ts.length 1 4 then tgtsE 0 ts else 2) else 3

def wordB (n : Int) : Bool := decide (0 ≤ n ∧ n ≤ 65535)
def imgE (w : List Int) : Int := if inR w.length 1 40 then (if w.all wordB then 0 else 3) else 2

/-- The place of a text, from 1 on; 0: it isn't there. -/
def nameN (ss : List ByteArray) (s : ByteArray) : Nat := match ss with
  | [] => 0
  | t :: r => if t = s then 1 else if nameN r s = 0 then 0 else nameN r s + 1

def booksE (seen : List ByteArray) : List ByteArray → Int
  | [] => 0
  | s :: r => if 2000 < s.size then 2 else if nameN seen s = 0 then booksE (seen ++ [s]) r else 6
def bookE (ss : List ByteArray) : Int := if 60 < ss.length then 2 else booksE [] ss

/-! ### What they give -/

theorem rootE_ok {v : Int} {ks : List Int} {n : Int} (h : rootE v ks n = 0) : (1 ≤ v ∧ v ≤ 1000) ∧ (1 ≤ ks.length ∧ ks.length ≤ 6) ∧ 1 ≤ n ∧ n ≤ ks.length ∧ keysE 0 ks = 0 := by
  unfold rootE at h
  split at h
  · rename_i h1
    split at h
    · rename_i h2
      split at h
      · rename_i h3
        split at h
        · rename_i h4
          rw [inR_iff] at h1 h2 h4
          exact ⟨h1, by omega, h4.1, h4.2, h3⟩
        · cases h
      · contradiction
    · cases h
  · cases h

theorem keys_in {ks : List Int} : ∀ {a : Int}, keysE a ks = 0 → ∀ k ∈ ks, 1 ≤ k ∧ k ≤ 50 := by
  induction ks with
  | nil => intro a _ k hk; cases hk
  | cons x r ih =>
    intro a h k hk
    unfold keysE at h
    split at h
    · rename_i h1
      split at h
      · cases h
      · rw [inR_iff] at h1
        rcases List.mem_cons.1 hk with rfl | hk
        · exact h1
        · exact ih h k hk
    · cases h

theorem tgts_in {ts : List T3} : ∀ {i : Nat}, tgtsE i ts = 0 → ∀ t ∈ ts, (0 ≤ t.1 ∧ t.1 < i + ts.length) ∧ (1 ≤ t.2.1 ∧ t.2.1 ≤ 60) ∧ 1 ≤ t.2.2 ∧ t.2.2 ≤ 40 := by
  induction ts with
  | nil => intro i _ t ht; cases ht
  | cons x r ih =>
    intro i h t ht
    unfold tgtsE at h
    split at h
    · rename_i h1
      rcases List.mem_cons.1 ht with rfl | ht
      · simp only [tOK, Bool.and_eq_true, inR_iff] at h1
        simp only [List.length_cons]
        omega
      · have := ih h t ht
        simp only [List.length_cons]
        omega
    · cases h

theorem relE_ok {v u : Int} {ts : List T3} (h : relE v u ts = 0) : (1 ≤ v ∧ v ≤ 1000) ∧ (0 ≤ u ∧ u ≤ 100000) ∧ (1 ≤ ts.length ∧ ts.length ≤ 4) ∧ tgtsE 0 ts = 0 := by
  unfold relE at h
  split at h
  · rename_i h1
    split at h
    · rename_i h2
      simp only [Bool.and_eq_true, inR_iff] at h1 h2
      exact ⟨h1.1, h1.2, by omega, h⟩
    · cases h
  · cases h

theorem relE_IR {v u : Int} {ts : List T3} (h : relE v u ts = 0) : IR v u ts := by
  obtain ⟨h1, h2, h3, h4⟩ := relE_ok h
  refine ⟨⟨by omega, by omega⟩, ⟨by omega, by omega⟩, fun t ht => ?_⟩
  have := tgts_in h4 t ht
  exact ⟨⟨by omega, by omega⟩, ⟨by omega, by omega⟩, ⟨by omega, by omega⟩⟩

theorem imgE_ok {w : List Int} (h : imgE w = 0) : (1 ≤ w.length ∧ w.length ≤ 40) ∧ ∀ x ∈ w, 0 ≤ x ∧ x ≤ 65535 := by
  unfold imgE at h
  split at h
  · rename_i h1
    split at h
    · rename_i h2
      rw [inR_iff] at h1
      refine ⟨by omega, fun x hx => ?_⟩
      have := List.all_eq_true.1 h2 x hx
      simpa [wordB] using this
    · cases h
  · cases h

/-! ### A release's text is short -/

theorem relT_len {v u : Int} {ts : List T3} (h : relE v u ts = 0) : (relT v u ts).length ≤ 2000 := by
  obtain ⟨h1, h2, h3, h4⟩ := relE_ok h
  have e1 : ∀ n : Int, (wr [n]).length = (itoa n).length := fun n => by unfold wr; rw [List.map_cons, List.map_nil, join_one]
  have a1 := itoa_len (n := v) 5 (by omega) (by omega)
  have a2 := itoa_len (n := u) 5 (by omega) (by omega)
  have hd : (headT v u).length ≤ 100 := by
    unfold headT
    simp only [List.length_append, e1]
    have : relW.length = 8 := rfl
    have : untW.length = 7 := rfl
    omega
  have := join_len 100 2 (headT v u :: ts.map tgtT) semiW (by decide) (fun x hx => by
    rcases List.mem_cons.1 hx with rfl | hx
    · exact hd
    · obtain ⟨t, ht, rfl⟩ := List.mem_map.1 hx
      have q := tgts_in h4 t ht
      have b1 := itoa_len (n := t.1) 5 (by omega) (by omega)
      have b2 := itoa_len (n := t.2.1) 5 (by omega) (by omega)
      have b3 := itoa_len (n := t.2.2) 5 (by omega) (by omega)
      have := wr_len 6 [t.1, t.2.1, t.2.2] (fun x hx => by simp at hx; rcases hx with rfl | rfl | rfl <;> omega)
      simp at this
      unfold tgtT
      omega)
  simp only [List.length_cons, List.length_map] at this
  unfold relT
  have : (ts.length + 1) * (100 + 2) ≤ 5 * 102 := Nat.mul_le_mul (by omega) (by omega)
  omega

/-! ### Names -/

theorem nameN_zero {ss : List ByteArray} {s : ByteArray} : nameN ss s = 0 ↔ s ∉ ss := by
  induction ss with
  | nil => simp [nameN]
  | cons t r ih =>
    unfold nameN
    by_cases h : t = s
    · simp [h]
    · rw [if_neg h]
      by_cases h0 : nameN r s = 0
      · rw [if_pos h0]
        simp only [List.mem_cons, not_or, true_iff]
        exact ⟨fun e => h e.symm, ih.1 h0⟩
      · rw [if_neg h0]
        have : s ∈ r := Classical.byContradiction fun hn => h0 (ih.2 hn)
        simp [this]

theorem nameN_le (ss : List ByteArray) (s : ByteArray) : nameN ss s ≤ ss.length := by
  induction ss with
  | nil => simp [nameN]
  | cons t r ih =>
    unfold nameN
    split
    · simp
    · split
      · simp
      · simp; omega

theorem nameN_drop {ss : List ByteArray} {s : ByteArray} : ∀ {k : Nat}, s ∉ ss.take k → nameN ss s = if nameN (ss.drop k) s = 0 then 0 else nameN (ss.drop k) s + k := by
  induction ss with
  | nil => intro k _; simp [nameN]
  | cons t r ih =>
    intro k hk
    cases k with
    | zero => simp
    | succ k =>
      simp only [List.take_succ_cons, List.mem_cons, not_or] at hk
      simp only [List.drop_succ_cons]
      rw [nameN, if_neg (fun e => hk.1 e.symm), ih hk.2]
      split
      · simp
      · rename_i h
        rw [if_neg (by omega)]
        omega

theorem nameN_hit {ss : List ByteArray} {s : ByteArray} {k : Nat} (h : s ∉ ss.take k) (hk : ss[k]? = some s) : nameN ss s = k + 1 := by
  rw [nameN_drop h]
  have : ss.drop k = s :: ss.drop (k + 1) := by
    obtain ⟨hl, e⟩ := List.getElem?_eq_some_iff.1 hk
    rw [List.drop_eq_getElem_cons hl, e]
  rw [this]
  simp [nameN]
  omega

end Go.Proofs.YtanpglfpopbfkabGreatDoor
