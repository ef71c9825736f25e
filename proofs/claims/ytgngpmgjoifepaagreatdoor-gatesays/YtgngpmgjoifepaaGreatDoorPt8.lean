/- The contracts of the small functions of package slot: within, sectorOf, headPlace, bodyPlace, sealable, headOf, check. The contract of slot.Clear. The contract of slot.Image. Plain facts for package meta: a numeral is read back ('numO'), texts of numbers, releases and images ('wr', 'relT', 'imgT', 'rootT'), a release is read ('readR') just from its own text, unlike ones have unlike texts. No program in this text. Plain texts of package meta: 'wr', 'rootT', 'relT', 'imgT'; 'readR' (the program's way of reading a release) and 'readQ' (the other way) read just what 'relT' writes; unlike ones have unlike texts. No program in this text. What package meta's checks say, as plain functions: 'rootE', 'relE', 'imgE', 'bookE', 'nameN'. No program in this text. Texts and targets in memory ('IsStrs', 'IsTgts'); rows of texts of one's own ('OwnStrs'); the contracts of slices.Index, slices.Contains at texts, and of meta.within. The contracts of meta.checkKeys, CheckRoot, rowOf, fits, CheckRelease, CheckImage, CheckBook. -/
import Derived.Test.YtgngpmgjoifepaaGreatDoorPt2
import Derived.Lib.AtoiTie
import Derived.Lib.AtoiAllCases
import Derived.Lib.SplitLaws
import Derived.Lib.Join
import Derived.Lib.ItoaLen
import Derived.Test.YtgngpmgjoifepaaGreatDoorPt0
import Derived.Lib.SlicesS
namespace Go.Proofs.YtgngpmgjoifepaaGreatDoor
open Go.RowKit

def inB (n lo hi : Int) : Bool := decide (lo ≤ n ∧ n ≤ hi)

end Go.Proofs.YtgngpmgjoifepaaGreatDoor

namespace Go.Proofs.YtgngpmgjoifepaaGreatDoor
open Go.RowKit
attribute [local go_sem ↓] Go.wp_at_zero Go.wp_at_succ

theorem eraS_len (ws : List Int) (fuel s : Int) : (eraS ws fuel s).1.length ≤ ws.length := by
  unfold eraS
  split
  { simp }
  {
  split
  { simp }
  {
  rw [chg_length]; exact Nat.le_refl _

  }
  }
end Go.Proofs.YtgngpmgjoifepaaGreatDoor

namespace Go.Proofs.YtgngpmgjoifepaaGreatDoor
open Go.RowKit
attribute [local go_sem ↓] Go.wp_at_zero Go.wp_at_succ

theorem eqHead (a0 a1 a2 a3 b0 b1 b2 b3 : Int) (w : World) : (Op.equalIn 10000 180 (.agg #[.int .i64 a0, .int .i64 a1, .int .i64 a2, .int .i64 a3]) (.agg #[.int .i64 b0, .int .i64 b1, .int .i64 b2, .int .i64 b3])).run Tryz.prog w = .ok (decide (a0 = b0 ∧ a1 = b1 ∧ a2 = b2 ∧ a3 = b3)) w := by
  have u3 := Tryz.underlying3
  have a3' := Tryz.isAgg3
  have z3 := Tryz.sizeOf3
  rw [show (10000 : Nat) = 9999 + 1 from rfl, Op.equalIn]
  simp only [Sem.run_bind, run_underlying Tryz.underlying180, Result.andThen_ok]
  simp only [Std.Legacy.Range.forIn_eq_forIn_range', Std.Legacy.Range.size, Nat.sub_zero, Nat.add_sub_cancel, Nat.div_one, List.range'_succ, List.range'_zero, List.forIn_cons, List.forIn_nil]
  go_simp
  by_cases h1 : a0 = b0 <;> by_cases h2 : a1 = b1 <;> by_cases h3 : a2 = b2 <;> by_cases h4 : a3 = b3 <;> simp [h1, h2, h3, h4]

attribute [local go_sem] eqHead

end Go.Proofs.YtgngpmgjoifepaaGreatDoor

namespace Go.Proofs.YtgngpmgjoifepaaGreatDoor
open Go.Lib

def I64 (n : Int) : Prop := -9223372036854775808 ≤ n ∧ n ≤ 9223372036854775807

/-! ### Numerals -/

theorem dec_len : ∀ (k u : Nat), u < 10 ^ (k + 1) → (decDigits u).length ≤ k + 1
  | 0, u, h => by rw [decDigits_length, nDigits_small (by simpa using h)]; exact Nat.le_refl _
  | k + 1, u, h => by
    by_cases h9 : u < 10
    { rw [decDigits_length, nDigits_small h9]; omega }
    {
    have := dec_len k (u / 10) (by rw [Nat.pow_succ] at h; omega)
    rw [decDigits_length] at this ⊢
    rw [nDigits_big h9]; omega

    }
theorem itoa_len {n : Int} (k : Nat) (h0 : 0 ≤ n) (h1 : n < (10 : Int) ^ (k + 1)) : (itoa n).length ≤ k + 1 := by
  unfold itoa
  rw [if_neg (by omega)]
  refine dec_len k _ ?_
  have : ((10 ^ (k + 1) : Nat) : Int) = (10 : Int) ^ (k + 1) := by simp
  omega

/-! ### Joined and split again -/

theorem join_cons2 (x y : List UInt8) (r : List (List UInt8)) (sep : List UInt8) : join (x :: y :: r) sep = x ++ (sep ++ join (y :: r) sep) := by
  rw [join_cons, join_cons]
  simp [joinTail]

end Go.Proofs.YtgngpmgjoifepaaGreatDoor

namespace Go.Proofs.YtgngpmgjoifepaaGreatDoor
open Go.Lib

abbrev T3 := Int × Int × Int

def semiW : List UInt8 := [59, 32]
def relW : List UInt8 := [114, 101, 108, 101, 97, 115, 101, 32]
def untW : List UInt8 := [32, 117, 110, 116, 105, 108, 32]
def rootW : List UInt8 := [114, 111, 111, 116, 32]
def ofW : List UInt8 := [32, 111, 102, 32]
def imgW : List UInt8 := [105, 109, 97, 103, 101, 32]

def wr (l : List Int) : List UInt8 := join (l.map itoa) [32]
def tgtT (t : T3) : List UInt8 := wr [t.1, t.2.1, t.2.2]
def headT (v u : Int) : List UInt8 := relW ++ wr [v] ++ untW ++ wr [u]
def relT (v u : Int) (ts : List T3) : List UInt8 := join (headT v u :: ts.map tgtT) semiW
def rootT (v : Int) (ks : List Int) (n : Int) : List UInt8 := rootW ++ wr [v, n] ++ ofW ++ wr ks
def imgT (w : List Int) : List UInt8 := imgW ++ wr w

def I3 (t : T3) : Prop := I64 t.1 ∧ I64 t.2.1 ∧ I64 t.2.2

def IR (v u : Int) (ts : List T3) : Prop := I64 v ∧ I64 u ∧ ∀ t ∈ ts, I3 t

theorem join_len (k m : Nat) : ∀ (xs : List (List UInt8)) (sep : List UInt8), sep.length ≤ m → (∀ x ∈ xs, x.length ≤ k) → (join xs sep).length ≤ xs.length * (k + m)
  | [], _, _, _ => by simp [join_nil]
  | [x], _, _, h => by rw [join_one]; have := h x (by simp); simp; omega
  | x :: y :: r, sep, hm, h => by
    rw [join_cons2]
    have := join_len k m (y :: r) sep hm (fun z hz => h z (by simp at hz ⊢; exact .inr hz))
    have := h x (by simp)
    simp only [List.length_append, List.length_cons] at *
    rw [Nat.add_mul (r.length + 1) 1]
    omega

theorem wr_len (k : Nat) (l : List Int) (h : ∀ x ∈ l, (itoa x).length ≤ k) : (wr l).length ≤ l.length * (k + 1) := by
  have := join_len k 1 (l.map itoa) [32] (by simp) (fun x hx => by obtain ⟨y, hy, rfl⟩ := List.mem_map.1 hx; exact h y hy)
  simpa [wr] using this

end Go.Proofs.YtgngpmgjoifepaaGreatDoor

namespace Go.Proofs.YtgngpmgjoifepaaGreatDoor
open Go.Lib

def inR (n a b : Int) : Bool := decide (a ≤ n ∧ n ≤ b)
theorem inR_t {n a b : Int} (h0 : a ≤ n) (h1 : n ≤ b) : inR n a b = true := by unfold inR; simp; omega
theorem inR_lo {n a b : Int} (h0 : ¬ a ≤ n) : inR n a b = false := by unfold inR; simp; omega
theorem inR_hi {n a b : Int} (h0 : ¬ n ≤ b) : inR n a b = false := by unfold inR; simp; omega
theorem inR_iff {n a b : Int} : inR n a b = true ↔ a ≤ n ∧ n ≤ b := by unfold inR; simp

def keysE (ahead : Int) : List Int → Int
  | [] => 0
  | k :: r => if inR k 1 50 then (if k ≤ ahead then 6 else keysE k r) else 3

def rootE (v : Int) (ks : List Int) (n : Int) : Int :=
  if inR v 1 1000 then (if inR ks.length 1 6 then (if keysE 0 ks = 0 then (if inR n 1 ks.length then 0 else 4) else keysE 0 ks) else 2) else 3

def tOK (i : Nat) (t : T3) : Bool := inR t.1 i i && inR t.2.1 1 60 && inR t.2.2 1 40
def tgtsE (i : Nat) : List T3 → Int
  | [] => 0
  | t :: r => if tOK i t then tgtsE (i + 1) r else 3

def relE (v u : Int) (ts : List T3) : Int :=
  if inR v 1 1000 && inR u 0 100000 then (if inR ts.length 1 4 then tgtsE 0 ts else 2) else 3

def wordB (n : Int) : Bool := decide (0 ≤ n ∧ n ≤ 65535)
def imgE (w : List Int) : Int := if inR w.length 1 40 then (if w.all wordB then 0 else 3) else 2

def nameN (ss : List ByteArray) (s : ByteArray) : Nat := match ss with
  | [] => 0
  | t :: r => if t = s then 1 else if nameN r s = 0 then 0 else nameN r s + 1

def booksE (seen : List ByteArray) : List ByteArray → Int
  | [] => 0
  | s :: r => if 2000 < s.size then 2 else if nameN seen s = 0 then booksE (seen ++ [s]) r else 6
def bookE (ss : List ByteArray) : Int := if 60 < ss.length then 2 else booksE [] ss

/-! ### What they give -/

theorem rootE_ok {v : Int} {ks : List Int} {n : Int} (h : rootE v ks n = 0) : (1 ≤ v ∧ v ≤ 1000) ∧ (1 ≤ ks.length ∧ ks.length ≤ 6) ∧ 1 ≤ n ∧ n ≤ ks.length ∧ keysE 0 ks = 0 := by
  unfold rootE at h
  split at h
  {
  rename_i h1
  split at h
  {
  rename_i h2
  split at h
  {
  rename_i h3
  split at h
  {
  rename_i h4
  rw [inR_iff] at h1 h2 h4
  exact ⟨h1, by omega, h4.1, h4.2, h3⟩
  }
  { cases h }
  }
  { contradiction }
  }
  { cases h }
  }
  {
  cases h

  }
theorem keys_in {ks : List Int} : ∀ {a : Int}, keysE a ks = 0 → ∀ k ∈ ks, 1 ≤ k ∧ k ≤ 50 := by
  induction ks with
  | nil => intro a _ k hk; cases hk
  | cons x r ih =>
    intro a h k hk
    unfold keysE at h
    split at h
    {
    rename_i h1
    split at h
    { cases h }
    {
    rw [inR_iff] at h1
    rcases List.mem_cons.1 hk with rfl | hk
    { exact h1 }
    { exact ih h k hk }
    }
    }
    {
    cases h

    }
theorem tgts_in {ts : List T3} : ∀ {i : Nat}, tgtsE i ts = 0 → ∀ t ∈ ts, (0 ≤ t.1 ∧ t.1 < i + ts.length) ∧ (1 ≤ t.2.1 ∧ t.2.1 ≤ 60) ∧ 1 ≤ t.2.2 ∧ t.2.2 ≤ 40 := by
  induction ts with
  | nil => intro i _ t ht; cases ht
  | cons x r ih =>
    intro i h t ht
    unfold tgtsE at h
    split at h
    {
    rename_i h1
    rcases List.mem_cons.1 ht with rfl | ht
    {
    simp only [tOK, Bool.and_eq_true, inR_iff] at h1
    simp only [List.length_cons]
    omega
    }
    {
    have := ih h t ht
    simp only [List.length_cons]
    omega
    }
    }
    {
    cases h

    }
theorem relE_ok {v u : Int} {ts : List T3} (h : relE v u ts = 0) : (1 ≤ v ∧ v ≤ 1000) ∧ (0 ≤ u ∧ u ≤ 100000) ∧ (1 ≤ ts.length ∧ ts.length ≤ 4) ∧ tgtsE 0 ts = 0 := by
  unfold relE at h
  split at h
  {
  rename_i h1
  split at h
  {
  rename_i h2
  simp only [Bool.and_eq_true, inR_iff] at h1 h2
  exact ⟨h1.1, h1.2, by omega, h⟩
  }
  { cases h }
  }
  {
  cases h

  }
theorem relE_IR {v u : Int} {ts : List T3} (h : relE v u ts = 0) : IR v u ts := by
  obtain ⟨h1, h2, h3, h4⟩ := relE_ok h
  refine ⟨⟨by omega, by omega⟩, ⟨by omega, by omega⟩, fun t ht => ?_⟩
  have := tgts_in h4 t ht
  exact ⟨⟨by omega, by omega⟩, ⟨by omega, by omega⟩, ⟨by omega, by omega⟩⟩

theorem imgE_ok {w : List Int} (h : imgE w = 0) : (1 ≤ w.length ∧ w.length ≤ 40) ∧ ∀ x ∈ w, 0 ≤ x ∧ x ≤ 65535 := by
  unfold imgE at h
  split at h
  {
  rename_i h1
  split at h
  {
  rename_i h2
  rw [inR_iff] at h1
  refine ⟨by omega, fun x hx => ?_⟩
  have := List.all_eq_true.1 h2 x hx
  simpa [wordB] using this
  }
  { cases h }
  }
  {
  cases h

  }
/-! ### A release's text is short -/

theorem relT_len {v u : Int} {ts : List T3} (h : relE v u ts = 0) : (relT v u ts).length ≤ 2000 := by
  obtain ⟨h1, h2, h3, h4⟩ := relE_ok h
  have e1 : ∀ n : Int, (wr [n]).length = (itoa n).length := fun n => by unfold wr; rw [List.map_cons, List.map_nil, join_one]
  have a1 := itoa_len (n := v) 5 (by omega) (by omega)
  have a2 := itoa_len (n := u) 5 (by omega) (by omega)
  have hd : (headT v u).length ≤ 100 := by
    unfold headT
    simp only [List.length_append, e1]
    have : relW.length = 8 := rfl
    have : untW.length = 7 := rfl
    omega
  have := join_len 100 2 (headT v u :: ts.map tgtT) semiW (by decide) (fun x hx => by
    rcases List.mem_cons.1 hx with rfl | hx
    · exact hd
    · obtain ⟨t, ht, rfl⟩ := List.mem_map.1 hx
      have q := tgts_in h4 t ht
      have b1 := itoa_len (n := t.1) 5 (by omega) (by omega)
      have b2 := itoa_len (n := t.2.1) 5 (by omega) (by omega)
      have b3 := itoa_len (n := t.2.2) 5 (by omega) (by omega)
      have := wr_len 6 [t.1, t.2.1, t.2.2] (fun x hx => by simp at hx; rcases hx with rfl | rfl | rfl <;> omega)
      simp at this
      unfold tgtT
      omega)
  simp only [List.length_cons, List.length_map] at this
  unfold relT
  have : (ts.length + 1) * (100 + 2) ≤ 5 * 102 := Nat.mul_le_mul (by omega) (by omega)
  omega

/-! ### Names -/

theorem nameN_zero {ss : List ByteArray} {s : ByteArray} : nameN ss s = 0 ↔ s ∉ ss := by
  induction ss with
  | nil => simp [nameN]
  | cons t r ih =>
    unfold nameN
    by_cases h : t = s
    { simp [h] }
    {
    rw [if_neg h]
    by_cases h0 : nameN r s = 0
    {
    rw [if_pos h0]
    simp only [List.mem_cons, not_or, true_iff]
    exact ⟨fun e => h e.symm, ih.1 h0⟩
    }
    {
    rw [if_neg h0]
    have : s ∈ r := Classical.byContradiction fun hn => h0 (ih.2 hn)
    simp [this]

    }
    }
theorem nameN_le (ss : List ByteArray) (s : ByteArray) : nameN ss s ≤ ss.length := by
  induction ss with
  | nil => simp [nameN]
  | cons t r ih =>
    unfold nameN
    split
    { simp }
    {
    split
    { simp }
    {
    simp; omega

    }
    }
theorem nameN_drop {ss : List ByteArray} {s : ByteArray} : ∀ {k : Nat}, s ∉ ss.take k → nameN ss s = if nameN (ss.drop k) s = 0 then 0 else nameN (ss.drop k) s + k := by
  induction ss with
  | nil => intro k _; simp [nameN]
  | cons t r ih =>
    intro k hk
    cases k with
    | zero => simp
    | succ k =>
      simp only [List.take_succ_cons, List.mem_cons, not_or] at hk
      simp only [List.drop_succ_cons]
      rw [nameN, if_neg (fun e => hk.1 e.symm), ih hk.2]
      split
      { simp }
      {
      rename_i h
      rw [if_neg (by omega)]
      omega

      }
theorem nameN_hit {ss : List ByteArray} {s : ByteArray} {k : Nat} (h : s ∉ ss.take k) (hk : ss[k]? = some s) : nameN ss s = k + 1 := by
  rw [nameN_drop h]
  have : ss.drop k = s :: ss.drop (k + 1) := by
    obtain ⟨hl, e⟩ := List.getElem?_eq_some_iff.1 hk
    rw [List.drop_eq_getElem_cons hl, e]
  rw [this]
  simp [nameN]
  omega

end Go.Proofs.YtgngpmgjoifepaaGreatDoor

namespace Go.Proofs.YtgngpmgjoifepaaGreatDoor
open Go.RowKit

/-! ### Texts -/

def IsStrs (w : World) (a : Option Addr) (ss : List ByteArray) : Prop :=
  ss = [] ∨ ∃ b off, a = some ⟨b, off, none⟩ ∧ ∀ i, i < ss.length → w.cell? ⟨b, off + i, none⟩ = some (.string (ss.getD i ByteArray.empty))

theorem IsStrs.below {w w' : World} {a : Option Addr} {ss : List ByteArray} (h : IsStrs w a ss) (hb : Below w.heap.size w w') : IsStrs w' a ss := by
  rcases h with h | ⟨b, off, rfl, hc⟩
  { exact .inl h }
  {
  exact .inr ⟨b, off, rfl, fun i hi => by rw [hb.cell (cell_lt (hc i hi))]; exact hc i hi⟩

  }
theorem IsStrs.alloc {w : World} {a : Option Addr} {ss : List ByteArray} (h : IsStrs w a ss) (o : Obj) : IsStrs (w.alloc o) a ss :=
  h.below ((Below.refl _ _).alloc (Nat.le_refl _) _)

theorem IsStrs.take {w : World} {a : Option Addr} {ss : List ByteArray} (h : IsStrs w a ss) (k : Nat) : IsStrs w a (ss.take k) := by
  rcases h with rfl | ⟨b, off, rfl, hc⟩
  { exact .inl (by simp) }
  {
  refine .inr ⟨b, off, rfl, fun i hi => ?_⟩
  simp at hi
  rw [hc i (by omega)]
  simp [show i < k by omega]

  }
def svals (ss : List ByteArray) : List Value := ss.map Value.string

def OwnStrs (w : World) (g : Nat) (ss : List ByteArray) : Prop := w.heap[g]? = some (.cells (svals ss).toArray 9 (0, 0))

theorem OwnStrs.cell {w : World} {g : Nat} {ss : List ByteArray} (h : OwnStrs w g ss) (i : Nat) (hi : i < ss.length) : w.cell? ⟨g, i, none⟩ = some (.string (ss.getD i ByteArray.empty)) := by
  unfold OwnStrs at h
  simp [World.cell?, h, svals, hi]
theorem OwnStrs.free {w : World} {g : Nat} {ss : List ByteArray} (h : OwnStrs w g ss) (i : Nat) : w.frozen? ⟨g, i, none⟩ = false := by
  unfold OwnStrs at h
  simp [World.frozen?, h]
theorem OwnStrs.isStrs {w : World} {g : Nat} {ss : List ByteArray} (h : OwnStrs w g ss) : IsStrs w (some ⟨g, 0, none⟩) ss :=
  .inr ⟨g, 0, rfl, fun i hi => by rw [Nat.zero_add]; exact h.cell i hi⟩
theorem OwnStrs.lt {w : World} {g : Nat} {ss : List ByteArray} (h : OwnStrs w g ss) : g < w.heap.size := (Array.getElem?_eq_some_iff.1 h).1
theorem OwnStrs.below {B : Nat} {w w' : World} {g : Nat} {ss : List ByteArray} (h : OwnStrs w g ss) (hb : Below B w w') (hg : g < B) : OwnStrs w' g ss := by
  unfold OwnStrs; rw [hb.block g hg]; exact h
theorem OwnStrs.set {w : World} {g : Nat} {ss : List ByteArray} (h : OwnStrs w g ss) (i : Nat) (s : ByteArray) : OwnStrs (w.setCell ⟨g, i, none⟩ (.string s)) g (ss.set i s) := by
  unfold OwnStrs at h ⊢
  simp only [World.setCell, Array.getElem?_modify]
  simp [h, svals]

set_option maxRecDepth 100000 in
theorem info_str : (Tryz.prog.info? 9).map (fun i => (i.zero, i.size, i.bytes)) = some (some (.string ByteArray.empty), 1, 16) := by kernel_rfl

theorem made_svals (n : Nat) : madeCells (Value.string ByteArray.empty).cells n = (svals (List.replicate n ByteArray.empty)).toArray := by
  apply Array.toList_inj.1
  show (madeCells #[Value.string ByteArray.empty] n).toList = _
  rw [toList_madeCells_one]
  simp [svals]

set_option maxRecDepth 100000 in
theorem make_strs (n : Nat) (w : World) (h : n * 16 ≤ 281474976710656) :
    (Instr.makeSlice 22 (.int .i64 n) (.int .i64 n)).run Tryz.prog w = .ok (.slice (some ⟨w.heap.size, 0, none⟩) n n) (w.alloc (.cells (svals (List.replicate n ByteArray.empty)).toArray 9)) := by
  obtain ⟨i0, hi, hz0, hz1, hz2⟩ := info_parts info_str
  have := run_make (P := Tryz.prog) w 22 9 i0 (.string ByteArray.empty) Tryz.underlying22 hi hz0 .i64 .i64 n n (by omega) (by omega) (by rw [hz2]; omega) (by omega)
  rw [hz1, Int.toNat_natCast, Nat.mul_one, made_svals] at this
  exact this

/-! ### Targets -/

def tcells (t : T3) : List Value := [.int .i64 t.1, .int .i64 t.2.1, .int .i64 t.2.2]
def tv (t : T3) : Value := .agg #[.int .i64 t.1, .int .i64 t.2.1, .int .i64 t.2.2]

def IsTgts (w : World) (a : Option Addr) (ts : List T3) : Prop :=
  ts = [] ∨ ∃ b off, a = some ⟨b, off, none⟩ ∧ ∀ i t, ts[i]? = some t →
    w.cell? ⟨b, off + i * 3, none⟩ = some (.int .i64 t.1) ∧ w.cell? ⟨b, off + i * 3 + 1, none⟩ = some (.int .i64 t.2.1) ∧ w.cell? ⟨b, off + i * 3 + 2, none⟩ = some (.int .i64 t.2.2)

theorem IsTgts.below {w w' : World} {a : Option Addr} {ts : List T3} (h : IsTgts w a ts) (hb : Below w.heap.size w w') : IsTgts w' a ts := by
  rcases h with h | ⟨b, off, rfl, hc⟩
  { exact .inl h }
  {
  refine .inr ⟨b, off, rfl, fun i t hi => ?_⟩
  obtain ⟨h1, h2, h3⟩ := hc i t hi
  exact ⟨by rw [hb.cell (cell_lt h1)]; exact h1, by rw [hb.cell (cell_lt h2)]; exact h2, by rw [hb.cell (cell_lt h3)]; exact h3⟩

  }
theorem IsTgts.alloc {w : World} {a : Option Addr} {ts : List T3} (h : IsTgts w a ts) (o : Obj) : IsTgts (w.alloc o) a ts :=
  h.below ((Below.refl _ _).alloc (Nat.le_refl _) _)

/-! ### Small functions -/

set_option maxHeartbeats 400000 in
set_option maxRecDepth 100000 in
theorem within_any (n a b : Int) (w : World) : Calls Tryz.prog 107 #[.int .i64 n, .int .i64 a, .int .i64 b] w fun e w' => e = .returned (.bool (inR n a b)) ∧ w' = w := by
  by_cases h0 : a ≤ n
  {
  by_cases h1 : n ≤ b
  {
  have hd : decide (n ≤ b) = true := by simp; omega
  go_enter Tryz.func107, Tryz.ntmps107
  go_wp2
  go_ret
  exact ⟨ret_bool (inR_t h0 h1).symm, rfl⟩
  }
  {
  have hd : decide (n ≤ b) = false := by simp; omega
  go_enter Tryz.func107, Tryz.ntmps107
  go_wp2
  go_ret
  exact ⟨ret_bool (inR_hi (by omega)).symm, rfl⟩
  }
  }
  {
  go_enter Tryz.func107, Tryz.ntmps107
  go_wp2
  go_ret
  exact ⟨ret_bool (inR_lo (by omega)).symm, rfl⟩

  }
theorem not_take_step {ss : List ByteArray} {s : ByteArray} {k : Nat} (hk : k < ss.length) (h : s ∉ ss.take k) (hne : ¬ s = ss[k]) : s ∉ ss.take (k + 1) := by
  rw [List.take_succ_eq_append_getElem hk]
  simp only [List.mem_append, List.mem_singleton, not_or]
  exact ⟨h, hne⟩

set_option maxHeartbeats 400000 in
set_option maxRecDepth 100000 in
theorem index_strs (a : Option Addr) (n c : Nat) (ss : List ByteArray) (s : ByteArray) (w : World) (h : IsStrs w a ss) (hn : ss.length = n) (hm : n ≤ maxLen) :
    Calls Tryz.prog 71 #[.slice a n c, .string s] w fun e w' => e = .returned (.int .i64 ((nameN ss s : Int) - 1)) ∧ w' = w := by
  unfold maxLen at hm
  have HN : Hid (ss.length = n) := hn
  go_enter Tryz.func71, Tryz.ntmps71
  go_wp2
  go_loop [8] (fun i => ∃ k : Nat, k ≤ n ∧ i = .int .i64 k ∧ Hid (s ∉ ss.take k)) (fun i => n - (intOf i).toNat)
  case atStart => exact ⟨0, Nat.zero_le _, rfl, by show _ ∉ _; simp⟩
  case round =>
    obtain ⟨k, hk, rfl, ht⟩ := hrel
    by_cases hlt : k < n
    {
    rcases h with rfl | ⟨b0, o0, rfl, hc0⟩
    { simp at hn; omega }
    have hkx : k < ss.length := by omega
    have e0 := hc0 k hkx
    rw [show ss.getD k ByteArray.empty = ss[k] by simp [hkx]] at e0
    clear hn hc0
    by_cases he : s = ss[k]
    {
    have hb : (s.toList == ss[k].toList) = true := (Lib.bytes_beq_iff _ _).2 he
    have HE := hide he
    clear he
    go_wp2
    go_ret
    refine ⟨?_, rfl⟩
    rw [nameN_hit ht.out (by rw [List.getElem?_eq_getElem hkx, ← HE.out]), show (((k + 1 : Nat) : Int) - 1) = (k : Int) by omega]
    rfl
    }
    {
    have hb : (s.toList == ss[k].toList) = false := (Lib.bytes_beq_false_iff _ _).2 he
    have HE := hide he
    clear he
    go_wp2
    go_round
    case rel => exact ⟨k + 1, by omega, by go_num, not_take_step hkx ht.out HE.out⟩
    case measure => simp [intOf]; omega
    }
    }
    {
    go_wp2
    go_ret
    have hx := ht.out
    rw [List.take_of_length_le (by omega)] at hx
    rw [nameN_zero.2 hx]
    exact ⟨rfl, rfl⟩

    }
def hasB (ss : List ByteArray) (s : ByteArray) : Bool := decide (nameN ss s ≠ 0)

set_option maxHeartbeats 400000 in
set_option maxRecDepth 100000 in
theorem contains_strs (a : Option Addr) (n c : Nat) (ss : List ByteArray) (s : ByteArray) (w : World) (h : IsStrs w a ss) (hn : ss.length = n) (hm : n ≤ maxLen) :
    Calls Tryz.prog 153 #[.slice a n c, .string s] w fun e w' => e = .returned (.bool (hasB ss s)) ∧ w' = w := by
  have hc := hide (index_strs a n c ss s w h hn hm)
  have hd : decide (0 ≤ ((nameN ss s : Int) - 1)) = hasB ss s := by
    unfold hasB
    rw [decide_eq_decide]
    omega
  generalize hq : ((nameN ss s : Int) - 1) = q at hc hd
  clear hn hq
  go_enter Tryz.func153, Tryz.ntmps153
  go_wp2_with fail
  refine (unhide hc).mono ?_
  rintro e w' ⟨rfl, rfl⟩
  go_wp2
  go_ret
  exact ⟨rfl, rfl⟩

end Go.Proofs.YtgngpmgjoifepaaGreatDoor

namespace Go.Proofs.YtgngpmgjoifepaaGreatDoor
open Go.RowKit

theorem keysE_bad {xs : List Int} {k : Nat} (hk : k < xs.length) (a : Int) (h : inR xs[k] 1 50 = false) : keysE a (xs.drop k) = 3 := by
  rw [List.drop_eq_getElem_cons hk]
  simp [keysE, h]
theorem keysE_two {xs : List Int} {k : Nat} (hk : k < xs.length) (a : Int) (h : inR xs[k] 1 50 = true) (h2 : xs[k] ≤ a) : keysE a (xs.drop k) = 6 := by
  rw [List.drop_eq_getElem_cons hk]
  simp [keysE, h, h2]
theorem keysE_next {xs : List Int} {k : Nat} (hk : k < xs.length) (a : Int) (h : inR xs[k] 1 50 = true) (h2 : ¬ xs[k] ≤ a) : keysE a (xs.drop k) = keysE xs[k] (xs.drop (k + 1)) := by
  rw [List.drop_eq_getElem_cons hk]
  simp [keysE, h, h2]

theorem ret_int {a b : Int} (h : a = b) : Ending.returned (.int .i64 a) = .returned (.int .i64 b) := by rw [h]

set_option maxHeartbeats 400000 in
set_option maxRecDepth 100000 in
theorem checkKeys_any (a : Option Addr) (n c : Nat) (xs : List Int) (w : World) (h : IsInts w a xs) (hn : xs.length = n) (hm : n ≤ maxLen) :
    Calls Tryz.prog 189 #[.slice a n c] w fun e w' => e = .returned (.int .i64 (keysE 0 xs)) ∧ w' = w := by
  unfold maxLen at hm
  have HN : Hid (xs.length = n) := hn
  go_enter Tryz.func189, Tryz.ntmps189
  go_wp2
  go_loop [3, 8] (fun p i => ∃ (k : Nat) (q : Int), k ≤ n ∧ p = .int .i64 q ∧ i = .int .i64 k ∧ Hid (keysE q (xs.drop k) = keysE 0 xs)) (fun _ i => n - (intOf i).toNat)
  case atStart => exact ⟨0, 0, Nat.zero_le _, rfl, rfl, rfl⟩
  case round =>
    obtain ⟨k, q, hk, rfl, rfl, ht⟩ := hrel
    by_cases hlt : k < n
    {
    rcases h with rfl | ⟨b0, o0, rfl, hc0⟩
    { simp at hn; omega }
    have hkx : k < xs.length := by omega
    have e0 := hc0 k hkx
    rw [show xs.getD k 0 = xs[k] by simp [hkx]] at e0
    clear hn hc0
    go_wp2_with fail
    refine (within_any _ _ _ _).mono ?_
    rintro e w' ⟨rfl, rfl⟩
    cases hv : inR xs[k] 1 50
    {
    have HV := hide hv
    clear hv
    go_wp2_with fail
    go_ret
    exact ⟨ret_int (by rw [← ht.out, keysE_bad hkx _ HV.out]), rfl⟩
    }
    {
    have HV := hide hv
    clear hv
    by_cases hq : xs[k] ≤ q
    {
    go_wp2_with fail
    go_ret
    exact ⟨ret_int (by rw [← ht.out, keysE_two hkx _ HV.out hq]), rfl⟩
    }
    {
    have hd : decide (xs[k] ≤ q) = false := by simp; omega
    go_wp2_with fail
    go_round
    case rel => exact ⟨k + 1, xs[k], by omega, rfl, by go_num, by show _ = _; rw [← ht.out, keysE_next hkx _ HV.out (by omega)]⟩
    case measure => simp [intOf]; omega
    }
    }
    }
    {
    go_wp2_with fail
    go_ret
    have hx := ht.out
    rw [List.drop_eq_nil_of_le (by omega)] at hx
    exact ⟨ret_int (by rw [← hx]; rfl), rfl⟩

    }
theorem rootE_1 {v : Int} {ks : List Int} {t : Int} (h1 : inR v 1 1000 = false) : rootE v ks t = 3 := by simp [rootE, h1]
theorem rootE_2 {v : Int} {ks : List Int} {t : Int} (h1 : inR v 1 1000 = true) (h2 : inR ks.length 1 6 = false) : rootE v ks t = 2 := by simp [rootE, h1, h2]
theorem rootE_3 {v : Int} {ks : List Int} {t : Int} (h1 : inR v 1 1000 = true) (h2 : inR ks.length 1 6 = true) (h3 : keysE 0 ks ≠ 0) : rootE v ks t = keysE 0 ks := by simp [rootE, h1, h2, h3]
theorem rootE_4 {v : Int} {ks : List Int} {t : Int} (h1 : inR v 1 1000 = true) (h2 : inR ks.length 1 6 = true) (h3 : keysE 0 ks = 0) (h4 : inR t 1 ks.length = false) : rootE v ks t = 4 := by simp [rootE, h1, h2, h3, h4]
theorem rootE_0 {v : Int} {ks : List Int} {t : Int} (h1 : inR v 1 1000 = true) (h2 : inR ks.length 1 6 = true) (h3 : keysE 0 ks = 0) (h4 : inR t 1 ks.length = true) : rootE v ks t = 0 := by simp [rootE, h1, h2, h3, h4]

def rv (v : Int) (a : Option Addr) (n c : Nat) (t : Int) : Value := .agg #[.int .i64 v, .slice a n c, .int .i64 t]

set_option maxHeartbeats 800000 in
set_option maxRecDepth 100000 in
theorem checkRoot_any (v : Int) (a : Option Addr) (n c : Nat) (t : Int) (xs : List Int) (w : World) (h : IsInts w a xs) (hn : xs.length = n) (hm : n ≤ maxLen) :
    Calls Tryz.prog 146 #[rv v a n c t] w fun e w' => e = .returned (.int .i64 (rootE v xs t)) ∧ Below w.heap.size w w' := by
  have HN := hide hn
  have HK := hide (fun W (hW : IsInts W a xs) => checkKeys_any a n c xs W hW hn hm)
  unfold maxLen at hm
  unfold rv
  clear hn
  cases h1 : inR v 1 1000
  {
  go_enter Tryz.func146, Tryz.ntmps146
  go_wp2_with (go_at_call 107; refine (within_any _ _ _ _).mono ?_; rintro e w' ⟨rfl, rfl⟩)
  go_ret
  exact ⟨ret_int (rootE_1 h1).symm, (Below.refl _ _).alloc (Nat.le_refl _) _⟩
  }
  {
  cases h2 : inR (n : Int) 1 6
  {
  go_enter Tryz.func146, Tryz.ntmps146
  go_wp2_with (go_at_call 107; refine (within_any _ _ _ _).mono ?_; rintro e w' ⟨rfl, rfl⟩)
  go_ret
  exact ⟨ret_int (rootE_2 h1 (by rw [HN.out]; exact h2)).symm, (Below.refl _ _).alloc (Nat.le_refl _) _⟩
  }
  {
  by_cases h3 : keysE 0 xs = 0
  {
  cases h4 : inR t 1 n
  {
  go_enter Tryz.func146, Tryz.ntmps146
  go_wp2_with (first
    | (go_at_call 107; refine (within_any _ _ _ _).mono ?_; rintro e w' ⟨rfl, rfl⟩)
    | (go_at_call 189; refine (HK.out _ (h.alloc _)).mono ?_; rintro e w' ⟨rfl, rfl⟩))
  go_ret
  exact ⟨ret_int (rootE_4 h1 (by rw [HN.out]; exact h2) h3 (by rw [HN.out]; exact h4)).symm, (Below.refl _ _).alloc (Nat.le_refl _) _⟩
  }
  {
  go_enter Tryz.func146, Tryz.ntmps146
  go_wp2_with (first
    | (go_at_call 107; refine (within_any _ _ _ _).mono ?_; rintro e w' ⟨rfl, rfl⟩)
    | (go_at_call 189; refine (HK.out _ (h.alloc _)).mono ?_; rintro e w' ⟨rfl, rfl⟩))
  go_ret
  exact ⟨ret_int (rootE_0 h1 (by rw [HN.out]; exact h2) h3 (by rw [HN.out]; exact h4)).symm, (Below.refl _ _).alloc (Nat.le_refl _) _⟩
  }
  }
  {
  have hb : (keysE 0 xs != 0) = true := by simpa using h3
  have H3 := hide h3
  have HE := hide (rootE_3 (t := t) h1 (by rw [HN.out]; exact h2) h3)
  clear h3
  generalize keysE 0 xs = q at HK hb HE
  go_enter Tryz.func146, Tryz.ntmps146
  go_wp2_with (first
    | (go_at_call 107; refine (within_any _ _ _ _).mono ?_; rintro e w' ⟨rfl, rfl⟩)
    | (go_at_call 189; refine (HK.out _ (h.alloc _)).mono ?_; rintro e w' ⟨rfl, rfl⟩))
  go_ret
  exact ⟨ret_int HE.out.symm, (Below.refl _ _).alloc (Nat.le_refl _) _⟩

  }
  }
  }
/-! ### A target, a release -/

set_option maxRecDepth 100000 in
theorem rowOf_any (t : T3) (w : World) : Calls Tryz.prog 211 #[tv t] w fun e w' => e = .returned (tv t) ∧ Below w.heap.size w w' := by
  unfold tv
  go_enter Tryz.func211, Tryz.ntmps211
  go_wp2
  refine bodyPost_ret (v := .agg #[.int .i64 t.1, .int .i64 t.2.1, .int .i64 t.2.2]) (by simp [results, Tryz.results211, go_sem]) rfl ⟨rfl, ?_⟩
  exact ((Below.refl _ _).alloc (Nat.le_refl _) _).alloc (by simp) _

def preB (p : Nat) (t : T3) (k : Nat) : Bool := (decide (k ≤ 0) || inR t.1 p p) && (decide (k ≤ 1) || inR t.2.1 1 60) && (decide (k ≤ 2) || inR t.2.2 1 40)

set_option maxRecDepth 100000 in
theorem ix0 (a b c : Int) (W : World) : (Instr.index 261 (.agg #[.int .i64 a, .int .i64 b, .int .i64 c]) (.int .i64 0)).run Tryz.prog W = .ok (.int .i64 a) W := by kernel_rfl
set_option maxRecDepth 100000 in
theorem ix1 (a b c : Int) (W : World) : (Instr.index 261 (.agg #[.int .i64 a, .int .i64 b, .int .i64 c]) (.int .i64 1)).run Tryz.prog W = .ok (.int .i64 b) W := by kernel_rfl
set_option maxRecDepth 100000 in
theorem ix2 (a b c : Int) (W : World) : (Instr.index 261 (.agg #[.int .i64 a, .int .i64 b, .int .i64 c]) (.int .i64 2)).run Tryz.prog W = .ok (.int .i64 c) W := by kernel_rfl

def bnds (p : Nat) : Obj := .cells #[.int .i64 p, .int .i64 p, .int .i64 1, .int .i64 60, .int .i64 1, .int .i64 40] 285

set_option maxHeartbeats 800000 in
set_option maxRecDepth 100000 in
theorem fits_any (t : T3) (p : Nat) (w : World) :
    Calls Tryz.prog 219 #[tv t, .int .i64 p] w fun e w' => e = .returned (.bool (tOK p t)) ∧ Below w.heap.size w w' := by
  have HR := hide (fun W => rowOf_any t W)
  unfold tv
  unfold tv at HR
  go_enter Tryz.func219, Tryz.ntmps219
  go_wp2_with fail
  have hw : Below w.heap.size w ((w.alloc (.cells #[.int .i64 t.1, .int .i64 t.2.1, .int .i64 t.2.2] 104)).alloc (bnds p)) := ((Below.refl _ _).alloc (Nat.le_refl _) _).alloc (by simp) _
  have b0 := hide (heap_alloc_last (w.alloc (.cells #[.int .i64 t.1, .int .i64 t.2.1, .int .i64 t.2.2] 104)) (bnds p))
  rw [World.size_alloc] at b0
  unfold bnds at b0 hw
  generalize (w.alloc (.cells #[.int .i64 t.1, .int .i64 t.2.1, .int .i64 t.2.2] 104)).alloc (.cells #[.int .i64 p, .int .i64 p, .int .i64 1, .int .i64 60, .int .i64 1, .int .i64 40] 285) = W at *
  refine (unhide HR _).mono ?_
  rintro e w1 ⟨rfl, hb1⟩
  replace b0 := hide (blk_below b0.out hb1)
  replace hw := hw.trans (hb1.mono hw.size)
  clear hb1
  go_wp2_with fail
  go_loopw [16] (fun i wr => ∃ k : Nat, k ≤ 3 ∧ i = .int .i64 k ∧ Below w.heap.size w wr ∧ Hid (wr.heap[w.heap.size + 1]? = some (.cells #[.int .i64 p, .int .i64 p, .int .i64 1, .int .i64 60, .int .i64 1, .int .i64 40] 285 (0, 0))) ∧ Hid (preB p t k = true)) (fun i _ => 3 - (intOf i).toNat)
  case atStart => exact ⟨0, by decide, rfl, hw, b0, by show _ = _; simp [preB]⟩
  case round =>
    clear hw b0
    obtain ⟨k, hk, rfl, hw, b0, ht⟩ := hrel
    have c0 := blk_cell b0.out 0 _ rfl
    have c1 := blk_cell b0.out 1 _ rfl
    have c2 := blk_cell b0.out 2 _ rfl
    have c3 := blk_cell b0.out 3 _ rfl
    have c4 := blk_cell b0.out 4 _ rfl
    have c5 := blk_cell b0.out 5 _ rfl
    have hk' : k = 0 ∨ k = 1 ∨ k = 2 ∨ k = 3 := by omega
    rcases hk' with rfl | rfl | rfl | rfl
    {
    have hix := fun W => ix0 t.1 t.2.1 t.2.2 W
    cases hv : inR t.1 p p
    {
    have HV := hide hv
    go_wp2_with fail
    go_quiet ((go_at_call 107; refine Calls.quiet_of_same (within_any _ _ _ _)))
    go_wp2_with fail
    go_ret
    exact ⟨ret_bool (by simp [tOK, HV.out]), below_drewN hw _⟩
    }
    {
    have HV := hide hv
    go_wp2_with fail
    go_quiet ((go_at_call 107; refine Calls.quiet_of_same (within_any _ _ _ _)))
    go_wp2_with fail
    go_roundw
    case rel => exact ⟨1, by decide, rfl, below_drewN hw _, b0, by show _ = _; simp [preB, HV.out]⟩
    case measure => simp [intOf]
    }
    }
    {
    have hix := fun W => ix1 t.1 t.2.1 t.2.2 W
    have h0 := hide (show inR t.1 p p = true by have := ht.out; simpa [preB] using this)
    cases hv : inR t.2.1 1 60
    {
    have HV := hide hv
    go_wp2_with fail
    go_quiet ((go_at_call 107; refine Calls.quiet_of_same (within_any _ _ _ _)))
    go_wp2_with fail
    go_ret
    exact ⟨ret_bool (by simp [tOK, HV.out]), below_drewN hw _⟩
    }
    {
    have HV := hide hv
    go_wp2_with fail
    go_quiet ((go_at_call 107; refine Calls.quiet_of_same (within_any _ _ _ _)))
    go_wp2_with fail
    go_roundw
    case rel => exact ⟨2, by decide, rfl, below_drewN hw _, b0, by show _ = _; simp [preB, HV.out, h0.out]⟩
    case measure => simp [intOf]
    }
    }
    {
    have hix := fun W => ix2 t.1 t.2.1 t.2.2 W
    have h0 := hide (show inR t.1 p p = true ∧ inR t.2.1 1 60 = true by have := ht.out; simpa [preB] using this)
    cases hv : inR t.2.2 1 40
    {
    have HV := hide hv
    go_wp2_with fail
    go_quiet ((go_at_call 107; refine Calls.quiet_of_same (within_any _ _ _ _)))
    go_wp2_with fail
    go_ret
    exact ⟨ret_bool (by simp [tOK, HV.out]), below_drewN hw _⟩
    }
    {
    have HV := hide hv
    go_wp2_with fail
    go_quiet ((go_at_call 107; refine Calls.quiet_of_same (within_any _ _ _ _)))
    go_wp2_with fail
    go_roundw
    case rel => exact ⟨3, by decide, rfl, below_drewN hw _, b0, by show _ = _; simp [preB, HV.out, h0.out.1, h0.out.2]⟩
    case measure => simp [intOf]
    }
    }
    {
    have h0 := hide (show (inR t.1 p p = true ∧ inR t.2.1 1 60 = true) ∧ inR t.2.2 1 40 = true by have := ht.out; simpa [preB] using this)
    go_wp2_with fail
    go_ret
    exact ⟨ret_bool (by simp [tOK, h0.out.1.1, h0.out.1.2, h0.out.2]), hw⟩

    }
end Go.Proofs.YtgngpmgjoifepaaGreatDoor
