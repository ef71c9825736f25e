/- Texts and targets in memory ('IsStrs', 'IsTgts'); rows of texts of one's own ('OwnStrs'); the contracts of slices.Index, slices.Contains at texts, and of meta.within. -/
import Derived.Test.YtanpglfpopbfkabGreatDoorPm1
import Derived.Test.YtanpglfpopbfkabGreatDoorPm4
import Derived.Lib.SlicesS
namespace Go.Proofs.YtanpglfpopbfkabGreatDoor
open Go.RowKit

/-! ### Texts -/

/-- The slice at 'a' of length 'ss.length' holds the texts 'ss'. -/
def IsStrs (w : World) (a : Option Addr) (ss : List ByteArray) : Prop :=
  ss = [] ∨ ∃ b off, a = some ⟨b, off, none⟩ ∧ ∀ i, i < ss.length → w.cell? ⟨b, off + i, none⟩ = some (.string (ss.getD i ByteArray.empty))

theorem IsStrs.below {w w' : World} {a : Option Addr} {ss : List ByteArray} (h : IsStrs w a ss) (hb : Below w.heap.size w w') : IsStrs w' a ss := by
  rcases h with h | ⟨b, off, rfl, hc⟩
  · exact .inl h
  · exact .inr ⟨b, off, rfl, fun i hi => by rw [hb.cell (cell_lt (hc i hi))]; exact hc i hi⟩

theorem IsStrs.alloc {w : World} {a : Option Addr} {ss : List ByteArray} (h : IsStrs w a ss) (o : Obj) : IsStrs (w.alloc o) a ss :=
  h.below ((Below.refl _ _).alloc (Nat.le_refl _) _)

theorem IsStrs.take {w : World} {a : Option Addr} {ss : List ByteArray} (h : IsStrs w a ss) (k : Nat) : IsStrs w a (ss.take k) := by
  rcases h with rfl | ⟨b, off, rfl, hc⟩
  · exact .inl (by simp)
  · refine .inr ⟨b, off, rfl, fun i hi => ?_⟩
    simp at hi
    rw [hc i (by omega)]
    simp [show i < k by omega]

def svals (ss : List ByteArray) : List Value := ss.map Value.string

/-- Block g is a row that holds just the texts ss. -/
def OwnStrs (w : World) (g : Nat) (ss : List ByteArray) : Prop := w.heap[g]? = some (.cells (svals ss).toArray 9 (0, 0))

theorem OwnStrs.cell {w : World} {g : Nat} {ss : List ByteArray} (h : OwnStrs w g ss) (i : Nat) (hi : i < ss.length) : w.cell? ⟨g, i, none⟩ = some (.string (ss.getD i ByteArray.empty)) := by
  unfold OwnStrs at h
  simp [World.cell?, h, svals, hi]
theorem OwnStrs.free {w : World} {g : Nat} {ss : List ByteArray} (h : OwnStrs w g ss) (i : Nat) : w.frozen? ⟨g, i, none⟩ = false := by
  unfold OwnStrs at h
  simp [World.frozen?, h]
theorem OwnStrs.isStrs {w : World} {g : Nat} {ss : List ByteArray} (h : OwnStrs w g ss) : IsStrs w (some ⟨g, 0, none⟩) ss :=
  .inr ⟨g, 0, rfl, fun i hi => by rw [Nat.zero_add]; exact h.cell i hi⟩
theorem OwnStrs.lt {w : World} {g : Nat} {ss : List ByteArray} (h : OwnStrs w g ss) : g < w.heap.size := (Array.getElem?_eq_some_iff.1 h).1
theorem OwnStrs.below {B : Nat} {w w' : World} {g : Nat} {ss : List ByteArray} (h : OwnStrs w g ss) (hb : Below B w w') (hg : g < B) : OwnStrs w' g ss := by
  unfold OwnStrs; rw [hb.block g hg]; exact h
theorem OwnStrs.set {w : World} {g : Nat} {ss : List ByteArray} (h : OwnStrs w g ss) (i : Nat) (s : ByteArray) : OwnStrs (w.setCell ⟨g, i, none⟩ (.string s)) g (ss.set i s) := by
  unfold OwnStrs at h ⊢
  simp only [World.setCell, Array.getElem?_modify]
  simp [h, svals]

set_option maxRecDepth 100000 in
theorem info_str : (Tryz.prog.info? 9).map (fun i => (i.zero, i.size, i.bytes)) = some (some (.string ByteArray.empty), 1, 16) := by kernel_rfl

theorem made_svals (n : Nat) : madeCells (Value.string ByteArray.empty).cells n = (svals (List.replicate n ByteArray.empty)).toArray := by
  apply Array.toList_inj.1
  show (madeCells #[Value.string ByteArray.empty] n).toList = _
  rw [toList_madeCells_one]
  simp [svals]

set_option maxRecDepth 100000 in
theorem make_strs (n : Nat) (w : World) (h : n * 16 ≤ 281474976710656) :
    (Instr.makeSlice 44 (.int .i64 n) (.int .i64 n)).run Tryz.prog w = .ok (.slice (some ⟨w.heap.size, 0, none⟩) n n) (w.alloc (.cells (svals (List.replicate n ByteArray.empty)).toArray 9)) := by
  obtain ⟨i0, hi, hz0, hz1, hz2⟩ := info_parts info_str
  have := run_make (P := Tryz.prog) w 44 9 i0 (.string ByteArray.empty) Tryz.underlying44 hi hz0 .i64 .i64 n n (by omega) (by omega) (by rw [hz2]; omega) (by omega)
  rw [hz1, Int.toNat_natCast, Nat.mul_one, made_svals] at this
  exact this

/-! ### Targets -/

def tcells (t : T3) : List Value := [.int .i64 t.1, .int .i64 t.2.1, .int .i64 t.2.2]
def tv (t : T3) : Value := .agg #[.int .i64 t.1, .int .i64 t.2.1, .int .i64 t.2.2]

/-- The slice at 'a' of length 'ts.length' holds the targets 'ts'. -/
def IsTgts (w : World) (a : Option Addr) (ts : List T3) : Prop :=
  ts = [] ∨ ∃ b off, a = some ⟨b, off, none⟩ ∧ ∀ i t, ts[i]? = some t →
    w.cell? ⟨b, off + i * 3, none⟩ = some (.int .i64 t.1) ∧ w.cell? ⟨b, off + i * 3 + 1, none⟩ = some (.int .i64 t.2.1) ∧ w.cell? ⟨b, off + i * 3 + 2, none⟩ = some (.int .i64 t.2.2)

theorem IsTgts.below {w w' : World} {a : Option Addr} {ts : List T3} (h : IsTgts w a ts) (hb : Below w.heap.size w w') : IsTgts w' a ts := by
  rcases h with h | ⟨b, off, rfl, hc⟩
  · exact .inl h
  · refine .inr ⟨b, off, rfl, fun i t hi => ?_⟩
    obtain ⟨h1, h2, h3⟩ := hc i t hi
    exact ⟨by rw [hb.cell (cell_lt h1)]; exact h1, by rw [hb.cell (cell_lt h2)]; exact h2, by rw [hb.cell (cell_lt h3)]; exact h3⟩

theorem IsTgts.alloc {w : World} {a : Option Addr} {ts : List T3} (h : IsTgts w a ts) (o : Obj) : IsTgts (w.alloc o) a ts :=
  h.below ((Below.refl _ _).alloc (Nat.le_refl _) _)

/-! ### Small functions -/

set_option maxHeartbeats 400000 in
set_option maxRecDepth 100000 in
theorem within_any (n a b : Int) (w : World) : Calls Tryz.prog 43 #[.int .i64 n, .int .i64 a, .int .i64 b] w fun e w' => e = .returned (.bool (inR n a b)) ∧ w' = w := by
  by_cases h0 : a ≤ n
  · by_cases h1 : n ≤ b
    · have hd : decide (n ≤ b) = true := by simp; omega
      go_enter Tryz.func43, Tryz.ntmps43
      go_wp2
      go_ret
      exact ⟨ret_bool (inR_t h0 h1).symm, rfl⟩
    · have hd : decide (n ≤ b) = false := by simp; omega
      go_enter Tryz.func43, Tryz.ntmps43
      go_wp2
      go_ret
      exact ⟨ret_bool (inR_hi (by omega)).symm, rfl⟩
  · go_enter Tryz.func43, Tryz.ntmps43
    go_wp2
    go_ret
    exact ⟨ret_bool (inR_lo (by omega)).symm, rfl⟩

theorem not_take_step {ss : List ByteArray} {s : ByteArray} {k : Nat} (hk : k < ss.length) (h : s ∉ ss.take k) (hne : ¬ s = ss[k]) : s ∉ ss.take (k + 1) := by
  rw [List.take_succ_eq_append_getElem hk]
  simp only [List.mem_append, List.mem_singleton, not_or]
  exact ⟨h, hne⟩

set_option maxHeartbeats 400000 in
set_option maxRecDepth 100000 in
theorem index_strs (a : Option Addr) (n c : Nat) (ss : List ByteArray) (s : ByteArray) (w : World) (h : IsStrs w a ss) (hn : ss.length = n) (hm : n ≤ maxLen) :
    Calls Tryz.prog 109 #[.slice a n c, .string s] w fun e w' => e = .returned (.int .i64 ((nameN ss s : Int) - 1)) ∧ w' = w := by
  unfold maxLen at hm
  have HN : Hid (ss.length = n) := hn
  go_enter Tryz.func109, Tryz.ntmps109
  go_wp2
  go_loop [8] (fun i => ∃ k : Nat, k ≤ n ∧ i = .int .i64 k ∧ Hid (s ∉ ss.take k)) (fun i => n - (intOf i).toNat)
  case atStart => exact ⟨0, Nat.zero_le _, rfl, by show _ ∉ _; simp⟩
  case round =>
    obtain ⟨k, hk, rfl, ht⟩ := hrel
    by_cases hlt : k < n
    · rcases h with rfl | ⟨b0, o0, rfl, hc0⟩
      · simp at hn; omega
      have hkx : k < ss.length := by omega
      have e0 := hc0 k hkx
      rw [show ss.getD k ByteArray.empty = ss[k] by simp [hkx]] at e0
      clear hn hc0
      by_cases he : s = ss[k]
      · have hb : (s.toList == ss[k].toList) = true := (Lib.bytes_beq_iff _ _).2 he
        have HE := hide he
        clear he
        go_wp2
        go_ret
        refine ⟨?_, rfl⟩
        rw [nameN_hit ht.out (by rw [List.getElem?_eq_getElem hkx, ← HE.out]), show (((k + 1 : Nat) : Int) - 1) = (k : Int) by omega]
        rfl
      · have hb : (s.toList == ss[k].toList) = false := (Lib.bytes_beq_false_iff _ _).2 he
        have HE := hide he
        clear he
        go_wp2
        go_round
        case rel => exact ⟨k + 1, by omega, by go_num, not_take_step hkx ht.out HE.out⟩
        case measure => simp [intOf]; omega
    · go_wp2
      go_ret
      have hx := ht.out
      rw [List.take_of_length_le (by omega)] at hx
      rw [nameN_zero.2 hx]
      exact ⟨rfl, rfl⟩

def hasB (ss : List ByteArray) (s : ByteArray) : Bool := decide (nameN ss s ≠ 0)

set_option maxHeartbeats 400000 in
set_option maxRecDepth 100000 in
theorem contains_strs (a : Option Addr) (n c : Nat) (ss : List ByteArray) (s : ByteArray) (w : World) (h : IsStrs w a ss) (hn : ss.length = n) (hm : n ≤ maxLen) :
    Calls Tryz.prog 140 #[.slice a n c, .string s] w fun e w' => e = .returned (.bool (hasB ss s)) ∧ w' = w := by
  have hc := hide (index_strs a n c ss s w h hn hm)
  have hd : decide (0 ≤ ((nameN ss s : Int) - 1)) = hasB ss s := by
    unfold hasB
    rw [decide_eq_decide]
    omega
  generalize hq : ((nameN ss s : Int) - 1) = q at hc hd
  clear hn hq
  go_enter Tryz.func140, Tryz.ntmps140
  go_wp2_with fail
  refine (unhide hc).mono ?_
  rintro e w' ⟨rfl, rfl⟩
  go_wp2
  go_ret
  exact ⟨rfl, rfl⟩

end Go.Proofs.YtanpglfpopbfkabGreatDoor
