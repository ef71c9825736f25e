/- Texts and targets in memory ('IsStrs', 'IsTgts'); rows of texts of one's own ('OwnStrs'); the contracts of slices.Index, slices.Contains at texts, and of meta.within. The contracts of meta.checkKeys, CheckRoot, rowOf, fits, CheckRelease, CheckImage, CheckBook. The contracts of meta.CheckRelease, CheckImage, CheckBook. The contracts of Go's library that are used here, laid at this seat's program by the guide's own programs (lay-shelf, lay-plain). The package variables of Go's library that stand as they were laid ('Tab', 'Vars'), and what strconv.Itoa, strings.Join do in their presence. -/
import Derived.Test.YtgngpmgjoifepaaGreatDoorPg0
import Derived.Test.YtgngpmgjoifepaaGreatDoorPg8
import Derived.Lib.SlicesS
import Derived.Shelf.Strings.OnBuilder
import Derived.Shelf.LaysM
import Derived.Shelf.Strconv.Itoa3
import Derived.Test.YtgngpmgjoifepaaGreatDoorRows
namespace Go.Proofs.YtgngpmgjoifepaaGreatDoor
open Go.RowKit

/-! ### Texts -/

/-- The slice at 'a' of length 'ss.length' holds the texts 'ss'. -/
def IsStrs (w : World) (a : Option Addr) (ss : List ByteArray) : Prop :=
  ss = [] ∨ ∃ b off, a = some ⟨b, off, none⟩ ∧ ∀ i, i < ss.length → w.cell? ⟨b, off + i, none⟩ = some (.string (ss.getD i ByteArray.empty))

theorem IsStrs.below {w w' : World} {a : Option Addr} {ss : List ByteArray} (h : IsStrs w a ss) (hb : Below w.heap.size w w') : IsStrs w' a ss := by
  rcases h with h | ⟨b, off, rfl, hc⟩
  · exact .inl h
  · exact .inr ⟨b, off, rfl, fun i hi => by rw [hb.cell (cell_lt (hc i hi))]; exact hc i hi⟩

theorem IsStrs.alloc {w : World} {a : Option Addr} {ss : List ByteArray} (h : IsStrs w a ss) (o : Obj) : IsStrs (w.alloc o) a ss :=
  h.below ((Below.refl _ _).alloc (Nat.le_refl _) _)

theorem IsStrs.take {w : World} {a : Option Addr} {ss : List ByteArray} (h : IsStrs w a ss) (k : Nat) : IsStrs w a (ss.take k) := by
  rcases h with rfl | ⟨b, off, rfl, hc⟩
  · exact .inl (by simp)
  · refine .inr ⟨b, off, rfl, fun i hi => ?_⟩
    simp at hi
    rw [hc i (by omega)]
    simp [show i < k by omega]

def svals (ss : List ByteArray) : List Value := ss.map Value.string

/-- Block g is a row that holds just the texts ss. -/
def OwnStrs (w : World) (g : Nat) (ss : List ByteArray) : Prop := w.heap[g]? = some (.cells (svals ss).toArray 9 (0, 0))

theorem OwnStrs.cell {w : World} {g : Nat} {ss : List ByteArray} (h : OwnStrs w g ss) (i : Nat) (hi : i < ss.length) : w.cell? ⟨g, i, none⟩ = some (.string (ss.getD i ByteArray.empty)) := by
  unfold OwnStrs at h
  simp [World.cell?, h, svals, hi]
theorem OwnStrs.free {w : World} {g : Nat} {ss : List ByteArray} (h : OwnStrs w g ss) (i : Nat) : w.frozen? ⟨g, i, none⟩ = false := by
  unfold OwnStrs at h
  simp [World.frozen?, h]
theorem OwnStrs.isStrs {w : World} {g : Nat} {ss : List ByteArray} (h : OwnStrs w g ss) : IsStrs w (some ⟨g, 0, none⟩) ss :=
  .inr ⟨g, 0, rfl, fun i hi => by rw [Nat.zero_add]; exact h.cell i hi⟩
theorem OwnStrs.lt {w : World} {g : Nat} {ss : List ByteArray} (h : OwnStrs w g ss) : g < w.heap.size := (Array.getElem?_eq_some_iff.1 h).1
theorem OwnStrs.below {B : Nat} {w w' : World} {g : Nat} {ss : List ByteArray} (h : OwnStrs w g ss) (hb : Below B w w') (hg : g < B) : OwnStrs w' g ss := by
  unfold OwnStrs; rw [hb.block g hg]; exact h
theorem OwnStrs.set {w : World} {g : Nat} {ss : List ByteArray} (h : OwnStrs w g ss) (i : Nat) (s : ByteArray) : OwnStrs (w.setCell ⟨g, i, none⟩ (.string s)) g (ss.set i s) := by
  unfold OwnStrs at h ⊢
  simp only [World.setCell, Array.getElem?_modify]
  simp [h, svals]

set_option maxRecDepth 100000 in
theorem info_str : (Tryz.prog.info? 9).map (fun i => (i.zero, i.size, i.bytes)) = some (some (.string ByteArray.empty), 1, 16) := by kernel_rfl

theorem made_svals (n : Nat) : madeCells (Value.string ByteArray.empty).cells n = (svals (List.replicate n ByteArray.empty)).toArray := by
  apply Array.toList_inj.1
  show (madeCells #[Value.string ByteArray.empty] n).toList = _
  rw [toList_madeCells_one]
  simp [svals]

set_option maxRecDepth 100000 in
theorem make_strs (n : Nat) (w : World) (h : n * 16 ≤ 281474976710656) :
    (Instr.makeSlice 22 (.int .i64 n) (.int .i64 n)).run Tryz.prog w = .ok (.slice (some ⟨w.heap.size, 0, none⟩) n n) (w.alloc (.cells (svals (List.replicate n ByteArray.empty)).toArray 9)) := by
  obtain ⟨i0, hi, hz0, hz1, hz2⟩ := info_parts info_str
  have := run_make (P := Tryz.prog) w 22 9 i0 (.string ByteArray.empty) Tryz.underlying22 hi hz0 .i64 .i64 n n (by omega) (by omega) (by rw [hz2]; omega) (by omega)
  rw [hz1, Int.toNat_natCast, Nat.mul_one, made_svals] at this
  exact this

/-! ### Targets -/

def tcells (t : T3) : List Value := [.int .i64 t.1, .int .i64 t.2.1, .int .i64 t.2.2]
def tv (t : T3) : Value := .agg #[.int .i64 t.1, .int .i64 t.2.1, .int .i64 t.2.2]

/-- The slice at 'a' of length 'ts.length' holds the targets 'ts'. -/
def IsTgts (w : World) (a : Option Addr) (ts : List T3) : Prop :=
  ts = [] ∨ ∃ b off, a = some ⟨b, off, none⟩ ∧ ∀ i t, ts[i]? = some t →
    w.cell? ⟨b, off + i * 3, none⟩ = some (.int .i64 t.1) ∧ w.cell? ⟨b, off + i * 3 + 1, none⟩ = some (.int .i64 t.2.1) ∧ w.cell? ⟨b, off + i * 3 + 2, none⟩ = some (.int .i64 t.2.2)

theorem IsTgts.below {w w' : World} {a : Option Addr} {ts : List T3} (h : IsTgts w a ts) (hb : Below w.heap.size w w') : IsTgts w' a ts := by
  rcases h with h | ⟨b, off, rfl, hc⟩
  · exact .inl h
  · refine .inr ⟨b, off, rfl, fun i t hi => ?_⟩
    obtain ⟨h1, h2, h3⟩ := hc i t hi
    exact ⟨by rw [hb.cell (cell_lt h1)]; exact h1, by rw [hb.cell (cell_lt h2)]; exact h2, by rw [hb.cell (cell_lt h3)]; exact h3⟩

theorem IsTgts.alloc {w : World} {a : Option Addr} {ts : List T3} (h : IsTgts w a ts) (o : Obj) : IsTgts (w.alloc o) a ts :=
  h.below ((Below.refl _ _).alloc (Nat.le_refl _) _)

/-! ### Small functions -/

set_option maxHeartbeats 400000 in
set_option maxRecDepth 100000 in
theorem within_any (n a b : Int) (w : World) : Calls Tryz.prog 107 #[.int .i64 n, .int .i64 a, .int .i64 b] w fun e w' => e = .returned (.bool (inR n a b)) ∧ w' = w := by
  by_cases h0 : a ≤ n
  · by_cases h1 : n ≤ b
    · have hd : decide (n ≤ b) = true := by simp; omega
      go_enter Tryz.func107, Tryz.ntmps107
      go_wp2
      go_ret
      exact ⟨ret_bool (inR_t h0 h1).symm, rfl⟩
    · have hd : decide (n ≤ b) = false := by simp; omega
      go_enter Tryz.func107, Tryz.ntmps107
      go_wp2
      go_ret
      exact ⟨ret_bool (inR_hi (by omega)).symm, rfl⟩
  · go_enter Tryz.func107, Tryz.ntmps107
    go_wp2
    go_ret
    exact ⟨ret_bool (inR_lo (by omega)).symm, rfl⟩

theorem not_take_step {ss : List ByteArray} {s : ByteArray} {k : Nat} (hk : k < ss.length) (h : s ∉ ss.take k) (hne : ¬ s = ss[k]) : s ∉ ss.take (k + 1) := by
  rw [List.take_succ_eq_append_getElem hk]
  simp only [List.mem_append, List.mem_singleton, not_or]
  exact ⟨h, hne⟩

set_option maxHeartbeats 400000 in
set_option maxRecDepth 100000 in
theorem index_strs (a : Option Addr) (n c : Nat) (ss : List ByteArray) (s : ByteArray) (w : World) (h : IsStrs w a ss) (hn : ss.length = n) (hm : n ≤ maxLen) :
    Calls Tryz.prog 71 #[.slice a n c, .string s] w fun e w' => e = .returned (.int .i64 ((nameN ss s : Int) - 1)) ∧ w' = w := by
  unfold maxLen at hm
  have HN : Hid (ss.length = n) := hn
  go_enter Tryz.func71, Tryz.ntmps71
  go_wp2
  go_loop [8] (fun i => ∃ k : Nat, k ≤ n ∧ i = .int .i64 k ∧ Hid (s ∉ ss.take k)) (fun i => n - (intOf i).toNat)
  case atStart => exact ⟨0, Nat.zero_le _, rfl, by show _ ∉ _; simp⟩
  case round =>
    obtain ⟨k, hk, rfl, ht⟩ := hrel
    by_cases hlt : k < n
    · rcases h with rfl | ⟨b0, o0, rfl, hc0⟩
      · simp at hn; omega
      have hkx : k < ss.length := by omega
      have e0 := hc0 k hkx
      rw [show ss.getD k ByteArray.empty = ss[k] by simp [hkx]] at e0
      clear hn hc0
      by_cases he : s = ss[k]
      · have hb : (s.toList == ss[k].toList) = true := (Lib.bytes_beq_iff _ _).2 he
        have HE := hide he
        clear he
        go_wp2
        go_ret
        refine ⟨?_, rfl⟩
        rw [nameN_hit ht.out (by rw [List.getElem?_eq_getElem hkx, ← HE.out]), show (((k + 1 : Nat) : Int) - 1) = (k : Int) by omega]
        rfl
      · have hb : (s.toList == ss[k].toList) = false := (Lib.bytes_beq_false_iff _ _).2 he
        have HE := hide he
        clear he
        go_wp2
        go_round
        case rel => exact ⟨k + 1, by omega, by go_num, not_take_step hkx ht.out HE.out⟩
        case measure => simp [intOf]; omega
    · go_wp2
      go_ret
      have hx := ht.out
      rw [List.take_of_length_le (by omega)] at hx
      rw [nameN_zero.2 hx]
      exact ⟨rfl, rfl⟩

def hasB (ss : List ByteArray) (s : ByteArray) : Bool := decide (nameN ss s ≠ 0)

set_option maxHeartbeats 400000 in
set_option maxRecDepth 100000 in
theorem contains_strs (a : Option Addr) (n c : Nat) (ss : List ByteArray) (s : ByteArray) (w : World) (h : IsStrs w a ss) (hn : ss.length = n) (hm : n ≤ maxLen) :
    Calls Tryz.prog 153 #[.slice a n c, .string s] w fun e w' => e = .returned (.bool (hasB ss s)) ∧ w' = w := by
  have hc := hide (index_strs a n c ss s w h hn hm)
  have hd : decide (0 ≤ ((nameN ss s : Int) - 1)) = hasB ss s := by
    unfold hasB
    rw [decide_eq_decide]
    omega
  generalize hq : ((nameN ss s : Int) - 1) = q at hc hd
  clear hn hq
  go_enter Tryz.func153, Tryz.ntmps153
  go_wp2_with fail
  refine (unhide hc).mono ?_
  rintro e w' ⟨rfl, rfl⟩
  go_wp2
  go_ret
  exact ⟨rfl, rfl⟩

end Go.Proofs.YtgngpmgjoifepaaGreatDoor

namespace Go.Proofs.YtgngpmgjoifepaaGreatDoor
open Go.RowKit

theorem keysE_bad {xs : List Int} {k : Nat} (hk : k < xs.length) (a : Int) (h : inR xs[k] 1 50 = false) : keysE a (xs.drop k) = 3 := by
  rw [List.drop_eq_getElem_cons hk]
  simp [keysE, h]
theorem keysE_two {xs : List Int} {k : Nat} (hk : k < xs.length) (a : Int) (h : inR xs[k] 1 50 = true) (h2 : xs[k] ≤ a) : keysE a (xs.drop k) = 6 := by
  rw [List.drop_eq_getElem_cons hk]
  simp [keysE, h, h2]
theorem keysE_next {xs : List Int} {k : Nat} (hk : k < xs.length) (a : Int) (h : inR xs[k] 1 50 = true) (h2 : ¬ xs[k] ≤ a) : keysE a (xs.drop k) = keysE xs[k] (xs.drop (k + 1)) := by
  rw [List.drop_eq_getElem_cons hk]
  simp [keysE, h, h2]

theorem ret_int {a b : Int} (h : a = b) : Ending.returned (.int .i64 a) = .returned (.int .i64 b) := by rw [h]

set_option maxHeartbeats 400000 in
set_option maxRecDepth 100000 in
theorem checkKeys_any (a : Option Addr) (n c : Nat) (xs : List Int) (w : World) (h : IsInts w a xs) (hn : xs.length = n) (hm : n ≤ maxLen) :
    Calls Tryz.prog 189 #[.slice a n c] w fun e w' => e = .returned (.int .i64 (keysE 0 xs)) ∧ w' = w := by
  unfold maxLen at hm
  have HN : Hid (xs.length = n) := hn
  go_enter Tryz.func189, Tryz.ntmps189
  go_wp2
  go_loop [3, 8] (fun p i => ∃ (k : Nat) (q : Int), k ≤ n ∧ p = .int .i64 q ∧ i = .int .i64 k ∧ Hid (keysE q (xs.drop k) = keysE 0 xs)) (fun _ i => n - (intOf i).toNat)
  case atStart => exact ⟨0, 0, Nat.zero_le _, rfl, rfl, rfl⟩
  case round =>
    obtain ⟨k, q, hk, rfl, rfl, ht⟩ := hrel
    by_cases hlt : k < n
    · rcases h with rfl | ⟨b0, o0, rfl, hc0⟩
      · simp at hn; omega
      have hkx : k < xs.length := by omega
      have e0 := hc0 k hkx
      rw [show xs.getD k 0 = xs[k] by simp [hkx]] at e0
      clear hn hc0
      go_wp2_with fail
      refine (within_any _ _ _ _).mono ?_
      rintro e w' ⟨rfl, rfl⟩
      cases hv : inR xs[k] 1 50
      · have HV := hide hv
        clear hv
        go_wp2_with fail
        go_ret
        exact ⟨ret_int (by rw [← ht.out, keysE_bad hkx _ HV.out]), rfl⟩
      · have HV := hide hv
        clear hv
        by_cases hq : xs[k] ≤ q
        · go_wp2_with fail
          go_ret
          exact ⟨ret_int (by rw [← ht.out, keysE_two hkx _ HV.out hq]), rfl⟩
        · have hd : decide (xs[k] ≤ q) = false := by simp; omega
          go_wp2_with fail
          go_round
          case rel => exact ⟨k + 1, xs[k], by omega, rfl, by go_num, by show _ = _; rw [← ht.out, keysE_next hkx _ HV.out (by omega)]⟩
          case measure => simp [intOf]; omega
    · go_wp2_with fail
      go_ret
      have hx := ht.out
      rw [List.drop_eq_nil_of_le (by omega)] at hx
      exact ⟨ret_int (by rw [← hx]; rfl), rfl⟩

theorem rootE_1 {v : Int} {ks : List Int} {t : Int} (h1 : inR v 1 1000 = false) : rootE v ks t = 3 := by simp [rootE, h1]
theorem rootE_2 {v : Int} {ks : List Int} {t : Int} (h1 : inR v 1 1000 = true) (h2 : inR ks.length 1 6 = false) : rootE v ks t = 2 := by simp [rootE, h1, h2]
theorem rootE_3 {v : Int} {ks : List Int} {t : Int} (h1 : inR v 1 1000 = true) (h2 : inR ks.length 1 6 = true) (h3 : keysE 0 ks ≠ 0) : rootE v ks t = keysE 0 ks := by simp [rootE, h1, h2, h3]
theorem rootE_4 {v : Int} {ks : List Int} {t : Int} (h1 : inR v 1 1000 = true) (h2 : inR ks.length 1 6 = true) (h3 : keysE 0 ks = 0) (h4 : inR t 1 ks.length = false) : rootE v ks t = 4 := by simp [rootE, h1, h2, h3, h4]
theorem rootE_0 {v : Int} {ks : List Int} {t : Int} (h1 : inR v 1 1000 = true) (h2 : inR ks.length 1 6 = true) (h3 : keysE 0 ks = 0) (h4 : inR t 1 ks.length = true) : rootE v ks t = 0 := by simp [rootE, h1, h2, h3, h4]

def rv (v : Int) (a : Option Addr) (n c : Nat) (t : Int) : Value := .agg #[.int .i64 v, .slice a n c, .int .i64 t]

set_option maxHeartbeats 800000 in
set_option maxRecDepth 100000 in
theorem checkRoot_any (v : Int) (a : Option Addr) (n c : Nat) (t : Int) (xs : List Int) (w : World) (h : IsInts w a xs) (hn : xs.length = n) (hm : n ≤ maxLen) :
    Calls Tryz.prog 146 #[rv v a n c t] w fun e w' => e = .returned (.int .i64 (rootE v xs t)) ∧ Below w.heap.size w w' := by
  have HN := hide hn
  have HK := hide (fun W (hW : IsInts W a xs) => checkKeys_any a n c xs W hW hn hm)
  unfold maxLen at hm
  unfold rv
  clear hn
  cases h1 : inR v 1 1000
  · go_enter Tryz.func146, Tryz.ntmps146
    go_wp2_with (go_at_call 107; refine (within_any _ _ _ _).mono ?_; rintro e w' ⟨rfl, rfl⟩)
    go_ret
    exact ⟨ret_int (rootE_1 h1).symm, (Below.refl _ _).alloc (Nat.le_refl _) _⟩
  · cases h2 : inR (n : Int) 1 6
    · go_enter Tryz.func146, Tryz.ntmps146
      go_wp2_with (go_at_call 107; refine (within_any _ _ _ _).mono ?_; rintro e w' ⟨rfl, rfl⟩)
      go_ret
      exact ⟨ret_int (rootE_2 h1 (by rw [HN.out]; exact h2)).symm, (Below.refl _ _).alloc (Nat.le_refl _) _⟩
    · by_cases h3 : keysE 0 xs = 0
      · cases h4 : inR t 1 n
        · go_enter Tryz.func146, Tryz.ntmps146
          go_wp2_with (first
            | (go_at_call 107; refine (within_any _ _ _ _).mono ?_; rintro e w' ⟨rfl, rfl⟩)
            | (go_at_call 189; refine (HK.out _ (h.alloc _)).mono ?_; rintro e w' ⟨rfl, rfl⟩))
          go_ret
          exact ⟨ret_int (rootE_4 h1 (by rw [HN.out]; exact h2) h3 (by rw [HN.out]; exact h4)).symm, (Below.refl _ _).alloc (Nat.le_refl _) _⟩
        · go_enter Tryz.func146, Tryz.ntmps146
          go_wp2_with (first
            | (go_at_call 107; refine (within_any _ _ _ _).mono ?_; rintro e w' ⟨rfl, rfl⟩)
            | (go_at_call 189; refine (HK.out _ (h.alloc _)).mono ?_; rintro e w' ⟨rfl, rfl⟩))
          go_ret
          exact ⟨ret_int (rootE_0 h1 (by rw [HN.out]; exact h2) h3 (by rw [HN.out]; exact h4)).symm, (Below.refl _ _).alloc (Nat.le_refl _) _⟩
      · have hb : (keysE 0 xs != 0) = true := by simpa using h3
        have H3 := hide h3
        have HE := hide (rootE_3 (t := t) h1 (by rw [HN.out]; exact h2) h3)
        clear h3
        generalize keysE 0 xs = q at HK hb HE
        go_enter Tryz.func146, Tryz.ntmps146
        go_wp2_with (first
          | (go_at_call 107; refine (within_any _ _ _ _).mono ?_; rintro e w' ⟨rfl, rfl⟩)
          | (go_at_call 189; refine (HK.out _ (h.alloc _)).mono ?_; rintro e w' ⟨rfl, rfl⟩))
        go_ret
        exact ⟨ret_int HE.out.symm, (Below.refl _ _).alloc (Nat.le_refl _) _⟩

/-! ### A target, a release -/

set_option maxRecDepth 100000 in
theorem rowOf_any (t : T3) (w : World) : Calls Tryz.prog 211 #[tv t] w fun e w' => e = .returned (tv t) ∧ Below w.heap.size w w' := by
  unfold tv
  go_enter Tryz.func211, Tryz.ntmps211
  go_wp2
  refine bodyPost_ret (v := .agg #[.int .i64 t.1, .int .i64 t.2.1, .int .i64 t.2.2]) (by simp [results, Tryz.results211, go_sem]) rfl ⟨rfl, ?_⟩
  exact ((Below.refl _ _).alloc (Nat.le_refl _) _).alloc (by simp) _

def preB (p : Nat) (t : T3) (k : Nat) : Bool := (decide (k ≤ 0) || inR t.1 p p) && (decide (k ≤ 1) || inR t.2.1 1 60) && (decide (k ≤ 2) || inR t.2.2 1 40)

set_option maxRecDepth 100000 in
theorem ix0 (a b c : Int) (W : World) : (Instr.index 261 (.agg #[.int .i64 a, .int .i64 b, .int .i64 c]) (.int .i64 0)).run Tryz.prog W = .ok (.int .i64 a) W := by kernel_rfl
set_option maxRecDepth 100000 in
theorem ix1 (a b c : Int) (W : World) : (Instr.index 261 (.agg #[.int .i64 a, .int .i64 b, .int .i64 c]) (.int .i64 1)).run Tryz.prog W = .ok (.int .i64 b) W := by kernel_rfl
set_option maxRecDepth 100000 in
theorem ix2 (a b c : Int) (W : World) : (Instr.index 261 (.agg #[.int .i64 a, .int .i64 b, .int .i64 c]) (.int .i64 2)).run Tryz.prog W = .ok (.int .i64 c) W := by kernel_rfl

def bnds (p : Nat) : Obj := .cells #[.int .i64 p, .int .i64 p, .int .i64 1, .int .i64 60, .int .i64 1, .int .i64 40] 285

set_option maxHeartbeats 800000 in
set_option maxRecDepth 100000 in
theorem fits_any (t : T3) (p : Nat) (w : World) :
    Calls Tryz.prog 219 #[tv t, .int .i64 p] w fun e w' => e = .returned (.bool (tOK p t)) ∧ Below w.heap.size w w' := by
  have HR := hide (fun W => rowOf_any t W)
  unfold tv
  unfold tv at HR
  go_enter Tryz.func219, Tryz.ntmps219
  go_wp2_with fail
  have hw : Below w.heap.size w ((w.alloc (.cells #[.int .i64 t.1, .int .i64 t.2.1, .int .i64 t.2.2] 104)).alloc (bnds p)) := ((Below.refl _ _).alloc (Nat.le_refl _) _).alloc (by simp) _
  have b0 := hide (heap_alloc_last (w.alloc (.cells #[.int .i64 t.1, .int .i64 t.2.1, .int .i64 t.2.2] 104)) (bnds p))
  rw [World.size_alloc] at b0
  unfold bnds at b0 hw
  generalize (w.alloc (.cells #[.int .i64 t.1, .int .i64 t.2.1, .int .i64 t.2.2] 104)).alloc (.cells #[.int .i64 p, .int .i64 p, .int .i64 1, .int .i64 60, .int .i64 1, .int .i64 40] 285) = W at *
  refine (unhide HR _).mono ?_
  rintro e w1 ⟨rfl, hb1⟩
  replace b0 := hide (blk_below b0.out hb1)
  replace hw := hw.trans (hb1.mono hw.size)
  clear hb1
  go_wp2_with fail
  go_loopw [16] (fun i wr => ∃ k : Nat, k ≤ 3 ∧ i = .int .i64 k ∧ Below w.heap.size w wr ∧ Hid (wr.heap[w.heap.size + 1]? = some (.cells #[.int .i64 p, .int .i64 p, .int .i64 1, .int .i64 60, .int .i64 1, .int .i64 40] 285 (0, 0))) ∧ Hid (preB p t k = true)) (fun i _ => 3 - (intOf i).toNat)
  case atStart => exact ⟨0, by decide, rfl, hw, b0, by show _ = _; simp [preB]⟩
  case round =>
    clear hw b0
    obtain ⟨k, hk, rfl, hw, b0, ht⟩ := hrel
    have c0 := blk_cell b0.out 0 _ rfl
    have c1 := blk_cell b0.out 1 _ rfl
    have c2 := blk_cell b0.out 2 _ rfl
    have c3 := blk_cell b0.out 3 _ rfl
    have c4 := blk_cell b0.out 4 _ rfl
    have c5 := blk_cell b0.out 5 _ rfl
    have hk' : k = 0 ∨ k = 1 ∨ k = 2 ∨ k = 3 := by omega
    rcases hk' with rfl | rfl | rfl | rfl
    · have hix := fun W => ix0 t.1 t.2.1 t.2.2 W
      cases hv : inR t.1 p p
      · have HV := hide hv
        go_wp2_with fail
        go_quiet ((go_at_call 107; refine Calls.quiet_of_same (within_any _ _ _ _)))
        go_wp2_with fail
        go_ret
        exact ⟨ret_bool (by simp [tOK, HV.out]), below_drewN hw _⟩
      · have HV := hide hv
        go_wp2_with fail
        go_quiet ((go_at_call 107; refine Calls.quiet_of_same (within_any _ _ _ _)))
        go_wp2_with fail
        go_roundw
        case rel => exact ⟨1, by decide, rfl, below_drewN hw _, b0, by show _ = _; simp [preB, HV.out]⟩
        case measure => simp [intOf]
    · have hix := fun W => ix1 t.1 t.2.1 t.2.2 W
      have h0 := hide (show inR t.1 p p = true by have := ht.out; simpa [preB] using this)
      cases hv : inR t.2.1 1 60
      · have HV := hide hv
        go_wp2_with fail
        go_quiet ((go_at_call 107; refine Calls.quiet_of_same (within_any _ _ _ _)))
        go_wp2_with fail
        go_ret
        exact ⟨ret_bool (by simp [tOK, HV.out]), below_drewN hw _⟩
      · have HV := hide hv
        go_wp2_with fail
        go_quiet ((go_at_call 107; refine Calls.quiet_of_same (within_any _ _ _ _)))
        go_wp2_with fail
        go_roundw
        case rel => exact ⟨2, by decide, rfl, below_drewN hw _, b0, by show _ = _; simp [preB, HV.out, h0.out]⟩
        case measure => simp [intOf]
    · have hix := fun W => ix2 t.1 t.2.1 t.2.2 W
      have h0 := hide (show inR t.1 p p = true ∧ inR t.2.1 1 60 = true by have := ht.out; simpa [preB] using this)
      cases hv : inR t.2.2 1 40
      · have HV := hide hv
        go_wp2_with fail
        go_quiet ((go_at_call 107; refine Calls.quiet_of_same (within_any _ _ _ _)))
        go_wp2_with fail
        go_ret
        exact ⟨ret_bool (by simp [tOK, HV.out]), below_drewN hw _⟩
      · have HV := hide hv
        go_wp2_with fail
        go_quiet ((go_at_call 107; refine Calls.quiet_of_same (within_any _ _ _ _)))
        go_wp2_with fail
        go_roundw
        case rel => exact ⟨3, by decide, rfl, below_drewN hw _, b0, by show _ = _; simp [preB, HV.out, h0.out.1, h0.out.2]⟩
        case measure => simp [intOf]
    · have h0 := hide (show (inR t.1 p p = true ∧ inR t.2.1 1 60 = true) ∧ inR t.2.2 1 40 = true by have := ht.out; simpa [preB] using this)
      go_wp2_with fail
      go_ret
      exact ⟨ret_bool (by simp [tOK, h0.out.1.1, h0.out.1.2, h0.out.2]), hw⟩

end Go.Proofs.YtgngpmgjoifepaaGreatDoor

namespace Go.Proofs.YtgngpmgjoifepaaGreatDoor
open Go.RowKit

theorem relE_1 {v u : Int} {ts : List T3} (h1 : inR v 1 1000 = false) : relE v u ts = 3 := by simp [relE, h1]
theorem relE_2 {v u : Int} {ts : List T3} (h1 : inR u 0 100000 = false) : relE v u ts = 3 := by simp [relE, h1]
theorem relE_3 {v u : Int} {ts : List T3} (h1 : inR v 1 1000 = true) (h2 : inR u 0 100000 = true) (h3 : inR ts.length 1 4 = false) : relE v u ts = 2 := by simp [relE, h1, h2, h3]
theorem relE_4 {v u : Int} {ts : List T3} (h1 : inR v 1 1000 = true) (h2 : inR u 0 100000 = true) (h3 : inR ts.length 1 4 = true) : relE v u ts = tgtsE 0 ts := by simp [relE, h1, h2, h3]

theorem tgtsE_bad {ts : List T3} {k : Nat} (hk : k < ts.length) (h : tOK k ts[k] = false) : tgtsE k (ts.drop k) = 3 := by
  rw [List.drop_eq_getElem_cons hk]
  simp [tgtsE, h]
theorem tgtsE_next {ts : List T3} {k : Nat} (hk : k < ts.length) (h : tOK k ts[k] = true) : tgtsE k (ts.drop k) = tgtsE (k + 1) (ts.drop (k + 1)) := by
  rw [List.drop_eq_getElem_cons hk]
  simp [tgtsE, h]

def relv (v u : Int) (a : Option Addr) (n c : Nat) : Value := .agg #[.int .i64 v, .int .i64 u, .slice a n c]

set_option maxHeartbeats 800000 in
set_option maxRecDepth 100000 in
theorem checkRelease_any (v u : Int) (a : Option Addr) (n c : Nat) (ts : List T3) (w : World) (h : IsTgts w a ts) (hn : ts.length = n) (hm : n ≤ maxLen) :
    Calls Tryz.prog 209 #[relv v u a n c] w fun e w' => e = .returned (.int .i64 (relE v u ts)) ∧ Below w.heap.size w w' := by
  have HN := hide hn
  unfold maxLen at hm
  unfold relv
  clear hn
  cases h1 : inR v 1 1000
  · go_enter Tryz.func209, Tryz.ntmps209
    go_wp2_with (go_at_call 107; refine (within_any _ _ _ _).mono ?_; rintro e w' ⟨rfl, rfl⟩)
    go_ret
    exact ⟨ret_int (relE_1 h1).symm, (Below.refl _ _).alloc (Nat.le_refl _) _⟩
  · cases h2 : inR u 0 100000
    · go_enter Tryz.func209, Tryz.ntmps209
      go_wp2_with (go_at_call 107; refine (within_any _ _ _ _).mono ?_; rintro e w' ⟨rfl, rfl⟩)
      go_ret
      exact ⟨ret_int (relE_2 h2).symm, (Below.refl _ _).alloc (Nat.le_refl _) _⟩
    · cases h3 : inR (n : Int) 1 4
      · go_enter Tryz.func209, Tryz.ntmps209
        go_wp2_with (go_at_call 107; refine (within_any _ _ _ _).mono ?_; rintro e w' ⟨rfl, rfl⟩)
        go_ret
        exact ⟨ret_int (relE_3 h1 h2 (by rw [HN.out]; exact h3)).symm, (Below.refl _ _).alloc (Nat.le_refl _) _⟩
      · have HE := hide (relE_4 h1 h2 (ts := ts) (by rw [HN.out]; exact h3))
        have hw0 : Below w.heap.size w (w.alloc (.cells #[.int .i64 v, .int .i64 u, .slice a n c] 73)) := (Below.refl _ _).alloc (Nat.le_refl _) _
        go_enter Tryz.func209, Tryz.ntmps209
        go_wp2_with (go_at_call 107; refine (within_any _ _ _ _).mono ?_; rintro e w' ⟨rfl, rfl⟩)
        go_loopw [23] (fun i wr => ∃ k : Nat, k ≤ n ∧ i = .int .i64 k ∧ Below w.heap.size w wr ∧ Hid (tgtsE k (ts.drop k) = tgtsE 0 ts)) (fun i _ => n - (intOf i).toNat)
        case atStart => exact ⟨0, Nat.zero_le _, rfl, hw0, rfl⟩
        case round =>
          clear hw0
          obtain ⟨k, hk, rfl, hw, ht⟩ := hrel
          by_cases hlt : k < n
          · have i1 := h.below hw
            rcases i1 with rfl | ⟨b0, o0, rfl, hc0⟩
            · have := HN.out
              simp at this
              omega
            have hkx : k < ts.length := by rw [HN.out]; exact hlt
            obtain ⟨e0, e1, e2⟩ := hc0 k ts[k] (List.getElem?_eq_getElem hkx)
            clear hc0
            have hw1 := hw.alloc hw.size (.cells #[.int .i64 ts[k].1, .int .i64 ts[k].2.1, .int .i64 ts[k].2.2] 104)
            have HB := hide (tgtsE_bad hkx)
            have HX := hide (tgtsE_next hkx)
            generalize ts[k] = tk at *
            cases hv : tOK k tk
            · have HF := hide (fun W => fits_any tk k W)
              rw [hv] at HF
              unfold tv at HF
              have HV := hide (HB.out hv)
              clear hv
              go_wp2_with fail
              refine (unhide HF _).mono ?_
              rintro e w1 ⟨rfl, hb1⟩
              replace hw1 := hw1.trans (hb1.mono hw1.size)
              go_wp2_with fail
              go_ret
              exact ⟨ret_int (by rw [HE.out, ← ht.out, HV.out]), hw1⟩
            · have HF := hide (fun W => fits_any tk k W)
              rw [hv] at HF
              unfold tv at HF
              have HV := hide (HX.out hv)
              clear hv
              go_wp2_with fail
              refine (unhide HF _).mono ?_
              rintro e w1 ⟨rfl, hb1⟩
              replace hw1 := hw1.trans (hb1.mono hw1.size)
              go_wp2_with fail
              go_roundw
              case rel => exact ⟨k + 1, by omega, by go_num, hw1, by show _ = _; rw [← ht.out, HV.out]⟩
              case measure => simp [intOf]; omega
          · go_wp2_with fail
            go_ret
            have hx := ht.out
            rw [List.drop_eq_nil_of_le (by rw [HN.out]; omega)] at hx
            exact ⟨ret_int (by rw [HE.out, ← hx]; rfl), hw⟩

/-! ### Images -/

theorem okL_word (xs : List Int) : okL xs = xs.all wordB := rfl

theorem imgE_1 {w : List Int} (h : inR w.length 1 40 = false) : imgE w = 2 := by simp [imgE, h]
theorem imgE_2 {w : List Int} (h : inR w.length 1 40 = true) (h2 : okL w = false) : imgE w = 3 := by rw [okL_word] at h2; simp [imgE, h, h2]
theorem imgE_3 {w : List Int} (h : inR w.length 1 40 = true) (h2 : okL w = true) : imgE w = 0 := by rw [okL_word] at h2; simp only [imgE, h, h2]; rfl

set_option maxHeartbeats 800000 in
set_option maxRecDepth 100000 in
theorem checkImage_any (a : Option Addr) (n c : Nat) (xs : List Int) (w : World) (h : IsInts w a xs) (hn : xs.length = n) (hm : n ≤ maxLen) :
    Calls Tryz.prog 53 #[.slice a n c] w fun e w' => e = .returned (.int .i64 (imgE xs)) ∧ w' = w := by
  have HN := hide hn
  have HA := hide (allWords_any a n c xs w h hn hm)
  clear hn
  cases h1 : inR (n : Int) 1 40
  · have HE := hide (imgE_1 (w := xs) (by rw [HN.out]; exact h1))
    go_enter Tryz.func53, Tryz.ntmps53
    go_wp2_with (go_at_call 107; refine (within_any _ _ _ _).mono ?_; rintro e w' ⟨rfl, rfl⟩)
    go_ret
    exact ⟨ret_int HE.out.symm, rfl⟩
  · cases h2 : okL xs
    · have HE := hide (imgE_2 (by rw [HN.out]; exact h1) h2)
      rw [h2] at HA
      go_enter Tryz.func53, Tryz.ntmps53
      go_wp2_with (first | (go_at_call 107; refine (within_any _ _ _ _).mono ?_; rintro e w' ⟨rfl, rfl⟩) | (go_at_call 66; refine (unhide HA).mono ?_; rintro e w' ⟨rfl, rfl⟩))
      go_ret
      exact ⟨ret_int HE.out.symm, rfl⟩
    · have HE := hide (imgE_3 (by rw [HN.out]; exact h1) h2)
      rw [h2] at HA
      go_enter Tryz.func53, Tryz.ntmps53
      go_wp2_with (first | (go_at_call 107; refine (within_any _ _ _ _).mono ?_; rintro e w' ⟨rfl, rfl⟩) | (go_at_call 66; refine (unhide HA).mono ?_; rintro e w' ⟨rfl, rfl⟩))
      go_ret
      exact ⟨ret_int HE.out.symm, rfl⟩

/-! ### Books -/

theorem booksE_long {ss : List ByteArray} {k : Nat} (hk : k < ss.length) (h : 2000 < ss[k].size) : booksE (ss.take k) (ss.drop k) = 2 := by
  rw [List.drop_eq_getElem_cons hk]
  simp only [booksE]
  rw [if_pos h]
theorem booksE_two {ss : List ByteArray} {k : Nat} (hk : k < ss.length) (h : ¬ 2000 < ss[k].size) (h2 : hasB (ss.take k) ss[k] = true) : booksE (ss.take k) (ss.drop k) = 6 := by
  rw [List.drop_eq_getElem_cons hk]
  simp only [booksE]
  rw [if_neg h, if_neg (by simpa [hasB] using h2)]
theorem booksE_next {ss : List ByteArray} {k : Nat} (hk : k < ss.length) (h : ¬ 2000 < ss[k].size) (h2 : hasB (ss.take k) ss[k] = false) : booksE (ss.take k) (ss.drop k) = booksE (ss.take (k + 1)) (ss.drop (k + 1)) := by
  rw [List.drop_eq_getElem_cons hk, List.take_succ_eq_append_getElem hk]
  simp only [booksE]
  rw [if_neg h, if_pos (by simpa [hasB] using h2)]

def bookv (a : Option Addr) (n c : Nat) : Value := .agg #[.slice a n c]

set_option maxHeartbeats 800000 in
set_option maxRecDepth 100000 in
theorem checkBook_any (a : Option Addr) (n c : Nat) (ss : List ByteArray) (w : World) (h : IsStrs w a ss) (hn : ss.length = n) (hc : n ≤ c) (hz : ∀ s ∈ ss, s.size ≤ maxLen) :
    Calls Tryz.prog 101 #[bookv a n c] w fun e w' => e = .returned (.int .i64 (bookE ss)) ∧ Below w.heap.size w w' := by
  have HN := hide hn
  unfold maxLen at hz
  unfold bookv
  have hw0 : Below w.heap.size w (w.alloc (.cells #[.slice a n c] 24)) := (Below.refl _ _).alloc (Nat.le_refl _) _
  by_cases h1 : 60 < n
  · have HE := hide (show bookE ss = 2 by unfold bookE; rw [if_pos (by omega)])
    clear hn
    go_enter Tryz.func101, Tryz.ntmps101
    go_wp2_with fail
    go_ret
    exact ⟨ret_int HE.out.symm, hw0⟩
  · have HE := hide (show bookE ss = booksE [] ss by unfold bookE; rw [if_neg (by omega)])
    clear hn
    go_enter Tryz.func101, Tryz.ntmps101
    go_wp2_with fail
    go_loopw [12] (fun i wr => ∃ k : Nat, k ≤ n ∧ i = .int .i64 k ∧ wr = w.alloc (.cells #[.slice a n c] 24) ∧ Hid (booksE (ss.take k) (ss.drop k) = booksE [] ss)) (fun i _ => n - (intOf i).toNat)
    case atStart => exact ⟨0, Nat.zero_le _, rfl, rfl, by show _ = _; simp⟩
    case round =>
      obtain ⟨k, hk, rfl, rfl, ht⟩ := hrel
      by_cases hlt : k < n
      · have i1 := h.below hw0
        have i2 := i1.take k
        have hkx : k < ss.length := by rw [HN.out]; exact hlt
        rcases i1 with rfl | ⟨b0, o0, rfl, hc0⟩
        · have := HN.out
          simp at this
          omega
        have e0 := h
        have e0 := hc0 k hkx
        rw [show ss.getD k ByteArray.empty = ss[k] by simp [hkx]] at e0
        have hzk := hz ss[k] (List.getElem_mem hkx)
        clear hc0
        by_cases h2 : 2000 < ss[k].size
        · have HV := hide (booksE_long hkx h2)
          generalize ss[k] = sk at *
          go_wp2_with fail
          go_ret
          exact ⟨ret_int (by rw [HE.out, ← ht.out, HV.out]), hw0⟩
        · have HC := hide (contains_strs (some ⟨b0, o0, none⟩) k c (ss.take k) ss[k] _ i2 (by simp; omega) (by unfold maxLen; omega))
          cases h3 : hasB (ss.take k) ss[k]
          · have HV := hide (booksE_next hkx h2 h3)
            rw [h3] at HC
            generalize ss[k] = sk at *
            go_wp2_with (go_at_call 153; refine (unhide HC).mono ?_; rintro e w' ⟨rfl, rfl⟩)
            go_roundw
            case rel => exact ⟨k + 1, by omega, by go_num, trivial, by show _ = _; rw [← ht.out, HV.out]⟩
            case measure => simp [intOf]; omega
          · have HV := hide (booksE_two hkx h2 h3)
            rw [h3] at HC
            generalize ss[k] = sk at *
            go_wp2_with (go_at_call 153; refine (unhide HC).mono ?_; rintro e w' ⟨rfl, rfl⟩)
            go_ret
            exact ⟨ret_int (by rw [HE.out, ← ht.out, HV.out]), hw0⟩
      · go_wp2_with fail
        go_ret
        have hx := ht.out
        rw [List.drop_eq_nil_of_le (by rw [HN.out]; omega)] at hx
        exact ⟨ret_int (by rw [HE.out, ← hx]; rfl), hw0⟩

end Go.Proofs.YtgngpmgjoifepaaGreatDoor

namespace Go.Proofs.YtgngpmgjoifepaaGreatDoor
open Go.Shelf Go.Proofs
def Tryz.lays156_ren : Go.Shelf.Ren := ⟨fun | 156 => 193 | 165 => 214 | 166 => 215 | 169 => 216 | 240 => 223 | 241 => 224 | 276 => 231 | 277 => 232 | n => n, fun | 31 => 22 | 9 => 9 | 3 => 3 | 4 => 4 | 0 => 0 | 20 => 20 | 72 => 267 | 76 => 271 | 70 => 264 | 37 => 265 | 75 => 270 | 127 => 278 | 164 => 288 | 5 => 5 | 80 => 273 | n => n, fun | n => n⟩
theorem Tryz.lays156 : Go.Proofs.Lays.n156 Tryz.prog Tryz.lays156_ren := {
  mixed := by kernel_rfl
  f156 := Tryz.func193.trans (congrArg some (by kernel_rfl))
  f165 := Tryz.func214.trans (congrArg some (by kernel_rfl))
  f166 := Tryz.func215.trans (congrArg some (by kernel_rfl))
  f169 := Tryz.func216.trans (congrArg some (by kernel_rfl))
  f240 := Tryz.func223.trans (congrArg some (by kernel_rfl))
  f241 := Tryz.func224.trans (congrArg some (by kernel_rfl))
  f276 := Tryz.func231.trans (congrArg some (by kernel_rfl))
  f277 := Tryz.func232.trans (congrArg some (by kernel_rfl))
  t0 := Tryz.underlying0
  a0 := Tryz.isAgg0
  z0 := Tryz.sizeOf0
  v0 := Tryz.zeroValue0
  t3 := Tryz.underlying3
  a3 := Tryz.isAgg3
  z3 := Tryz.sizeOf3
  v3 := Tryz.zeroValue3
  t4 := Tryz.underlying4
  a4 := Tryz.isAgg4
  z4 := Tryz.sizeOf4
  v4 := Tryz.zeroValue4
  t9 := Tryz.underlying9
  a9 := Tryz.isAgg9
  z9 := Tryz.sizeOf9
  v9 := Tryz.zeroValue9
  t20 := Tryz.underlying20
  a20 := Tryz.isAgg20
  z20 := Tryz.sizeOf20
  v20 := Tryz.zeroValue20
  t31 := Tryz.underlying22
  a31 := Tryz.isAgg22
  z31 := Tryz.sizeOf22
  v31 := Tryz.zeroValue22
  t37 := Tryz.underlying265
  a37 := Tryz.isAgg265
  z37 := Tryz.sizeOf265
  v37 := Tryz.zeroValue265
  t70 := Tryz.underlying264
  a70 := Tryz.isAgg264
  z70 := Tryz.sizeOf264
  v70 := Tryz.zeroValue264
  t72 := Tryz.underlying267
  a72 := Tryz.isAgg267
  z72 := Tryz.sizeOf267
  v72 := Tryz.zeroValue267
  t75 := Tryz.underlying270
  a75 := Tryz.isAgg270
  z75 := Tryz.sizeOf270
  v75 := Tryz.zeroValue270
  t76 := Tryz.underlying271
  a76 := Tryz.isAgg271
  z76 := Tryz.sizeOf271
  v76 := Tryz.zeroValue271
  t127 := Tryz.underlying278
  a127 := Tryz.isAgg278
  z127 := Tryz.sizeOf278
  v127 := Tryz.zeroValue278
  t164 := Tryz.underlying288
  a164 := Tryz.isAgg288
  z164 := Tryz.sizeOf288
  v164 := Tryz.zeroValue288 }
theorem Tryz.Builder_Extra_156 : Builder.Extra Tryz.prog Tryz.lays156_ren := {
  sizeBuilder := by kernel_rfl
  liesBuilder := by kernel_rfl
  t5 := Tryz.underlying5
  a5 := Tryz.isAgg5
  z5 := Tryz.sizeOf5
  v5 := Tryz.zeroValue5
  infoByte := by kernel_rfl
  cellsByte := by kernel_rfl
  sizeByte := by kernel_rfl
  neB5 := by decide }
open Go.RowKit in
theorem Tryz.strings_Join_none (a : Option Addr) (c : Nat) (sep : ByteArray) (w : World) :
    Calls Tryz.prog 193 #[.slice a 0 c, .string sep] w fun e w' => e = .returned (.string ⟨#[]⟩) ∧ w' = w := Any.strings_Join_none Tryz.lays156 Tryz.Builder_Extra_156 a c sep w
open Go.RowKit in
theorem Tryz.strings_Join (bk o c : Nat) (xs : List ByteArray) (sep : ByteArray) (w : World) (hcells : ∀ (j : Nat) x, xs[j]? = some x → w.cell? ⟨bk, o + j, none⟩ = some (.string x)) (hbk : bk < w.heap.size) (hN : xs.length ≤ 140737488355328) (hcap : xs.length ≤ c) (hlen : (Lib.join (xs.map (·.data.toList)) sep.data.toList).length ≤ 140737488355328) :
    Calls Tryz.prog 193 #[.slice (some ⟨bk, o, none⟩) xs.length c, .string sep] w fun e w' => e = .returned (.string ⟨(Lib.join (xs.map (·.data.toList)) sep.data.toList).toArray⟩) ∧ Below w.heap.size w w' := Any.strings_Join Tryz.lays156 Tryz.Builder_Extra_156 bk o c xs sep w hcells hbk hN hcap hlen
def Tryz.laysM171_ren : Go.Shelf.Ren := ⟨fun | 171 => 180 | 243 => 206 | 246 => 218 | 283 => 225 | 284 => 226 | 285 => 227 | 286 => 228 | 129 => 234 | 317 => 233 | 318 => 235 | 319 => 236 | 320 => 237 | 337 => 238 | 338 => 239 | n => n, fun | 3 => 3 | 9 => 9 | 2 => 2 | 4 => 4 | 171 => 279 | 0 => 0 | 53 => 233 | 37 => 265 | 5 => 5 | 173 => 282 | 212 => 292 | 51 => 230 | 20 => 20 | 213 => 293 | 46 => 191 | 232 => 296 | 233 => 297 | n => n, fun | 17 => 0 | 18 => 2 | 19 => 3 | n => n⟩
theorem Tryz.laysM171 : Go.Proofs.LaysM.n171 Tryz.prog Tryz.laysM171_ren := {
  mixed := by kernel_rfl
  f129 := Tryz.func234.trans (congrArg some (by kernel_rfl))
  f171 := Tryz.func180.trans (congrArg some (by kernel_rfl))
  f243 := Tryz.func206.trans (congrArg some (by kernel_rfl))
  f246 := Tryz.func218.trans (congrArg some (by kernel_rfl))
  f283 := Tryz.func225.trans (congrArg some (by kernel_rfl))
  f284 := Tryz.func226.trans (congrArg some (by kernel_rfl))
  f285 := Tryz.func227.trans (congrArg some (by kernel_rfl))
  f286 := Tryz.func228.trans (congrArg some (by kernel_rfl))
  f317 := Tryz.func233.trans (congrArg some (by kernel_rfl))
  f318 := Tryz.func235.trans (congrArg some (by kernel_rfl))
  f319 := Tryz.func236.trans (congrArg some (by kernel_rfl))
  f320 := Tryz.func237.trans (congrArg some (by kernel_rfl))
  f337 := Tryz.func238.trans (congrArg some (by kernel_rfl))
  f338 := Tryz.func239.trans (congrArg some (by kernel_rfl))
  t0 := Tryz.underlying0
  a0 := Tryz.isAgg0
  z0 := Tryz.sizeOf0
  v0 := Tryz.zeroValue0
  t2 := Tryz.underlying2
  a2 := Tryz.isAgg2
  z2 := Tryz.sizeOf2
  v2 := Tryz.zeroValue2
  t3 := Tryz.underlying3
  a3 := Tryz.isAgg3
  z3 := Tryz.sizeOf3
  v3 := Tryz.zeroValue3
  t4 := Tryz.underlying4
  a4 := Tryz.isAgg4
  z4 := Tryz.sizeOf4
  v4 := Tryz.zeroValue4
  t5 := Tryz.underlying5
  a5 := Tryz.isAgg5
  z5 := Tryz.sizeOf5
  v5 := Tryz.zeroValue5
  t9 := Tryz.underlying9
  a9 := Tryz.isAgg9
  z9 := Tryz.sizeOf9
  v9 := Tryz.zeroValue9
  t20 := Tryz.underlying20
  a20 := Tryz.isAgg20
  z20 := Tryz.sizeOf20
  v20 := Tryz.zeroValue20
  t37 := Tryz.underlying265
  a37 := Tryz.isAgg265
  z37 := Tryz.sizeOf265
  v37 := Tryz.zeroValue265
  t46 := Tryz.underlying191
  a46 := Tryz.isAgg191
  z46 := Tryz.sizeOf191
  v46 := Tryz.zeroValue191
  t51 := Tryz.underlying230
  a51 := Tryz.isAgg230
  z51 := Tryz.sizeOf230
  v51 := Tryz.zeroValue230
  t53 := Tryz.underlying233
  a53 := Tryz.isAgg233
  z53 := Tryz.sizeOf233
  v53 := Tryz.zeroValue233
  t171 := Tryz.underlying279
  a171 := Tryz.isAgg279
  z171 := Tryz.sizeOf279
  v171 := Tryz.zeroValue279
  t173 := Tryz.underlying282
  a173 := Tryz.isAgg282
  z173 := Tryz.sizeOf282
  v173 := Tryz.zeroValue282
  t212 := Tryz.underlying292
  a212 := Tryz.isAgg292
  z212 := Tryz.sizeOf292
  v212 := Tryz.zeroValue292
  t213 := Tryz.underlying293
  a213 := Tryz.isAgg293
  z213 := Tryz.sizeOf293
  t232 := Tryz.underlying296
  a232 := Tryz.isAgg296
  z232 := Tryz.sizeOf296
  v232 := Tryz.zeroValue296
  t233 := Tryz.underlying297
  a233 := Tryz.isAgg297
  z233 := Tryz.sizeOf297
  v233 := Tryz.zeroValue297
  g17 := by kernel_rfl
  g18 := by kernel_rfl
  g19 := by kernel_rfl
  i0 := by kernel_rfl
  i2 := by kernel_rfl
  i3 := by kernel_rfl
  i4 := by kernel_rfl
  i5 := by kernel_rfl
  i9 := by kernel_rfl
  i20 := by kernel_rfl
  i37 := by kernel_rfl
  i46 := by kernel_rfl
  i51 := by kernel_rfl
  i53 := by kernel_rfl
  i171 := by kernel_rfl
  i173 := by kernel_rfl
  i212 := by kernel_rfl
  i232 := by kernel_rfl
  i233 := by kernel_rfl
  m17 := by kernel_rfl
  m18 := by kernel_rfl
  m19 := by kernel_rfl }
open Go.RowKit Go.Sort Go.Lib in
theorem Tryz.strconv_Itoa (n : Int) (h0 : -9223372036854775808 ≤ n) (h1 : n ≤ 9223372036854775807) (w : World) (htab : Lib.TabIs Tryz.prog w "internal/strconv.uint64pow10" .u64 Lib.pow10Tab) :
    Calls Tryz.prog 180 #[.int .i64 n] w fun e w' => e = .returned (.string ⟨(Lib.itoa n).toArray⟩) ∧ ∃ k os, w' = grow (w.drewN k) os := Any.strconv_Itoa Tryz.laysM171 n h0 h1 w htab
end Go.Proofs.YtgngpmgjoifepaaGreatDoor

namespace Go.Proofs.YtgngpmgjoifepaaGreatDoor
open Go.RowKit

/-- A text of these bytes. -/
def bs (l : List UInt8) : ByteArray := ⟨l.toArray⟩
theorem bs_data (l : List UInt8) : (bs l).data.toList = l := by simp [bs]
theorem bs_of (s : ByteArray) : bs s.data.toList = s := by simp [bs]
theorem bs_size (l : List UInt8) : (bs l).size = l.length := rfl
theorem bs_inj {a b : List UInt8} (h : bs a = bs b) : a = b := by rw [← bs_data a, h, bs_data]
theorem size_data (s : ByteArray) : s.data.toList.length = s.size := Array.length_toList

theorem var_below {w w' : World} {n : String} {cs : Array Value} (h : w.var? Tryz.prog n = some cs) (hb : Below w.heap.size w w') : w'.var? Tryz.prog n = some cs := by
  unfold World.var? at h ⊢
  cases hg : Tryz.prog.globalNamed n with
  | none => rw [hg] at h; cases h
  | some g =>
    rw [hg] at h
    simp only [Option.bind_some] at h ⊢
    have hlt : g < w.heap.size := by
      cases hx : w.heap[g]? with
      | none => rw [hx] at h; cases h
      | some o => exact (Array.getElem?_eq_some_iff.1 hx).1
    rw [hb.block g hlt]
    exact h

/-- The table that strconv.Itoa reads stands as it was laid. -/
def Tab (w : World) : Prop := Lib.TabIs Tryz.prog w "internal/strconv.uint64pow10" .u64 Lib.pow10Tab

theorem Tab.below {w w' : World} (h : Tab w) (hb : Below w.heap.size w w') : Tab w' := var_below h hb
theorem Tab.alloc {w : World} (h : Tab w) (o : Obj) : Tab (w.alloc o) := h.below ((Below.refl _ _).alloc (Nat.le_refl _) _)

theorem grow_below (w : World) (os : Array Obj) : Below w.heap.size w (Sort.grow w os) :=
  ⟨rfl, rfl, rfl, by simp, fun k hk => Sort.heap_grow_old w os hk⟩

theorem itoa_any (n : Int) (hn : I64 n) (w : World) (hT : Tab w) :
    Calls Tryz.prog 180 #[.int .i64 n] w fun e w' => e = .returned (.string (bs (Lib.itoa n))) ∧ Below w.heap.size w w' := by
  refine (Tryz.strconv_Itoa n hn.1 hn.2 w hT).mono ?_
  rintro e w' ⟨rfl, k, os, rfl⟩
  exact ⟨rfl, (below_drewN (Below.refl _ _) k).trans (grow_below (w.drewN k) os : Below (w.drewN k).heap.size _ _)⟩

/-- strings.Join of a row of texts. -/
theorem join_any (a : Option Addr) (n c : Nat) (ss : List ByteArray) (sep : List UInt8) (w : World) (h : IsStrs w a ss) (hn : ss.length = n) (hc : n ≤ c) (hm : n ≤ 140737488355328)
    (hlen : (Lib.join (ss.map (·.data.toList)) sep).length ≤ 140737488355328) :
    Calls Tryz.prog 193 #[.slice a n c, .string (bs sep)] w fun e w' => e = .returned (.string (bs (Lib.join (ss.map (·.data.toList)) sep))) ∧ Below w.heap.size w w' := by
  subst hn
  rcases h with rfl | ⟨b, off, rfl, hcell⟩
  · refine (Tryz.strings_Join_none a c (bs sep) w).mono ?_
    rintro e w' ⟨rfl, rfl⟩
    exact ⟨rfl, Below.refl _ _⟩
  · by_cases h0 : ss = []
    · subst h0
      refine (Tryz.strings_Join_none _ c (bs sep) w).mono ?_
      rintro e w' ⟨rfl, rfl⟩
      exact ⟨rfl, Below.refl _ _⟩
    have hpos : 0 < ss.length := by cases ss with
      | nil => exact absurd rfl h0
      | cons x r => simp
    have := Tryz.strings_Join b off c ss (bs sep) w (fun j x hx => by
      obtain ⟨hj, hx⟩ := List.getElem?_eq_some_iff.1 hx
      have := hcell j hj
      rw [show ss.getD j ByteArray.empty = x by simp [hj, hx]] at this
      exact this) (cell_lt (hcell 0 hpos)) hm hc (by rw [bs_data]; exact hlen)
    rw [bs_data] at this
    exact this

end Go.Proofs.YtgngpmgjoifepaaGreatDoor
