/- What a slice of ints in memory holds ('IsInts'), and that slices.Equal says whether two of them hold the same. -/
import Derived.Test.YtkkfpfopdljeaaaRows
import Derived.WalkKit
import Derived.WalkSpells
import Derived.WalkLawsBesides
import Derived.Deep.QuietTactic
import Derived.BigQuiet
namespace Go.Proofs.Ytkkfpfopdljeaaa
open Go.RowKit

theorem hide {p : Prop} (h : p) : Hid p := h
theorem unhide {p : Prop} (h : Hid p) : p := h

/-- The slice at 'a' of length 'xs.length' holds the numbers 'xs' in the world w. -/
def IsInts (w : World) (a : Option Addr) (xs : List Int) : Prop :=
  xs = [] ∨ ∃ b off, a = some ⟨b, off, none⟩ ∧ ∀ i, i < xs.length → w.cell? ⟨b, off + i, none⟩ = some (.int .i64 (xs.getD i 0))

def eqL (xs ys : List Int) : Bool := decide (xs = ys)

theorem eqL_len {xs ys : List Int} (h : xs.length ≠ ys.length) : eqL xs ys = false := by
  unfold eqL; simp; intro e; exact h (by rw [e])

theorem eqL_take {xs ys : List Int} {k : Nat} (hl : xs.length = ys.length) (hk : xs.length ≤ k) (h : xs.take k = ys.take k) : eqL xs ys = true := by
  unfold eqL
  rw [List.take_of_length_le hk, List.take_of_length_le (by omega)] at h
  simp [h]

theorem eqL_ne {xs ys : List Int} {k : Nat} (hx : k < xs.length) (hy : k < ys.length) (h : ¬ xs[k] = ys[k]) : eqL xs ys = false := by
  unfold eqL; simp; intro e; subst e; exact h rfl

theorem take_step {xs ys : List Int} {k : Nat} (hx : k < xs.length) (hy : k < ys.length) (h : xs.take k = ys.take k) (he : xs[k] = ys[k]) : xs.take (k + 1) = ys.take (k + 1) := by
  rw [List.take_succ_eq_append_getElem hx, List.take_succ_eq_append_getElem hy, h, he]

theorem ret_bool {a b : Bool} (h : a = b) : Ending.returned (.bool a) = .returned (.bool b) := by rw [h]

set_option maxHeartbeats 400000 in
theorem equal_any (a0 a1 : Option Addr) (c0 c1 : Nat) (xs ys : List Int) (w : World) (h0 : IsInts w a0 xs) (h1 : IsInts w a1 ys) (hx : xs.length ≤ maxLen) (hy : ys.length ≤ maxLen) :
    Calls Try.prog 15 #[.slice a0 xs.length c0, .slice a1 ys.length c1] w fun e w' => e = .returned (.bool (eqL xs ys)) ∧ ∃ n, w' = w.drewN n := by
  unfold maxLen at hx hy
  by_cases hl : xs.length = ys.length
  · have hbl : ((xs.length : Int) != (ys.length : Int)) = false := by simp [hl]
    have HL : Hid (xs.length = ys.length) := hl
    clear hl
    go_enter Try.func15, Try.ntmps15
    go_wp2
    go_loopw [13] (fun i wr => ∃ k : Nat, k ≤ xs.length ∧ i = .int .i64 k ∧ xs.take k = ys.take k ∧ ∃ n, wr = w.drewN n) (fun i _ => xs.length - (intOf i).toNat)
    case atStart => exact ⟨0, Nat.zero_le _, rfl, rfl, 0, rfl⟩
    case round =>
      obtain ⟨k, hk, rfl, ht, n, rfl⟩ := hrel
      have HT : Hid (xs.take k = ys.take k) := ht
      clear ht
      by_cases hlt : k < xs.length
      · have hlt2 : k < ys.length := by have := HL.out; omega
        rcases h0 with rfl | ⟨b0, o0, rfl, hc0⟩
        · simp at hlt
        rcases h1 with rfl | ⟨b1, o1, rfl, hc1⟩
        · simp at hlt2
        have e0 := hc0 k hlt
        have e1 := hc1 k hlt2
        clear hc0 hc1
        by_cases he : xs[k] = ys[k]
        · have hbe : (xs[k] != ys[k]) = false := by simp [he]
          have HE : Hid (xs[k] = ys[k]) := he
          clear he
          go_wp2
          go_quiet (fail)
          go_wp2
          go_roundw
          case rel => exact ⟨k + 1, by omega, by go_num, take_step hlt hlt2 HT.out HE.out, n + nq, rfl⟩
          case measure => simp [intOf]; omega
        · have hbe : (xs[k] != ys[k]) = true := by simpa using he
          go_wp2
          go_quiet (fail)
          go_wp2
          go_ret
          exact ⟨ret_bool (eqL_ne hlt hlt2 he).symm, n + nq, by simp⟩
      · go_wp2
        go_ret
        exact ⟨ret_bool (eqL_take HL.out (by omega) HT.out).symm, n, rfl⟩
  · have hbl : ((xs.length : Int) != (ys.length : Int)) = true := by simp; omega
    go_enter Try.func15, Try.ntmps15
    go_wp2
    go_ret
    exact ⟨ret_bool (eqL_len hl).symm, 0, rfl⟩

/-- The same, the lengths and the answer by themselves. -/
theorem equal_at (a0 a1 : Option Addr) (n0 n1 c0 c1 : Nat) (xs ys : List Int) (q : Bool) (w : World) (h0 : IsInts w a0 xs) (h1 : IsInts w a1 ys) (e0 : xs.length = n0) (e1 : ys.length = n1) (hq : eqL xs ys = q) (hx : n0 ≤ maxLen) (hy : n1 ≤ maxLen) :
    Calls Try.prog 15 #[.slice a0 n0 c0, .slice a1 n1 c1] w fun e w' => e = .returned (.bool q) ∧ ∃ n, w' = w.drewN n := by
  subst e0 e1 hq
  exact equal_any a0 a1 c0 c1 xs ys w h0 h1 hx hy

/-! ### A list in memory stays there -/
theorem cell_lt {w : World} {p : Addr} {v : Value} (h : w.cell? p = some v) : p.block < w.heap.size := by
  unfold World.cell? at h
  split at h <;> simp_all
  rename_i hb
  obtain ⟨hlt, _⟩ := Array.getElem?_eq_some_iff.1 hb
  exact hlt

theorem IsInts.below {w w' : World} {a : Option Addr} {xs : List Int} (h : IsInts w a xs) (hb : Below w.heap.size w w') : IsInts w' a xs := by
  rcases h with h | ⟨b, off, rfl, hc⟩
  · exact .inl h
  · exact .inr ⟨b, off, rfl, fun i hi => by rw [hb.cell (cell_lt (hc i hi))]; exact hc i hi⟩

theorem IsInts.alloc {w : World} {a : Option Addr} {xs : List Int} (h : IsInts w a xs) (o : Obj) : IsInts (w.alloc o) a xs :=
  h.below ((Below.refl _ _).alloc (Nat.le_refl _) _)

theorem IsInts.drewN {w : World} {a : Option Addr} {xs : List Int} (h : IsInts w a xs) (n : Nat) : IsInts (w.drewN n) a xs :=
  h.below (below_drewN (Below.refl _ _) n)

theorem isInts_at (w : World) (b : Nat) (xs : List Int) (vs : Array Value) (t : TypeId) (hb : b = w.heap.size) (hv : vs = (xs.map (Value.int .i64)).toArray) : IsInts (w.alloc (.cells vs t)) (some ⟨b, 0, none⟩) xs := by
  subst hb hv
  refine .inr ⟨_, _, rfl, fun i hi => ?_⟩
  simp [hi]

end Go.Proofs.Ytkkfpfopdljeaaa
