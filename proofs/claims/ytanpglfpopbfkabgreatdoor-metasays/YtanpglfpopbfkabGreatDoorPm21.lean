/- What the ref's way of reading a release says, in the words of the other way; rows of numbers. -/
import Derived.Test.YtanpglfpopbfkabGreatDoorPm18
import Derived.Test.YtanpglfpopbfkabGreatDoorPm19
import Derived.Test.YtanpglfpopbfkabGreatDoorPm20
namespace Go.Proofs.YtanpglfpopbfkabGreatDoor
open Go.RowKit

def hdQ (l : List UInt8) : List UInt8 := (Lib.split (Lib.trimPrefix l relW) semiW).headD []
def tlQ (l : List UInt8) : List (List UInt8) := (Lib.split (Lib.trimPrefix l relW) semiW).tail
def unB (h : List UInt8) : Bool := (Lib.cut h untW).2.2 && numB (Lib.cut h untW).1 && numB (Lib.cut h untW).2.1
def qB (l : List UInt8) : Bool := Lib.hasPrefix l relW && (unB (hdQ l) && (tlQ l).all tgB)

theorem untO_eq (h : List UInt8) : untO h = if unB h then some (numV (Lib.cut h untW).1, numV (Lib.cut h untW).2.1) else none := by
  unfold untO unB
  cases (Lib.cut h untW).2.2
  · simp
  · simp only [if_true, Bool.true_and]
    rw [numO_eq, numO_eq]
    cases numB (Lib.cut h untW).1 <;> cases numB (Lib.cut h untW).2.1 <;> simp

theorem readQ_eq (l : List UInt8) : readQ l = if qB l then some (numV (Lib.cut (hdQ l) untW).1, numV (Lib.cut (hdQ l) untW).2.1, (tlQ l).map tgV) else none := by
  unfold readQ qB hdQ tlQ
  cases hp : Lib.hasPrefix l relW
  · simp
  · cases h : Lib.split (Lib.trimPrefix l relW) semiW with
    | nil => exact absurd h (split_ne _ _)
    | cons a r =>
      simp only [List.headD_cons, List.tail_cons, if_true, Bool.true_and]
      rw [untO_eq, allO_tgt]
      by_cases h1 : unB a = true <;> by_cases h2 : r.all tgB = true <;> simp [h1, h2]

theorem parse_none {l : List UInt8} (hl : l.length ≤ 2000) (h : qB l = false) : parseS l = (0, 0, [], 1) := by
  unfold parseS
  rw [if_neg (by omega), ← readQ_readR, readQ_eq, h]
  rfl

theorem parse_qok {l : List UInt8} (hl : l.length ≤ 2000) (h : qB l = true) {v u : Int} {ts : List T3} (h1 : numV (Lib.cut (hdQ l) untW).1 = v) (h2 : numV (Lib.cut (hdQ l) untW).2.1 = u) (h3 : (tlQ l).map tgV = ts) :
    parseS l = if relE v u ts = 0 then (v, u, ts, 0) else (0, 0, [], relE v u ts) := by
  unfold parseS
  rw [if_neg (by omega), ← readQ_readR, readQ_eq, h, h1, h2, h3]
  rfl

theorem qB_1 {l : List UInt8} (h : Lib.hasPrefix l relW = false) : qB l = false := by unfold qB; rw [h]; rfl
theorem qB_2 {l : List UInt8} (h : unB (hdQ l) = false) : qB l = false := by unfold qB; rw [h]; simp
theorem qB_3 {l p : List UInt8} (hp : p ∈ tlQ l) (h : tgB p = false) : qB l = false := by
  unfold qB
  have : (tlQ l).all tgB = false := by
    rw [List.all_eq_false]
    exact ⟨p, hp, by simp [h]⟩
  rw [this]
  simp
theorem qB_t {l : List UInt8} (h : Lib.hasPrefix l relW = true) (h2 : unB (hdQ l) = true) (h3 : ∀ p ∈ tlQ l, tgB p = true) : qB l = true := by
  unfold qB
  rw [h, h2, List.all_eq_true.2 h3]
  rfl

theorem allO_mem {α β : Type} {f : α → Option β} {x : α} (h : f x = none) : ∀ {l : List α}, x ∈ l → allO f l = none
  | y :: r, hx => by
    simp only [allO]
    rcases List.mem_cons.1 hx with rfl | hx
    · rw [h]
    · rw [allO_mem h hx]
      split
      · rename_i e
        cases e
      · rfl

theorem tgB_num {p f : List UInt8} (hf : f ∈ Lib.split p [32]) (h : numB f = false) : tgB p = false := by
  unfold tgB tgtO
  rw [allO_mem (f := numO) (x := f) (by rw [numO_eq, h]; rfl) hf]
  rfl
theorem tgB_len {p : List UInt8} (h : (Lib.split p [32]).length ≠ 3) : tgB p = false := by
  unfold tgB
  rw [tgtO_none3 h]
  rfl
theorem tg_three {p f0 f1 f2 : List UInt8} (h : Lib.split p [32] = [f0, f1, f2]) (h0 : numB f0 = true) (h1 : numB f1 = true) (h2 : numB f2 = true) : tgB p = true ∧ tgV p = (numV f0, numV f1, numV f2) := by
  unfold tgB tgV
  rw [tgtO_three h, h0, h1, h2]
  exact ⟨rfl, rfl⟩

/-! ### Rows of numbers of one's own -/

theorem row_form {w : World} {b : Nat} {e : TypeId} {z n : Nat} {v : Value} {xs : List Value} (h : w.ownsRow b e z v n xs) : ∃ A C, v = .slice A n C := by
  obtain ⟨_, ⟨rfl, rfl⟩ | ⟨g, cap, cur, rfl, _⟩⟩ := h
  · exact ⟨_, _, rfl⟩
  · exact ⟨_, _, rfl⟩

theorem row_three {w : World} {b : Nat} {v : Value} {x y z : Int} (h : w.ownsRow b 3 1 v 3 [.int .i64 x, .int .i64 y, .int .i64 z]) :
    ∃ g C, v = .slice (some ⟨g, 0, none⟩) 3 C ∧ 3 ≤ C ∧ b ≤ g ∧ g < w.heap.size ∧ w.cell? ⟨g, 0, none⟩ = some (.int .i64 x) ∧ w.cell? ⟨g, 1, none⟩ = some (.int .i64 y) ∧ w.cell? ⟨g, 2, none⟩ = some (.int .i64 z) := by
  obtain ⟨_, ⟨_, h0⟩ | ⟨g, cap, cur, rfl, hbg, hg, hc, _, hs, ht⟩⟩ := h
  · cases h0
  · have one : ∀ j u, [Value.int .i64 x, .int .i64 y, .int .i64 z][j]? = some u → w.cell? ⟨g, j, none⟩ = some u := by
      intro j u hu
      have hj : j < 3 := by have := (List.getElem?_eq_some_iff.1 hu).1; simpa using this
      rw [← ht, List.getElem?_take, if_pos (by omega)] at hu
      exact blk_cell hg _ _ (by simpa using hu)
    exact ⟨g, cap, rfl, hc, hbg, blk_lt hg, one 0 _ rfl, one 1 _ rfl, one 2 _ rfl⟩

theorem row_lt {w : World} {b : Nat} {e : TypeId} {z n : Nat} {v : Value} {xs : List Value} (h : w.ownsRow b e z v n xs) : ∀ k, v.ownBlock = some k → k < w.heap.size := by
  intro k hk
  obtain ⟨_, ⟨rfl, _⟩ | ⟨g, cap, cur, rfl, _, hg, _⟩⟩ := h
  · cases hk
  · have : g = k := by simpa [Value.ownBlock] using hk
    subst this
    exact blk_lt hg

theorem keepN3 {w w' : World} {g : Nat} (h : w'.heap[g]? = w.heap[g]?) {x y z : Value} (hc : w.cell? ⟨g, 0, none⟩ = some x ∧ w.cell? ⟨g, 1, none⟩ = some y ∧ w.cell? ⟨g, 2, none⟩ = some z) : w'.cell? ⟨g, 0, none⟩ = some x ∧ w'.cell? ⟨g, 1, none⟩ = some y ∧ w'.cell? ⟨g, 2, none⟩ = some z := by
  have e : ∀ o, w'.cell? ⟨g, o, none⟩ = w.cell? ⟨g, o, none⟩ := fun o => World.cell?_of_block (w := w) h
  rw [e, e, e]
  exact hc

end Go.Proofs.YtanpglfpopbfkabGreatDoor
