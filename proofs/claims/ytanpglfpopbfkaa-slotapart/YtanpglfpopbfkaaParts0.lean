/- Flash in variables ('FlVar', 'FBox'); parts of lists. -/
import Derived.Test.YtanpglfpopbfkaaBurnt0
import Derived.Test.YtanpglfpopbfkaaPlain
import Derived.Deep.DeepCutAuto
namespace Go.Proofs.Ytanpglfpopbfkaa
open Go.RowKit
attribute [local go_sem ↓] Go.wp_at_zero Go.wp_at_succ

/-- A variable (block b) that holds a flash of these words and this fuel. -/
def FlVar (B : Nat) (w : World) (b : Nat) (ws : List Int) (fuel : Int) : Prop :=
  ∃ a n c, w.heap[b]? = some (.cells #[.slice a n c, .int .i64 fuel] 28 (0, 0)) ∧ IsInts w a ws ∧ ws.length = n ∧ n ≤ c ∧ FreshA B a

theorem FreshA.mono {B B' : Nat} {a : Option Addr} (h : FreshA B a) (hB : B' ≤ B) : FreshA B' a := fun x hx => Nat.le_trans hB (h x hx)

theorem FlVar.below {B : Nat} {w w' : World} {b : Nat} {ws : List Int} {fuel : Int} (h : FlVar B w b ws fuel) (hb : Below w.heap.size w w') : FlVar B w' b ws fuel := by
  obtain ⟨a, n, c, h1, h2, h3, h4⟩ := h
  exact ⟨a, n, c, blk_below h1 hb, h2.below hb, h3, h4⟩

theorem FlVar.lt {B : Nat} {w : World} {b : Nat} {ws : List Int} {fuel : Int} (h : FlVar B w b ws fuel) : b < w.heap.size := by
  obtain ⟨a, n, c, h1, _⟩ := h
  exact blk_lt h1

theorem flVar_new {B : Nat} {w : World} {a : Option Addr} {n c : Nat} {ws : List Int} (fuel : Int) (h : IsInts w a ws) (hn : ws.length = n) (hc : n ≤ c) (hf : FreshA B a) :
    FlVar B (w.alloc (.cells #[.slice a n c, .int .i64 fuel] 28)) w.heap.size ws fuel :=
  ⟨a, n, c, heap_alloc_last _ _, h.alloc _, hn, hc, hf⟩

theorem FlVar.other {B : Nat} {w : World} {b : Nat} {ws : List Int} {fuel : Int} (h : FlVar B w b ws fuel) {b' : Nat} (hb : b' < B) (hne : b ≠ b') (i : Nat) (v : Value) : FlVar B (w.setCell ⟨b', i, none⟩ v) b ws fuel := by
  obtain ⟨a, n, c, h1, h2, h3, h4, h5⟩ := h
  exact ⟨a, n, c, by rw [Below.heap_setCell _ _ _ _ hne]; exact h1, h2.other h5 hb i v, h3, h4, h5⟩

/-- The variable (block b) that holds just this flash. -/
def FBox (w : World) (b : Nat) (a : Option Addr) (n c : Nat) (fuel : Int) : Prop := w.heap[b]? = some (.cells #[.slice a n c, .int .i64 fuel] 28 (0, 0))
theorem FBox.below {w w' : World} {b : Nat} {a : Option Addr} {n c : Nat} {fuel : Int} (h : FBox w b a n c fuel) (hb : Below w.heap.size w w') : FBox w' b a n c fuel := blk_below h hb

theorem flVar_stored {w : World} {B B' b : Nat} {v0 v1 : Value} {a : Option Addr} {n c : Nat} {ws : List Int} {fuel : Int} (hb : w.heap[b]? = some (.cells #[v0, v1] 28 (0, 0))) (hi : IsInts w a ws) (hf : FreshA B a) (hlt : b < B) (hn : ws.length = n) (hc : n ≤ c) (hB : B' ≤ B) :
    FlVar B' ((w.setCell ⟨b, 0, none⟩ (.slice a n c)).setCell ⟨b, 1, none⟩ (.int .i64 fuel)) b ws fuel := by
  refine ⟨a, n, c, ?_, (hi.other hf hlt 0 _).other hf hlt 1 _, hn, hc, hf.mono hB⟩
  simp only [World.setCell, Array.getElem?_modify]
  simp [hb]

theorem keepNew {P : Prop} {W w5 : World} {b : Nat} {v0 v1 : Value} {t : TypeId} (hb : Below W.heap.size W w5) (hW : W.heap[b]? = some (.cells #[v0, v1] t (0, 0)))
    (k : w5.cell? ⟨b, 0, none⟩ = some v0 → w5.cell? ⟨b, 1, none⟩ = some v1 → w5.frozen? ⟨b, 0, none⟩ = false → w5.frozen? ⟨b, 1, none⟩ = false → P) : P :=
  k (blk_cell (blk_below hW hb) 0 _ rfl) (blk_cell (blk_below hW hb) 1 _ rfl) (blk_free (blk_below hW hb) 0) (blk_free (blk_below hW hb) 1)

/-- Behind Program, called in a world W that has grown out of w: the old world as it was, too. -/
theorem program_from (w : World) (a : Option Addr) (n c : Nat) (ws : List Int) (fuel p : Int) (a2 : Option Addr) (n2 c2 : Nat) (words : List Int) (r : List Int) (f e0 : Int) (hr : progS ws fuel p words = (r, f, e0))
    (h : IsInts w a ws) (hn : ws.length = n) (hm : n ≤ maxLen) (h2 : IsInts w a2 words) (hn2 : words.length = n2) (hm2 : n2 ≤ maxLen) (hp : -9223372036854775808 ≤ p ∧ p ≤ 9223372036854775807) (W : World) (hb : Below w.heap.size w W) :
    Calls Try.prog 19 #[.agg #[.slice a n c, .int .i64 fuel], .int .i64 p, .slice a2 n2 c2] W fun e w' =>
      ∃ a' n' c', e = .returned (.tuple #[.agg #[.slice a' n' c', .int .i64 f], .int .i64 e0]) ∧ IsInts w' a' r ∧ r.length = n' ∧ n' ≤ c' ∧ FreshA W.heap.size a' ∧ Below W.heap.size W w' ∧ Below w.heap.size w w' := by
  refine (program_any a n c ws fuel p a2 n2 c2 words W (h.below hb) hn hm (h2.below hb) hn2 hm2 hp).mono ?_
  intro e w' hA
  obtain ⟨a', n', c', h1, h2, h3, h4, h5, h6⟩ := hA.opened hr
  exact ⟨a', n', c', h1, h2, h3, h4, h5, h6, hb.trans (h6.mono hb.size)⟩

theorem eqL_self (xs : List Int) : eqL xs xs = true := by unfold eqL; simp

theorem IsInts.take {w : World} {a : Option Addr} {xs : List Int} (h : IsInts w a xs) (j : Nat) : IsInts w a (xs.take j) := by
  rcases h with rfl | ⟨b, off, rfl, hc⟩
  · exact .inl (by simp)
  · refine .inr ⟨b, off, rfl, fun i hi => ?_⟩
    have hi' : i < j ∧ i < xs.length := by simp at hi; omega
    rw [hc i hi'.2]
    simp [hi'.1]

theorem IsInts.drop {w : World} {b off : Nat} {xs : List Int} (h : IsInts w (some ⟨b, off, none⟩) xs) (j : Nat) : IsInts w (some ⟨b, off + j, none⟩) (xs.drop j) := by
  rcases h with rfl | ⟨b', off', e, hc⟩
  · exact .inl (by simp)
  · cases e
    refine .inr ⟨b, off + j, rfl, fun i hi => ?_⟩
    simp at hi
    rw [Nat.add_assoc, hc (j + i) (by omega)]
    simp

end Go.Proofs.Ytanpglfpopbfkaa
