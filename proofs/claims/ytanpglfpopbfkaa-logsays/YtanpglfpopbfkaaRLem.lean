/- Laws that Appended wants: rows of one's own, two lists of changes in one. -/
import Derived.Test.YtanpglfpopbfkaaRFmt0
namespace Go.Proofs.Ytanpglfpopbfkaa
open Go.RowKit

theorem chgs_of_row' {w : World} {base : Nat} {v : Value} {cs : List (Nat × Option (Nat × Int))} (h : w.ownsRow base 94 2 v cs.length (cells2 cs)) (hcap : CapsOK w cs) : ∃ a c, v = .slice a cs.length c ∧ cs.length ≤ c ∧ IsChgs w a cs := by
  obtain ⟨_, ⟨hv, hn⟩ | ⟨g, cap, cur, hv, hg, hh, hc, _, _, ht⟩⟩ := h
  · exact ⟨none, 0, by rw [hv, hn], by omega, .inl (List.eq_nil_of_length_eq_zero hn)⟩
  · refine ⟨some ⟨g, 0, none⟩, cap, hv, hc, .inr ⟨g, rfl, fun i c hi => ?_⟩⟩
    have hlt : i < cs.length := (List.getElem?_eq_some_iff.1 hi).1
    have hcg := cells2_get cs i c hi
    have get : ∀ j v, j < cs.length * 2 → (cells2 cs)[j]? = some v → cur[j]? = some v := by
      intro j v hj hv
      rw [← ht] at hv
      simpa [hj] using hv
    exact ⟨blk_cell hh _ _ (get _ _ (by omega) (by rw [Nat.mul_comm]; exact hcg.1)), blk_cell hh _ _ (get _ _ (by omega) (by rw [Nat.mul_comm]; exact hcg.2)), fun bb x hx => hcap c (List.mem_of_getElem? hi) bb x hx⟩

/-- What a row of one's own holds, as it is read. -/
def OwnedInts (w : World) (v : Value) (xs : List Int) : Prop := ∃ a c, v = .slice a xs.length c ∧ IsInts w a xs ∧ (xs = [] ∨ ∃ b o, a = some ⟨b, o, none⟩)
theorem ownInts_of {w : World} {base : Nat} {v : Value} {xs : List Int} (h : w.ownsRow base 3 1 v xs.length (vals xs)) : OwnedInts w v xs := by
  obtain ⟨_, ⟨hv, hn⟩ | ⟨g, cap, cur, hv, hg, hh, hc, hm, _, ht⟩⟩ := h
  · have : xs = [] := List.eq_nil_of_length_eq_zero hn
    exact ⟨none, 0, by rw [hv, this]; rfl, .inl this, .inl this⟩
  · exact ⟨some ⟨g, 0, none⟩, cap, hv, (OwnCap.isInts ⟨cur, hh, by simpa using ht⟩), .inr ⟨g, 0, rfl⟩⟩
theorem OwnedInts.below2 {w w' : World} {v : Value} {xs : List Int} (h : OwnedInts w v xs) (hb : Below w.heap.size w w') : OwnedInts w' v xs := by
  obtain ⟨a, c, h1, h2, h3⟩ := h
  exact ⟨a, c, h1, h2.below hb, h3⟩

theorem own_cap {w : World} {base : Nat} {e : TypeId} {size g n cap : Nat} {xs : List Value} (h : w.ownsRow base e size (.slice (some ⟨g, 0, none⟩) n cap) n xs) : n ≤ cap := by
  obtain ⟨_, ⟨hv, _⟩ | ⟨g', cap', cur, hv, hg, hh, hc, _⟩⟩ := h
  · cases hv
  · cases hv; exact hc

/-- Two lists of changes, one appended to the other. -/
theorem two_lists {X Y w5 w6 w7 : World} {b5 n5 c5 b6 n6 c6 g cap : Nat} {A B : List (Nat × Option (Nat × Int))} {base : Nat} (h5 : Making X w5 (.slice (some ⟨b5, 0, none⟩) n5 c5) A) (hc : Below w5.heap.size w5 w6) (h6 : Making Y w6 (.slice (some ⟨b6, 0, none⟩) n6 c6) B)
    (own : w7.ownsRow base 94 2 (.slice (some ⟨g, 0, none⟩) (A.length + 1) cap) (A.length + 1) (cells2 A ++ cells2 B)) (grow : w6.grownBy w7 (Value.slice (some ⟨b5, 0, none⟩) n5 c5).ownBlock) : IsChgs w7 (some ⟨g, 0, none⟩) (A ++ B) := by
  have hlen : (A ++ B).length = A.length + 1 := by
    have := own.1
    rw [List.length_append, cells2_length, cells2_length] at this
    rw [List.length_append]; omega
  have keep : ∀ (b : Nat) (x : Int), w6.heap[b]? = some (Obj.cells #[.int .i64 x] 3 (0, 0)) → w7.cell? ⟨b, 0, none⟩ = some (.int .i64 x) := by
    intro b x hb
    have hbe : w7.heap[b]? = some (Obj.cells #[.int .i64 x] 3 (0, 0)) := by
      rw [grow.block b (blk_lt hb) ?_]
      · exact hb
      · intro e
        have hb5 : b = b5 := by simpa [Value.ownBlock] using e
        subst hb5
        obtain ⟨_, ⟨hv, _⟩ | ⟨g', cap', cur', hv, hg', hh, _⟩⟩ := h5.own
        · cases hv
        · cases hv
          rw [blk_below hh hc] at hb
          simp at hb
    exact blk_cell hbe 0 _ rfl
  have caps : CapsOK w7 (A ++ B) := by
    intro c hcm bb x hx
    rcases List.mem_append.1 hcm with hm | hm
    · exact keep bb x (blk_below (h5.caps c hm bb x hx) hc)
    · exact keep bb x (h6.caps c hm bb x hx)
  obtain ⟨av, cv, hv, _, hq⟩ := chgs_of_row' (cs := A ++ B) (by rw [hlen, cells2_append]; exact own) caps
  simp only [Value.slice.injEq] at hv
  rw [hv.1]
  exact hq

theorem row_ge {X w5 : World} {b n c : Nat} {A : List (Nat × Option (Nat × Int))} (h : Making X w5 (.slice (some ⟨b, 0, none⟩) n c) A) (hn : 0 < A.length) : X.heap.size ≤ b := by
  obtain ⟨g, cap, e, hg, _⟩ := World.ownsRow.form h.own hn
  cases e
  exact hg

end Go.Proofs.Ytanpglfpopbfkaa
