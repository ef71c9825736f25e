/- Lists of changes in memory: rows of one's own, what they catch. -/
import Derived.Test.YtanpglfpopbfkaaErased0
import Derived.Test.YtanpglfpopbfkaaOwn
namespace Go.Proofs.Ytanpglfpopbfkaa
open Go.RowKit

def CapsOK (w : World) (cs : List (Nat × Option (Nat × Int))) : Prop := ∀ c ∈ cs, ∀ bb x, c.2 = some (bb, x) → w.cell? ⟨bb, 0, none⟩ = some (.int .i64 x)

theorem CapsOK.below {w w' : World} {cs : List (Nat × Option (Nat × Int))} (h : CapsOK w cs) (hb : Below w.heap.size w w') : CapsOK w' cs := fun c hc bb x hx => by
  have := h c hc bb x hx
  rw [hb.cell (cell_lt this)]; exact this
theorem CapsOK.append {w : World} {A B : List (Nat × Option (Nat × Int))} (h : CapsOK w A) (h2 : CapsOK w B) : CapsOK w (A ++ B) := fun c hc => by
  rcases List.mem_append.1 hc with hc | hc
  · exact h c hc
  · exact h2 c hc

theorem IsChgs.caps {w : World} {a : Option Addr} {cs : List (Nat × Option (Nat × Int))} (h : IsChgs w a cs) : CapsOK w cs := by
  rcases h with rfl | ⟨b, _, hc⟩
  · intro c hc; cases hc
  · intro c hc' bb x hx
    obtain ⟨i, hi, rfl⟩ := List.getElem_of_mem hc'
    exact (hc i _ (List.getElem?_eq_getElem hi)).2.2 bb x hx

theorem chgs_of_row {w0 w : World} {v : Value} {cs : List (Nat × Option (Nat × Int))} (h : w.ownsRow w0.heap.size 94 2 v cs.length (cells2 cs)) (hcap : CapsOK w cs) : ∃ a c, v = .slice a cs.length c ∧ cs.length ≤ c ∧ IsChgs w a cs := by
  obtain ⟨_, ⟨hv, hn⟩ | ⟨g, cap, cur, hv, hg, hh, hc, _, _, ht⟩⟩ := h
  · exact ⟨none, 0, by rw [hv, hn], by omega, .inl (List.eq_nil_of_length_eq_zero hn)⟩
  · refine ⟨some ⟨g, 0, none⟩, cap, hv, hc, .inr ⟨g, rfl, fun i c hi => ?_⟩⟩
    have hlt : i < cs.length := (List.getElem?_eq_some_iff.1 hi).1
    have hcg := cells2_get cs i c hi
    have get : ∀ j v, j < cs.length * 2 → (cells2 cs)[j]? = some v → cur[j]? = some v := by
      intro j v hj hv
      rw [← ht] at hv
      simpa [hj] using hv
    exact ⟨blk_cell hh _ _ (get _ _ (by omega) (by rw [Nat.mul_comm]; exact hcg.1)), blk_cell hh _ _ (get _ _ (by omega) (by rw [Nat.mul_comm]; exact hcg.2)), fun bb x hx => hcap c (List.mem_of_getElem? hi) bb x hx⟩

theorem cells2_one (cs : List (Nat × Option (Nat × Int))) : ∀ u ∈ cells2 cs, u.oneCell' = true := by
  intro u hu
  simp only [cells2, List.mem_flatMap] at hu
  obtain ⟨c, _, hu⟩ := hu
  simp at hu
  rcases hu with rfl | rfl
  · rfl
  · cases h : c.2 with
    | none => rfl
    | some p => rfl

theorem cells2_append (A B : List (Nat × Option (Nat × Int))) : cells2 (A ++ B) = cells2 A ++ cells2 B := by simp [cells2]

theorem chgs_news {w : World} {b : Nat} {cs : List (Nat × Option (Nat × Int))} (h : IsChgs w (some ⟨b, 0, none⟩) cs) : ∀ j u, (cells2 cs)[j]? = some u → w.cell? ((⟨b, 0, none⟩ : Addr).add j) = some u := by
  intro j u hu
  have hj : j < (cells2 cs).length := (List.getElem?_eq_some_iff.1 hu).1
  rw [cells2_length] at hj
  rcases h with rfl | ⟨b', e, hc⟩
  · simp at hj
  · cases e
    obtain ⟨i, hi⟩ : ∃ i, j = 2 * i ∨ j = 2 * i + 1 := ⟨j / 2, by omega⟩
    have hil : i < cs.length := by omega
    have hg := cells2_get cs i cs[i] (List.getElem?_eq_getElem hil)
    have hh := hc i cs[i] (List.getElem?_eq_getElem hil)
    rcases hi with rfl | rfl
    · rw [hg.1] at hu
      cases hu
      by_cases h0 : 2 * i = 0
      · rw [h0]; have := hh.1; rw [show i * 2 = 0 by omega] at this; simpa [Addr.add] using this
      · have := hh.1; rw [Nat.mul_comm] at this; simpa [Addr.add, h0] using this
    · rw [hg.2] at hu
      cases hu
      have := hh.2.1; rw [Nat.mul_comm] at this; simpa [Addr.add] using this

theorem ownsRow_keeps {w w' : World} {base : Nat} {e : TypeId} {size n : Nat} {v : Value} {xs : List Value} (h : w.ownsRow base e size v n xs) (hb : Below w.heap.size w w') : w'.ownsRow base e size v n xs := by
  obtain ⟨q, ⟨hv, hn⟩ | ⟨g, cap, cur, hv, hg, hh, r⟩⟩ := h
  · exact ⟨q, .inl ⟨hv, hn⟩⟩
  · exact ⟨q, .inr ⟨g, cap, cur, hv, hg, blk_below hh hb, r⟩⟩

end Go.Proofs.Ytanpglfpopbfkaa
