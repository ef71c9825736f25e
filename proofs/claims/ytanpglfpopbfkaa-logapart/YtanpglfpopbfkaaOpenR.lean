/- How a law's arguments that are records, or lists of records, are opened. -/
import Derived.Test.YtanpglfpopbfkaaOpen
import Derived.Test.YtanpglfpopbfkaaApp
import Derived.Deep.Slices
namespace Go.Proofs.Ytanpglfpopbfkaa
open Go.ChangeShapes Go.WideShapes Go.ChangeAt Go.RowKit Go.Joins

set_option maxRecDepth 100000 in
theorem cells_rec : Try.prog.cellsOf 43 = 1 := by kernel_rfl

set_option maxRecDepth 100000 in
theorem open_rec_cells {H : Type} {enc : TypeId × Value → H} {W : World} {fuel : Nat} {v : Value} {x : DataW H × List MemPlace}
    (h : DataW.trod enc Try.prog W 0 (fun _ => true) true fuel 43 [v] = some x) :
    ∃ a n c xs, v = .slice a n c ∧ InInts W a n c xs := by
  rcases open_ints Try.underlying43 Try.underlying3 cells_int h with ⟨hcs, hx⟩ | ⟨ad, len, cap, zs, hcs, _, hl, hm, hz, hx, hcell, _⟩
  · simp at hcs
    subst hcs hx
    exact ⟨none, 0, 0, [], rfl, ⟨.inl rfl, rfl, Nat.le_refl _, by decide, .inl rfl⟩⟩
  · simp at hcs hz
    subst hcs hx
    refine ⟨some ad, len, cap, zs.take len, rfl, ?_⟩
    obtain ⟨b, off, spot⟩ := ad
    have hspot : 0 < cap → spot = none := fun h0 => by simpa [Addr.add] using World.cell?_spot (hcell 0 (by omega))
    refine ⟨?_, by simp; omega, hl, hm, ?_⟩
    · by_cases h0 : len = 0
      · exact .inl (by simp [h0])
      · have hs := hspot (by omega)
        subst hs
        refine .inr ⟨b, off, rfl, fun i hi => ?_⟩
        simp at hi
        have := hcell i (by omega)
        by_cases hi0 : i = 0
        · subst hi0; simpa [Addr.add, show 0 < len by omega] using this
        · simpa [Addr.add, hi0, show i < len by omega] using this
    · by_cases h0 : cap = 0
      · exact .inl h0
      · have hs := hspot (by omega)
        subst hs
        exact .inr ⟨b, off, rfl⟩

/-- What is known of a list of records that came in. -/
structure InRecs (W : World) (a : Option Addr) (n c : Nat) (rs : List (List Int)) : Prop where
  recs : IsRecs W a rs
  len : rs.length = n
  cap : n ≤ c
  max : c ≤ maxLen
  row : c = 0 ∨ ∃ b off, a = some ⟨b, off, none⟩

set_option maxRecDepth 100000 in
theorem open_recs_cells {H : Type} {enc : TypeId × Value → H} {W : World} {fuel : Nat} {v : Value} {x : DataW H × List MemPlace}
    (h : DataW.trod enc Try.prog W 0 (fun _ => true) true fuel 44 [v] = some x) :
    ∃ a n c rs, v = .slice a n c ∧ InRecs W a n c rs := by
  rcases Go.Deep.open_slice1 Try.underlying44 cells_rec h with ⟨hcs, hx⟩ | ⟨ad, len, cap, m, n, V, D, Pl, hcs, _, hl, hm, hmm, hx, hV⟩
  · simp at hcs
    subst hcs
    exact ⟨none, 0, 0, [], rfl, ⟨.inl rfl, rfl, Nat.le_refl _, by decide, .inl rfl⟩⟩
  · simp at hcs hmm
    subst hcs hmm
    have hone : ∀ i, ∃ xs : List Int, i < len → ∃ ai ci, V i = .slice ai xs.length ci ∧ IsInts W ai xs ∧ xs.length ≤ ci ∧ ci ≤ maxLen := by
      intro i
      by_cases hi : i < len
      · obtain ⟨ai, ni, ci, xs, e, q⟩ := open_rec_cells (hV i (by omega)).2
        refine ⟨xs, fun _ => ⟨ai, ci, ?_, q.ints, ?_, q.max⟩⟩
        · rw [e, q.len]
        · rw [q.len]; exact q.cap
      · exact ⟨[], fun h => absurd h hi⟩
    obtain ⟨R, hR⟩ := Classical.axiomOfChoice hone
    refine ⟨some ad, len, m, (List.range len).map R, rfl, ?_⟩
    obtain ⟨b, off, spot⟩ := ad
    have hspot : 0 < m → spot = none := fun h0 => by simpa [Addr.add] using World.cell?_spot (hV 0 h0).1
    refine ⟨?_, by simp, hl, hm, ?_⟩
    · by_cases h0 : len = 0
      · exact .inl (by simp [h0])
      · have hs := hspot (by omega)
        subst hs
        refine .inr ⟨b, off, rfl, fun i r hi => ?_⟩
        have hi2 : i < len := by
          have := (List.getElem?_eq_some_iff.1 hi).1
          simpa using this
        have hri : R i = r := by simpa [hi2] using hi
        subst hri
        obtain ⟨ai, ci, q1, q2, q3⟩ := hR i hi2
        have hcell := (hV i (by omega)).1
        rw [q1] at hcell
        refine ⟨ai, ci, ?_, q2, q3⟩
        by_cases hi0 : i = 0
        · subst hi0; simpa [Addr.add] using hcell
        · simpa [Addr.add, hi0] using hcell
    · by_cases h0 : m = 0
      · exact .inl h0
      · have hs := hspot (by omega)
        subst hs
        exact .inr ⟨b, off, rfl⟩

set_option maxRecDepth 100000 in
theorem open_rec {H : Type} {enc : TypeId × Value → H} {W : World} {r : Reach} {b0 : Nat} {v : Value} {d : DataW H} {p : List MemPlace}
    (hv : Value.okWide Try.prog W r b0 43 v) (h : DataW.Trod enc Try.prog W 0 (fun _ => true) true 43 v d p) :
    ∃ a n c xs, v = .slice a n c ∧ InInts W a n c xs := by
  obtain ⟨a2, n2, c2, rfl⟩ := okWide_slice Try.underlying43 hv
  obtain ⟨m, hf⟩ := h
  exact open_rec_cells (by simpa [Value.cells] using hf)

set_option maxRecDepth 100000 in
theorem open_recs {H : Type} {enc : TypeId × Value → H} {W : World} {r : Reach} {b0 : Nat} {v : Value} {d : DataW H} {p : List MemPlace}
    (hv : Value.okWide Try.prog W r b0 44 v) (h : DataW.Trod enc Try.prog W 0 (fun _ => true) true 44 v d p) :
    ∃ a n c rs, v = .slice a n c ∧ InRecs W a n c rs := by
  obtain ⟨a2, n2, c2, rfl⟩ := okWide_slice Try.underlying44 hv
  obtain ⟨m, hf⟩ := h
  exact open_recs_cells (by simpa [Value.cells] using hf)

end Go.Proofs.Ytanpglfpopbfkaa
