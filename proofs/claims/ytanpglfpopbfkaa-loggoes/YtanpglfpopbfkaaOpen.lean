/- How a law's arguments that are flashes or slices of ints are opened. -/
import Derived.Test.YtanpglfpopbfkaaBase
import Derived.ProofKit
import Derived.Lib.SmallJoins
import Derived.SizedLaws
namespace Go.Proofs.Ytanpglfpopbfkaa
open Go.ChangeShapes Go.WideShapes Go.ChangeAt Go.RowKit Go.Joins

theorem own : ownKnob Try.prog.godebug = none := by kernel_rfl
theorem laidOut : laidOutB Try.prog = true := by kernel_rfl
theorem cells_int : Try.prog.cellsOf 3 = 1 := by kernel_rfl
theorem cells_flash : Try.prog.cellsOf 28 = 2 := by kernel_rfl
theorem bytes_int : Try.prog.bytesOf 3 = 8 := by kernel_rfl

/-- What is known of a slice of ints that came in. -/
structure InInts (W : World) (a : Option Addr) (n c : Nat) (xs : List Int) : Prop where
  ints : IsInts W a xs
  len : xs.length = n
  cap : n ≤ c
  max : c ≤ maxLen
  row : c = 0 ∨ ∃ b off, a = some ⟨b, off, none⟩

theorem open_ints_cells {H : Type} {enc : TypeId × Value → H} {W : World} {fuel : Nat} {v : Value} {x : DataW H × List MemPlace}
    (h : DataW.trod enc Try.prog W 0 (fun _ => true) true fuel 24 [v] = some x) :
    ∃ a n c xs, v = .slice a n c ∧ InInts W a n c xs ∧ ((x.1 = .nil ∧ c = 0) ∨ ∃ e s, x.1 = .slice e s ∧ e.length + s.length = c) := by
  rcases open_ints Try.underlying24 Try.underlying3 cells_int h with ⟨hcs, hx⟩ | ⟨ad, len, cap, zs, hcs, _, hl, hm, hz, hx, hcell, _⟩
  · simp at hcs
    subst hcs hx
    exact ⟨none, 0, 0, [], rfl, ⟨.inl rfl, rfl, Nat.le_refl _, by decide, .inl rfl⟩, .inl ⟨rfl, rfl⟩⟩
  · simp at hcs hz
    subst hcs hx
    refine ⟨some ad, len, cap, zs.take len, rfl, ?_, .inr ⟨_, _, rfl, by simp [lits]; omega⟩⟩
    obtain ⟨b, off, spot⟩ := ad
    have hspot : 0 < cap → spot = none := fun h0 => by simpa [Addr.add] using World.cell?_spot (hcell 0 (by omega))
    refine ⟨?_, by simp; omega, hl, hm, ?_⟩
    · by_cases h0 : len = 0
      · exact .inl (by simp [h0])
      · have hs := hspot (by omega)
        subst hs
        refine .inr ⟨b, off, rfl, fun i hi => ?_⟩
        simp at hi
        have := hcell i (by omega)
        by_cases hi0 : i = 0
        · subst hi0; simpa [Addr.add, show 0 < len by omega] using this
        · simpa [Addr.add, hi0, show i < len by omega] using this
    · by_cases h0 : cap = 0
      · exact .inl h0
      · have hs := hspot (by omega)
        subst hs
        exact .inr ⟨b, off, rfl⟩

set_option maxRecDepth 100000 in
theorem open_flash {H : Type} {enc : TypeId × Value → H} {W : World} {r : Reach} {b0 : Nat} {v : Value} {d : DataW H} {p : List MemPlace}
    (hv : Value.okWide Try.prog W r b0 28 v) (h : DataW.Trod enc Try.prog W 0 (fun _ => true) true 28 v d p) :
    ∃ a n c xs fuel, v = .agg #[.slice a n c, .int .i64 fuel] ∧ InInts W a n c xs ∧ (Lit.int .i64 fuel).wf = true := by
  obtain ⟨c0, c1, y0, y1, m, rfl, rfl, rfl, hy0, hy1⟩ := open_agg2 (by exact Try.underlying28) (by kernel_rfl) cells_flash hv h
  obtain ⟨a, n, c, xs, rfl, hi, _⟩ := open_ints_cells hy0
  obtain ⟨f, e1, rfl, wf⟩ := DataW.trod_int Try.underlying3 hy1
  simp at e1
  subst e1
  exact ⟨a, n, c, xs, f, rfl, hi, wf⟩

theorem wf_bounds {f : Int} (h : (Lit.int .i64 f).wf = true) : -9223372036854775808 ≤ f ∧ f ≤ 9223372036854775807 := by
  simp [Lit.wf, IntKind.min, IntKind.max, IntKind.bits, IntKind.signed] at h
  omega

end Go.Proofs.Ytanpglfpopbfkaa
