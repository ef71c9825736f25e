/- How a law's arguments that are books, releases, roots, texts or slices of ints are opened. -/
import Derived.Test.YtanpglfpopbfkabGreatDoorPm7
import Derived.ProofKit
import Derived.Lib.SmallJoins
import Derived.SliceStrings
import Derived.Deep.Slices
import Derived.ChangeMaps5
namespace Go.Proofs.YtanpglfpopbfkabGreatDoor
open Go.ChangeShapes Go.WideShapes Go.ChangeAt Go.RowKit Go.Joins

set_option maxRecDepth 100000 in
theorem own : ownKnob Tryz.prog.godebug = none := by kernel_rfl
set_option maxRecDepth 100000 in
theorem laidOut : laidOutB Tryz.prog = true := by kernel_rfl
set_option maxRecDepth 100000 in
theorem cells_int : Tryz.prog.cellsOf 3 = 1 := by kernel_rfl
/-- What is known of a slice of ints that came in. -/
structure InInts (W : World) (a : Option Addr) (n c : Nat) (xs : List Int) : Prop where
  ints : IsInts W a xs
  len : xs.length = n
  cap : n ≤ c
  max : n ≤ maxLen

/-- .. of targets. -/
structure InTgts (W : World) (a : Option Addr) (n c : Nat) (ts : List T3) : Prop where
  tgts : IsTgts W a ts
  len : ts.length = n
  cap : n ≤ c
  max : n ≤ maxLen

theorem ad_spot {W : World} {ad : Addr} {v : Value} (h : W.cell? (ad.add 0) = some v) : ad.spot = none := by
  simpa [Addr.add] using World.cell?_spot h

theorem ad_cell {W : World} {b off i : Nat} {v : Value} (h : W.cell? ((⟨b, off, none⟩ : Addr).add i) = some v) : W.cell? ⟨b, off + i, none⟩ = some v := by
  by_cases hi0 : i = 0
  · subst hi0; simpa [Addr.add] using h
  · simpa [Addr.add, hi0] using h

set_option maxRecDepth 100000 in
theorem open_ints_cells {H : Type} {enc : TypeId × Value → H} {W : World} {fuel : Nat} {v : Value} {x : DataW H × List MemPlace}
    (h : DataW.trod enc Tryz.prog W 0 (fun _ => true) true fuel 22 [v] = some x) :
    ∃ a n c xs, v = .slice a n c ∧ InInts W a n c xs := by
  rcases open_ints Tryz.underlying22 Tryz.underlying3 cells_int h with ⟨hcs, hx⟩ | ⟨ad, len, cap, zs, hcs, _, hl, hm, hz, hx, hcell, _⟩
  · simp at hcs
    subst hcs hx
    exact ⟨none, 0, 0, [], rfl, ⟨.inl rfl, rfl, Nat.le_refl _, by decide⟩⟩
  · simp at hcs hz
    subst hcs hx
    refine ⟨some ad, len, cap, zs.take len, rfl, ?_, by simp; omega, hl, Nat.le_trans hl hm⟩
    by_cases h0 : len = 0
    · exact .inl (by simp [h0])
    obtain ⟨b, off, spot⟩ := ad
    have hs : spot = none := ad_spot (hcell 0 (by omega))
    subst hs
    refine .inr ⟨b, off, rfl, fun i hi => ?_⟩
    simp at hi
    rw [ad_cell (hcell i (by omega))]
    simp [show i < len by omega]

set_option maxRecDepth 100000 in
theorem cells_tgt : Tryz.prog.cellsOf 78 = 3 := by kernel_rfl

set_option maxRecDepth 100000 in
theorem open_tgt {H : Type} {enc : TypeId × Value → H} {W : World} {n : Nat} {cs : List Value} {x : DataW H × List MemPlace} (h : DataW.trod enc Tryz.prog W 0 (fun _ => true) true n 78 cs = some x) :
    ∃ t : T3, cs = tcells t := by
  obtain ⟨xs, k, hk, hxy, hl, hxl, hf⟩ := DataW.trod_struct Tryz.underlying78 h
  rw [cells_tgt] at hl
  match cs, hl with
  | [v0, v1, v2], _ =>
    match xs, hxl with
    | [y0, y1, y2], _ =>
      have g0 := hf 0 _ rfl
      have g1 := hf 1 _ rfl
      have g2 := hf 2 _ rfl
      simp [cells_int] at g0 g1 g2
      obtain ⟨z0, e0, _⟩ := DataW.trod_int Tryz.underlying3 g0
      obtain ⟨z1, e1, _⟩ := DataW.trod_int Tryz.underlying3 g1
      obtain ⟨z2, e2, _⟩ := DataW.trod_int Tryz.underlying3 g2
      simp at e0 e1 e2
      exact ⟨(z0, z1, z2), by rw [e0, e1, e2]; rfl⟩

set_option maxRecDepth 100000 in
theorem open_tgts_cells {H : Type} {enc : TypeId × Value → H} {W : World} {fuel : Nat} {v : Value} {x : DataW H × List MemPlace}
    (h : DataW.trod enc Tryz.prog W 0 (fun _ => true) true fuel 25 [v] = some x) :
    ∃ a n c ts, v = .slice a n c ∧ InTgts W a n c ts := by
  rcases Go.Deep.open_slice Tryz.underlying25 h with ⟨hcs, hx⟩ | ⟨ad, len, cap, m, n, D, Pl, hcs, _, hl, hm, hmm, hx, hV⟩
  · simp at hcs
    subst hcs
    exact ⟨none, 0, 0, [], rfl, ⟨.inl rfl, rfl, Nat.le_refl _, by decide⟩⟩
  · simp at hcs hmm
    subst hcs hmm
    have hone : ∀ i, ∃ t : T3, i < len → ∀ j u, (tcells t)[j]? = some u → W.cell? ((ad.add (i * 3)).add j) = some u := by
      intro i
      by_cases hi : i < len
      · obtain ⟨cs', h1, h2⟩ := hV i (by omega)
        obtain ⟨t, rfl⟩ := open_tgt h2
        rw [cells_tgt] at h1
        obtain ⟨_, hlen, hcell⟩ := World.cells?_some h1
        refine ⟨t, fun _ j u hj => ?_⟩
        have hj3 : j < 3 := by
          have := (List.getElem?_eq_some_iff.1 hj).1
          simpa [tcells] using this
        rw [hcell j (by simpa [tcells] using hj3)]
        exact hj
      · exact ⟨(0, 0, 0), fun h => absurd h hi⟩
    obtain ⟨R, hR⟩ := Classical.axiomOfChoice hone
    refine ⟨some ad, len, m, (List.range len).map R, rfl, ?_, by simp, hl, Nat.le_trans hl hm⟩
    by_cases h0 : len = 0
    · exact .inl (by simp [h0])
    obtain ⟨b, off, spot⟩ := ad
    have hs : spot = none := by
      have := hR 0 (by omega) 0 _ rfl
      rw [Nat.zero_mul] at this
      have := World.cell?_spot this
      simpa [Addr.add] using this
    subst hs
    refine .inr ⟨b, off, rfl, fun i t hi => ?_⟩
    have hi2 : i < len := by
      have := (List.getElem?_eq_some_iff.1 hi).1
      simpa using this
    have hri : R i = t := by simpa [hi2] using hi
    have hc := hR i hi2
    rw [hri] at hc
    have hadd : (⟨b, off, none⟩ : Addr).add (i * 3) = ⟨b, off + i * 3, none⟩ := by unfold Addr.add; split <;> simp_all
    rw [hadd] at hc
    exact ⟨by simpa [Addr.add] using hc 0 _ rfl, ad_cell (hc 1 _ rfl), ad_cell (hc 2 _ rfl)⟩

set_option maxRecDepth 100000 in
theorem open_rel {H : Type} {enc : TypeId × Value → H} {W : World} {r : Reach} {b0 : Nat} {v : Value} {d : DataW H} {p : List MemPlace}
    (hv : Value.okWide Tryz.prog W r b0 27 v) (h : DataW.Trod enc Tryz.prog W 0 (fun _ => true) true 27 v d p) :
    ∃ x y a n c ts, v = relv x y a n c ∧ InTgts W a n c ts := by
  obtain ⟨c0, c1, c2, y0, y1, y2, m, rfl, rfl, rfl, hy0, hy1, hy2⟩ := open_agg3 (by exact Tryz.underlying27) (by kernel_rfl) (by kernel_rfl) hv h
  obtain ⟨f, e1, _, _⟩ := DataW.trod_int Tryz.underlying3 hy0
  obtain ⟨g, e2, _, _⟩ := DataW.trod_int Tryz.underlying3 hy1
  obtain ⟨a, n, c, ts, rfl, hi⟩ := open_tgts_cells hy2
  simp at e1 e2
  subst e1 e2
  exact ⟨f, g, a, n, c, ts, rfl, hi⟩

set_option maxRecDepth 100000 in
theorem open_root {H : Type} {enc : TypeId × Value → H} {W : World} {r : Reach} {b0 : Nat} {v : Value} {d : DataW H} {p : List MemPlace}
    (hv : Value.okWide Tryz.prog W r b0 24 v) (h : DataW.Trod enc Tryz.prog W 0 (fun _ => true) true 24 v d p) :
    ∃ x a n c y xs, v = rv x a n c y ∧ InInts W a n c xs := by
  obtain ⟨c0, c1, c2, y0, y1, y2, m, rfl, rfl, rfl, hy0, hy1, hy2⟩ := open_agg3 (by exact Tryz.underlying24) (by kernel_rfl) (by kernel_rfl) hv h
  obtain ⟨f, e1, _, _⟩ := DataW.trod_int Tryz.underlying3 hy0
  obtain ⟨g, e2, _, _⟩ := DataW.trod_int Tryz.underlying3 hy2
  obtain ⟨a, n, c, xs, rfl, hi⟩ := open_ints_cells hy1
  simp at e1 e2
  subst e1 e2
  exact ⟨f, a, n, c, g, xs, rfl, hi⟩

end Go.Proofs.YtanpglfpopbfkabGreatDoor
