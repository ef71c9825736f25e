/- How a law's arguments that are books, releases, roots, texts or slices of ints are opened. How a law's arguments that are signatures, what is trusted, or offers are opened. How a law's arguments that are units, or messages, are opened. How a law's arguments that are gateways, or campaigns, are opened. How an argument that is a list of ints is opened, with its room. -/
import Derived.Test.YtgngpmgjoifepaaGreatDoorPt9
import Derived.ProofKit
import Derived.Lib.SmallJoins
import Derived.SliceStrings
import Derived.Deep.Slices
import Derived.ChangeMaps5
import Derived.Test.YtgngpmgjoifepaaGreatDoorPt22
import Derived.Test.YtgngpmgjoifepaaGreatDoorPt12
import Derived.Test.YtgngpmgjoifepaaGreatDoorPt25
import Derived.SizedLaws
namespace Go.Proofs.YtgngpmgjoifepaaGreatDoor
open Go.ChangeShapes Go.WideShapes Go.ChangeAt Go.RowKit Go.Joins

set_option maxRecDepth 100000 in
theorem own : ownKnob Tryz.prog.godebug = none := by kernel_rfl
set_option maxRecDepth 100000 in
theorem laidOut : laidOutB Tryz.prog = true := by kernel_rfl
set_option maxRecDepth 100000 in
theorem cells_int : Tryz.prog.cellsOf 3 = 1 := by kernel_rfl
set_option maxRecDepth 100000 in
theorem cells_str : Tryz.prog.cellsOf 9 = 1 := by kernel_rfl

structure InInts (W : World) (a : Option Addr) (n c : Nat) (xs : List Int) : Prop where
  ints : IsInts W a xs
  len : xs.length = n
  cap : n ≤ c
  max : n ≤ maxLen

structure InStrs (W : World) (a : Option Addr) (n c : Nat) (ss : List ByteArray) : Prop where
  strs : IsStrs W a ss
  len : ss.length = n
  cap : n ≤ c
  max : n ≤ maxLen
  short : ∀ s ∈ ss, s.size ≤ maxLen

structure InTgts (W : World) (a : Option Addr) (n c : Nat) (ts : List T3) : Prop where
  tgts : IsTgts W a ts
  len : ts.length = n
  cap : n ≤ c
  max : n ≤ maxLen

theorem ad_spot {W : World} {ad : Addr} {v : Value} (h : W.cell? (ad.add 0) = some v) : ad.spot = none := by
  simpa [Addr.add] using World.cell?_spot h

theorem ad_cell {W : World} {b off i : Nat} {v : Value} (h : W.cell? ((⟨b, off, none⟩ : Addr).add i) = some v) : W.cell? ⟨b, off + i, none⟩ = some v := by
  by_cases hi0 : i = 0
  { subst hi0; simpa [Addr.add] using h }
  {
  simpa [Addr.add, hi0] using h

  }
set_option maxRecDepth 100000 in
theorem open_ints_cells {H : Type} {enc : TypeId × Value → H} {W : World} {fuel : Nat} {v : Value} {x : DataW H × List MemPlace}
    (h : DataW.trod enc Tryz.prog W 0 (fun _ => true) true fuel 25 [v] = some x) :
    ∃ a n c xs, v = .slice a n c ∧ InInts W a n c xs := by
  rcases open_ints Tryz.underlying25 Tryz.underlying3 cells_int h with ⟨hcs, hx⟩ | ⟨ad, len, cap, zs, hcs, _, hl, hm, hz, hx, hcell, _⟩
  {
  simp at hcs
  subst hcs hx
  exact ⟨none, 0, 0, [], rfl, ⟨.inl rfl, rfl, Nat.le_refl _, by decide⟩⟩
  }
  {
  simp at hcs hz
  subst hcs hx
  refine ⟨some ad, len, cap, zs.take len, rfl, ?_, by simp; omega, hl, Nat.le_trans hl hm⟩
  by_cases h0 : len = 0
  { exact .inl (by simp [h0]) }
  obtain ⟨b, off, spot⟩ := ad
  have hs : spot = none := ad_spot (hcell 0 (by omega))
  subst hs
  refine .inr ⟨b, off, rfl, fun i hi => ?_⟩
  simp at hi
  rw [ad_cell (hcell i (by omega))]
  simp [show i < len by omega]

  }
set_option maxRecDepth 100000 in
theorem open_strs_cells {H : Type} {enc : TypeId × Value → H} {W : World} {fuel : Nat} {v : Value} {x : DataW H × List MemPlace}
    (h : DataW.trod enc Tryz.prog W 0 (fun _ => true) true fuel 22 [v] = some x) :
    ∃ a n c ss, v = .slice a n c ∧ InStrs W a n c ss := by
  rcases open_strings Tryz.underlying22 Tryz.underlying9 cells_str h with ⟨hcs, hx⟩ | ⟨ad, len, cap, zs, hcs, _, hl, hm, hz, hx, hcell, hsz⟩
  {
  simp at hcs
  subst hcs hx
  exact ⟨none, 0, 0, [], rfl, ⟨.inl rfl, rfl, Nat.le_refl _, by decide, by simp⟩⟩
  }
  {
  simp at hcs hz
  subst hcs hx
  refine ⟨some ad, len, cap, zs.take len, rfl, ?_, by simp; omega, hl, Nat.le_trans hl hm, fun s hs => hsz s (List.mem_of_mem_take hs)⟩
  by_cases h0 : len = 0
  { exact .inl (by simp [h0]) }
  obtain ⟨b, off, spot⟩ := ad
  have hs : spot = none := ad_spot (hcell 0 (by omega))
  subst hs
  refine .inr ⟨b, off, rfl, fun i hi => ?_⟩
  simp at hi
  rw [ad_cell (hcell i (by omega))]
  simp [show i < len by omega]

  }
set_option maxRecDepth 100000 in
theorem cells_tgt : Tryz.prog.cellsOf 104 = 3 := by kernel_rfl

set_option maxRecDepth 100000 in
theorem open_tgt {H : Type} {enc : TypeId × Value → H} {W : World} {n : Nat} {cs : List Value} {x : DataW H × List MemPlace} (h : DataW.trod enc Tryz.prog W 0 (fun _ => true) true n 104 cs = some x) :
    ∃ t : T3, cs = tcells t := by
  obtain ⟨xs, k, hk, hxy, hl, hxl, hf⟩ := DataW.trod_struct Tryz.underlying104 h
  rw [cells_tgt] at hl
  match cs, hl with
  | [v0, v1, v2], _ =>
    match xs, hxl with
    | [y0, y1, y2], _ =>
      have g0 := hf 0 _ rfl
      have g1 := hf 1 _ rfl
      have g2 := hf 2 _ rfl
      simp [cells_int] at g0 g1 g2
      obtain ⟨z0, e0, _⟩ := DataW.trod_int Tryz.underlying3 g0
      obtain ⟨z1, e1, _⟩ := DataW.trod_int Tryz.underlying3 g1
      obtain ⟨z2, e2, _⟩ := DataW.trod_int Tryz.underlying3 g2
      simp at e0 e1 e2
      exact ⟨(z0, z1, z2), by rw [e0, e1, e2]; rfl⟩

set_option maxRecDepth 100000 in
theorem open_tgts_cells {H : Type} {enc : TypeId × Value → H} {W : World} {fuel : Nat} {v : Value} {x : DataW H × List MemPlace}
    (h : DataW.trod enc Tryz.prog W 0 (fun _ => true) true fuel 71 [v] = some x) :
    ∃ a n c ts, v = .slice a n c ∧ InTgts W a n c ts := by
  rcases Go.Deep.open_slice Tryz.underlying71 h with ⟨hcs, hx⟩ | ⟨ad, len, cap, m, n, D, Pl, hcs, _, hl, hm, hmm, hx, hV⟩
  {
  simp at hcs
  subst hcs
  exact ⟨none, 0, 0, [], rfl, ⟨.inl rfl, rfl, Nat.le_refl _, by decide⟩⟩
  }
  {
  simp at hcs hmm
  subst hcs hmm
  have hone : ∀ i, ∃ t : T3, i < len → ∀ j u, (tcells t)[j]? = some u → W.cell? ((ad.add (i * 3)).add j) = some u := by
    intro i
    by_cases hi : i < len
    {
    obtain ⟨cs', h1, h2⟩ := hV i (by omega)
    obtain ⟨t, rfl⟩ := open_tgt h2
    rw [cells_tgt] at h1
    obtain ⟨_, hlen, hcell⟩ := World.cells?_some h1
    refine ⟨t, fun _ j u hj => ?_⟩
    have hj3 : j < 3 := by
      have := (List.getElem?_eq_some_iff.1 hj).1
      simpa [tcells] using this
    rw [hcell j (by simpa [tcells] using hj3)]
    exact hj
    }
    { exact ⟨(0, 0, 0), fun h => absurd h hi⟩ }
  obtain ⟨R, hR⟩ := Classical.axiomOfChoice hone
  refine ⟨some ad, len, m, (List.range len).map R, rfl, ?_, by simp, hl, Nat.le_trans hl hm⟩
  by_cases h0 : len = 0
  { exact .inl (by simp [h0]) }
  obtain ⟨b, off, spot⟩ := ad
  have hs : spot = none := by
    have := hR 0 (by omega) 0 _ rfl
    rw [Nat.zero_mul] at this
    have := World.cell?_spot this
    simpa [Addr.add] using this
  subst hs
  refine .inr ⟨b, off, rfl, fun i t hi => ?_⟩
  have hi2 : i < len := by
    have := (List.getElem?_eq_some_iff.1 hi).1
    simpa using this
  have hri : R i = t := by simpa [hi2] using hi
  have hc := hR i hi2
  rw [hri] at hc
  have hadd : (⟨b, off, none⟩ : Addr).add (i * 3) = ⟨b, off + i * 3, none⟩ := by unfold Addr.add; split <;> simp_all
  rw [hadd] at hc
  exact ⟨by simpa [Addr.add] using hc 0 _ rfl, ad_cell (hc 1 _ rfl), ad_cell (hc 2 _ rfl)⟩

  }
set_option maxRecDepth 100000 in
theorem open_book {H : Type} {enc : TypeId × Value → H} {W : World} {r : Reach} {b0 : Nat} {v : Value} {d : DataW H} {p : List MemPlace}
    (hv : Value.okWide Tryz.prog W r b0 24 v) (h : DataW.Trod enc Tryz.prog W 0 (fun _ => true) true 24 v d p) :
    ∃ a n c ss, v = bookv a n c ∧ InStrs W a n c ss := by
  obtain ⟨cs, rfl, hsz⟩ := okWide_struct Tryz.underlying24 hv
  have hC : Tryz.prog.cellsOf 24 = 1 := by kernel_rfl
  rw [hC] at hsz
  obtain ⟨c0, rfl⟩ : ∃ c0, cs = #[c0] := by
    obtain ⟨l⟩ := cs
    match l, hsz with
    | [c0], _ => exact ⟨c0, rfl⟩
  obtain ⟨fuel, hf⟩ := h
  obtain ⟨xs, k, hk, hxy, hl, hxl, hf⟩ := DataW.trod_struct Tryz.underlying24 hf
  match xs, hxl with
  | [y0], _ =>
    have g0 := hf 0 _ rfl
    have cl : Tryz.prog.cellsOf 22 = 1 := by kernel_rfl
    simp [cl, Value.cells] at g0
    obtain ⟨a, n, c, ss, rfl, hi⟩ := open_strs_cells g0
    exact ⟨a, n, c, ss, rfl, hi⟩

set_option maxRecDepth 100000 in
theorem open_root {H : Type} {enc : TypeId × Value → H} {W : World} {r : Reach} {b0 : Nat} {v : Value} {d : DataW H} {p : List MemPlace}
    (hv : Value.okWide Tryz.prog W r b0 63 v) (h : DataW.Trod enc Tryz.prog W 0 (fun _ => true) true 63 v d p) :
    ∃ x a n c y xs, v = rv x a n c y ∧ InInts W a n c xs := by
  obtain ⟨c0, c1, c2, y0, y1, y2, m, rfl, rfl, rfl, hy0, hy1, hy2⟩ := open_agg3 (by exact Tryz.underlying63) (by kernel_rfl) (by kernel_rfl) hv h
  obtain ⟨f, e1, _, _⟩ := DataW.trod_int Tryz.underlying3 hy0
  obtain ⟨g, e2, _, _⟩ := DataW.trod_int Tryz.underlying3 hy2
  obtain ⟨a, n, c, xs, rfl, hi⟩ := open_ints_cells hy1
  simp at e1 e2
  subst e1 e2
  exact ⟨f, a, n, c, g, xs, rfl, hi⟩

end Go.Proofs.YtgngpmgjoifepaaGreatDoor

namespace Go.Proofs.YtgngpmgjoifepaaGreatDoor
open Go.ChangeShapes Go.WideShapes Go.ChangeAt Go.RowKit Go.Joins

set_option maxRecDepth 100000 in
theorem cells_ints : Tryz.prog.cellsOf 25 = 1 := by kernel_rfl
set_option maxRecDepth 100000 in
theorem cells_sig : Tryz.prog.cellsOf 188 = 2 := by kernel_rfl
set_option maxRecDepth 100000 in
theorem cells_root : Tryz.prog.cellsOf 63 = 3 := by kernel_rfl
set_option maxRecDepth 100000 in
theorem cells_rel : Tryz.prog.cellsOf 73 = 3 := by kernel_rfl
set_option maxRecDepth 100000 in
theorem cells_trust : Tryz.prog.cellsOf 65 = 4 := by kernel_rfl
set_option maxRecDepth 100000 in
theorem cells_offer : Tryz.prog.cellsOf 75 = 7 := by kernel_rfl
set_option maxRecDepth 100000 in
theorem cells_tgts : Tryz.prog.cellsOf 71 = 1 := by kernel_rfl
set_option maxRecDepth 100000 in
theorem cells_roots : Tryz.prog.cellsOf 69 = 1 := by kernel_rfl
set_option maxRecDepth 100000 in
theorem cells_lists : Tryz.prog.cellsOf 70 = 1 := by kernel_rfl

theorem InInts.bi {W : World} {a : Option Addr} {n c : Nat} {xs : List Int} (h : InInts W a n c xs) : BI W a n xs := ⟨h.ints, h.len, h.max⟩
theorem InStrs.bb {W : World} {a : Option Addr} {n c : Nat} {ss : List ByteArray} (h : InStrs W a n c ss) : BB W a n c ss := ⟨h.strs, h.len, h.cap, h.max, h.short⟩
theorem InTgts.bt {W : World} {a : Option Addr} {n c : Nat} {ts : List T3} (h : InTgts W a n c ts) : BT W a n ts := ⟨h.tgts, h.len, h.max⟩

theorem open_ints_room {H : Type} {enc : TypeId × Value → H} {W : World} {fuel : Nat} {v : Value} {x : DataW H × List MemPlace}
    (h : DataW.trod enc Tryz.prog W 0 (fun _ => true) true fuel 25 [v] = some x) :
    ∃ a n c xs, v = .slice a n c ∧ BI W a n xs ∧ n ≤ c ∧ c ≤ maxLen := by
  obtain ⟨a, n, c, xs, rfl, hi⟩ := open_ints_cells h
  refine ⟨a, n, c, xs, rfl, hi.bi, hi.cap, ?_⟩
  rcases open_ints Tryz.underlying25 Tryz.underlying3 cells_int h with ⟨hcs, hx⟩ | ⟨ad, len, cap, zs, hcs, _, hl, hm, hz, hx, hcell, _⟩
  {
  simp at hcs
  rw [hcs.2.2]
  decide
  }
  {
  simp at hcs
  rw [hcs.2.2]
  exact hm

  }
set_option maxRecDepth 100000 in
theorem open_sig {H : Type} {enc : TypeId × Value → H} {W : World} {n : Nat} {cs : List Value} {x : DataW H × List MemPlace} (h : DataW.trod enc Tryz.prog W 0 (fun _ => true) true n 188 cs = some x) :
    ∃ s : S2, cs = [.int .i64 s.1, .int .i64 s.2] := by
  obtain ⟨xs, k, hk, hxy, hl, hxl, hf⟩ := DataW.trod_struct Tryz.underlying188 h
  rw [cells_sig] at hl
  match cs, hl with
  | [v0, v1], _ =>
    match xs, hxl with
    | [y0, y1], _ =>
      have g0 := hf 0 _ rfl
      have g1 := hf 1 _ rfl
      simp [cells_int] at g0 g1
      obtain ⟨z0, e0, _⟩ := DataW.trod_int Tryz.underlying3 g0
      obtain ⟨z1, e1, _⟩ := DataW.trod_int Tryz.underlying3 g1
      simp at e0 e1
      exact ⟨(z0, z1), by rw [e0, e1]⟩

set_option maxRecDepth 100000 in
theorem open_root_cells {H : Type} {enc : TypeId × Value → H} {W : World} {n : Nat} {cs : List Value} {x : DataW H × List MemPlace} (h : DataW.trod enc Tryz.prog W 0 (fun _ => true) true n 63 cs = some x) :
    ∃ (r : Rt) (a : Option Addr) (m c : Nat), cs = [.int .i64 r.v, .slice a m c, .int .i64 r.t] ∧ BI W a m r.ks ∧ m ≤ c ∧ c ≤ maxLen := by
  obtain ⟨xs, k, hk, hxy, hl, hxl, hf⟩ := DataW.trod_struct Tryz.underlying63 h
  rw [cells_root] at hl
  match cs, hl with
  | [v0, v1, v2], _ =>
    match xs, hxl with
    | [y0, y1, y2], _ =>
      have g0 := hf 0 _ rfl
      have g1 := hf 1 _ rfl
      have g2 := hf 2 _ rfl
      simp [cells_int, cells_ints] at g0 g1 g2
      obtain ⟨z0, e0, _⟩ := DataW.trod_int Tryz.underlying3 g0
      obtain ⟨z2, e2, _⟩ := DataW.trod_int Tryz.underlying3 g2
      obtain ⟨a, m, c, ks, rfl, hi, h1, h2⟩ := open_ints_room g1
      simp at e0 e2
      exact ⟨⟨z0, ks, z2⟩, a, m, c, by rw [e0, e2], hi, h1, h2⟩

set_option maxRecDepth 100000 in
theorem open_rel_cells {H : Type} {enc : TypeId × Value → H} {W : World} {n : Nat} {cs : List Value} {x : DataW H × List MemPlace} (h : DataW.trod enc Tryz.prog W 0 (fun _ => true) true n 73 cs = some x) :
    ∃ (v u : Int) (a : Option Addr) (m c : Nat) (ts : List T3), cs = [.int .i64 v, .int .i64 u, .slice a m c] ∧ BT W a m ts := by
  obtain ⟨xs, k, hk, hxy, hl, hxl, hf⟩ := DataW.trod_struct Tryz.underlying73 h
  rw [cells_rel] at hl
  match cs, hl with
  | [v0, v1, v2], _ =>
    match xs, hxl with
    | [y0, y1, y2], _ =>
      have g0 := hf 0 _ rfl
      have g1 := hf 1 _ rfl
      have g2 := hf 2 _ rfl
      simp [cells_int, cells_tgts] at g0 g1 g2
      obtain ⟨z0, e0, _⟩ := DataW.trod_int Tryz.underlying3 g0
      obtain ⟨z1, e1, _⟩ := DataW.trod_int Tryz.underlying3 g1
      obtain ⟨a, m, c, ts, rfl, hi⟩ := open_tgts_cells g2
      simp at e0 e1
      exact ⟨z0, z1, a, m, c, ts, by rw [e0, e1], hi.bt⟩

set_option maxRecDepth 100000 in
theorem open_sigs_cells {H : Type} {enc : TypeId × Value → H} {W : World} {fuel : Nat} {v : Value} {x : DataW H × List MemPlace}
    (h : DataW.trod enc Tryz.prog W 0 (fun _ => true) true fuel 61 [v] = some x) :
    ∃ a n c l, v = .slice a n c ∧ BG W a n l := by
  rcases Go.Deep.open_slice Tryz.underlying61 h with ⟨hcs, hx⟩ | ⟨ad, len, cap, m, n, D, Pl, hcs, _, hl, hm, hmm, hx, hV⟩
  {
  simp at hcs
  subst hcs
  exact ⟨none, 0, 0, [], rfl, ⟨.inl rfl, rfl, by decide⟩⟩
  }
  {
  simp at hcs hmm
  subst hcs hmm
  have hone : ∀ i, ∃ t : S2, i < len → ∀ j u, ([Value.int .i64 t.1, .int .i64 t.2] : List Value)[j]? = some u → W.cell? ((ad.add (i * 2)).add j) = some u := by
    intro i
    by_cases hi : i < len
    {
    obtain ⟨cs', h1, h2⟩ := hV i (by omega)
    obtain ⟨t, rfl⟩ := open_sig h2
    rw [cells_sig] at h1
    obtain ⟨_, hlen, hcell⟩ := World.cells?_some h1
    refine ⟨t, fun _ j u hj => ?_⟩
    have hj3 : j < 2 := by
      have := (List.getElem?_eq_some_iff.1 hj).1
      simpa using this
    rw [hcell j (by simpa using hj3)]
    exact hj
    }
    { exact ⟨(0, 0), fun h => absurd h hi⟩ }
  obtain ⟨R, hR⟩ := Classical.axiomOfChoice hone
  refine ⟨some ad, len, m, (List.range len).map R, rfl, ?_, by simp, Nat.le_trans hl hm⟩
  by_cases h0 : len = 0
  { exact .inl (by simp [h0]) }
  obtain ⟨b, off, spot⟩ := ad
  have hs : spot = none := by
    have := hR 0 (by omega) 0 _ rfl
    rw [Nat.zero_mul] at this
    have := World.cell?_spot this
    simpa [Addr.add] using this
  subst hs
  refine .inr ⟨b, off, rfl, fun i t hi => ?_⟩
  have hi2 : i < len := by
    have := (List.getElem?_eq_some_iff.1 hi).1
    simpa using this
  have hri : R i = t := by simpa [hi2] using hi
  have hc := hR i hi2
  rw [hri] at hc
  have hadd : (⟨b, off, none⟩ : Addr).add (i * 2) = ⟨b, off + i * 2, none⟩ := by unfold Addr.add; split <;> simp_all
  rw [hadd] at hc
  exact ⟨by simpa [Addr.add] using hc 0 _ rfl, ad_cell (hc 1 _ rfl)⟩

  }
set_option maxRecDepth 100000 in
theorem open_lists_cells {H : Type} {enc : TypeId × Value → H} {W : World} {fuel : Nat} {v : Value} {x : DataW H × List MemPlace}
    (h : DataW.trod enc Tryz.prog W 0 (fun _ => true) true fuel 70 [v] = some x) :
    ∃ a n c ls, v = .slice a n c ∧ BL W a n ls := by
  rcases Go.Deep.open_slice Tryz.underlying70 h with ⟨hcs, hx⟩ | ⟨ad, len, cap, m, n, D, Pl, hcs, _, hl, hm, hmm, hx, hV⟩
  {
  simp at hcs
  subst hcs
  exact ⟨none, 0, 0, [], rfl, ⟨.inl rfl, rfl, by decide⟩⟩
  }
  {
  simp at hcs hmm
  subst hcs hmm
  have hone : ∀ i, ∃ t : List Int × Option Addr × Nat, i < len → W.cell? (ad.add i) = some (.slice t.2.1 t.1.length t.2.2) ∧ IsInts W t.2.1 t.1 ∧ t.1.length ≤ t.2.2 ∧ t.2.2 ≤ maxLen := by
    intro i
    by_cases hi : i < len
    {
    obtain ⟨cs', h1, h2⟩ := hV i (by omega)
    rw [cells_ints] at h1
    obtain ⟨_, hlen, hcell⟩ := World.cells?_some h1
    match cs', hlen with
    | [u0], _ =>
      obtain ⟨a, n', c, xs, rfl, hi', g1, g2⟩ := open_ints_room h2
      refine ⟨(xs, a, c), fun _ => ⟨?_, hi'.at_, by rw [hi'.len]; exact g1, g2⟩⟩
      have := hcell 0 (by simp)
      rw [Nat.mul_one] at this
      rw [hi'.len]
      simpa [Addr.add] using this
    }
    { exact ⟨([], none, 0), fun h => absurd h hi⟩ }
  obtain ⟨R, hR⟩ := Classical.axiomOfChoice hone
  refine ⟨some ad, len, m, (List.range len).map (fun i => (R i).1), rfl, ?_, by simp, Nat.le_trans hl hm⟩
  by_cases h0 : len = 0
  { exact .inl (by simp [h0]) }
  obtain ⟨b, off, spot⟩ := ad
  have hs : spot = none := by
    have := (hR 0 (by omega)).1
    have := World.cell?_spot this
    simpa [Addr.add] using this
  subst hs
  refine .inr ⟨b, off, rfl, fun i t hi => ?_⟩
  have hi2 : i < len := by
    have := (List.getElem?_eq_some_iff.1 hi).1
    simpa using this
  have hri : (R i).1 = t := by simpa [hi2] using hi
  obtain ⟨c1, c2, c3, c4⟩ := hR i hi2
  rw [hri] at c1 c2 c3
  exact ⟨(R i).2.1, (R i).2.2, ad_cell c1, c2, c3, c4⟩

  }
set_option maxRecDepth 100000 in
theorem open_roots_cells {H : Type} {enc : TypeId × Value → H} {W : World} {fuel : Nat} {v : Value} {x : DataW H × List MemPlace}
    (h : DataW.trod enc Tryz.prog W 0 (fun _ => true) true fuel 69 [v] = some x) :
    ∃ a n c rs, v = .slice a n c ∧ BR W a n rs := by
  rcases Go.Deep.open_slice Tryz.underlying69 h with ⟨hcs, hx⟩ | ⟨ad, len, cap, m, n, D, Pl, hcs, _, hl, hm, hmm, hx, hV⟩
  {
  simp at hcs
  subst hcs
  exact ⟨none, 0, 0, [], rfl, ⟨.inl rfl, rfl, by decide⟩⟩
  }
  {
  simp at hcs hmm
  subst hcs hmm
  have hone : ∀ i, ∃ t : Rt × Option Addr × Nat, i < len → (∀ j u, ([Value.int .i64 t.1.v, .slice t.2.1 t.1.ks.length t.2.2, .int .i64 t.1.t] : List Value)[j]? = some u → W.cell? ((ad.add (i * 3)).add j) = some u) ∧ IsInts W t.2.1 t.1.ks ∧ t.1.ks.length ≤ t.2.2 ∧ t.2.2 ≤ maxLen := by
    intro i
    by_cases hi : i < len
    {
    obtain ⟨cs', h1, h2⟩ := hV i (by omega)
    obtain ⟨r, a, n', c, rfl, hi', g1, g2⟩ := open_root_cells h2
    rw [cells_root] at h1
    obtain ⟨_, hlen, hcell⟩ := World.cells?_some h1
    refine ⟨(r, a, c), fun _ => ⟨fun j u hj => ?_, hi'.at_, by rw [hi'.len]; exact g1, g2⟩⟩
    have hj3 : j < 3 := by
      have := (List.getElem?_eq_some_iff.1 hj).1
      simpa using this
    rw [hcell j (by simpa using hj3)]
    rw [hi'.len] at hj
    exact hj
    }
    { exact ⟨(⟨0, [], 0⟩, none, 0), fun h => absurd h hi⟩ }
  obtain ⟨R, hR⟩ := Classical.axiomOfChoice hone
  refine ⟨some ad, len, m, (List.range len).map (fun i => (R i).1), rfl, ?_, by simp, Nat.le_trans hl hm⟩
  by_cases h0 : len = 0
  { exact .inl (by simp [h0]) }
  obtain ⟨b, off, spot⟩ := ad
  have hs : spot = none := by
    have := (hR 0 (by omega)).1 0 _ rfl
    rw [Nat.zero_mul] at this
    have := World.cell?_spot this
    simpa [Addr.add] using this
  subst hs
  refine .inr ⟨b, off, rfl, fun i t hi => ?_⟩
  have hi2 : i < len := by
    have := (List.getElem?_eq_some_iff.1 hi).1
    simpa using this
  have hri : (R i).1 = t := by simpa [hi2] using hi
  obtain ⟨hc, c2, c3, c4⟩ := hR i hi2
  rw [hri] at hc c2 c3
  have hadd : (⟨b, off, none⟩ : Addr).add (i * 3) = ⟨b, off + i * 3, none⟩ := by unfold Addr.add; split <;> simp_all
  rw [hadd] at hc
  exact ⟨(R i).2.1, (R i).2.2, by simpa [Addr.add] using hc 0 _ rfl, ad_cell (hc 1 _ rfl), ad_cell (hc 2 _ rfl), c2, c3, c4⟩

  }
set_option maxRecDepth 100000 in
theorem open_offer {H : Type} {enc : TypeId × Value → H} {W : World} {r : Reach} {b0 : Nat} {v : Value} {d : DataW H} {p : List MemPlace}
    (hv : Value.okWide Tryz.prog W r b0 75 v) (h : DataW.Trod enc Tryz.prog W 0 (fun _ => true) true 75 v d p) :
    ∃ (o : Of) (m : OA), v = offv o.v o.u m ∧ BO W m o := by
  obtain ⟨cs, rfl, hsz⟩ := okWide_struct Tryz.underlying75 hv
  rw [cells_offer] at hsz
  obtain ⟨c0, c1, c2, c3, c4, c5, c6, rfl⟩ : ∃ c0 c1 c2 c3 c4 c5 c6, cs = #[c0, c1, c2, c3, c4, c5, c6] := by
    obtain ⟨l⟩ := cs
    match l, hsz with
    | [c0, c1, c2, c3, c4, c5, c6], _ => exact ⟨c0, c1, c2, c3, c4, c5, c6, rfl⟩
  obtain ⟨fuel, hf⟩ := h
  obtain ⟨xs, k, hk, hxy, hl, hxl, hf⟩ := DataW.trod_struct Tryz.underlying75 hf
  match xs, hxl with
  | [y0, y1, y2, y3, y4], _ =>
    have g0 := hf 0 _ rfl
    have g1 := hf 1 _ rfl
    have g2 := hf 2 _ rfl
    have g3 := hf 3 _ rfl
    have g4 := hf 4 _ rfl
    simp [cells_ints, cells_roots, cells_lists, cells_rel, Value.cells] at g0 g1 g2 g3 g4
    obtain ⟨a1, n1, k1, rs, rfl, h1⟩ := open_roots_cells g0
    obtain ⟨a2, n2, k2, sgs, rfl, h2⟩ := open_lists_cells g1
    obtain ⟨v, u, a3, n3, k3, ts, e, h3⟩ := open_rel_cells g2
    obtain ⟨a4, n4, k4, xs4, rfl, h4⟩ := open_ints_cells g3
    obtain ⟨a5, n5, k5, ims, rfl, h5⟩ := open_lists_cells g4
    simp at e
    exact ⟨⟨rs, sgs, v, u, ts, xs4, ims⟩, ⟨a1, n1, k1, a2, n2, k2, a3, n3, k3, a4, n4, k4, a5, n5, k5⟩, by rw [e.1, e.2.1, e.2.2]; rfl, ⟨h1, h2, h3, h4.bi, h5⟩⟩

end Go.Proofs.YtgngpmgjoifepaaGreatDoor

namespace Go.Proofs.YtgngpmgjoifepaaGreatDoor
open Go.ChangeShapes Go.WideShapes Go.ChangeAt Go.RowKit Go.Joins

set_option maxRecDepth 100000 in
theorem cells_flash2 : Tryz.prog.cellsOf 27 = 2 := by kernel_rfl
set_option maxRecDepth 100000 in
theorem cells_bool1 : Tryz.prog.cellsOf 4 = 1 := by kernel_rfl
set_option maxRecDepth 100000 in
theorem cells_ints2 : Tryz.prog.cellsOf 25 = 1 := by kernel_rfl
theorem open_ints_room2 {H : Type} {enc : TypeId × Value → H} {W : World} {fuel : Nat} {v : Value} {x : DataW H × List MemPlace}
    (h : DataW.trod enc Tryz.prog W 0 (fun _ => true) true fuel 25 [v] = some x) :
    ∃ a n c xs, v = .slice a n c ∧ BI W a n xs ∧ n ≤ c ∧ c ≤ maxLen := by
  obtain ⟨a, n, c, xs, rfl, hi⟩ := open_ints_cells h
  refine ⟨a, n, c, xs, rfl, ⟨hi.ints, hi.len, hi.max⟩, hi.cap, ?_⟩
  rcases open_ints Tryz.underlying25 Tryz.underlying3 cells_int h with ⟨hcs, hx⟩ | ⟨ad, len, cap, zs, hcs, _, hl, hm, hz, hx, hcell, _⟩
  {
  simp at hcs
  rw [hcs.2.2]
  decide
  }
  {
  simp at hcs
  rw [hcs.2.2]
  exact hm

  }
theorem wf_bounds2 {f : Int} (h : (Lit.int .i64 f).wf = true) : -9223372036854775808 ≤ f ∧ f ≤ 9223372036854775807 := by
  simp [Lit.wf, IntKind.min, IntKind.max, IntKind.bits, IntKind.signed] at h
  omega

set_option maxRecDepth 100000 in
theorem open_flash_cells {H : Type} {enc : TypeId × Value → H} {W : World} {n : Nat} {cs : List Value} {x : DataW H × List MemPlace} (h : DataW.trod enc Tryz.prog W 0 (fun _ => true) true n 27 cs = some x) :
    ∃ (a : Option Addr) (m c : Nat) (ws : List Int) (f : Int), cs = [.slice a m c, .int .i64 f] ∧ BI W a m ws ∧ m ≤ c ∧ c ≤ maxLen ∧ (-9223372036854775808 ≤ f ∧ f ≤ 9223372036854775807) := by
  obtain ⟨xs, k, hk, hxy, hl, hxl, hf⟩ := DataW.trod_struct Tryz.underlying27 h
  rw [cells_flash2] at hl
  match cs, hl with
  | [v0, v1], _ =>
    match xs, hxl with
    | [y0, y1], _ =>
      have g0 := hf 0 _ rfl
      have g1 := hf 1 _ rfl
      simp [cells_int, cells_ints2] at g0 g1
      obtain ⟨a, m, c, ws, rfl, hi, h1, h2⟩ := open_ints_room2 g0
      obtain ⟨z1, e1, _, wf⟩ := DataW.trod_int Tryz.underlying3 g1
      simp at e1
      exact ⟨a, m, c, ws, z1, by rw [e1], hi, h1, h2, wf_bounds2 wf⟩

end Go.Proofs.YtgngpmgjoifepaaGreatDoor

namespace Go.Proofs.YtgngpmgjoifepaaGreatDoor
open Go.ChangeShapes Go.WideShapes Go.ChangeAt Go.RowKit Go.Joins

set_option maxRecDepth 100000 in
theorem cells_bools : Tryz.prog.cellsOf 66 = 1 := by kernel_rfl
set_option maxRecDepth 100000 in
theorem cells_gate : Tryz.prog.cellsOf 68 = 9 := by kernel_rfl

set_option maxRecDepth 100000 in
theorem open_bools_cells {H : Type} {enc : TypeId × Value → H} {W : World} {fuel : Nat} {v : Value} {x : DataW H × List MemPlace}
    (h : DataW.trod enc Tryz.prog W 0 (fun _ => true) true fuel 66 [v] = some x) :
    ∃ a n c bs, v = .slice a n c ∧ BV W a n c bs := by
  rcases Go.Deep.open_slice Tryz.underlying66 h with ⟨hcs, hx⟩ | ⟨ad, len, cap, m, n, D, Pl, hcs, _, hl, hm, hmm, hx, hV⟩
  {
  simp at hcs
  subst hcs
  exact ⟨none, 0, 0, [], rfl, ⟨.inl rfl, rfl, Nat.le_refl _, by decide⟩⟩
  }
  {
  simp at hcs hmm
  subst hcs hmm
  have hone : ∀ i, ∃ t : Bool, i < len → W.cell? (ad.add i) = some (.bool t) := by
    intro i
    by_cases hi : i < len
    {
    obtain ⟨cs', h1, h2⟩ := hV i (by omega)
    rw [cells_bool1] at h1
    obtain ⟨_, hlen, hcell⟩ := World.cells?_some h1
    match cs', hlen with
    | [u0], _ =>
      obtain ⟨b, e, _⟩ := DataW.trod_bool Tryz.underlying4 h2
      simp at e
      subst e
      refine ⟨b, fun _ => ?_⟩
      have := hcell 0 (by simp)
      rw [Nat.mul_one] at this
      simpa [Addr.add] using this
    }
    { exact ⟨false, fun h => absurd h hi⟩ }
  obtain ⟨R, hR⟩ := Classical.axiomOfChoice hone
  refine ⟨some ad, len, m, (List.range len).map R, rfl, ?_, by simp, hl, Nat.le_trans hl hm⟩
  by_cases h0 : len = 0
  { exact .inl (by simp [h0]) }
  obtain ⟨b, off, spot⟩ := ad
  have hs : spot = none := by
    have := World.cell?_spot (hR 0 (by omega))
    simpa [Addr.add] using this
  subst hs
  refine .inr ⟨b, off, rfl, fun i hi => ?_⟩
  have hi2 : i < len := by simpa using hi
  rw [ad_cell (hR i hi2)]
  simp [hi2]

  }
set_option maxRecDepth 100000 in
theorem open_trust_cells {H : Type} {enc : TypeId × Value → H} {W : World} {n : Nat} {cs : List Value} {x : DataW H × List MemPlace} (h : DataW.trod enc Tryz.prog W 0 (fun _ => true) true n 65 cs = some x) :
    ∃ (t : Tr) (a : Option Addr) (m c : Nat), cs = [.int .i64 t.r.v, .slice a m c, .int .i64 t.r.t, .int .i64 t.ver] ∧ BI W a m t.r.ks := by
  obtain ⟨xs, k, hk, hxy, hl, hxl, hf⟩ := DataW.trod_struct Tryz.underlying65 h
  rw [cells_trust] at hl
  match cs, hl with
  | [v0, v1, v2, v3], _ =>
    match xs, hxl with
    | [y0, y1], _ =>
      have g0 := hf 0 _ rfl
      have g1 := hf 1 _ rfl
      simp [cells_int, cells_root] at g0 g1
      obtain ⟨rt, a, n, c, e, hi, _, _⟩ := open_root_cells g0
      obtain ⟨z, e1, _⟩ := DataW.trod_int Tryz.underlying3 g1
      simp at e e1
      exact ⟨⟨rt, z⟩, a, n, c, by rw [e.1, e.2.1, e.2.2, e1], hi⟩

set_option maxRecDepth 100000 in
theorem open_gate_cells {H : Type} {enc : TypeId × Value → H} {W : World} {n : Nat} {cs : List Value} {x : DataW H × List MemPlace} (h : DataW.trod enc Tryz.prog W 0 (fun _ => true) true n 68 cs = some x) :
    ∃ (g : Gt) (m : GA), cs = [.slice m.a m.n m.c, .int .i64 g.fu, .bool g.up, .int .i64 g.t.r.v, .slice m.ak m.nk m.ck, .int .i64 g.t.r.t, .int .i64 g.t.ver, .slice m.av m.nv m.cv, .slice m.ad m.nd m.cd] ∧ GIn W m g ∧ (-9223372036854775808 ≤ g.fu ∧ g.fu ≤ 9223372036854775807) := by
  obtain ⟨xs, k, hk, hxy, hl, hxl, hf⟩ := DataW.trod_struct Tryz.underlying68 h
  rw [cells_gate] at hl
  match cs, hl with
  | [v0, v1, v2, v3, v4, v5, v6, v7, v8], _ =>
    match xs, hxl with
    | [y0, y1, y2, y3, y4], _ =>
      have g0 := hf 0 _ rfl
      have g1 := hf 1 _ rfl
      have g2 := hf 2 _ rfl
      have g3 := hf 3 _ rfl
      have g4 := hf 4 _ rfl
      simp [cells_flash2, cells_bool1, cells_trust, cells_bools] at g0 g1 g2 g3 g4
      obtain ⟨a, m, c, ws, f, e0, hi, h1, h2, h3⟩ := open_flash_cells g0
      obtain ⟨b, e1, _⟩ := DataW.trod_bool Tryz.underlying4 g1
      obtain ⟨t, ak, nk, ck, e2, hk2⟩ := open_trust_cells g2
      obtain ⟨av, nv, cv, bv, rfl, hv⟩ := open_bools_cells g3
      obtain ⟨ad, nd, cd, bd, rfl, hd⟩ := open_bools_cells g4
      simp at e0 e1 e2
      exact ⟨⟨ws, f, b, t, bv, bd⟩, ⟨a, m, c, ak, nk, ck, av, nv, cv, ad, nd, cd⟩, by rw [e0.1, e0.2, e1, e2.1, e2.2.1, e2.2.2.1, e2.2.2.2], ⟨⟨hi.at_, hi.len, h1, hi.max⟩, hk2, hv, hd⟩, h3⟩

set_option maxRecDepth 100000 in
theorem open_gate {H : Type} {enc : TypeId × Value → H} {W : World} {r : Reach} {b0 : Nat} {v : Value} {d : DataW H} {p : List MemPlace}
    (hv : Value.okWide Tryz.prog W r b0 68 v) (h : DataW.Trod enc Tryz.prog W 0 (fun _ => true) true 68 v d p) :
    ∃ (g : Gt) (m : GA), v = gtv g m ∧ GIn W m g ∧ (-9223372036854775808 ≤ g.fu ∧ g.fu ≤ 9223372036854775807) := by
  obtain ⟨cs, rfl, hsz⟩ := okWide_struct Tryz.underlying68 hv
  obtain ⟨fuel, hf⟩ := h
  obtain ⟨g, m, e, h1, h2⟩ := open_gate_cells (by simpa [Value.cells] using hf)
  exact ⟨g, m, by unfold gtv; congr 1; exact Array.toList_inj.1 e, h1, h2⟩

end Go.Proofs.YtgngpmgjoifepaaGreatDoor

namespace Go.Proofs.YtgngpmgjoifepaaGreatDoor
open Go.ChangeShapes Go.WideShapes Go.ChangeAt Go.RowKit Go.Joins

set_option maxRecDepth 100000 in
theorem bytes_int : Tryz.prog.bytesOf 3 = 8 := by kernel_rfl

end Go.Proofs.YtgngpmgjoifepaaGreatDoor
