/- How a law's arguments that are signatures, what is trusted, or offers are opened. -/
import Derived.Test.YtanpglfpopbfkabDoorMOpen
import Derived.Test.YtanpglfpopbfkabDoorTTak
namespace Go.Proofs.YtanpglfpopbfkabDoor
open Go.ChangeShapes Go.WideShapes Go.ChangeAt Go.RowKit Go.Joins

set_option maxRecDepth 100000 in
theorem cells_ints : Tryd.prog.cellsOf 25 = 1 := by kernel_rfl
set_option maxRecDepth 100000 in
theorem cells_sig : Tryd.prog.cellsOf 68 = 2 := by kernel_rfl
set_option maxRecDepth 100000 in
theorem cells_root : Tryd.prog.cellsOf 51 = 3 := by kernel_rfl
set_option maxRecDepth 100000 in
theorem cells_rel : Tryd.prog.cellsOf 38 = 3 := by kernel_rfl
set_option maxRecDepth 100000 in
theorem cells_trust : Tryd.prog.cellsOf 53 = 4 := by kernel_rfl
set_option maxRecDepth 100000 in
theorem cells_offer : Tryd.prog.cellsOf 57 = 7 := by kernel_rfl
set_option maxRecDepth 100000 in
theorem cells_tgts : Tryd.prog.cellsOf 36 = 1 := by kernel_rfl
set_option maxRecDepth 100000 in
theorem cells_roots : Tryd.prog.cellsOf 54 = 1 := by kernel_rfl
set_option maxRecDepth 100000 in
theorem cells_lists : Tryd.prog.cellsOf 55 = 1 := by kernel_rfl

theorem InInts.bi {W : World} {a : Option Addr} {n c : Nat} {xs : List Int} (h : InInts W a n c xs) : BI W a n xs := ⟨h.ints, h.len, h.max⟩
theorem InStrs.bb {W : World} {a : Option Addr} {n c : Nat} {ss : List ByteArray} (h : InStrs W a n c ss) : BB W a n c ss := ⟨h.strs, h.len, h.cap, h.max, h.short⟩
theorem InTgts.bt {W : World} {a : Option Addr} {n c : Nat} {ts : List T3} (h : InTgts W a n c ts) : BT W a n ts := ⟨h.tgts, h.len, h.max⟩

/-- As 'open_ints_cells', with the room. -/
theorem open_ints_room {H : Type} {enc : TypeId × Value → H} {W : World} {fuel : Nat} {v : Value} {x : DataW H × List MemPlace}
    (h : DataW.trod enc Tryd.prog W 0 (fun _ => true) true fuel 25 [v] = some x) :
    ∃ a n c xs, v = .slice a n c ∧ BI W a n xs ∧ n ≤ c ∧ c ≤ maxLen := by
  obtain ⟨a, n, c, xs, rfl, hi⟩ := open_ints_cells h
  refine ⟨a, n, c, xs, rfl, hi.bi, hi.cap, ?_⟩
  rcases open_ints Tryd.underlying25 Tryd.underlying3 cells_int h with ⟨hcs, hx⟩ | ⟨ad, len, cap, zs, hcs, _, hl, hm, hz, hx, hcell, _⟩
  · simp at hcs
    rw [hcs.2.2]
    decide
  · simp at hcs
    rw [hcs.2.2]
    exact hm

set_option maxRecDepth 100000 in
theorem open_sig {H : Type} {enc : TypeId × Value → H} {W : World} {n : Nat} {cs : List Value} {x : DataW H × List MemPlace} (h : DataW.trod enc Tryd.prog W 0 (fun _ => true) true n 68 cs = some x) :
    ∃ s : S2, cs = [.int .i64 s.1, .int .i64 s.2] := by
  obtain ⟨xs, k, hk, hxy, hl, hxl, hf⟩ := DataW.trod_struct Tryd.underlying68 h
  rw [cells_sig] at hl
  match cs, hl with
  | [v0, v1], _ =>
    match xs, hxl with
    | [y0, y1], _ =>
      have g0 := hf 0 _ rfl
      have g1 := hf 1 _ rfl
      simp [cells_int] at g0 g1
      obtain ⟨z0, e0, _⟩ := DataW.trod_int Tryd.underlying3 g0
      obtain ⟨z1, e1, _⟩ := DataW.trod_int Tryd.underlying3 g1
      simp at e0 e1
      exact ⟨(z0, z1), by rw [e0, e1]⟩

set_option maxRecDepth 100000 in
theorem open_root_cells {H : Type} {enc : TypeId × Value → H} {W : World} {n : Nat} {cs : List Value} {x : DataW H × List MemPlace} (h : DataW.trod enc Tryd.prog W 0 (fun _ => true) true n 51 cs = some x) :
    ∃ (r : Rt) (a : Option Addr) (m c : Nat), cs = [.int .i64 r.v, .slice a m c, .int .i64 r.t] ∧ BI W a m r.ks ∧ m ≤ c ∧ c ≤ maxLen := by
  obtain ⟨xs, k, hk, hxy, hl, hxl, hf⟩ := DataW.trod_struct Tryd.underlying51 h
  rw [cells_root] at hl
  match cs, hl with
  | [v0, v1, v2], _ =>
    match xs, hxl with
    | [y0, y1, y2], _ =>
      have g0 := hf 0 _ rfl
      have g1 := hf 1 _ rfl
      have g2 := hf 2 _ rfl
      simp [cells_int, cells_ints] at g0 g1 g2
      obtain ⟨z0, e0, _⟩ := DataW.trod_int Tryd.underlying3 g0
      obtain ⟨z2, e2, _⟩ := DataW.trod_int Tryd.underlying3 g2
      obtain ⟨a, m, c, ks, rfl, hi, h1, h2⟩ := open_ints_room g1
      simp at e0 e2
      exact ⟨⟨z0, ks, z2⟩, a, m, c, by rw [e0, e2], hi, h1, h2⟩

set_option maxRecDepth 100000 in
theorem open_rel_cells {H : Type} {enc : TypeId × Value → H} {W : World} {n : Nat} {cs : List Value} {x : DataW H × List MemPlace} (h : DataW.trod enc Tryd.prog W 0 (fun _ => true) true n 38 cs = some x) :
    ∃ (v u : Int) (a : Option Addr) (m c : Nat) (ts : List T3), cs = [.int .i64 v, .int .i64 u, .slice a m c] ∧ BT W a m ts := by
  obtain ⟨xs, k, hk, hxy, hl, hxl, hf⟩ := DataW.trod_struct Tryd.underlying38 h
  rw [cells_rel] at hl
  match cs, hl with
  | [v0, v1, v2], _ =>
    match xs, hxl with
    | [y0, y1, y2], _ =>
      have g0 := hf 0 _ rfl
      have g1 := hf 1 _ rfl
      have g2 := hf 2 _ rfl
      simp [cells_int, cells_tgts] at g0 g1 g2
      obtain ⟨z0, e0, _⟩ := DataW.trod_int Tryd.underlying3 g0
      obtain ⟨z1, e1, _⟩ := DataW.trod_int Tryd.underlying3 g1
      obtain ⟨a, m, c, ts, rfl, hi⟩ := open_tgts_cells g2
      simp at e0 e1
      exact ⟨z0, z1, a, m, c, ts, by rw [e0, e1], hi.bt⟩

set_option maxRecDepth 100000 in
theorem open_sigs_cells {H : Type} {enc : TypeId × Value → H} {W : World} {fuel : Nat} {v : Value} {x : DataW H × List MemPlace}
    (h : DataW.trod enc Tryd.prog W 0 (fun _ => true) true fuel 49 [v] = some x) :
    ∃ a n c l, v = .slice a n c ∧ BG W a n l := by
  rcases Go.Deep.open_slice Tryd.underlying49 h with ⟨hcs, hx⟩ | ⟨ad, len, cap, m, n, D, Pl, hcs, _, hl, hm, hmm, hx, hV⟩
  · simp at hcs
    subst hcs
    exact ⟨none, 0, 0, [], rfl, ⟨.inl rfl, rfl, by decide⟩⟩
  · simp at hcs hmm
    subst hcs hmm
    have hone : ∀ i, ∃ t : S2, i < len → ∀ j u, ([Value.int .i64 t.1, .int .i64 t.2] : List Value)[j]? = some u → W.cell? ((ad.add (i * 2)).add j) = some u := by
      intro i
      by_cases hi : i < len
      · obtain ⟨cs', h1, h2⟩ := hV i (by omega)
        obtain ⟨t, rfl⟩ := open_sig h2
        rw [cells_sig] at h1
        obtain ⟨_, hlen, hcell⟩ := World.cells?_some h1
        refine ⟨t, fun _ j u hj => ?_⟩
        have hj3 : j < 2 := by
          have := (List.getElem?_eq_some_iff.1 hj).1
          simpa using this
        rw [hcell j (by simpa using hj3)]
        exact hj
      · exact ⟨(0, 0), fun h => absurd h hi⟩
    obtain ⟨R, hR⟩ := Classical.axiomOfChoice hone
    refine ⟨some ad, len, m, (List.range len).map R, rfl, ?_, by simp, Nat.le_trans hl hm⟩
    by_cases h0 : len = 0
    · exact .inl (by simp [h0])
    obtain ⟨b, off, spot⟩ := ad
    have hs : spot = none := by
      have := hR 0 (by omega) 0 _ rfl
      rw [Nat.zero_mul] at this
      have := World.cell?_spot this
      simpa [Addr.add] using this
    subst hs
    refine .inr ⟨b, off, rfl, fun i t hi => ?_⟩
    have hi2 : i < len := by
      have := (List.getElem?_eq_some_iff.1 hi).1
      simpa using this
    have hri : R i = t := by simpa [hi2] using hi
    have hc := hR i hi2
    rw [hri] at hc
    have hadd : (⟨b, off, none⟩ : Addr).add (i * 2) = ⟨b, off + i * 2, none⟩ := by unfold Addr.add; split <;> simp_all
    rw [hadd] at hc
    exact ⟨by simpa [Addr.add] using hc 0 _ rfl, ad_cell (hc 1 _ rfl)⟩

set_option maxRecDepth 100000 in
theorem open_lists_cells {H : Type} {enc : TypeId × Value → H} {W : World} {fuel : Nat} {v : Value} {x : DataW H × List MemPlace}
    (h : DataW.trod enc Tryd.prog W 0 (fun _ => true) true fuel 55 [v] = some x) :
    ∃ a n c ls, v = .slice a n c ∧ BL W a n ls := by
  rcases Go.Deep.open_slice Tryd.underlying55 h with ⟨hcs, hx⟩ | ⟨ad, len, cap, m, n, D, Pl, hcs, _, hl, hm, hmm, hx, hV⟩
  · simp at hcs
    subst hcs
    exact ⟨none, 0, 0, [], rfl, ⟨.inl rfl, rfl, by decide⟩⟩
  · simp at hcs hmm
    subst hcs hmm
    have hone : ∀ i, ∃ t : List Int × Option Addr × Nat, i < len → W.cell? (ad.add i) = some (.slice t.2.1 t.1.length t.2.2) ∧ IsInts W t.2.1 t.1 ∧ t.1.length ≤ t.2.2 ∧ t.2.2 ≤ maxLen := by
      intro i
      by_cases hi : i < len
      · obtain ⟨cs', h1, h2⟩ := hV i (by omega)
        rw [cells_ints] at h1
        obtain ⟨_, hlen, hcell⟩ := World.cells?_some h1
        match cs', hlen with
        | [u0], _ =>
          obtain ⟨a, n', c, xs, rfl, hi', g1, g2⟩ := open_ints_room h2
          refine ⟨(xs, a, c), fun _ => ⟨?_, hi'.at_, by rw [hi'.len]; exact g1, g2⟩⟩
          have := hcell 0 (by simp)
          rw [Nat.mul_one] at this
          rw [hi'.len]
          simpa [Addr.add] using this
      · exact ⟨([], none, 0), fun h => absurd h hi⟩
    obtain ⟨R, hR⟩ := Classical.axiomOfChoice hone
    refine ⟨some ad, len, m, (List.range len).map (fun i => (R i).1), rfl, ?_, by simp, Nat.le_trans hl hm⟩
    by_cases h0 : len = 0
    · exact .inl (by simp [h0])
    obtain ⟨b, off, spot⟩ := ad
    have hs : spot = none := by
      have := (hR 0 (by omega)).1
      have := World.cell?_spot this
      simpa [Addr.add] using this
    subst hs
    refine .inr ⟨b, off, rfl, fun i t hi => ?_⟩
    have hi2 : i < len := by
      have := (List.getElem?_eq_some_iff.1 hi).1
      simpa using this
    have hri : (R i).1 = t := by simpa [hi2] using hi
    obtain ⟨c1, c2, c3, c4⟩ := hR i hi2
    rw [hri] at c1 c2 c3
    exact ⟨(R i).2.1, (R i).2.2, ad_cell c1, c2, c3, c4⟩

set_option maxRecDepth 100000 in
theorem open_roots_cells {H : Type} {enc : TypeId × Value → H} {W : World} {fuel : Nat} {v : Value} {x : DataW H × List MemPlace}
    (h : DataW.trod enc Tryd.prog W 0 (fun _ => true) true fuel 54 [v] = some x) :
    ∃ a n c rs, v = .slice a n c ∧ BR W a n rs := by
  rcases Go.Deep.open_slice Tryd.underlying54 h with ⟨hcs, hx⟩ | ⟨ad, len, cap, m, n, D, Pl, hcs, _, hl, hm, hmm, hx, hV⟩
  · simp at hcs
    subst hcs
    exact ⟨none, 0, 0, [], rfl, ⟨.inl rfl, rfl, by decide⟩⟩
  · simp at hcs hmm
    subst hcs hmm
    have hone : ∀ i, ∃ t : Rt × Option Addr × Nat, i < len → (∀ j u, ([Value.int .i64 t.1.v, .slice t.2.1 t.1.ks.length t.2.2, .int .i64 t.1.t] : List Value)[j]? = some u → W.cell? ((ad.add (i * 3)).add j) = some u) ∧ IsInts W t.2.1 t.1.ks ∧ t.1.ks.length ≤ t.2.2 ∧ t.2.2 ≤ maxLen := by
      intro i
      by_cases hi : i < len
      · obtain ⟨cs', h1, h2⟩ := hV i (by omega)
        obtain ⟨r, a, n', c, rfl, hi', g1, g2⟩ := open_root_cells h2
        rw [cells_root] at h1
        obtain ⟨_, hlen, hcell⟩ := World.cells?_some h1
        refine ⟨(r, a, c), fun _ => ⟨fun j u hj => ?_, hi'.at_, by rw [hi'.len]; exact g1, g2⟩⟩
        have hj3 : j < 3 := by
          have := (List.getElem?_eq_some_iff.1 hj).1
          simpa using this
        rw [hcell j (by simpa using hj3)]
        rw [hi'.len] at hj
        exact hj
      · exact ⟨(⟨0, [], 0⟩, none, 0), fun h => absurd h hi⟩
    obtain ⟨R, hR⟩ := Classical.axiomOfChoice hone
    refine ⟨some ad, len, m, (List.range len).map (fun i => (R i).1), rfl, ?_, by simp, Nat.le_trans hl hm⟩
    by_cases h0 : len = 0
    · exact .inl (by simp [h0])
    obtain ⟨b, off, spot⟩ := ad
    have hs : spot = none := by
      have := (hR 0 (by omega)).1 0 _ rfl
      rw [Nat.zero_mul] at this
      have := World.cell?_spot this
      simpa [Addr.add] using this
    subst hs
    refine .inr ⟨b, off, rfl, fun i t hi => ?_⟩
    have hi2 : i < len := by
      have := (List.getElem?_eq_some_iff.1 hi).1
      simpa using this
    have hri : (R i).1 = t := by simpa [hi2] using hi
    obtain ⟨hc, c2, c3, c4⟩ := hR i hi2
    rw [hri] at hc c2 c3
    have hadd : (⟨b, off, none⟩ : Addr).add (i * 3) = ⟨b, off + i * 3, none⟩ := by unfold Addr.add; split <;> simp_all
    rw [hadd] at hc
    exact ⟨(R i).2.1, (R i).2.2, by simpa [Addr.add] using hc 0 _ rfl, ad_cell (hc 1 _ rfl), ad_cell (hc 2 _ rfl), c2, c3, c4⟩

set_option maxRecDepth 100000 in
theorem open_trust {H : Type} {enc : TypeId × Value → H} {W : World} {r : Reach} {b0 : Nat} {v : Value} {d : DataW H} {p : List MemPlace}
    (hv : Value.okWide Tryd.prog W r b0 53 v) (h : DataW.Trod enc Tryd.prog W 0 (fun _ => true) true 53 v d p) :
    ∃ (t : Tr) (a : Option Addr) (n c : Nat), v = trv t.r.v a n c t.r.t t.ver ∧ BI W a n t.r.ks := by
  obtain ⟨cs, rfl, hsz⟩ := okWide_struct Tryd.underlying53 hv
  rw [cells_trust] at hsz
  obtain ⟨c0, c1, c2, c3, rfl⟩ : ∃ c0 c1 c2 c3, cs = #[c0, c1, c2, c3] := by
    obtain ⟨l⟩ := cs
    match l, hsz with
    | [c0, c1, c2, c3], _ => exact ⟨c0, c1, c2, c3, rfl⟩
  obtain ⟨fuel, hf⟩ := h
  obtain ⟨xs, k, hk, hxy, hl, hxl, hf⟩ := DataW.trod_struct Tryd.underlying53 hf
  match xs, hxl with
  | [y0, y1], _ =>
    have g0 := hf 0 _ rfl
    have g1 := hf 1 _ rfl
    simp [cells_int, cells_root, Value.cells] at g0 g1
    obtain ⟨rt, a, n, c, e, hi, _, _⟩ := open_root_cells g0
    obtain ⟨z, e1, _⟩ := DataW.trod_int Tryd.underlying3 g1
    simp at e e1
    exact ⟨⟨rt, z⟩, a, n, c, by rw [e.1, e.2.1, e.2.2, e1]; rfl, hi⟩

set_option maxRecDepth 100000 in
theorem open_offer {H : Type} {enc : TypeId × Value → H} {W : World} {r : Reach} {b0 : Nat} {v : Value} {d : DataW H} {p : List MemPlace}
    (hv : Value.okWide Tryd.prog W r b0 57 v) (h : DataW.Trod enc Tryd.prog W 0 (fun _ => true) true 57 v d p) :
    ∃ (o : Of) (m : OA), v = offv o.v o.u m ∧ BO W m o := by
  obtain ⟨cs, rfl, hsz⟩ := okWide_struct Tryd.underlying57 hv
  rw [cells_offer] at hsz
  obtain ⟨c0, c1, c2, c3, c4, c5, c6, rfl⟩ : ∃ c0 c1 c2 c3 c4 c5 c6, cs = #[c0, c1, c2, c3, c4, c5, c6] := by
    obtain ⟨l⟩ := cs
    match l, hsz with
    | [c0, c1, c2, c3, c4, c5, c6], _ => exact ⟨c0, c1, c2, c3, c4, c5, c6, rfl⟩
  obtain ⟨fuel, hf⟩ := h
  obtain ⟨xs, k, hk, hxy, hl, hxl, hf⟩ := DataW.trod_struct Tryd.underlying57 hf
  match xs, hxl with
  | [y0, y1, y2, y3, y4], _ =>
    have g0 := hf 0 _ rfl
    have g1 := hf 1 _ rfl
    have g2 := hf 2 _ rfl
    have g3 := hf 3 _ rfl
    have g4 := hf 4 _ rfl
    simp [cells_ints, cells_roots, cells_lists, cells_rel, Value.cells] at g0 g1 g2 g3 g4
    obtain ⟨a1, n1, k1, rs, rfl, h1⟩ := open_roots_cells g0
    obtain ⟨a2, n2, k2, sgs, rfl, h2⟩ := open_lists_cells g1
    obtain ⟨v, u, a3, n3, k3, ts, e, h3⟩ := open_rel_cells g2
    obtain ⟨a4, n4, k4, xs4, rfl, h4⟩ := open_ints_cells g3
    obtain ⟨a5, n5, k5, ims, rfl, h5⟩ := open_lists_cells g4
    simp at e
    exact ⟨⟨rs, sgs, v, u, ts, xs4, ims⟩, ⟨a1, n1, k1, a2, n2, k2, a3, n3, k3, a4, n4, k4, a5, n5, k5⟩, by rw [e.1, e.2.1, e.2.2]; rfl, ⟨h1, h2, h3, h4.bi, h5⟩⟩

set_option maxRecDepth 100000 in
theorem open_signed {H : Type} {enc : TypeId × Value → H} {W : World} {r : Reach} {b0 : Nat} {v : Value} {d : DataW H} {p : List MemPlace}
    (hv : Value.okWide Tryd.prog W r b0 68 v) (h : DataW.Trod enc Tryd.prog W 0 (fun _ => true) true 68 v d p) :
    ∃ s : S2, v = sv s := by
  obtain ⟨cs, rfl, hsz⟩ := okWide_struct Tryd.underlying68 hv
  rw [cells_sig] at hsz
  obtain ⟨c0, c1, rfl⟩ : ∃ c0 c1, cs = #[c0, c1] := by
    obtain ⟨l⟩ := cs
    match l, hsz with
    | [c0, c1], _ => exact ⟨c0, c1, rfl⟩
  obtain ⟨fuel, hf⟩ := h
  obtain ⟨s, e⟩ := open_sig (by simpa [Value.cells] using hf)
  simp at e
  exact ⟨s, by rw [e.1, e.2]; rfl⟩

end Go.Proofs.YtanpglfpopbfkabDoor
