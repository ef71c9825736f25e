/- How a law's arguments that are signatures, what is trusted, or offers are opened. How a law's arguments that are units, or messages, are opened. How a law's arguments that are gateways, or campaigns, are opened. Plain facts for GateOnce: what a gateway's records say ahead, and behind. No program in this text. -/
import Derived.Test.YtgngpmgjoifepaaGreatDoorPq38
import Derived.Test.YtgngpmgjoifepaaGreatDoorPq30
import Derived.Test.YtgngpmgjoifepaaGreatDoorPq15
import Derived.Test.YtgngpmgjoifepaaGreatDoorPq35
import Derived.Test.YtgngpmgjoifepaaGreatDoorPq31
namespace Go.Proofs.YtgngpmgjoifepaaGreatDoor
open Go.ChangeShapes Go.WideShapes Go.ChangeAt Go.RowKit Go.Joins

set_option maxRecDepth 100000 in
theorem cells_ints : Tryz.prog.cellsOf 25 = 1 := by kernel_rfl
set_option maxRecDepth 100000 in
theorem cells_root : Tryz.prog.cellsOf 63 = 3 := by kernel_rfl
set_option maxRecDepth 100000 in
theorem cells_rel : Tryz.prog.cellsOf 73 = 3 := by kernel_rfl
set_option maxRecDepth 100000 in
theorem cells_trust : Tryz.prog.cellsOf 65 = 4 := by kernel_rfl
set_option maxRecDepth 100000 in
theorem cells_tgts : Tryz.prog.cellsOf 71 = 1 := by kernel_rfl
set_option maxRecDepth 100000 in
theorem cells_lists : Tryz.prog.cellsOf 70 = 1 := by kernel_rfl

theorem InInts.bi {W : World} {a : Option Addr} {n c : Nat} {xs : List Int} (h : InInts W a n c xs) : BI W a n xs := ⟨h.ints, h.len, h.max⟩
theorem InTgts.bt {W : World} {a : Option Addr} {n c : Nat} {ts : List T3} (h : InTgts W a n c ts) : BT W a n ts := ⟨h.tgts, h.len, h.max⟩

/-- As 'open_ints_cells', with the room. -/
theorem open_ints_room {H : Type} {enc : TypeId × Value → H} {W : World} {fuel : Nat} {v : Value} {x : DataW H × List MemPlace}
    (h : DataW.trod enc Tryz.prog W 0 (fun _ => true) true fuel 25 [v] = some x) :
    ∃ a n c xs, v = .slice a n c ∧ BI W a n xs ∧ n ≤ c ∧ c ≤ maxLen := by
  obtain ⟨a, n, c, xs, rfl, hi⟩ := open_ints_cells h
  refine ⟨a, n, c, xs, rfl, hi.bi, hi.cap, ?_⟩
  rcases open_ints Tryz.underlying25 Tryz.underlying3 cells_int h with ⟨hcs, hx⟩ | ⟨ad, len, cap, zs, hcs, _, hl, hm, hz, hx, hcell, _⟩
  · simp at hcs
    rw [hcs.2.2]
    decide
  · simp at hcs
    rw [hcs.2.2]
    exact hm

set_option maxRecDepth 100000 in
theorem open_root_cells {H : Type} {enc : TypeId × Value → H} {W : World} {n : Nat} {cs : List Value} {x : DataW H × List MemPlace} (h : DataW.trod enc Tryz.prog W 0 (fun _ => true) true n 63 cs = some x) :
    ∃ (r : Rt) (a : Option Addr) (m c : Nat), cs = [.int .i64 r.v, .slice a m c, .int .i64 r.t] ∧ BI W a m r.ks ∧ m ≤ c ∧ c ≤ maxLen := by
  obtain ⟨xs, k, hk, hxy, hl, hxl, hf⟩ := DataW.trod_struct Tryz.underlying63 h
  rw [cells_root] at hl
  match cs, hl with
  | [v0, v1, v2], _ =>
    match xs, hxl with
    | [y0, y1, y2], _ =>
      have g0 := hf 0 _ rfl
      have g1 := hf 1 _ rfl
      have g2 := hf 2 _ rfl
      simp [cells_int, cells_ints] at g0 g1 g2
      obtain ⟨z0, e0, _⟩ := DataW.trod_int Tryz.underlying3 g0
      obtain ⟨z2, e2, _⟩ := DataW.trod_int Tryz.underlying3 g2
      obtain ⟨a, m, c, ks, rfl, hi, h1, h2⟩ := open_ints_room g1
      simp at e0 e2
      exact ⟨⟨z0, ks, z2⟩, a, m, c, by rw [e0, e2], hi, h1, h2⟩

set_option maxRecDepth 100000 in
theorem open_rel_cells {H : Type} {enc : TypeId × Value → H} {W : World} {n : Nat} {cs : List Value} {x : DataW H × List MemPlace} (h : DataW.trod enc Tryz.prog W 0 (fun _ => true) true n 73 cs = some x) :
    ∃ (v u : Int) (a : Option Addr) (m c : Nat) (ts : List T3), cs = [.int .i64 v, .int .i64 u, .slice a m c] ∧ BT W a m ts := by
  obtain ⟨xs, k, hk, hxy, hl, hxl, hf⟩ := DataW.trod_struct Tryz.underlying73 h
  rw [cells_rel] at hl
  match cs, hl with
  | [v0, v1, v2], _ =>
    match xs, hxl with
    | [y0, y1, y2], _ =>
      have g0 := hf 0 _ rfl
      have g1 := hf 1 _ rfl
      have g2 := hf 2 _ rfl
      simp [cells_int, cells_tgts] at g0 g1 g2
      obtain ⟨z0, e0, _⟩ := DataW.trod_int Tryz.underlying3 g0
      obtain ⟨z1, e1, _⟩ := DataW.trod_int Tryz.underlying3 g1
      obtain ⟨a, m, c, ts, rfl, hi⟩ := open_tgts_cells g2
      simp at e0 e1
      exact ⟨z0, z1, a, m, c, ts, by rw [e0, e1], hi.bt⟩

set_option maxRecDepth 100000 in
theorem open_lists_cells {H : Type} {enc : TypeId × Value → H} {W : World} {fuel : Nat} {v : Value} {x : DataW H × List MemPlace}
    (h : DataW.trod enc Tryz.prog W 0 (fun _ => true) true fuel 70 [v] = some x) :
    ∃ a n c ls, v = .slice a n c ∧ BL W a n ls := by
  rcases Go.Deep.open_slice Tryz.underlying70 h with ⟨hcs, hx⟩ | ⟨ad, len, cap, m, n, D, Pl, hcs, _, hl, hm, hmm, hx, hV⟩
  · simp at hcs
    subst hcs
    exact ⟨none, 0, 0, [], rfl, ⟨.inl rfl, rfl, by decide⟩⟩
  · simp at hcs hmm
    subst hcs hmm
    have hone : ∀ i, ∃ t : List Int × Option Addr × Nat, i < len → W.cell? (ad.add i) = some (.slice t.2.1 t.1.length t.2.2) ∧ IsInts W t.2.1 t.1 ∧ t.1.length ≤ t.2.2 ∧ t.2.2 ≤ maxLen := by
      intro i
      by_cases hi : i < len
      · obtain ⟨cs', h1, h2⟩ := hV i (by omega)
        rw [cells_ints] at h1
        obtain ⟨_, hlen, hcell⟩ := World.cells?_some h1
        match cs', hlen with
        | [u0], _ =>
          obtain ⟨a, n', c, xs, rfl, hi', g1, g2⟩ := open_ints_room h2
          refine ⟨(xs, a, c), fun _ => ⟨?_, hi'.at_, by rw [hi'.len]; exact g1, g2⟩⟩
          have := hcell 0 (by simp)
          rw [Nat.mul_one] at this
          rw [hi'.len]
          simpa [Addr.add] using this
      · exact ⟨([], none, 0), fun h => absurd h hi⟩
    obtain ⟨R, hR⟩ := Classical.axiomOfChoice hone
    refine ⟨some ad, len, m, (List.range len).map (fun i => (R i).1), rfl, ?_, by simp, Nat.le_trans hl hm⟩
    by_cases h0 : len = 0
    · exact .inl (by simp [h0])
    obtain ⟨b, off, spot⟩ := ad
    have hs : spot = none := by
      have := (hR 0 (by omega)).1
      have := World.cell?_spot this
      simpa [Addr.add] using this
    subst hs
    refine .inr ⟨b, off, rfl, fun i t hi => ?_⟩
    have hi2 : i < len := by
      have := (List.getElem?_eq_some_iff.1 hi).1
      simpa using this
    have hri : (R i).1 = t := by simpa [hi2] using hi
    obtain ⟨c1, c2, c3, c4⟩ := hR i hi2
    rw [hri] at c1 c2 c3
    exact ⟨(R i).2.1, (R i).2.2, ad_cell c1, c2, c3, c4⟩

end Go.Proofs.YtgngpmgjoifepaaGreatDoor

namespace Go.Proofs.YtgngpmgjoifepaaGreatDoor
open Go.ChangeShapes Go.WideShapes Go.ChangeAt Go.RowKit Go.Joins

set_option maxRecDepth 100000 in
theorem cells_flash2 : Tryz.prog.cellsOf 27 = 2 := by kernel_rfl
set_option maxRecDepth 100000 in
theorem cells_bool1 : Tryz.prog.cellsOf 4 = 1 := by kernel_rfl
set_option maxRecDepth 100000 in
theorem cells_msg : Tryz.prog.cellsOf 31 = 7 := by kernel_rfl

set_option maxRecDepth 100000 in
theorem cells_ints2 : Tryz.prog.cellsOf 25 = 1 := by kernel_rfl
/-- As 'open_ints_cells', with the room. -/
theorem open_ints_room2 {H : Type} {enc : TypeId × Value → H} {W : World} {fuel : Nat} {v : Value} {x : DataW H × List MemPlace}
    (h : DataW.trod enc Tryz.prog W 0 (fun _ => true) true fuel 25 [v] = some x) :
    ∃ a n c xs, v = .slice a n c ∧ BI W a n xs ∧ n ≤ c ∧ c ≤ maxLen := by
  obtain ⟨a, n, c, xs, rfl, hi⟩ := open_ints_cells h
  refine ⟨a, n, c, xs, rfl, ⟨hi.ints, hi.len, hi.max⟩, hi.cap, ?_⟩
  rcases open_ints Tryz.underlying25 Tryz.underlying3 cells_int h with ⟨hcs, hx⟩ | ⟨ad, len, cap, zs, hcs, _, hl, hm, hz, hx, hcell, _⟩
  · simp at hcs
    rw [hcs.2.2]
    decide
  · simp at hcs
    rw [hcs.2.2]
    exact hm

theorem wf_bounds2 {f : Int} (h : (Lit.int .i64 f).wf = true) : -9223372036854775808 ≤ f ∧ f ≤ 9223372036854775807 := by
  simp [Lit.wf, IntKind.min, IntKind.max, IntKind.bits, IntKind.signed] at h
  omega

structure MsB (m : Ms) : Prop where
  k : -9223372036854775808 ≤ m.k ∧ m.k ≤ 9223372036854775807
  u : -9223372036854775808 ≤ m.u ∧ m.u ≤ 9223372036854775807
  n : -9223372036854775808 ≤ m.n ∧ m.n ≤ 9223372036854775807
  at' : -9223372036854775808 ≤ m.at' ∧ m.at' ≤ 9223372036854775807
  im : -9223372036854775808 ≤ m.im ∧ m.im ≤ 9223372036854775807

set_option maxRecDepth 100000 in
theorem open_flash_cells {H : Type} {enc : TypeId × Value → H} {W : World} {n : Nat} {cs : List Value} {x : DataW H × List MemPlace} (h : DataW.trod enc Tryz.prog W 0 (fun _ => true) true n 27 cs = some x) :
    ∃ (a : Option Addr) (m c : Nat) (ws : List Int) (f : Int), cs = [.slice a m c, .int .i64 f] ∧ BI W a m ws ∧ m ≤ c ∧ c ≤ maxLen ∧ (-9223372036854775808 ≤ f ∧ f ≤ 9223372036854775807) := by
  obtain ⟨xs, k, hk, hxy, hl, hxl, hf⟩ := DataW.trod_struct Tryz.underlying27 h
  rw [cells_flash2] at hl
  match cs, hl with
  | [v0, v1], _ =>
    match xs, hxl with
    | [y0, y1], _ =>
      have g0 := hf 0 _ rfl
      have g1 := hf 1 _ rfl
      simp [cells_int, cells_ints2] at g0 g1
      obtain ⟨a, m, c, ws, rfl, hi, h1, h2⟩ := open_ints_room2 g0
      obtain ⟨z1, e1, _, wf⟩ := DataW.trod_int Tryz.underlying3 g1
      simp at e1
      exact ⟨a, m, c, ws, z1, by rw [e1], hi, h1, h2, wf_bounds2 wf⟩

set_option maxRecDepth 100000 in
theorem open_msg_cells {H : Type} {enc : TypeId × Value → H} {W : World} {n : Nat} {cs : List Value} {x : DataW H × List MemPlace} (h : DataW.trod enc Tryz.prog W 0 (fun _ => true) true n 31 cs = some x) :
    ∃ (m : Ms) (a : Option Addr) (l c : Nat), cs = [.int .i64 m.k, .int .i64 m.u, .int .i64 m.n, .int .i64 m.at', .int .i64 m.im, .slice a l c, .bool m.y] ∧ BI W a l m.ws ∧ l ≤ c ∧ c ≤ maxLen ∧ MsB m := by
  obtain ⟨xs, k, hk, hxy, hl, hxl, hf⟩ := DataW.trod_struct Tryz.underlying31 h
  rw [cells_msg] at hl
  match cs, hl with
  | [v0, v1, v2, v3, v4, v5, v6], _ =>
    match xs, hxl with
    | [y0, y1, y2, y3, y4, y5, y6], _ =>
      have g0 := hf 0 _ rfl
      have g1 := hf 1 _ rfl
      have g2 := hf 2 _ rfl
      have g3 := hf 3 _ rfl
      have g4 := hf 4 _ rfl
      have g5 := hf 5 _ rfl
      have g6 := hf 6 _ rfl
      simp [cells_int, cells_ints2, cells_bool1] at g0 g1 g2 g3 g4 g5 g6
      obtain ⟨z0, e0, _, w0⟩ := DataW.trod_int Tryz.underlying3 g0
      obtain ⟨z1, e1, _, w1⟩ := DataW.trod_int Tryz.underlying3 g1
      obtain ⟨z2, e2, _, w2⟩ := DataW.trod_int Tryz.underlying3 g2
      obtain ⟨z3, e3, _, w3⟩ := DataW.trod_int Tryz.underlying3 g3
      obtain ⟨z4, e4, _, w4⟩ := DataW.trod_int Tryz.underlying3 g4
      obtain ⟨a, m, c, ws, rfl, hi, h1, h2⟩ := open_ints_room2 g5
      obtain ⟨b, e6, _⟩ := DataW.trod_bool Tryz.underlying4 g6
      simp at e0 e1 e2 e3 e4 e6
      exact ⟨⟨z0, z1, z2, z3, z4, ws, b⟩, a, m, c, by rw [e0, e1, e2, e3, e4, e6], hi, h1, h2, ⟨wf_bounds2 w0, wf_bounds2 w1, wf_bounds2 w2, wf_bounds2 w3, wf_bounds2 w4⟩⟩

set_option maxRecDepth 100000 in
theorem open_msg {H : Type} {enc : TypeId × Value → H} {W : World} {r : Reach} {b0 : Nat} {v : Value} {d : DataW H} {p : List MemPlace}
    (hv : Value.okWide Tryz.prog W r b0 31 v) (h : DataW.Trod enc Tryz.prog W 0 (fun _ => true) true 31 v d p) :
    ∃ (m : Ms) (a : Option Addr) (l c : Nat), v = msv m a l c ∧ BI W a l m.ws ∧ l ≤ c ∧ c ≤ maxLen ∧ MsB m := by
  obtain ⟨cs, rfl, hsz⟩ := okWide_struct Tryz.underlying31 hv
  obtain ⟨fuel, hf⟩ := h
  obtain ⟨m, a, l, c, e, h1, h2, h3, h4⟩ := open_msg_cells (by simpa [Value.cells] using hf)
  exact ⟨m, a, l, c, by unfold msv; congr 1; exact Array.toList_inj.1 e, h1, h2, h3, h4⟩

end Go.Proofs.YtgngpmgjoifepaaGreatDoor

namespace Go.Proofs.YtgngpmgjoifepaaGreatDoor
open Go.ChangeShapes Go.WideShapes Go.ChangeAt Go.RowKit Go.Joins

set_option maxRecDepth 100000 in
theorem cells_bools : Tryz.prog.cellsOf 66 = 1 := by kernel_rfl
set_option maxRecDepth 100000 in
theorem cells_gate : Tryz.prog.cellsOf 68 = 9 := by kernel_rfl

set_option maxRecDepth 100000 in
theorem open_bools_cells {H : Type} {enc : TypeId × Value → H} {W : World} {fuel : Nat} {v : Value} {x : DataW H × List MemPlace}
    (h : DataW.trod enc Tryz.prog W 0 (fun _ => true) true fuel 66 [v] = some x) :
    ∃ a n c bs, v = .slice a n c ∧ BV W a n c bs := by
  rcases Go.Deep.open_slice Tryz.underlying66 h with ⟨hcs, hx⟩ | ⟨ad, len, cap, m, n, D, Pl, hcs, _, hl, hm, hmm, hx, hV⟩
  · simp at hcs
    subst hcs
    exact ⟨none, 0, 0, [], rfl, ⟨.inl rfl, rfl, Nat.le_refl _, by decide⟩⟩
  · simp at hcs hmm
    subst hcs hmm
    have hone : ∀ i, ∃ t : Bool, i < len → W.cell? (ad.add i) = some (.bool t) := by
      intro i
      by_cases hi : i < len
      · obtain ⟨cs', h1, h2⟩ := hV i (by omega)
        rw [cells_bool1] at h1
        obtain ⟨_, hlen, hcell⟩ := World.cells?_some h1
        match cs', hlen with
        | [u0], _ =>
          obtain ⟨b, e, _⟩ := DataW.trod_bool Tryz.underlying4 h2
          simp at e
          subst e
          refine ⟨b, fun _ => ?_⟩
          have := hcell 0 (by simp)
          rw [Nat.mul_one] at this
          simpa [Addr.add] using this
      · exact ⟨false, fun h => absurd h hi⟩
    obtain ⟨R, hR⟩ := Classical.axiomOfChoice hone
    refine ⟨some ad, len, m, (List.range len).map R, rfl, ?_, by simp, hl, Nat.le_trans hl hm⟩
    by_cases h0 : len = 0
    · exact .inl (by simp [h0])
    obtain ⟨b, off, spot⟩ := ad
    have hs : spot = none := by
      have := World.cell?_spot (hR 0 (by omega))
      simpa [Addr.add] using this
    subst hs
    refine .inr ⟨b, off, rfl, fun i hi => ?_⟩
    have hi2 : i < len := by simpa using hi
    rw [ad_cell (hR i hi2)]
    simp [hi2]

set_option maxRecDepth 100000 in
theorem open_trust_cells {H : Type} {enc : TypeId × Value → H} {W : World} {n : Nat} {cs : List Value} {x : DataW H × List MemPlace} (h : DataW.trod enc Tryz.prog W 0 (fun _ => true) true n 65 cs = some x) :
    ∃ (t : Tr) (a : Option Addr) (m c : Nat), cs = [.int .i64 t.r.v, .slice a m c, .int .i64 t.r.t, .int .i64 t.ver] ∧ BI W a m t.r.ks := by
  obtain ⟨xs, k, hk, hxy, hl, hxl, hf⟩ := DataW.trod_struct Tryz.underlying65 h
  rw [cells_trust] at hl
  match cs, hl with
  | [v0, v1, v2, v3], _ =>
    match xs, hxl with
    | [y0, y1], _ =>
      have g0 := hf 0 _ rfl
      have g1 := hf 1 _ rfl
      simp [cells_int, cells_root] at g0 g1
      obtain ⟨rt, a, n, c, e, hi, _, _⟩ := open_root_cells g0
      obtain ⟨z, e1, _⟩ := DataW.trod_int Tryz.underlying3 g1
      simp at e e1
      exact ⟨⟨rt, z⟩, a, n, c, by rw [e.1, e.2.1, e.2.2, e1], hi⟩

set_option maxRecDepth 100000 in
theorem open_gate_cells {H : Type} {enc : TypeId × Value → H} {W : World} {n : Nat} {cs : List Value} {x : DataW H × List MemPlace} (h : DataW.trod enc Tryz.prog W 0 (fun _ => true) true n 68 cs = some x) :
    ∃ (g : Gt) (m : GA), cs = [.slice m.a m.n m.c, .int .i64 g.fu, .bool g.up, .int .i64 g.t.r.v, .slice m.ak m.nk m.ck, .int .i64 g.t.r.t, .int .i64 g.t.ver, .slice m.av m.nv m.cv, .slice m.ad m.nd m.cd] ∧ GIn W m g ∧ (-9223372036854775808 ≤ g.fu ∧ g.fu ≤ 9223372036854775807) := by
  obtain ⟨xs, k, hk, hxy, hl, hxl, hf⟩ := DataW.trod_struct Tryz.underlying68 h
  rw [cells_gate] at hl
  match cs, hl with
  | [v0, v1, v2, v3, v4, v5, v6, v7, v8], _ =>
    match xs, hxl with
    | [y0, y1, y2, y3, y4], _ =>
      have g0 := hf 0 _ rfl
      have g1 := hf 1 _ rfl
      have g2 := hf 2 _ rfl
      have g3 := hf 3 _ rfl
      have g4 := hf 4 _ rfl
      simp [cells_flash2, cells_bool1, cells_trust, cells_bools] at g0 g1 g2 g3 g4
      obtain ⟨a, m, c, ws, f, e0, hi, h1, h2, h3⟩ := open_flash_cells g0
      obtain ⟨b, e1, _⟩ := DataW.trod_bool Tryz.underlying4 g1
      obtain ⟨t, ak, nk, ck, e2, hk2⟩ := open_trust_cells g2
      obtain ⟨av, nv, cv, bv, rfl, hv⟩ := open_bools_cells g3
      obtain ⟨ad, nd, cd, bd, rfl, hd⟩ := open_bools_cells g4
      simp at e0 e1 e2
      exact ⟨⟨ws, f, b, t, bv, bd⟩, ⟨a, m, c, ak, nk, ck, av, nv, cv, ad, nd, cd⟩, by rw [e0.1, e0.2, e1, e2.1, e2.2.1, e2.2.2.1, e2.2.2.2], ⟨⟨hi.at_, hi.len, h1, hi.max⟩, hk2, hv, hd⟩, h3⟩

set_option maxRecDepth 100000 in
theorem open_gate {H : Type} {enc : TypeId × Value → H} {W : World} {r : Reach} {b0 : Nat} {v : Value} {d : DataW H} {p : List MemPlace}
    (hv : Value.okWide Tryz.prog W r b0 68 v) (h : DataW.Trod enc Tryz.prog W 0 (fun _ => true) true 68 v d p) :
    ∃ (g : Gt) (m : GA), v = gtv g m ∧ GIn W m g ∧ (-9223372036854775808 ≤ g.fu ∧ g.fu ≤ 9223372036854775807) := by
  obtain ⟨cs, rfl, hsz⟩ := okWide_struct Tryz.underlying68 hv
  obtain ⟨fuel, hf⟩ := h
  obtain ⟨g, m, e, h1, h2⟩ := open_gate_cells (by simpa [Value.cells] using hf)
  exact ⟨g, m, by unfold gtv; congr 1; exact Array.toList_inj.1 e, h1, h2⟩

set_option maxRecDepth 100000 in
theorem cells_camp : Tryz.prog.cellsOf 93 = 5 := by kernel_rfl
set_option maxRecDepth 100000 in
theorem open_camp_cells {H : Type} {enc : TypeId × Value → H} {W : World} {n : Nat} {cs : List Value} {x : DataW H × List MemPlace} (h : DataW.trod enc Tryz.prog W 0 (fun _ => true) true n 93 cs = some x) :
    ∃ (cn cv cu : Int) (m : CA) (ts : List T3) (ims : List (List Int)), cs = [.int .i64 cn, .int .i64 cv, .int .i64 cu, .slice m.at_ m.nt m.ct, .slice m.ai m.ni m.ci] ∧ BT W m.at_ m.nt ts ∧ BL W m.ai m.ni ims := by
  obtain ⟨xs, k, hk, hxy, hl, hxl, hf⟩ := DataW.trod_struct Tryz.underlying93 h
  rw [cells_camp] at hl
  match cs, hl with
  | [v0, v1, v2, v3, v4], _ =>
    match xs, hxl with
    | [y0, y1, y2], _ =>
      have g0 := hf 0 _ rfl
      have g1 := hf 1 _ rfl
      have g2 := hf 2 _ rfl
      simp [cells_int, cells_rel, cells_lists] at g0 g1 g2
      obtain ⟨z0, e0, _⟩ := DataW.trod_int Tryz.underlying3 g0
      obtain ⟨v, u, a, m, c, ts, e1, h1⟩ := open_rel_cells g1
      obtain ⟨ai, ni, ci, ims, rfl, h2⟩ := open_lists_cells g2
      simp at e0 e1
      exact ⟨z0, v, u, ⟨a, m, c, ai, ni, ci⟩, ts, ims, by rw [e0, e1.1, e1.2.1, e1.2.2], h1, h2⟩
set_option maxRecDepth 100000 in
theorem open_camp {H : Type} {enc : TypeId × Value → H} {W : World} {r : Reach} {b0 : Nat} {v : Value} {d : DataW H} {p : List MemPlace}
    (hv : Value.okWide Tryz.prog W r b0 93 v) (h : DataW.Trod enc Tryz.prog W 0 (fun _ => true) true 93 v d p) :
    ∃ (cn cv cu : Int) (m : CA) (ts : List T3) (ims : List (List Int)), v = cpv cn cv cu m ∧ BT W m.at_ m.nt ts ∧ BL W m.ai m.ni ims := by
  obtain ⟨cs, rfl, hsz⟩ := okWide_struct Tryz.underlying93 hv
  obtain ⟨fuel, hf⟩ := h
  obtain ⟨cn, cv, cu, m, ts, ims, e, h1, h2⟩ := open_camp_cells (by simpa [Value.cells] using hf)
  exact ⟨cn, cv, cu, m, ts, ims, by unfold cpv; congr 1; exact Array.toList_inj.1 e, h1, h2⟩

end Go.Proofs.YtgngpmgjoifepaaGreatDoor

namespace Go.Proofs.YtgngpmgjoifepaaGreatDoor
open Go.RowKit

theorem boot_ok {x : Gt} (h : gtE x = 0) : gtE ⟨x.ws, -1, true, x.t, falses x.vo, falses x.di⟩ = 0 := by
  obtain ⟨h1, h2, h3, h4⟩ := gtE_parts h
  exact gtE_0 (lchk_fuel h1 (show (-1 : Int) ≤ -1 by decide) (show (-1 : Int) ≤ 100000 by decide)) (by show 1 ≤ (falses x.vo).length ∧ (falses x.vo).length ≤ 4; rw [falses_n]; exact h2) (by show (falses x.di).length = (falses x.vo).length; rw [falses_n, falses_n]; exact h3) h4
/-- What may be behind, kind by kind. -/
def Way (g : Gt) (m : Ms) (s t : Gs) : Prop := ∃ n v,
  (s = ⟨n, v, false, false, false⟩ ∧ t = ⟨n, v, false, false, false⟩) ∨
  (s = ⟨n, v, true, false, false⟩ ∧ t = ⟨n, v, true, false, false⟩) ∨
  (s = ⟨n, v, true, false, true⟩ ∧ t = ⟨n, v, true, false, true⟩) ∨
  (s = ⟨n, v, false, true, false⟩ ∧ t = ⟨n, v, false, true, false⟩) ∨
  (s = ⟨n, v, false, true, true⟩ ∧ t = ⟨n, v, false, true, true⟩) ∨
  (s = ⟨n, v, false, false, false⟩ ∧ t = ⟨n, v, true, false, false⟩ ∧ m.k = 3 ∧ m.y = true ∧ m.n = n ∧ allB (setB g.vo m.u) = true ∧ 0 ≤ m.u ∧ m.u < g.vo.length) ∨
  (s = ⟨n, v, true, false, false⟩ ∧ t = ⟨n, v, true, false, true⟩ ∧ m.k = 6) ∨
  (s = ⟨n, v, false, true, false⟩ ∧ t = ⟨n, v, false, true, true⟩ ∧ m.k = 6)
theorem Way.s0 {g : Gt} {m : Ms} (n v : Int) : Way g m ⟨n, v, false, false, false⟩ ⟨n, v, false, false, false⟩ := ⟨n, v, .inl ⟨rfl, rfl⟩⟩
theorem Way.s1 {g : Gt} {m : Ms} (n v : Int) : Way g m ⟨n, v, true, false, false⟩ ⟨n, v, true, false, false⟩ := ⟨n, v, .inr (.inl ⟨rfl, rfl⟩)⟩
theorem Way.s2 {g : Gt} {m : Ms} (n v : Int) : Way g m ⟨n, v, true, false, true⟩ ⟨n, v, true, false, true⟩ := ⟨n, v, .inr (.inr (.inl ⟨rfl, rfl⟩))⟩
theorem Way.s3 {g : Gt} {m : Ms} (n v : Int) : Way g m ⟨n, v, false, true, false⟩ ⟨n, v, false, true, false⟩ := ⟨n, v, .inr (.inr (.inr (.inl ⟨rfl, rfl⟩)))⟩
theorem Way.s4 {g : Gt} {m : Ms} (n v : Int) : Way g m ⟨n, v, false, true, true⟩ ⟨n, v, false, true, true⟩ := ⟨n, v, .inr (.inr (.inr (.inr (.inl ⟨rfl, rfl⟩))))⟩
theorem Way.vote {g : Gt} {m : Ms} (n v : Int) (h : m.k = 3 ∧ m.y = true ∧ m.n = n ∧ allB (setB g.vo m.u) = true ∧ 0 ≤ m.u ∧ m.u < g.vo.length) : Way g m ⟨n, v, false, false, false⟩ ⟨n, v, true, false, false⟩ := ⟨n, v, .inr (.inr (.inr (.inr (.inr (.inl ⟨rfl, rfl, h⟩)))))⟩
theorem Way.e1 {g : Gt} {m : Ms} (n v : Int) (h : m.k = 6) : Way g m ⟨n, v, true, false, false⟩ ⟨n, v, true, false, true⟩ := ⟨n, v, .inr (.inr (.inr (.inr (.inr (.inr (.inl ⟨rfl, rfl, h⟩))))))⟩
theorem Way.e3 {g : Gt} {m : Ms} (n v : Int) (h : m.k = 6) : Way g m ⟨n, v, false, true, false⟩ ⟨n, v, false, true, true⟩ := ⟨n, v, .inr (.inr (.inr (.inr (.inr (.inr (.inr ⟨rfl, rfl, h⟩))))))⟩
theorem hear_way {g : Gt} {m : Ms} (h : (gHear g m).2.2 = 0) : gtE (gHear g m).1 = 0 ∧ Way g m (gOf g.ws) (gOf (gHear g m).1.ws) := by
  obtain ⟨h0, hh⟩ := hear_hrd h
  have hs := gsOk_of g.ws
  have ht := gsOk_of (gHear g m).1.ws
  obtain ⟨⟨ok, -, hn, hv, hc, ha, he, -⟩, hco, hab, hen⟩ := hh
  have hu := (ghE_ok h0).2.1
  refine ⟨ok, ?_⟩
  unfold VoteOk DoneOk at *
  generalize gOf (gHear g m).1.ws = t at *
  generalize gOf g.ws = s at *
  obtain ⟨n, v, co, ab, en⟩ := s
  obtain ⟨n', v', co', ab', en'⟩ := t
  obtain ⟨-, -, s3, s4⟩ := hs
  obtain ⟨-, -, t3, t4⟩ := ht
  unfold decG at *
  dsimp only at *
  subst hn hv hab
  cases co <;> cases co' <;> cases en <;> cases en' <;> cases ab' <;> first
    | exact .s0 _ _
    | exact .s1 _ _
    | exact .s2 _ _
    | exact .s3 _ _
    | exact .s4 _ _
    | exact .e1 _ _ ((hen rfl).resolve_left (by decide)).1
    | exact .e3 _ _ ((hen rfl).resolve_left (by decide)).1
    | exact absurd (hc rfl) (by decide)
    | exact absurd (he rfl) (by decide)
    | exact absurd (s3 rfl) (by decide)
    | exact absurd (t3 rfl) (by decide)
    | exact absurd (s4 rfl) (by decide)
    | exact absurd (t4 rfl) (by decide)
    | exact absurd ((hen rfl).resolve_left (by decide)).2.1 (by decide)
    | (have q := (hco rfl).resolve_left (by decide); exact .vote _ _ ⟨q.1, q.2.1, q.2.2.1, q.2.2.2.2.2, hu.1, hu.2⟩)
theorem give_way {g : Gt} (h : (gvUp g).2 = 0) : gtE (gvUp g).1 = 0 ∧ ∃ n v a, gOf g.ws = ⟨n, v, false, false, false⟩ ∧ gOf (gvUp g).1.ws = ⟨n, v, false, a, false⟩ := by
  obtain ⟨o, hco, hen, h0⟩ := once_give h
  obtain ⟨-, -, hd, -⟩ := giveUp_plain h
  have hs := gsOk_of g.ws
  refine ⟨o.ok, ?_⟩
  obtain ⟨-, -, hn, hv, -⟩ := o
  generalize gOf (gvUp g).1.ws = t at *
  generalize gOf g.ws = s at *
  obtain ⟨n, v, co, ab, en⟩ := s
  obtain ⟨n', v', co', ab', en'⟩ := t
  obtain ⟨-, -, s3, s4⟩ := hs
  unfold decG at *
  dsimp only at *
  subst hn hv hco hen h0
  cases ab
  · cases en'
    · exact ⟨_, _, _, rfl, rfl⟩
    · exact absurd (s4 rfl) (by decide)
  · cases hd
/-- All but one have voted. -/
theorem all_but {l : List Bool} {u : Int} (h : allB (setB l u) = true) (h0 : 0 ≤ u) {k : Nat} (hk : k < l.length) (hf : l.getD k false = false) : (k : Int) = u := by
  unfold allB setB at h
  simp only [Bool.not_eq_true', List.any_eq_false] at h
  by_cases e : k = u.toNat
  · omega
  · have hm : l.getD k false ∈ l.set u.toNat true := by
      rw [List.mem_iff_getElem?]
      refine ⟨k, ?_⟩
      rw [List.getElem?_set_ne (Ne.symm e)]
      simp [hk]
    have := h _ hm
    rw [hf] at this
    simp at this

end Go.Proofs.YtgngpmgjoifepaaGreatDoor
