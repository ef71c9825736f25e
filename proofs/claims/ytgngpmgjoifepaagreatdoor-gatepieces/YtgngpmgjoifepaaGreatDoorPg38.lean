/- How a law's arguments that are units, or messages, are opened. How a law's arguments that are gateways, or campaigns, are opened. Plain facts for GateOnce: what a gateway's records say ahead, and behind. No program in this text. The ref's SameTrust. That slices.Equal says whether two slices of truths hold the same; the contract of the reference's SameGate. -/
import Derived.Test.YtgngpmgjoifepaaGreatDoorPg37
import Derived.Test.YtgngpmgjoifepaaGreatDoorPg13
import Derived.Test.YtgngpmgjoifepaaGreatDoorPg35
import Derived.Test.YtgngpmgjoifepaaGreatDoorPg32
import Derived.Test.YtgngpmgjoifepaaGreatDoorPg28
import Derived.Test.YtgngpmgjoifepaaGreatDoorPg0
import Derived.Test.YtgngpmgjoifepaaGreatDoorPg18
import Derived.Test.YtgngpmgjoifepaaGreatDoorPg2
import Derived.BigQuiet
namespace Go.Proofs.YtgngpmgjoifepaaGreatDoor
open Go.ChangeShapes Go.WideShapes Go.ChangeAt Go.RowKit Go.Joins

set_option maxRecDepth 100000 in
theorem cells_flash2 : Tryz.prog.cellsOf 27 = 2 := by kernel_rfl
set_option maxRecDepth 100000 in
theorem cells_bool1 : Tryz.prog.cellsOf 4 = 1 := by kernel_rfl
set_option maxRecDepth 100000 in
theorem cells_unit : Tryz.prog.cellsOf 29 = 5 := by kernel_rfl
set_option maxRecDepth 100000 in
theorem cells_msg : Tryz.prog.cellsOf 31 = 7 := by kernel_rfl

set_option maxRecDepth 100000 in
theorem cells_ints2 : Tryz.prog.cellsOf 25 = 1 := by kernel_rfl
/-- As 'open_ints_cells', with the room. -/
theorem open_ints_room2 {H : Type} {enc : TypeId × Value → H} {W : World} {fuel : Nat} {v : Value} {x : DataW H × List MemPlace}
    (h : DataW.trod enc Tryz.prog W 0 (fun _ => true) true fuel 25 [v] = some x) :
    ∃ a n c xs, v = .slice a n c ∧ BI W a n xs ∧ n ≤ c ∧ c ≤ maxLen := by
  obtain ⟨a, n, c, xs, rfl, hi⟩ := open_ints_cells h
  refine ⟨a, n, c, xs, rfl, ⟨hi.ints, hi.len, hi.max⟩, hi.cap, ?_⟩
  rcases open_ints Tryz.underlying25 Tryz.underlying3 cells_int h with ⟨hcs, hx⟩ | ⟨ad, len, cap, zs, hcs, _, hl, hm, hz, hx, hcell, _⟩
  · simp at hcs
    rw [hcs.2.2]
    decide
  · simp at hcs
    rw [hcs.2.2]
    exact hm

theorem wf_bounds2 {f : Int} (h : (Lit.int .i64 f).wf = true) : -9223372036854775808 ≤ f ∧ f ≤ 9223372036854775807 := by
  simp [Lit.wf, IntKind.min, IntKind.max, IntKind.bits, IntKind.signed] at h
  omega

/-- The numbers of a unit, and of a message, are Go's. -/
structure UnB (u : Un) : Prop where
  fu : -9223372036854775808 ≤ u.fu ∧ u.fu ≤ 9223372036854775807
  n : -9223372036854775808 ≤ u.n ∧ u.n ≤ 9223372036854775807
  hv : -9223372036854775808 ≤ u.hv ∧ u.hv ≤ 9223372036854775807
structure MsB (m : Ms) : Prop where
  k : -9223372036854775808 ≤ m.k ∧ m.k ≤ 9223372036854775807
  u : -9223372036854775808 ≤ m.u ∧ m.u ≤ 9223372036854775807
  n : -9223372036854775808 ≤ m.n ∧ m.n ≤ 9223372036854775807
  at' : -9223372036854775808 ≤ m.at' ∧ m.at' ≤ 9223372036854775807
  im : -9223372036854775808 ≤ m.im ∧ m.im ≤ 9223372036854775807

set_option maxRecDepth 100000 in
theorem open_flash_cells {H : Type} {enc : TypeId × Value → H} {W : World} {n : Nat} {cs : List Value} {x : DataW H × List MemPlace} (h : DataW.trod enc Tryz.prog W 0 (fun _ => true) true n 27 cs = some x) :
    ∃ (a : Option Addr) (m c : Nat) (ws : List Int) (f : Int), cs = [.slice a m c, .int .i64 f] ∧ BI W a m ws ∧ m ≤ c ∧ c ≤ maxLen ∧ (-9223372036854775808 ≤ f ∧ f ≤ 9223372036854775807) := by
  obtain ⟨xs, k, hk, hxy, hl, hxl, hf⟩ := DataW.trod_struct Tryz.underlying27 h
  rw [cells_flash2] at hl
  match cs, hl with
  | [v0, v1], _ =>
    match xs, hxl with
    | [y0, y1], _ =>
      have g0 := hf 0 _ rfl
      have g1 := hf 1 _ rfl
      simp [cells_int, cells_ints2] at g0 g1
      obtain ⟨a, m, c, ws, rfl, hi, h1, h2⟩ := open_ints_room2 g0
      obtain ⟨z1, e1, _, wf⟩ := DataW.trod_int Tryz.underlying3 g1
      simp at e1
      exact ⟨a, m, c, ws, z1, by rw [e1], hi, h1, h2, wf_bounds2 wf⟩

set_option maxRecDepth 100000 in
theorem open_unit_cells {H : Type} {enc : TypeId × Value → H} {W : World} {n : Nat} {cs : List Value} {x : DataW H × List MemPlace} (h : DataW.trod enc Tryz.prog W 0 (fun _ => true) true n 29 cs = some x) :
    ∃ (u : Un) (a : Option Addr) (m c : Nat), cs = [.slice a m c, .int .i64 u.fu, .bool u.up, .int .i64 u.n, .int .i64 u.hv] ∧ BW W a m c u.ws ∧ c ≤ maxLen ∧ UnB u := by
  obtain ⟨xs, k, hk, hxy, hl, hxl, hf⟩ := DataW.trod_struct Tryz.underlying29 h
  rw [cells_unit] at hl
  match cs, hl with
  | [v0, v1, v2, v3, v4], _ =>
    match xs, hxl with
    | [y0, y1, y2, y3], _ =>
      have g0 := hf 0 _ rfl
      have g1 := hf 1 _ rfl
      have g2 := hf 2 _ rfl
      have g3 := hf 3 _ rfl
      simp [cells_int, cells_flash2, cells_bool1] at g0 g1 g2 g3
      obtain ⟨a, m, c, ws, f, e0, hi, h1, h2, h3⟩ := open_flash_cells g0
      obtain ⟨b, e1, _⟩ := DataW.trod_bool Tryz.underlying4 g1
      obtain ⟨z2, e2, _, w2⟩ := DataW.trod_int Tryz.underlying3 g2
      obtain ⟨z3, e3, _, w3⟩ := DataW.trod_int Tryz.underlying3 g3
      simp at e0 e1 e2 e3
      exact ⟨⟨ws, f, b, z2, z3⟩, a, m, c, by rw [e0.1, e0.2, e1, e2, e3], ⟨hi.at_, hi.len, h1, hi.max⟩, h2, ⟨h3, wf_bounds2 w2, wf_bounds2 w3⟩⟩

set_option maxRecDepth 100000 in
theorem open_unit {H : Type} {enc : TypeId × Value → H} {W : World} {r : Reach} {b0 : Nat} {v : Value} {d : DataW H} {p : List MemPlace}
    (hv : Value.okWide Tryz.prog W r b0 29 v) (h : DataW.Trod enc Tryz.prog W 0 (fun _ => true) true 29 v d p) :
    ∃ (u : Un) (a : Option Addr) (n c : Nat), v = unv u a n c ∧ BW W a n c u.ws ∧ c ≤ maxLen ∧ UnB u := by
  obtain ⟨cs, rfl, hsz⟩ := okWide_struct Tryz.underlying29 hv
  obtain ⟨fuel, hf⟩ := h
  obtain ⟨u, a, n, c, e, h1, h2, h3⟩ := open_unit_cells (by simpa [Value.cells] using hf)
  exact ⟨u, a, n, c, by unfold unv; congr 1; exact Array.toList_inj.1 e, h1, h2, h3⟩

set_option maxRecDepth 100000 in
theorem open_msg_cells {H : Type} {enc : TypeId × Value → H} {W : World} {n : Nat} {cs : List Value} {x : DataW H × List MemPlace} (h : DataW.trod enc Tryz.prog W 0 (fun _ => true) true n 31 cs = some x) :
    ∃ (m : Ms) (a : Option Addr) (l c : Nat), cs = [.int .i64 m.k, .int .i64 m.u, .int .i64 m.n, .int .i64 m.at', .int .i64 m.im, .slice a l c, .bool m.y] ∧ BI W a l m.ws ∧ l ≤ c ∧ c ≤ maxLen ∧ MsB m := by
  obtain ⟨xs, k, hk, hxy, hl, hxl, hf⟩ := DataW.trod_struct Tryz.underlying31 h
  rw [cells_msg] at hl
  match cs, hl with
  | [v0, v1, v2, v3, v4, v5, v6], _ =>
    match xs, hxl with
    | [y0, y1, y2, y3, y4, y5, y6], _ =>
      have g0 := hf 0 _ rfl
      have g1 := hf 1 _ rfl
      have g2 := hf 2 _ rfl
      have g3 := hf 3 _ rfl
      have g4 := hf 4 _ rfl
      have g5 := hf 5 _ rfl
      have g6 := hf 6 _ rfl
      simp [cells_int, cells_ints2, cells_bool1] at g0 g1 g2 g3 g4 g5 g6
      obtain ⟨z0, e0, _, w0⟩ := DataW.trod_int Tryz.underlying3 g0
      obtain ⟨z1, e1, _, w1⟩ := DataW.trod_int Tryz.underlying3 g1
      obtain ⟨z2, e2, _, w2⟩ := DataW.trod_int Tryz.underlying3 g2
      obtain ⟨z3, e3, _, w3⟩ := DataW.trod_int Tryz.underlying3 g3
      obtain ⟨z4, e4, _, w4⟩ := DataW.trod_int Tryz.underlying3 g4
      obtain ⟨a, m, c, ws, rfl, hi, h1, h2⟩ := open_ints_room2 g5
      obtain ⟨b, e6, _⟩ := DataW.trod_bool Tryz.underlying4 g6
      simp at e0 e1 e2 e3 e4 e6
      exact ⟨⟨z0, z1, z2, z3, z4, ws, b⟩, a, m, c, by rw [e0, e1, e2, e3, e4, e6], hi, h1, h2, ⟨wf_bounds2 w0, wf_bounds2 w1, wf_bounds2 w2, wf_bounds2 w3, wf_bounds2 w4⟩⟩

set_option maxRecDepth 100000 in
theorem open_msg {H : Type} {enc : TypeId × Value → H} {W : World} {r : Reach} {b0 : Nat} {v : Value} {d : DataW H} {p : List MemPlace}
    (hv : Value.okWide Tryz.prog W r b0 31 v) (h : DataW.Trod enc Tryz.prog W 0 (fun _ => true) true 31 v d p) :
    ∃ (m : Ms) (a : Option Addr) (l c : Nat), v = msv m a l c ∧ BI W a l m.ws ∧ l ≤ c ∧ c ≤ maxLen ∧ MsB m := by
  obtain ⟨cs, rfl, hsz⟩ := okWide_struct Tryz.underlying31 hv
  obtain ⟨fuel, hf⟩ := h
  obtain ⟨m, a, l, c, e, h1, h2, h3, h4⟩ := open_msg_cells (by simpa [Value.cells] using hf)
  exact ⟨m, a, l, c, by unfold msv; congr 1; exact Array.toList_inj.1 e, h1, h2, h3, h4⟩

end Go.Proofs.YtgngpmgjoifepaaGreatDoor

namespace Go.Proofs.YtgngpmgjoifepaaGreatDoor
open Go.ChangeShapes Go.WideShapes Go.ChangeAt Go.RowKit Go.Joins

set_option maxRecDepth 100000 in
theorem cells_bools : Tryz.prog.cellsOf 66 = 1 := by kernel_rfl
set_option maxRecDepth 100000 in
theorem cells_gate : Tryz.prog.cellsOf 68 = 9 := by kernel_rfl

set_option maxRecDepth 100000 in
theorem open_bools_cells {H : Type} {enc : TypeId × Value → H} {W : World} {fuel : Nat} {v : Value} {x : DataW H × List MemPlace}
    (h : DataW.trod enc Tryz.prog W 0 (fun _ => true) true fuel 66 [v] = some x) :
    ∃ a n c bs, v = .slice a n c ∧ BV W a n c bs := by
  rcases Go.Deep.open_slice Tryz.underlying66 h with ⟨hcs, hx⟩ | ⟨ad, len, cap, m, n, D, Pl, hcs, _, hl, hm, hmm, hx, hV⟩
  · simp at hcs
    subst hcs
    exact ⟨none, 0, 0, [], rfl, ⟨.inl rfl, rfl, Nat.le_refl _, by decide⟩⟩
  · simp at hcs hmm
    subst hcs hmm
    have hone : ∀ i, ∃ t : Bool, i < len → W.cell? (ad.add i) = some (.bool t) := by
      intro i
      by_cases hi : i < len
      · obtain ⟨cs', h1, h2⟩ := hV i (by omega)
        rw [cells_bool1] at h1
        obtain ⟨_, hlen, hcell⟩ := World.cells?_some h1
        match cs', hlen with
        | [u0], _ =>
          obtain ⟨b, e, _⟩ := DataW.trod_bool Tryz.underlying4 h2
          simp at e
          subst e
          refine ⟨b, fun _ => ?_⟩
          have := hcell 0 (by simp)
          rw [Nat.mul_one] at this
          simpa [Addr.add] using this
      · exact ⟨false, fun h => absurd h hi⟩
    obtain ⟨R, hR⟩ := Classical.axiomOfChoice hone
    refine ⟨some ad, len, m, (List.range len).map R, rfl, ?_, by simp, hl, Nat.le_trans hl hm⟩
    by_cases h0 : len = 0
    · exact .inl (by simp [h0])
    obtain ⟨b, off, spot⟩ := ad
    have hs : spot = none := by
      have := World.cell?_spot (hR 0 (by omega))
      simpa [Addr.add] using this
    subst hs
    refine .inr ⟨b, off, rfl, fun i hi => ?_⟩
    have hi2 : i < len := by simpa using hi
    rw [ad_cell (hR i hi2)]
    simp [hi2]

set_option maxRecDepth 100000 in
theorem open_trust_cells {H : Type} {enc : TypeId × Value → H} {W : World} {n : Nat} {cs : List Value} {x : DataW H × List MemPlace} (h : DataW.trod enc Tryz.prog W 0 (fun _ => true) true n 65 cs = some x) :
    ∃ (t : Tr) (a : Option Addr) (m c : Nat), cs = [.int .i64 t.r.v, .slice a m c, .int .i64 t.r.t, .int .i64 t.ver] ∧ BI W a m t.r.ks := by
  obtain ⟨xs, k, hk, hxy, hl, hxl, hf⟩ := DataW.trod_struct Tryz.underlying65 h
  rw [cells_trust] at hl
  match cs, hl with
  | [v0, v1, v2, v3], _ =>
    match xs, hxl with
    | [y0, y1], _ =>
      have g0 := hf 0 _ rfl
      have g1 := hf 1 _ rfl
      simp [cells_int, cells_root] at g0 g1
      obtain ⟨rt, a, n, c, e, hi, _, _⟩ := open_root_cells g0
      obtain ⟨z, e1, _⟩ := DataW.trod_int Tryz.underlying3 g1
      simp at e e1
      exact ⟨⟨rt, z⟩, a, n, c, by rw [e.1, e.2.1, e.2.2, e1], hi⟩

set_option maxRecDepth 100000 in
theorem open_gate_cells {H : Type} {enc : TypeId × Value → H} {W : World} {n : Nat} {cs : List Value} {x : DataW H × List MemPlace} (h : DataW.trod enc Tryz.prog W 0 (fun _ => true) true n 68 cs = some x) :
    ∃ (g : Gt) (m : GA), cs = [.slice m.a m.n m.c, .int .i64 g.fu, .bool g.up, .int .i64 g.t.r.v, .slice m.ak m.nk m.ck, .int .i64 g.t.r.t, .int .i64 g.t.ver, .slice m.av m.nv m.cv, .slice m.ad m.nd m.cd] ∧ GIn W m g ∧ (-9223372036854775808 ≤ g.fu ∧ g.fu ≤ 9223372036854775807) := by
  obtain ⟨xs, k, hk, hxy, hl, hxl, hf⟩ := DataW.trod_struct Tryz.underlying68 h
  rw [cells_gate] at hl
  match cs, hl with
  | [v0, v1, v2, v3, v4, v5, v6, v7, v8], _ =>
    match xs, hxl with
    | [y0, y1, y2, y3, y4], _ =>
      have g0 := hf 0 _ rfl
      have g1 := hf 1 _ rfl
      have g2 := hf 2 _ rfl
      have g3 := hf 3 _ rfl
      have g4 := hf 4 _ rfl
      simp [cells_flash2, cells_bool1, cells_trust, cells_bools] at g0 g1 g2 g3 g4
      obtain ⟨a, m, c, ws, f, e0, hi, h1, h2, h3⟩ := open_flash_cells g0
      obtain ⟨b, e1, _⟩ := DataW.trod_bool Tryz.underlying4 g1
      obtain ⟨t, ak, nk, ck, e2, hk2⟩ := open_trust_cells g2
      obtain ⟨av, nv, cv, bv, rfl, hv⟩ := open_bools_cells g3
      obtain ⟨ad, nd, cd, bd, rfl, hd⟩ := open_bools_cells g4
      simp at e0 e1 e2
      exact ⟨⟨ws, f, b, t, bv, bd⟩, ⟨a, m, c, ak, nk, ck, av, nv, cv, ad, nd, cd⟩, by rw [e0.1, e0.2, e1, e2.1, e2.2.1, e2.2.2.1, e2.2.2.2], ⟨⟨hi.at_, hi.len, h1, hi.max⟩, hk2, hv, hd⟩, h3⟩

set_option maxRecDepth 100000 in
theorem open_gate {H : Type} {enc : TypeId × Value → H} {W : World} {r : Reach} {b0 : Nat} {v : Value} {d : DataW H} {p : List MemPlace}
    (hv : Value.okWide Tryz.prog W r b0 68 v) (h : DataW.Trod enc Tryz.prog W 0 (fun _ => true) true 68 v d p) :
    ∃ (g : Gt) (m : GA), v = gtv g m ∧ GIn W m g ∧ (-9223372036854775808 ≤ g.fu ∧ g.fu ≤ 9223372036854775807) := by
  obtain ⟨cs, rfl, hsz⟩ := okWide_struct Tryz.underlying68 hv
  obtain ⟨fuel, hf⟩ := h
  obtain ⟨g, m, e, h1, h2⟩ := open_gate_cells (by simpa [Value.cells] using hf)
  exact ⟨g, m, by unfold gtv; congr 1; exact Array.toList_inj.1 e, h1, h2⟩

set_option maxRecDepth 100000 in
theorem cells_camp : Tryz.prog.cellsOf 93 = 5 := by kernel_rfl
set_option maxRecDepth 100000 in
theorem open_camp_cells {H : Type} {enc : TypeId × Value → H} {W : World} {n : Nat} {cs : List Value} {x : DataW H × List MemPlace} (h : DataW.trod enc Tryz.prog W 0 (fun _ => true) true n 93 cs = some x) :
    ∃ (cn cv cu : Int) (m : CA) (ts : List T3) (ims : List (List Int)), cs = [.int .i64 cn, .int .i64 cv, .int .i64 cu, .slice m.at_ m.nt m.ct, .slice m.ai m.ni m.ci] ∧ BT W m.at_ m.nt ts ∧ BL W m.ai m.ni ims := by
  obtain ⟨xs, k, hk, hxy, hl, hxl, hf⟩ := DataW.trod_struct Tryz.underlying93 h
  rw [cells_camp] at hl
  match cs, hl with
  | [v0, v1, v2, v3, v4], _ =>
    match xs, hxl with
    | [y0, y1, y2], _ =>
      have g0 := hf 0 _ rfl
      have g1 := hf 1 _ rfl
      have g2 := hf 2 _ rfl
      simp [cells_int, cells_rel, cells_lists] at g0 g1 g2
      obtain ⟨z0, e0, _⟩ := DataW.trod_int Tryz.underlying3 g0
      obtain ⟨v, u, a, m, c, ts, e1, h1⟩ := open_rel_cells g1
      obtain ⟨ai, ni, ci, ims, rfl, h2⟩ := open_lists_cells g2
      simp at e0 e1
      exact ⟨z0, v, u, ⟨a, m, c, ai, ni, ci⟩, ts, ims, by rw [e0, e1.1, e1.2.1, e1.2.2], h1, h2⟩
set_option maxRecDepth 100000 in
theorem open_camp {H : Type} {enc : TypeId × Value → H} {W : World} {r : Reach} {b0 : Nat} {v : Value} {d : DataW H} {p : List MemPlace}
    (hv : Value.okWide Tryz.prog W r b0 93 v) (h : DataW.Trod enc Tryz.prog W 0 (fun _ => true) true 93 v d p) :
    ∃ (cn cv cu : Int) (m : CA) (ts : List T3) (ims : List (List Int)), v = cpv cn cv cu m ∧ BT W m.at_ m.nt ts ∧ BL W m.ai m.ni ims := by
  obtain ⟨cs, rfl, hsz⟩ := okWide_struct Tryz.underlying93 hv
  obtain ⟨fuel, hf⟩ := h
  obtain ⟨cn, cv, cu, m, ts, ims, e, h1, h2⟩ := open_camp_cells (by simpa [Value.cells] using hf)
  exact ⟨cn, cv, cu, m, ts, ims, by unfold cpv; congr 1; exact Array.toList_inj.1 e, h1, h2⟩

end Go.Proofs.YtgngpmgjoifepaaGreatDoor

namespace Go.Proofs.YtgngpmgjoifepaaGreatDoor
open Go.RowKit

theorem boot_ok {x : Gt} (h : gtE x = 0) : gtE ⟨x.ws, -1, true, x.t, falses x.vo, falses x.di⟩ = 0 := by
  obtain ⟨h1, h2, h3, h4⟩ := gtE_parts h
  exact gtE_0 (lchk_fuel h1 (show (-1 : Int) ≤ -1 by decide) (show (-1 : Int) ≤ 100000 by decide)) (by show 1 ≤ (falses x.vo).length ∧ (falses x.vo).length ≤ 4; rw [falses_n]; exact h2) (by show (falses x.di).length = (falses x.vo).length; rw [falses_n, falses_n]; exact h3) h4
/-- What may be behind, kind by kind. -/
inductive Way (g : Gt) (m : Ms) : Gs → Gs → Prop
  | s0 (n v : Int) : Way g m ⟨n, v, false, false, false⟩ ⟨n, v, false, false, false⟩
  | s1 (n v : Int) : Way g m ⟨n, v, true, false, false⟩ ⟨n, v, true, false, false⟩
  | s2 (n v : Int) : Way g m ⟨n, v, true, false, true⟩ ⟨n, v, true, false, true⟩
  | s3 (n v : Int) : Way g m ⟨n, v, false, true, false⟩ ⟨n, v, false, true, false⟩
  | s4 (n v : Int) : Way g m ⟨n, v, false, true, true⟩ ⟨n, v, false, true, true⟩
  | vote (n v : Int) (h : m.k = 3 ∧ m.y = true ∧ m.n = n ∧ allB (setB g.vo m.u) = true ∧ 0 ≤ m.u ∧ m.u < g.vo.length) : Way g m ⟨n, v, false, false, false⟩ ⟨n, v, true, false, false⟩
  | e1 (n v : Int) (h : m.k = 6) : Way g m ⟨n, v, true, false, false⟩ ⟨n, v, true, false, true⟩
  | e3 (n v : Int) (h : m.k = 6) : Way g m ⟨n, v, false, true, false⟩ ⟨n, v, false, true, true⟩
theorem way_same (g : Gt) (m : Ms) {s : Gs} (h : GsOk s) : Way g m s s := by
  obtain ⟨-, -, h3, h4⟩ := h
  cases s with
  | mk n v co ab en =>
    unfold decG at h4
    cases co <;> cases ab <;> cases en <;> simp_all
    · exact .s0 n v
    · exact .s3 n v
    · exact .s4 n v
    · exact .s1 n v
    · exact .s2 n v
theorem hear_way {g : Gt} {m : Ms} (h : (gHear g m).2.2 = 0) : gtE (gHear g m).1 = 0 ∧ Way g m (gOf g.ws) (gOf (gHear g m).1.ws) := by
  obtain ⟨h0, hh⟩ := hear_hrd h
  have hs := gsOk_of g.ws
  have ht := gsOk_of (gHear g m).1.ws
  obtain ⟨⟨ok, -, hn, hv, hc, ha, he, -⟩, hco, hab, hen⟩ := hh
  have hu := (ghE_ok h0).2.1
  refine ⟨ok, ?_⟩
  unfold VoteOk DoneOk at *
  generalize gOf (gHear g m).1.ws = t at *
  generalize gOf g.ws = s at *
  obtain ⟨n, v, co, ab, en⟩ := s
  obtain ⟨n', v', co', ab', en'⟩ := t
  obtain ⟨-, -, s3, s4⟩ := hs
  obtain ⟨-, -, t3, t4⟩ := ht
  unfold decG at *
  dsimp only at *
  subst hn hv hab
  cases co <;> cases co' <;> cases en <;> cases en' <;> cases ab' <;> first
    | exact .s0 _ _
    | exact .s1 _ _
    | exact .s2 _ _
    | exact .s3 _ _
    | exact .s4 _ _
    | exact .e1 _ _ ((hen rfl).resolve_left (by decide)).1
    | exact .e3 _ _ ((hen rfl).resolve_left (by decide)).1
    | exact absurd (hc rfl) (by decide)
    | exact absurd (he rfl) (by decide)
    | exact absurd (s3 rfl) (by decide)
    | exact absurd (t3 rfl) (by decide)
    | exact absurd (s4 rfl) (by decide)
    | exact absurd (t4 rfl) (by decide)
    | exact absurd ((hen rfl).resolve_left (by decide)).2.1 (by decide)
    | (have q := (hco rfl).resolve_left (by decide); exact .vote _ _ ⟨q.1, q.2.1, q.2.2.1, q.2.2.2.2.2, hu.1, hu.2⟩)
theorem give_way {g : Gt} (h : (gvUp g).2 = 0) : gtE (gvUp g).1 = 0 ∧ ∃ n v a, gOf g.ws = ⟨n, v, false, false, false⟩ ∧ gOf (gvUp g).1.ws = ⟨n, v, false, a, false⟩ := by
  obtain ⟨o, hco, hen, h0⟩ := once_give h
  obtain ⟨-, -, hd, -⟩ := giveUp_plain h
  have hs := gsOk_of g.ws
  refine ⟨o.ok, ?_⟩
  obtain ⟨-, -, hn, hv, -⟩ := o
  generalize gOf (gvUp g).1.ws = t at *
  generalize gOf g.ws = s at *
  obtain ⟨n, v, co, ab, en⟩ := s
  obtain ⟨n', v', co', ab', en'⟩ := t
  obtain ⟨-, -, s3, s4⟩ := hs
  unfold decG at *
  dsimp only at *
  subst hn hv hco hen h0
  cases ab
  · cases en'
    · exact ⟨_, _, _, rfl, rfl⟩
    · exact absurd (s4 rfl) (by decide)
  · cases hd
/-- All but one have voted. -/
theorem all_but {l : List Bool} {u : Int} (h : allB (setB l u) = true) (h0 : 0 ≤ u) {k : Nat} (hk : k < l.length) (hf : l.getD k false = false) : (k : Int) = u := by
  unfold allB setB at h
  simp only [Bool.not_eq_true', List.any_eq_false] at h
  by_cases e : k = u.toNat
  · omega
  · have hm : l.getD k false ∈ l.set u.toNat true := by
      rw [List.mem_iff_getElem?]
      refine ⟨k, ?_⟩
      rw [List.getElem?_set_ne (Ne.symm e)]
      simp [hk]
    have := h _ hm
    rw [hf] at this
    simp at this

end Go.Proofs.YtgngpmgjoifepaaGreatDoor

namespace Go.Proofs.YtgngpmgjoifepaaGreatDoor
open Go.RowKit

set_option maxHeartbeats 1600000 in
set_option maxRecDepth 100000 in
theorem sameTrust_any (x y : Tr) (a0 : Option Addr) (n0 c0 : Nat) (a1 : Option Addr) (n1 c1 : Nat) (w : World) (h0 : BI w a0 n0 x.r.ks) (h1 : BI w a1 n1 y.r.ks) :
    Calls Tryz.prog 92 #[trv x.r.v a0 n0 c0 x.r.t x.ver, trv y.r.v a1 n1 c1 y.r.t y.ver] w fun e w' => e = .returned (.bool (sameT x y)) ∧ Below w.heap.size w w' := by
  have hw0 : Below w.heap.size w ((w.alloc (.cells #[.int .i64 x.r.v, .slice a0 n0 c0, .int .i64 x.r.t, .int .i64 x.ver] 65)).alloc (.cells #[.int .i64 y.r.v, .slice a1 n1 c1, .int .i64 y.r.t, .int .i64 y.ver] 65)) := ((Below.refl _ _).alloc (Nat.le_refl _) _).alloc (by simp) _
  have HQ := hide (fun W (hW : Below w.heap.size w W) => equal_at a0 a1 n0 n1 c0 c1 x.r.ks y.r.ks (eqL x.r.ks y.r.ks) W (h0.below hW).at_ (h1.below hW).at_ h0.len h1.len rfl h0.max h1.max)
  unfold trv
  clear h0 h1
  by_cases d1 : x.ver = y.ver
  rotate_left
  · have HE := hide (show sameT x y = false by unfold sameT; simp [d1])
    have e1 : (x.ver == y.ver) = false := by simpa using d1
    clear d1 HQ
    go_enter Tryz.func92, Tryz.ntmps92
    go_wp2_with fail
    go_ret
    exact ⟨ret_bool HE.out.symm, hw0⟩
  have e1 : (x.ver == y.ver) = true := by simpa using d1
  by_cases d2 : x.r.v = y.r.v
  rotate_left
  · have HE := hide (show sameT x y = false by unfold sameT; simp [d2])
    have e2 : (x.r.v == y.r.v) = false := by simpa using d2
    clear d1 d2 HQ
    go_enter Tryz.func92, Tryz.ntmps92
    go_wp2_with fail
    go_ret
    exact ⟨ret_bool HE.out.symm, hw0⟩
  have e2 : (x.r.v == y.r.v) = true := by simpa using d2
  by_cases d3 : x.r.t = y.r.t
  rotate_left
  · have HE := hide (show sameT x y = false by unfold sameT; simp [d3])
    have e3 : (x.r.t == y.r.t) = false := by simpa using d3
    clear d1 d2 d3 HQ
    go_enter Tryz.func92, Tryz.ntmps92
    go_wp2_with fail
    go_ret
    exact ⟨ret_bool HE.out.symm, hw0⟩
  have e3 : (x.r.t == y.r.t) = true := by simpa using d3
  have HE := hide (show sameT x y = eqL x.r.ks y.r.ks by unfold sameT; simp [d1, d2, d3])
  clear d1 d2 d3
  generalize eqL x.r.ks y.r.ks = q at *
  go_enter Tryz.func92, Tryz.ntmps92
  go_wp2_with fail
  refine (unhide HQ _ hw0).mono ?_
  rintro e w' ⟨rfl, n, rfl⟩
  go_wp2_with fail
  go_ret
  exact ⟨ret_bool HE.out.symm, below_drewN hw0 _⟩

theorem sameT_refl (x : Tr) : sameT x x = true := by unfold sameT eqL; simp

end Go.Proofs.YtgngpmgjoifepaaGreatDoor

namespace Go.Proofs.YtgngpmgjoifepaaGreatDoor
open Go.RowKit
attribute [local go_sem ↓] Go.wp_at_zero Go.wp_at_succ

def eqB (xs ys : List Bool) : Bool := decide (xs = ys)
theorem takeB_step {xs ys : List Bool} {k : Nat} (h0 : k < xs.length) (h1 : k < ys.length) (ht : xs.take k = ys.take k) (he : xs[k] = ys[k]) : xs.take (k + 1) = ys.take (k + 1) := by
  rw [List.take_succ_eq_append_getElem h0, List.take_succ_eq_append_getElem h1, ht, he]
set_option maxHeartbeats 400000 in
theorem equalB_any (a0 a1 : Option Addr) (n0 n1 c0 c1 : Nat) (xs ys : List Bool) (w : World) (h0 : BV w a0 n0 c0 xs) (h1 : BV w a1 n1 c1 ys) :
    Calls Tryz.prog 49 #[.slice a0 n0 c0, .slice a1 n1 c1] w fun e w' => e = .returned (.bool (eqB xs ys)) ∧ ∃ n, w' = w.drewN n := by
  obtain ⟨h0, rfl, -, hx⟩ := h0
  obtain ⟨h1, rfl, -, hy⟩ := h1
  unfold maxLen at hx hy
  by_cases hl : xs.length = ys.length
  · have hbl : ((xs.length : Int) != (ys.length : Int)) = false := by simp [hl]
    have HL : Hid (xs.length = ys.length) := hl
    clear hl
    go_enter Tryz.func49, Tryz.ntmps49
    go_wp2
    go_loopw [13] (fun i wr => ∃ k : Nat, k ≤ xs.length ∧ i = .int .i64 k ∧ xs.take k = ys.take k ∧ ∃ n, wr = w.drewN n) (fun i _ => xs.length - (intOf i).toNat)
    case atStart => exact ⟨0, Nat.zero_le _, rfl, rfl, 0, rfl⟩
    case round =>
      obtain ⟨k, hk, rfl, ht, n, rfl⟩ := hrel
      have HT : Hid (xs.take k = ys.take k) := ht
      clear ht
      by_cases hlt : k < xs.length
      · have hlt2 : k < ys.length := by have := HL.out; omega
        rcases h0 with rfl | ⟨b0, o0, rfl, hc0⟩
        · simp at hlt
        rcases h1 with rfl | ⟨b1, o1, rfl, hc1⟩
        · simp at hlt2
        have e0 : w.cell? ⟨b0, o0 + k, none⟩ = some (.bool xs[k]) := by rw [hc0 k hlt]; simp [hlt]
        have e1 : w.cell? ⟨b1, o1 + k, none⟩ = some (.bool ys[k]) := by rw [hc1 k hlt2]; simp [hlt2]
        clear hc0 hc1
        cases hp : xs[k]
        · cases hq : ys[k]
          · rw [hp] at e0
            rw [hq] at e1
            have HE : Hid (xs[k] = ys[k]) := by show _ = _; rw [hp, hq]
            clear hp hq
            go_wp2
            go_quiet (fail)
            go_wp2
            go_roundw
            case rel => exact ⟨k + 1, by omega, by go_num, takeB_step hlt hlt2 HT.out HE.out, n + nq, rfl⟩
            case measure => simp [intOf]; omega
          · rw [hp] at e0
            rw [hq] at e1
            have HE : Hid (xs ≠ ys) := fun e => by subst e; rw [hp] at hq; cases hq
            clear hp hq
            go_wp2
            go_quiet (fail)
            go_wp2
            go_ret
            exact ⟨ret_bool (by unfold eqB; exact (decide_eq_false HE.out).symm), n + nq, by simp⟩
        · cases hq : ys[k]
          · rw [hp] at e0
            rw [hq] at e1
            have HE : Hid (xs ≠ ys) := fun e => by subst e; rw [hp] at hq; cases hq
            clear hp hq
            go_wp2
            go_quiet (fail)
            go_wp2
            go_ret
            exact ⟨ret_bool (by unfold eqB; exact (decide_eq_false HE.out).symm), n + nq, by simp⟩
          · rw [hp] at e0
            rw [hq] at e1
            have HE : Hid (xs[k] = ys[k]) := by show _ = _; rw [hp, hq]
            clear hp hq
            go_wp2
            go_quiet (fail)
            go_wp2
            go_roundw
            case rel => exact ⟨k + 1, by omega, by go_num, takeB_step hlt hlt2 HT.out HE.out, n + nq, rfl⟩
            case measure => simp [intOf]; omega
      · go_wp2
        go_ret
        refine ⟨ret_bool ?_, n, rfl⟩
        have e : xs = ys := by
          have := HT.out
          rw [List.take_of_length_le (by omega), List.take_of_length_le (by have := HL.out; omega)] at this
          exact this
        unfold eqB
        exact (decide_eq_true e).symm
  · have hbl : ((xs.length : Int) != (ys.length : Int)) = true := by simp; omega
    go_enter Tryz.func49, Tryz.ntmps49
    go_wp2
    go_ret
    exact ⟨ret_bool (by unfold eqB; exact (decide_eq_false (fun e => hl (by rw [e]))).symm), 0, rfl⟩

/-- Are two gateways alike? -/
def sameG (x y : Gt) : Bool := (decide (x.fu = y.fu) && eqL x.ws y.ws) && ((x.up == y.up) && (sameT x.t y.t && (eqB x.vo y.vo && eqB x.di y.di)))
theorem sameG_def (x y : Gt) : sameG x y = ((decide (x.fu = y.fu) && eqL x.ws y.ws) && ((x.up == y.up) && (sameT x.t y.t && (eqB x.vo y.vo && eqB x.di y.di)))) := rfl
theorem sameT_self (t : Tr) : sameT t t = true := by unfold sameT eqL; simp
theorem sameG_self (x : Gt) : sameG x x = true := by unfold sameG eqL eqB; simp [sameT_self]

set_option maxRecDepth 100000 in
set_option maxHeartbeats 3200000 in
theorem sameGate_any (x : Gt) (k : GA) (y : Gt) (j : GA) (w : World) (h : GIn w k x) (h2 : GIn w j y) :
    Calls Tryz.prog 38 #[gtv x k, gtv y j] w fun e w' => e = .returned (.bool (sameG x y)) ∧ Below w.heap.size w w' := by
  have hw : Below w.heap.size w ((w.alloc (.cells #[.slice k.a k.n k.c, .int .i64 x.fu, .bool x.up, .int .i64 x.t.r.v, .slice k.ak k.nk k.ck, .int .i64 x.t.r.t, .int .i64 x.t.ver, .slice k.av k.nv k.cv, .slice k.ad k.nd k.cd] 68)).alloc (.cells #[.slice j.a j.n j.c, .int .i64 y.fu, .bool y.up, .int .i64 y.t.r.v, .slice j.ak j.nk j.ck, .int .i64 y.t.r.t, .int .i64 y.t.ver, .slice j.av j.nv j.cv, .slice j.ad j.nd j.cd] 68)) := ((Below.refl _ _).alloc (Nat.le_refl _) _).alloc (by simp) _
  have b0 : Hid (((w.alloc (.cells #[.slice k.a k.n k.c, .int .i64 x.fu, .bool x.up, .int .i64 x.t.r.v, .slice k.ak k.nk k.ck, .int .i64 x.t.r.t, .int .i64 x.t.ver, .slice k.av k.nv k.cv, .slice k.ad k.nd k.cd] 68)).alloc (.cells #[.slice j.a j.n j.c, .int .i64 y.fu, .bool y.up, .int .i64 y.t.r.v, .slice j.ak j.nk j.ck, .int .i64 y.t.r.t, .int .i64 y.t.ver, .slice j.av j.nv j.cv, .slice j.ad j.nd j.cd] 68)).heap[w.heap.size]? = some (.cells #[.slice k.a k.n k.c, .int .i64 x.fu, .bool x.up, .int .i64 x.t.r.v, .slice k.ak k.nk k.ck, .int .i64 x.t.r.t, .int .i64 x.t.ver, .slice k.av k.nv k.cv, .slice k.ad k.nd k.cd] 68 (0, 0))) := blk_alloc (heap_alloc_last _ _) _
  have b1 : Hid (((w.alloc (.cells #[.slice k.a k.n k.c, .int .i64 x.fu, .bool x.up, .int .i64 x.t.r.v, .slice k.ak k.nk k.ck, .int .i64 x.t.r.t, .int .i64 x.t.ver, .slice k.av k.nv k.cv, .slice k.ad k.nd k.cd] 68)).alloc (.cells #[.slice j.a j.n j.c, .int .i64 y.fu, .bool y.up, .int .i64 y.t.r.v, .slice j.ak j.nk j.ck, .int .i64 y.t.r.t, .int .i64 y.t.ver, .slice j.av j.nv j.cv, .slice j.ad j.nd j.cd] 68)).heap[w.heap.size + 1]? = some (.cells #[.slice j.a j.n j.c, .int .i64 y.fu, .bool y.up, .int .i64 y.t.r.v, .slice j.ak j.nk j.ck, .int .i64 y.t.r.t, .int .i64 y.t.ver, .slice j.av j.nv j.cv, .slice j.ad j.nd j.cd] 68 (0, 0))) := uLast1 _ _ _
  have HS := hide (fun W (hW : Below w.heap.size w W) => refSame_any k.a k.n k.c x.ws x.fu j.a j.n j.c y.ws y.fu W (h.below hW).ws.at_ h.ws.len h.ws.max (h2.below hW).ws.at_ h2.ws.len h2.ws.max)
  have HT := hide (fun W (hW : Below w.heap.size w W) => sameTrust_any x.t y.t k.ak k.nk k.ck j.ak j.nk j.ck W (h.below hW).ks (h2.below hW).ks)
  have HV := hide (fun W (hW : Below w.heap.size w W) => equalB_any k.av j.av k.nv j.nv k.cv j.cv x.vo y.vo W (h.below hW).vo (h2.below hW).vo)
  have HD := hide (fun W (hW : Below w.heap.size w W) => equalB_any k.ad j.ad k.nd j.nd k.cd j.cd x.di y.di W (h.below hW).di (h2.below hW).di)
  have HQ := hide (sameG_def x y)
  unfold trv at HT
  unfold gtv
  clear h h2
  generalize (decide (x.fu = y.fu) && eqL x.ws y.ws) = q at *
  generalize sameT x.t y.t = q2 at *
  generalize eqB x.vo y.vo = q3 at *
  generalize eqB x.di y.di = q4 at *
  have x0 := blk_cell b0.out 0 _ rfl
  have x1 := blk_cell b0.out 1 _ rfl
  have y0 := blk_cell b1.out 0 _ rfl
  have y1 := blk_cell b1.out 1 _ rfl
  go_enter Tryz.func38, Tryz.ntmps38
  go_wp2_with fail
  generalize ((w.alloc (.cells #[.slice k.a k.n k.c, .int .i64 x.fu, .bool x.up, .int .i64 x.t.r.v, .slice k.ak k.nk k.ck, .int .i64 x.t.r.t, .int .i64 x.t.ver, .slice k.av k.nv k.cv, .slice k.ad k.nd k.cd] 68)).alloc (.cells #[.slice j.a j.n j.c, .int .i64 y.fu, .bool y.up, .int .i64 y.t.r.v, .slice j.ak j.nk j.ck, .int .i64 y.t.r.t, .int .i64 y.t.ver, .slice j.av j.nv j.cv, .slice j.ad j.nd j.cd] 68)) = W at *
  refine (unhide HS _ hw).mono ?_
  rintro e w1 ⟨rfl, hb⟩
  replace b0 := hide (blk_below b0.out hb)
  replace b1 := hide (blk_below b1.out hb)
  replace hw := hw.trans (hb.mono hw.size)
  clear hb HS x0 x1 y0 y1
  cases q
  · have HE : Hid (sameG x y = false) := HQ.out.trans (by simp)
    go_wp2_with fail
    go_ret
    exact ⟨ret_bool HE.out.symm, hw⟩
  have x2 := blk_cell b0.out 2 _ rfl
  have y2 := blk_cell b1.out 2 _ rfl
  have x3 := blk_cell b0.out 3 _ rfl
  have x4 := blk_cell b0.out 4 _ rfl
  have x5 := blk_cell b0.out 5 _ rfl
  have x6 := blk_cell b0.out 6 _ rfl
  have y3 := blk_cell b1.out 3 _ rfl
  have y4 := blk_cell b1.out 4 _ rfl
  have y5 := blk_cell b1.out 5 _ rfl
  have y6 := blk_cell b1.out 6 _ rfl
  by_cases z1 : x.up = y.up
  rotate_left
  · have HE : Hid (sameG x y = false) := HQ.out.trans (by simp [z1])
    have d1 : (x.up == y.up) = false := by simpa using z1
    clear z1
    go_wp2_with fail
    go_ret
    exact ⟨ret_bool HE.out.symm, hw⟩
  have d1 : (x.up == y.up) = true := by simpa using z1
  have HQ2 : Hid (sameG x y = (q2 && (q3 && q4))) := HQ.out.trans (by simp [z1])
  clear z1 HQ
  go_wp2_with fail
  refine (unhide HT _ hw).mono ?_
  rintro e w2 ⟨rfl, hb⟩
  replace b0 := hide (blk_below b0.out hb)
  replace b1 := hide (blk_below b1.out hb)
  replace hw := hw.trans (hb.mono hw.size)
  clear hb HT d1 x2 y2 x3 x4 x5 x6 y3 y4 y5 y6
  cases q2
  · have HE : Hid (sameG x y = false) := HQ2.out.trans (by simp)
    go_wp2_with fail
    go_ret
    exact ⟨ret_bool HE.out.symm, hw⟩
  have x7 := blk_cell b0.out 7 _ rfl
  have y7 := blk_cell b1.out 7 _ rfl
  go_wp2_with fail
  refine (unhide HV _ hw).mono ?_
  rintro e w3 ⟨rfl, n3, rfl⟩
  have hb3 : Below w2.heap.size w2 (w2.drewN n3) := below_drewN (Below.refl _ _) n3
  replace b0 := hide (blk_below b0.out hb3)
  replace b1 := hide (blk_below b1.out hb3)
  replace hw := hw.trans (hb3.mono hw.size)
  clear hb3 HV x7 y7
  generalize w2.drewN n3 = w3 at *
  cases q3
  · have HE : Hid (sameG x y = false) := HQ2.out.trans (by simp)
    go_wp2_with fail
    go_ret
    exact ⟨ret_bool HE.out.symm, hw⟩
  have HE : Hid (sameG x y = q4) := HQ2.out.trans (by simp)
  have x8 := blk_cell b0.out 8 _ rfl
  have y8 := blk_cell b1.out 8 _ rfl
  go_wp2_with fail
  refine (unhide HD _ hw).mono ?_
  rintro e w4 ⟨rfl, n4, rfl⟩
  have hb4 := below_drewN hw n4
  clear HD x8 y8
  go_wp2_with fail
  go_ret
  exact ⟨ret_bool HE.out.symm, hb4⟩

end Go.Proofs.YtgngpmgjoifepaaGreatDoor
