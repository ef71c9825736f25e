/- How a law's arguments that are books, releases, roots, texts or slices of ints are opened. The contract of trust.Turn. How a law's arguments that are signatures, what is trusted, or offers are opened. How a law's arguments that are units, or messages, are opened. Gateways in memory: 'IsBools', 'BV', 'gtv', 'GIn'; a gateway's state ('gsv'). How an argument that is a list of ints is opened, with its room. What room the lists of a gateway that came in take. What room the words of a unit that came in take. What the rows' listed variables give: the table that strconv.Itoa reads ('Tab'). -/
import Derived.Test.YtgngpmgjoifepaaGreatDoorPv10
import Derived.ProofKit
import Derived.Lib.SmallJoins
import Derived.SliceStrings
import Derived.Deep.Slices
import Derived.ChangeMaps5
import Derived.Laws.StructEq
import Derived.Deep.RegionHeld3
import Derived.Deep.DeepCutAuto
import Derived.Test.YtgngpmgjoifepaaGreatDoorPv0
import Derived.Deep.AppendLies
import Derived.Test.YtgngpmgjoifepaaGreatDoorPv13
import Derived.SizedLaws
import Derived.Test.YtgngpmgjoifepaaGreatDoorPv25
import Derived.Test.YtgngpmgjoifepaaGreatDoorPv41
import Derived.Stop.LaidErr
import Derived.LaidMore
namespace Go.Proofs.YtgngpmgjoifepaaGreatDoor
open Go.ChangeShapes Go.WideShapes Go.ChangeAt Go.RowKit Go.Joins

set_option maxRecDepth 100000 in
theorem own : ownKnob Tryz.prog.godebug = none := by kernel_rfl
set_option maxRecDepth 100000 in
theorem laidOut : laidOutB Tryz.prog = true := by kernel_rfl
set_option maxRecDepth 100000 in
theorem cells_int : Tryz.prog.cellsOf 3 = 1 := by kernel_rfl
set_option maxRecDepth 100000 in
theorem cells_str : Tryz.prog.cellsOf 9 = 1 := by kernel_rfl

structure InInts (W : World) (a : Option Addr) (n c : Nat) (xs : List Int) : Prop where
  ints : IsInts W a xs
  len : xs.length = n
  cap : n ≤ c
  max : n ≤ maxLen

structure InStrs (W : World) (a : Option Addr) (n c : Nat) (ss : List ByteArray) : Prop where
  strs : IsStrs W a ss
  len : ss.length = n
  cap : n ≤ c
  max : n ≤ maxLen
  short : ∀ s ∈ ss, s.size ≤ maxLen

theorem ad_spot {W : World} {ad : Addr} {v : Value} (h : W.cell? (ad.add 0) = some v) : ad.spot = none := by
  simpa [Addr.add] using World.cell?_spot h

theorem ad_cell {W : World} {b off i : Nat} {v : Value} (h : W.cell? ((⟨b, off, none⟩ : Addr).add i) = some v) : W.cell? ⟨b, off + i, none⟩ = some v := by
  by_cases hi0 : i = 0
  { subst hi0; simpa [Addr.add] using h }
  {
  simpa [Addr.add, hi0] using h

  }
set_option maxRecDepth 100000 in
theorem open_ints_cells {H : Type} {enc : TypeId × Value → H} {W : World} {fuel : Nat} {v : Value} {x : DataW H × List MemPlace}
    (h : DataW.trod enc Tryz.prog W 0 (fun _ => true) true fuel 25 [v] = some x) :
    ∃ a n c xs, v = .slice a n c ∧ InInts W a n c xs := by
  rcases open_ints Tryz.underlying25 Tryz.underlying3 cells_int h with ⟨hcs, hx⟩ | ⟨ad, len, cap, zs, hcs, _, hl, hm, hz, hx, hcell, _⟩
  {
  simp at hcs
  subst hcs hx
  exact ⟨none, 0, 0, [], rfl, ⟨.inl rfl, rfl, Nat.le_refl _, by decide⟩⟩
  }
  {
  simp at hcs hz
  subst hcs hx
  refine ⟨some ad, len, cap, zs.take len, rfl, ?_, by simp; omega, hl, Nat.le_trans hl hm⟩
  by_cases h0 : len = 0
  { exact .inl (by simp [h0]) }
  obtain ⟨b, off, spot⟩ := ad
  have hs : spot = none := ad_spot (hcell 0 (by omega))
  subst hs
  refine .inr ⟨b, off, rfl, fun i hi => ?_⟩
  simp at hi
  rw [ad_cell (hcell i (by omega))]
  simp [show i < len by omega]

  }
set_option maxRecDepth 100000 in
theorem open_strs_cells {H : Type} {enc : TypeId × Value → H} {W : World} {fuel : Nat} {v : Value} {x : DataW H × List MemPlace}
    (h : DataW.trod enc Tryz.prog W 0 (fun _ => true) true fuel 22 [v] = some x) :
    ∃ a n c ss, v = .slice a n c ∧ InStrs W a n c ss := by
  rcases open_strings Tryz.underlying22 Tryz.underlying9 cells_str h with ⟨hcs, hx⟩ | ⟨ad, len, cap, zs, hcs, _, hl, hm, hz, hx, hcell, hsz⟩
  {
  simp at hcs
  subst hcs hx
  exact ⟨none, 0, 0, [], rfl, ⟨.inl rfl, rfl, Nat.le_refl _, by decide, by simp⟩⟩
  }
  {
  simp at hcs hz
  subst hcs hx
  refine ⟨some ad, len, cap, zs.take len, rfl, ?_, by simp; omega, hl, Nat.le_trans hl hm, fun s hs => hsz s (List.mem_of_mem_take hs)⟩
  by_cases h0 : len = 0
  { exact .inl (by simp [h0]) }
  obtain ⟨b, off, spot⟩ := ad
  have hs : spot = none := ad_spot (hcell 0 (by omega))
  subst hs
  refine .inr ⟨b, off, rfl, fun i hi => ?_⟩
  simp at hi
  rw [ad_cell (hcell i (by omega))]
  simp [show i < len by omega]

  }
set_option maxRecDepth 100000 in
theorem open_book {H : Type} {enc : TypeId × Value → H} {W : World} {r : Reach} {b0 : Nat} {v : Value} {d : DataW H} {p : List MemPlace}
    (hv : Value.okWide Tryz.prog W r b0 24 v) (h : DataW.Trod enc Tryz.prog W 0 (fun _ => true) true 24 v d p) :
    ∃ a n c ss, v = bookv a n c ∧ InStrs W a n c ss := by
  obtain ⟨cs, rfl, hsz⟩ := okWide_struct Tryz.underlying24 hv
  have hC : Tryz.prog.cellsOf 24 = 1 := by kernel_rfl
  rw [hC] at hsz
  obtain ⟨c0, rfl⟩ : ∃ c0, cs = #[c0] := by
    obtain ⟨l⟩ := cs
    match l, hsz with
    | [c0], _ => exact ⟨c0, rfl⟩
  obtain ⟨fuel, hf⟩ := h
  obtain ⟨xs, k, hk, hxy, hl, hxl, hf⟩ := DataW.trod_struct Tryz.underlying24 hf
  match xs, hxl with
  | [y0], _ =>
    have g0 := hf 0 _ rfl
    have cl : Tryz.prog.cellsOf 22 = 1 := by kernel_rfl
    simp [cl, Value.cells] at g0
    obtain ⟨a, n, c, ss, rfl, hi⟩ := open_strs_cells g0
    exact ⟨a, n, c, ss, rfl, hi⟩

end Go.Proofs.YtgngpmgjoifepaaGreatDoor

namespace Go.Proofs.YtgngpmgjoifepaaGreatDoor
open Go.RowKit

theorem BI.old {w : World} {a : Option Addr} {n : Nat} {xs : List Int} (h : BI w a n xs) : xs = [] ∨ ∀ ad, a = some ad → ad.block < w.heap.size := by
  rcases h.at_ with h | ⟨b', off', rfl, hc⟩
  { exact .inl h }
  {
  by_cases h0 : xs = []
  { exact .inl h0 }
  {
  refine .inr fun ad e => ?_
  cases e
  exact cell_lt (hc 0 (by cases xs with | nil => exact absurd rfl h0 | cons _ _ => simp))
  }
  }
theorem BI.set {w : World} {g off n : Nat} {xs : List Int} (h : BI w (some ⟨g, off, none⟩) n xs) (b i : Nat) (v : Value) (hb : g ≠ b) : BI (w.setCell ⟨b, i, none⟩ v) (some ⟨g, off, none⟩) n xs := by
  refine ⟨?_, h.len, h.max⟩
  rcases h.at_ with h | ⟨b', off', e, hc⟩
  { exact .inl h }
  {
  cases e
  refine .inr ⟨_, _, rfl, fun k hk => ?_⟩
  rw [World.cell?_of_block (w := w) (Below.heap_setCell _ _ _ _ hb)]
  exact hc k hk

  }
structure TB (W : World) (B : Nat) (o0 o1 o2 o3 : Obj) : Prop where
  b0 : W.heap[B]? = some o0
  b1 : W.heap[B + 1]? = some o1
  b2 : W.heap[B + 1 + 1]? = some o2
  b3 : W.heap[B + 1 + 1 + 1]? = some o3
theorem TB.below {W W' : World} {B : Nat} {o0 o1 o2 o3 : Obj} (h : TB W B o0 o1 o2 o3) (hb : Below W.heap.size W W') : TB W' B o0 o1 o2 o3 :=
  ⟨blk_below h.b0 hb, blk_below h.b1 hb, blk_below h.b2 hb, blk_below h.b3 hb⟩

end Go.Proofs.YtgngpmgjoifepaaGreatDoor

namespace Go.Proofs.YtgngpmgjoifepaaGreatDoor
open Go.ChangeShapes Go.WideShapes Go.ChangeAt Go.RowKit Go.Joins

set_option maxRecDepth 100000 in
theorem cells_ints : Tryz.prog.cellsOf 25 = 1 := by kernel_rfl
theorem InInts.bi {W : World} {a : Option Addr} {n c : Nat} {xs : List Int} (h : InInts W a n c xs) : BI W a n xs := ⟨h.ints, h.len, h.max⟩
theorem InStrs.bb {W : World} {a : Option Addr} {n c : Nat} {ss : List ByteArray} (h : InStrs W a n c ss) : BB W a n c ss := ⟨h.strs, h.len, h.cap, h.max, h.short⟩
end Go.Proofs.YtgngpmgjoifepaaGreatDoor

namespace Go.Proofs.YtgngpmgjoifepaaGreatDoor
open Go.ChangeShapes Go.WideShapes Go.ChangeAt Go.RowKit Go.Joins

set_option maxRecDepth 100000 in
theorem cells_flash2 : Tryz.prog.cellsOf 27 = 2 := by kernel_rfl
set_option maxRecDepth 100000 in
theorem cells_bool1 : Tryz.prog.cellsOf 4 = 1 := by kernel_rfl
set_option maxRecDepth 100000 in
theorem cells_unit : Tryz.prog.cellsOf 29 = 5 := by kernel_rfl
set_option maxRecDepth 100000 in
theorem cells_msg : Tryz.prog.cellsOf 31 = 7 := by kernel_rfl

set_option maxRecDepth 100000 in
theorem cells_ints2 : Tryz.prog.cellsOf 25 = 1 := by kernel_rfl
theorem open_ints_room2 {H : Type} {enc : TypeId × Value → H} {W : World} {fuel : Nat} {v : Value} {x : DataW H × List MemPlace}
    (h : DataW.trod enc Tryz.prog W 0 (fun _ => true) true fuel 25 [v] = some x) :
    ∃ a n c xs, v = .slice a n c ∧ BI W a n xs ∧ n ≤ c ∧ c ≤ maxLen := by
  obtain ⟨a, n, c, xs, rfl, hi⟩ := open_ints_cells h
  refine ⟨a, n, c, xs, rfl, ⟨hi.ints, hi.len, hi.max⟩, hi.cap, ?_⟩
  rcases open_ints Tryz.underlying25 Tryz.underlying3 cells_int h with ⟨hcs, hx⟩ | ⟨ad, len, cap, zs, hcs, _, hl, hm, hz, hx, hcell, _⟩
  {
  simp at hcs
  rw [hcs.2.2]
  decide
  }
  {
  simp at hcs
  rw [hcs.2.2]
  exact hm

  }
theorem wf_bounds2 {f : Int} (h : (Lit.int .i64 f).wf = true) : -9223372036854775808 ≤ f ∧ f ≤ 9223372036854775807 := by
  simp [Lit.wf, IntKind.min, IntKind.max, IntKind.bits, IntKind.signed] at h
  omega

structure UnB (u : Un) : Prop where
  fu : -9223372036854775808 ≤ u.fu ∧ u.fu ≤ 9223372036854775807
  n : -9223372036854775808 ≤ u.n ∧ u.n ≤ 9223372036854775807
  hv : -9223372036854775808 ≤ u.hv ∧ u.hv ≤ 9223372036854775807
structure MsB (m : Ms) : Prop where
  k : -9223372036854775808 ≤ m.k ∧ m.k ≤ 9223372036854775807
  u : -9223372036854775808 ≤ m.u ∧ m.u ≤ 9223372036854775807
  n : -9223372036854775808 ≤ m.n ∧ m.n ≤ 9223372036854775807
  at' : -9223372036854775808 ≤ m.at' ∧ m.at' ≤ 9223372036854775807
  im : -9223372036854775808 ≤ m.im ∧ m.im ≤ 9223372036854775807

set_option maxRecDepth 100000 in
theorem open_flash_cells {H : Type} {enc : TypeId × Value → H} {W : World} {n : Nat} {cs : List Value} {x : DataW H × List MemPlace} (h : DataW.trod enc Tryz.prog W 0 (fun _ => true) true n 27 cs = some x) :
    ∃ (a : Option Addr) (m c : Nat) (ws : List Int) (f : Int), cs = [.slice a m c, .int .i64 f] ∧ BI W a m ws ∧ m ≤ c ∧ c ≤ maxLen ∧ (-9223372036854775808 ≤ f ∧ f ≤ 9223372036854775807) := by
  obtain ⟨xs, k, hk, hxy, hl, hxl, hf⟩ := DataW.trod_struct Tryz.underlying27 h
  rw [cells_flash2] at hl
  match cs, hl with
  | [v0, v1], _ =>
    match xs, hxl with
    | [y0, y1], _ =>
      have g0 := hf 0 _ rfl
      have g1 := hf 1 _ rfl
      simp [cells_int, cells_ints2] at g0 g1
      obtain ⟨a, m, c, ws, rfl, hi, h1, h2⟩ := open_ints_room2 g0
      obtain ⟨z1, e1, _, wf⟩ := DataW.trod_int Tryz.underlying3 g1
      simp at e1
      exact ⟨a, m, c, ws, z1, by rw [e1], hi, h1, h2, wf_bounds2 wf⟩

set_option maxRecDepth 100000 in
theorem open_unit_cells {H : Type} {enc : TypeId × Value → H} {W : World} {n : Nat} {cs : List Value} {x : DataW H × List MemPlace} (h : DataW.trod enc Tryz.prog W 0 (fun _ => true) true n 29 cs = some x) :
    ∃ (u : Un) (a : Option Addr) (m c : Nat), cs = [.slice a m c, .int .i64 u.fu, .bool u.up, .int .i64 u.n, .int .i64 u.hv] ∧ BW W a m c u.ws ∧ c ≤ maxLen ∧ UnB u := by
  obtain ⟨xs, k, hk, hxy, hl, hxl, hf⟩ := DataW.trod_struct Tryz.underlying29 h
  rw [cells_unit] at hl
  match cs, hl with
  | [v0, v1, v2, v3, v4], _ =>
    match xs, hxl with
    | [y0, y1, y2, y3], _ =>
      have g0 := hf 0 _ rfl
      have g1 := hf 1 _ rfl
      have g2 := hf 2 _ rfl
      have g3 := hf 3 _ rfl
      simp [cells_int, cells_flash2, cells_bool1] at g0 g1 g2 g3
      obtain ⟨a, m, c, ws, f, e0, hi, h1, h2, h3⟩ := open_flash_cells g0
      obtain ⟨b, e1, _⟩ := DataW.trod_bool Tryz.underlying4 g1
      obtain ⟨z2, e2, _, w2⟩ := DataW.trod_int Tryz.underlying3 g2
      obtain ⟨z3, e3, _, w3⟩ := DataW.trod_int Tryz.underlying3 g3
      simp at e0 e1 e2 e3
      exact ⟨⟨ws, f, b, z2, z3⟩, a, m, c, by rw [e0.1, e0.2, e1, e2, e3], ⟨hi.at_, hi.len, h1, hi.max⟩, h2, ⟨h3, wf_bounds2 w2, wf_bounds2 w3⟩⟩

set_option maxRecDepth 100000 in
theorem open_unit {H : Type} {enc : TypeId × Value → H} {W : World} {r : Reach} {b0 : Nat} {v : Value} {d : DataW H} {p : List MemPlace}
    (hv : Value.okWide Tryz.prog W r b0 29 v) (h : DataW.Trod enc Tryz.prog W 0 (fun _ => true) true 29 v d p) :
    ∃ (u : Un) (a : Option Addr) (n c : Nat), v = unv u a n c ∧ BW W a n c u.ws ∧ c ≤ maxLen ∧ UnB u := by
  obtain ⟨cs, rfl, hsz⟩ := okWide_struct Tryz.underlying29 hv
  obtain ⟨fuel, hf⟩ := h
  obtain ⟨u, a, n, c, e, h1, h2, h3⟩ := open_unit_cells (by simpa [Value.cells] using hf)
  exact ⟨u, a, n, c, by unfold unv; congr 1; exact Array.toList_inj.1 e, h1, h2, h3⟩

set_option maxRecDepth 100000 in
theorem open_msg_cells {H : Type} {enc : TypeId × Value → H} {W : World} {n : Nat} {cs : List Value} {x : DataW H × List MemPlace} (h : DataW.trod enc Tryz.prog W 0 (fun _ => true) true n 31 cs = some x) :
    ∃ (m : Ms) (a : Option Addr) (l c : Nat), cs = [.int .i64 m.k, .int .i64 m.u, .int .i64 m.n, .int .i64 m.at', .int .i64 m.im, .slice a l c, .bool m.y] ∧ BI W a l m.ws ∧ l ≤ c ∧ c ≤ maxLen ∧ MsB m := by
  obtain ⟨xs, k, hk, hxy, hl, hxl, hf⟩ := DataW.trod_struct Tryz.underlying31 h
  rw [cells_msg] at hl
  match cs, hl with
  | [v0, v1, v2, v3, v4, v5, v6], _ =>
    match xs, hxl with
    | [y0, y1, y2, y3, y4, y5, y6], _ =>
      have g0 := hf 0 _ rfl
      have g1 := hf 1 _ rfl
      have g2 := hf 2 _ rfl
      have g3 := hf 3 _ rfl
      have g4 := hf 4 _ rfl
      have g5 := hf 5 _ rfl
      have g6 := hf 6 _ rfl
      simp [cells_int, cells_ints2, cells_bool1] at g0 g1 g2 g3 g4 g5 g6
      obtain ⟨z0, e0, _, w0⟩ := DataW.trod_int Tryz.underlying3 g0
      obtain ⟨z1, e1, _, w1⟩ := DataW.trod_int Tryz.underlying3 g1
      obtain ⟨z2, e2, _, w2⟩ := DataW.trod_int Tryz.underlying3 g2
      obtain ⟨z3, e3, _, w3⟩ := DataW.trod_int Tryz.underlying3 g3
      obtain ⟨z4, e4, _, w4⟩ := DataW.trod_int Tryz.underlying3 g4
      obtain ⟨a, m, c, ws, rfl, hi, h1, h2⟩ := open_ints_room2 g5
      obtain ⟨b, e6, _⟩ := DataW.trod_bool Tryz.underlying4 g6
      simp at e0 e1 e2 e3 e4 e6
      exact ⟨⟨z0, z1, z2, z3, z4, ws, b⟩, a, m, c, by rw [e0, e1, e2, e3, e4, e6], hi, h1, h2, ⟨wf_bounds2 w0, wf_bounds2 w1, wf_bounds2 w2, wf_bounds2 w3, wf_bounds2 w4⟩⟩

set_option maxRecDepth 100000 in
theorem open_msg {H : Type} {enc : TypeId × Value → H} {W : World} {r : Reach} {b0 : Nat} {v : Value} {d : DataW H} {p : List MemPlace}
    (hv : Value.okWide Tryz.prog W r b0 31 v) (h : DataW.Trod enc Tryz.prog W 0 (fun _ => true) true 31 v d p) :
    ∃ (m : Ms) (a : Option Addr) (l c : Nat), v = msv m a l c ∧ BI W a l m.ws ∧ l ≤ c ∧ c ≤ maxLen ∧ MsB m := by
  obtain ⟨cs, rfl, hsz⟩ := okWide_struct Tryz.underlying31 hv
  obtain ⟨fuel, hf⟩ := h
  obtain ⟨m, a, l, c, e, h1, h2, h3, h4⟩ := open_msg_cells (by simpa [Value.cells] using hf)
  exact ⟨m, a, l, c, by unfold msv; congr 1; exact Array.toList_inj.1 e, h1, h2, h3, h4⟩

end Go.Proofs.YtgngpmgjoifepaaGreatDoor

namespace Go.Proofs.YtgngpmgjoifepaaGreatDoor
open Go.RowKit

theorem BI.turns {w w' : World} {B : Nat} {a : Option Addr} {n : Nat} {xs : List Int} (h : BI w a n xs) (hg : w.grownBy w' (some B)) (ho : Off B a) : BI w' a n xs := ⟨ints_turns h.at_ hg ho, h.len, h.max⟩
end Go.Proofs.YtgngpmgjoifepaaGreatDoor

namespace Go.Proofs.YtgngpmgjoifepaaGreatDoor
open Go.ChangeShapes Go.WideShapes Go.ChangeAt Go.RowKit Go.Joins

set_option maxRecDepth 100000 in
theorem bytes_int : Tryz.prog.bytesOf 3 = 8 := by kernel_rfl

end Go.Proofs.YtgngpmgjoifepaaGreatDoor

namespace Go.Proofs.YtgngpmgjoifepaaGreatDoor
open Go.ChangeShapes Go.WideShapes Go.ChangeAt Go.RowKit Go.Joins

theorem room_slice {H : Type} {enc : TypeId × Value → H} {W : World} {fuel : Nat} {t e : TypeId} {a : Option Addr} {n c : Nat} {x : DataW H × List MemPlace} (hu : Tryz.prog.underlying t = some (.slice e))
    (h : DataW.trod enc Tryz.prog W 0 (fun _ => true) true fuel t [.slice a n c] = some x) : n = 0 ∨ ∃ q ∈ x.1.weights Tryz.prog t, n * Tryz.prog.bytesOf e ≤ q := by
  rcases Go.Deep.open_slice hu h with ⟨hcs, hx⟩ | ⟨ad, len, cap, m, k, D, Pl, hcs, _, hl, hm, hmm, hx, hV⟩
  {
  simp at hcs
  exact .inl hcs.2.1
  }
  {
  simp at hcs hmm
  refine .inr ⟨_, by rw [hx]; simp only [DataW.weights, hu]; exact List.mem_cons_self .., ?_⟩
  rw [hcs.2.1]
  apply Nat.mul_le_mul_right
  simp

  }
theorem room_field {H : Type} {t : TypeId} {fs : Array Field} {f : Field} {xs : List (DataW H × List MemPlace)} {i : Nat} {y : DataW H × List MemPlace} {q : Nat} (hu : Tryz.prog.underlying t = some (.struct fs)) (hf : fs[i]? = some f) (hy : xs[i]? = some y)
    (h : q ∈ y.1.weights Tryz.prog f.type) : q ∈ (DataW.agg (xs.map (·.1))).weights Tryz.prog t := by
  simp only [DataW.weights, hu]
  exact DataW.weights_mem_each (j := i) (t := f.type) (d := y.1) (by simp [hf]) (by simp [hy]) q h

def Wgh {H : Type} (n b : Nat) (d : DataW H) (t : TypeId) : Prop := n = 0 ∨ ∃ q ∈ d.weights Tryz.prog t, n * b ≤ q
theorem Wgh.up {H : Type} {n b : Nat} {t ft : TypeId} {fs : Array Field} {f : Field} {xs : List (DataW H × List MemPlace)} {i : Nat} {y : DataW H × List MemPlace} (h : n = 0 ∨ ∃ q ∈ y.1.weights Tryz.prog ft, n * b ≤ q) (hu : Tryz.prog.underlying t = some (.struct fs)) (hf : fs[i]? = some f) (hy : xs[i]? = some y) (hft : f.type = ft) : Wgh n b (DataW.agg (xs.map (·.1))) t := by
  subst hft
  rcases h with h | ⟨q, h1, h2⟩
  { exact .inl h }
  {
  exact .inr ⟨q, room_field hu hf hy h1, h2⟩

  }
set_option maxRecDepth 100000 in
theorem wgh_flash {H : Type} {enc : TypeId × Value → H} {W : World} {fuel : Nat} {a : Option Addr} {n c : Nat} {v : Value} {x : DataW H × List MemPlace}
    (h : DataW.trod enc Tryz.prog W 0 (fun _ => true) true fuel 27 [.slice a n c, v] = some x) : Wgh n 8 x.1 27 := by
  obtain ⟨xs, k, hk, hxy, hl, hxl, hf⟩ := DataW.trod_struct Tryz.underlying27 h
  match xs, hxl with
  | [y0, y1], _ =>
    have g0 := hf 0 _ rfl
    simp [cells_ints] at g0
    rw [hxy]
    have := room_slice Tryz.underlying25 g0
    rw [bytes_int] at this
    exact Wgh.up (i := 0) (y := y0) this Tryz.underlying27 rfl rfl rfl

theorem Wgh.room {H : Type} {n b : Nat} {d : DataW H} {t : TypeId} {ts : List TypeId} {ds : List (DataW H)} {j : Nat} (h : Wgh n b d t) (hs : (DataW.weightsEach Tryz.prog ts ds).all (· ≤ reachBytes) = true) (ht : ts[j]? = some t) (hd : ds[j]? = some d) : n * b ≤ 140737488351232 := by
  rcases h with h | ⟨q, h1, h2⟩
  { rw [h]; omega }
  {
  have := of_decide_eq_true (List.all_eq_true.1 hs _ (DataW.weights_mem_each ht hd q h1))
  simp [reachBytes] at this
  omega

  }
end Go.Proofs.YtgngpmgjoifepaaGreatDoor

namespace Go.Proofs.YtgngpmgjoifepaaGreatDoor
open Go.ChangeShapes Go.WideShapes Go.ChangeAt Go.RowKit Go.Joins

set_option maxRecDepth 100000 in
theorem wgh_unit {H : Type} {enc : TypeId × Value → H} {W : World} {fuel : Nat} {a : Option Addr} {n c : Nat} {v1 v2 v3 v4 : Value} {x : DataW H × List MemPlace}
    (h : DataW.trod enc Tryz.prog W 0 (fun _ => true) true fuel 29 [.slice a n c, v1, v2, v3, v4] = some x) : Wgh n 8 x.1 29 := by
  obtain ⟨xs, k, hk, hxy, hl, hxl, hf⟩ := DataW.trod_struct Tryz.underlying29 h
  match xs, hxl with
  | [y0, y1, y2, y3], _ =>
    have g0 := hf 0 _ rfl
    simp [cells_flash2] at g0
    rw [hxy]
    exact Wgh.up (i := 0) (y := y0) (wgh_flash g0) Tryz.underlying29 rfl rfl rfl

set_option maxRecDepth 100000 in
theorem sized_unit {H : Type} {enc : TypeId × Value → H} {W : World} {ts : List TypeId} {ds : List (DataW H)} {j : Nat} {u : Un} {a : Option Addr} {n c : Nat} {d : DataW H} {p : List MemPlace} (hs : (DataW.weightsEach Tryz.prog ts ds).all (· ≤ reachBytes) = true) (ht : ts[j]? = some 29) (hd : ds[j]? = some d)
    (h : DataW.Trod enc Tryz.prog W 0 (fun _ => true) true 29 (unv u a n c) d p) : n * 8 ≤ 140737488351232 := by
  obtain ⟨fuel, hf⟩ := h
  exact (wgh_unit (a := a) (n := n) (c := c) (by simpa [unv, Value.cells] using hf)).room hs ht hd

end Go.Proofs.YtgngpmgjoifepaaGreatDoor

namespace Go.Proofs.YtgngpmgjoifepaaGreatDoor
open Go.RowKit

set_option maxRecDepth 100000 in
theorem gTab : Tryz.prog.globalNamed "internal/strconv.uint64pow10" = some 0 := by kernel_rfl
set_option maxRecDepth 100000 in
theorem gTabType : (Tryz.prog.globals[0]?).map (·.type) = some 292 := by kernel_rfl
set_option maxRecDepth 100000 in
theorem cells_tab : Tryz.prog.cellsOf 292 = 20 := by kernel_rfl
set_option maxRecDepth 100000 in
theorem cells_u64 : Tryz.prog.cellsOf 233 = 1 := by kernel_rfl

theorem tab_head {W : World} {r : List (String × DataW Unit)} (h : laidMet Tryz.prog (("internal/strconv.uint64pow10", Rows.laid_internal_strconv_uint64pow10) :: r) W) : Tab W :=
  Lib.tabIs_of_head (zs := Lib.pow10Tab) gTab gTabType Tryz.underlying292 Tryz.underlying233 cells_u64 cells_tab h

end Go.Proofs.YtgngpmgjoifepaaGreatDoor
