/- How a law's arguments that are books, releases, roots, texts or slices of ints are opened. How a law's arguments that are units, or messages, are opened. Plain facts on package slot: what is done to one slot leaves all else as it was. -/
import Derived.Test.YtanpglfpopbfkabGreatDoorPk16
import Derived.ProofKit
import Derived.Lib.SmallJoins
import Derived.SliceStrings
import Derived.Deep.Slices
import Derived.ChangeMaps5
import Derived.Test.YtanpglfpopbfkabGreatDoorPk21
import Derived.Test.YtanpglfpopbfkabGreatDoorPk15
import Derived.Test.YtanpglfpopbfkabGreatDoorPk14
namespace Go.Proofs.YtanpglfpopbfkabGreatDoor
open Go.ChangeShapes Go.WideShapes Go.ChangeAt Go.RowKit Go.Joins

set_option maxRecDepth 100000 in
theorem own : ownKnob Tryz.prog.godebug = none := by kernel_rfl
set_option maxRecDepth 100000 in
theorem laidOut : laidOutB Tryz.prog = true := by kernel_rfl
set_option maxRecDepth 100000 in
theorem cells_int : Tryz.prog.cellsOf 3 = 1 := by kernel_rfl
set_option maxRecDepth 100000 in
theorem cells_str : Tryz.prog.cellsOf 9 = 1 := by kernel_rfl

/-- What is known of a slice of ints that came in. -/
structure InInts (W : World) (a : Option Addr) (n c : Nat) (xs : List Int) : Prop where
  ints : IsInts W a xs
  len : xs.length = n
  cap : n ≤ c
  max : n ≤ maxLen

/-- .. of texts. -/
structure InStrs (W : World) (a : Option Addr) (n c : Nat) (ss : List ByteArray) : Prop where
  strs : IsStrs W a ss
  len : ss.length = n
  cap : n ≤ c
  max : n ≤ maxLen
  short : ∀ s ∈ ss, s.size ≤ maxLen

theorem ad_spot {W : World} {ad : Addr} {v : Value} (h : W.cell? (ad.add 0) = some v) : ad.spot = none := by
  simpa [Addr.add] using World.cell?_spot h

theorem ad_cell {W : World} {b off i : Nat} {v : Value} (h : W.cell? ((⟨b, off, none⟩ : Addr).add i) = some v) : W.cell? ⟨b, off + i, none⟩ = some v := by
  by_cases hi0 : i = 0
  · subst hi0; simpa [Addr.add] using h
  · simpa [Addr.add, hi0] using h

set_option maxRecDepth 100000 in
theorem open_ints_cells {H : Type} {enc : TypeId × Value → H} {W : World} {fuel : Nat} {v : Value} {x : DataW H × List MemPlace}
    (h : DataW.trod enc Tryz.prog W 0 (fun _ => true) true fuel 22 [v] = some x) :
    ∃ a n c xs, v = .slice a n c ∧ InInts W a n c xs := by
  rcases open_ints Tryz.underlying22 Tryz.underlying3 cells_int h with ⟨hcs, hx⟩ | ⟨ad, len, cap, zs, hcs, _, hl, hm, hz, hx, hcell, _⟩
  · simp at hcs
    subst hcs hx
    exact ⟨none, 0, 0, [], rfl, ⟨.inl rfl, rfl, Nat.le_refl _, by decide⟩⟩
  · simp at hcs hz
    subst hcs hx
    refine ⟨some ad, len, cap, zs.take len, rfl, ?_, by simp; omega, hl, Nat.le_trans hl hm⟩
    by_cases h0 : len = 0
    · exact .inl (by simp [h0])
    obtain ⟨b, off, spot⟩ := ad
    have hs : spot = none := ad_spot (hcell 0 (by omega))
    subst hs
    refine .inr ⟨b, off, rfl, fun i hi => ?_⟩
    simp at hi
    rw [ad_cell (hcell i (by omega))]
    simp [show i < len by omega]

set_option maxRecDepth 100000 in
theorem open_strs_cells {H : Type} {enc : TypeId × Value → H} {W : World} {fuel : Nat} {v : Value} {x : DataW H × List MemPlace}
    (h : DataW.trod enc Tryz.prog W 0 (fun _ => true) true fuel 44 [v] = some x) :
    ∃ a n c ss, v = .slice a n c ∧ InStrs W a n c ss := by
  rcases open_strings Tryz.underlying44 Tryz.underlying9 cells_str h with ⟨hcs, hx⟩ | ⟨ad, len, cap, zs, hcs, _, hl, hm, hz, hx, hcell, hsz⟩
  · simp at hcs
    subst hcs hx
    exact ⟨none, 0, 0, [], rfl, ⟨.inl rfl, rfl, Nat.le_refl _, by decide, by simp⟩⟩
  · simp at hcs hz
    subst hcs hx
    refine ⟨some ad, len, cap, zs.take len, rfl, ?_, by simp; omega, hl, Nat.le_trans hl hm, fun s hs => hsz s (List.mem_of_mem_take hs)⟩
    by_cases h0 : len = 0
    · exact .inl (by simp [h0])
    obtain ⟨b, off, spot⟩ := ad
    have hs : spot = none := ad_spot (hcell 0 (by omega))
    subst hs
    refine .inr ⟨b, off, rfl, fun i hi => ?_⟩
    simp at hi
    rw [ad_cell (hcell i (by omega))]
    simp [show i < len by omega]

set_option maxRecDepth 100000 in
theorem open_book {H : Type} {enc : TypeId × Value → H} {W : World} {r : Reach} {b0 : Nat} {v : Value} {d : DataW H} {p : List MemPlace}
    (hv : Value.okWide Tryz.prog W r b0 46 v) (h : DataW.Trod enc Tryz.prog W 0 (fun _ => true) true 46 v d p) :
    ∃ a n c ss, v = bookv a n c ∧ InStrs W a n c ss := by
  obtain ⟨cs, rfl, hsz⟩ := okWide_struct Tryz.underlying46 hv
  have hC : Tryz.prog.cellsOf 46 = 1 := by kernel_rfl
  rw [hC] at hsz
  obtain ⟨c0, rfl⟩ : ∃ c0, cs = #[c0] := by
    obtain ⟨l⟩ := cs
    match l, hsz with
    | [c0], _ => exact ⟨c0, rfl⟩
  obtain ⟨fuel, hf⟩ := h
  obtain ⟨xs, k, hk, hxy, hl, hxl, hf⟩ := DataW.trod_struct Tryz.underlying46 hf
  match xs, hxl with
  | [y0], _ =>
    have g0 := hf 0 _ rfl
    have cl : Tryz.prog.cellsOf 44 = 1 := by kernel_rfl
    simp [cl, Value.cells] at g0
    obtain ⟨a, n, c, ss, rfl, hi⟩ := open_strs_cells g0
    exact ⟨a, n, c, ss, rfl, hi⟩

end Go.Proofs.YtanpglfpopbfkabGreatDoor

namespace Go.Proofs.YtanpglfpopbfkabGreatDoor
open Go.ChangeShapes Go.WideShapes Go.ChangeAt Go.RowKit Go.Joins

set_option maxRecDepth 100000 in
theorem cells_flash2 : Tryz.prog.cellsOf 48 = 2 := by kernel_rfl
set_option maxRecDepth 100000 in
theorem cells_bool1 : Tryz.prog.cellsOf 4 = 1 := by kernel_rfl
set_option maxRecDepth 100000 in
theorem cells_unit : Tryz.prog.cellsOf 50 = 5 := by kernel_rfl
set_option maxRecDepth 100000 in
theorem cells_msg : Tryz.prog.cellsOf 52 = 7 := by kernel_rfl

set_option maxRecDepth 100000 in
theorem cells_ints2 : Tryz.prog.cellsOf 22 = 1 := by kernel_rfl
/-- As 'open_ints_cells', with the room. -/
theorem open_ints_room2 {H : Type} {enc : TypeId × Value → H} {W : World} {fuel : Nat} {v : Value} {x : DataW H × List MemPlace}
    (h : DataW.trod enc Tryz.prog W 0 (fun _ => true) true fuel 22 [v] = some x) :
    ∃ a n c xs, v = .slice a n c ∧ BI W a n xs ∧ n ≤ c ∧ c ≤ maxLen := by
  obtain ⟨a, n, c, xs, rfl, hi⟩ := open_ints_cells h
  refine ⟨a, n, c, xs, rfl, ⟨hi.ints, hi.len, hi.max⟩, hi.cap, ?_⟩
  rcases open_ints Tryz.underlying22 Tryz.underlying3 cells_int h with ⟨hcs, hx⟩ | ⟨ad, len, cap, zs, hcs, _, hl, hm, hz, hx, hcell, _⟩
  · simp at hcs
    rw [hcs.2.2]
    decide
  · simp at hcs
    rw [hcs.2.2]
    exact hm

theorem wf_bounds2 {f : Int} (h : (Lit.int .i64 f).wf = true) : -9223372036854775808 ≤ f ∧ f ≤ 9223372036854775807 := by
  simp [Lit.wf, IntKind.min, IntKind.max, IntKind.bits, IntKind.signed] at h
  omega

/-- The numbers of a unit, and of a message, are Go's. -/
structure UnB (u : Un) : Prop where
  fu : -9223372036854775808 ≤ u.fu ∧ u.fu ≤ 9223372036854775807
  n : -9223372036854775808 ≤ u.n ∧ u.n ≤ 9223372036854775807
  hv : -9223372036854775808 ≤ u.hv ∧ u.hv ≤ 9223372036854775807
structure MsB (m : Ms) : Prop where
  k : -9223372036854775808 ≤ m.k ∧ m.k ≤ 9223372036854775807
  u : -9223372036854775808 ≤ m.u ∧ m.u ≤ 9223372036854775807
  n : -9223372036854775808 ≤ m.n ∧ m.n ≤ 9223372036854775807
  at' : -9223372036854775808 ≤ m.at' ∧ m.at' ≤ 9223372036854775807
  im : -9223372036854775808 ≤ m.im ∧ m.im ≤ 9223372036854775807

set_option maxRecDepth 100000 in
theorem open_flash_cells {H : Type} {enc : TypeId × Value → H} {W : World} {n : Nat} {cs : List Value} {x : DataW H × List MemPlace} (h : DataW.trod enc Tryz.prog W 0 (fun _ => true) true n 48 cs = some x) :
    ∃ (a : Option Addr) (m c : Nat) (ws : List Int) (f : Int), cs = [.slice a m c, .int .i64 f] ∧ BI W a m ws ∧ m ≤ c ∧ c ≤ maxLen ∧ (-9223372036854775808 ≤ f ∧ f ≤ 9223372036854775807) := by
  obtain ⟨xs, k, hk, hxy, hl, hxl, hf⟩ := DataW.trod_struct Tryz.underlying48 h
  rw [cells_flash2] at hl
  match cs, hl with
  | [v0, v1], _ =>
    match xs, hxl with
    | [y0, y1], _ =>
      have g0 := hf 0 _ rfl
      have g1 := hf 1 _ rfl
      simp [cells_int, cells_ints2] at g0 g1
      obtain ⟨a, m, c, ws, rfl, hi, h1, h2⟩ := open_ints_room2 g0
      obtain ⟨z1, e1, _, wf⟩ := DataW.trod_int Tryz.underlying3 g1
      simp at e1
      exact ⟨a, m, c, ws, z1, by rw [e1], hi, h1, h2, wf_bounds2 wf⟩

set_option maxRecDepth 100000 in
theorem open_unit_cells {H : Type} {enc : TypeId × Value → H} {W : World} {n : Nat} {cs : List Value} {x : DataW H × List MemPlace} (h : DataW.trod enc Tryz.prog W 0 (fun _ => true) true n 50 cs = some x) :
    ∃ (u : Un) (a : Option Addr) (m c : Nat), cs = [.slice a m c, .int .i64 u.fu, .bool u.up, .int .i64 u.n, .int .i64 u.hv] ∧ BW W a m c u.ws ∧ c ≤ maxLen ∧ UnB u := by
  obtain ⟨xs, k, hk, hxy, hl, hxl, hf⟩ := DataW.trod_struct Tryz.underlying50 h
  rw [cells_unit] at hl
  match cs, hl with
  | [v0, v1, v2, v3, v4], _ =>
    match xs, hxl with
    | [y0, y1, y2, y3], _ =>
      have g0 := hf 0 _ rfl
      have g1 := hf 1 _ rfl
      have g2 := hf 2 _ rfl
      have g3 := hf 3 _ rfl
      simp [cells_int, cells_flash2, cells_bool1] at g0 g1 g2 g3
      obtain ⟨a, m, c, ws, f, e0, hi, h1, h2, h3⟩ := open_flash_cells g0
      obtain ⟨b, e1, _⟩ := DataW.trod_bool Tryz.underlying4 g1
      obtain ⟨z2, e2, _, w2⟩ := DataW.trod_int Tryz.underlying3 g2
      obtain ⟨z3, e3, _, w3⟩ := DataW.trod_int Tryz.underlying3 g3
      simp at e0 e1 e2 e3
      exact ⟨⟨ws, f, b, z2, z3⟩, a, m, c, by rw [e0.1, e0.2, e1, e2, e3], ⟨hi.at_, hi.len, h1, hi.max⟩, h2, ⟨h3, wf_bounds2 w2, wf_bounds2 w3⟩⟩

set_option maxRecDepth 100000 in
theorem open_unit {H : Type} {enc : TypeId × Value → H} {W : World} {r : Reach} {b0 : Nat} {v : Value} {d : DataW H} {p : List MemPlace}
    (hv : Value.okWide Tryz.prog W r b0 50 v) (h : DataW.Trod enc Tryz.prog W 0 (fun _ => true) true 50 v d p) :
    ∃ (u : Un) (a : Option Addr) (n c : Nat), v = unv u a n c ∧ BW W a n c u.ws ∧ c ≤ maxLen ∧ UnB u := by
  obtain ⟨cs, rfl, hsz⟩ := okWide_struct Tryz.underlying50 hv
  obtain ⟨fuel, hf⟩ := h
  obtain ⟨u, a, n, c, e, h1, h2, h3⟩ := open_unit_cells (by simpa [Value.cells] using hf)
  exact ⟨u, a, n, c, by unfold unv; congr 1; exact Array.toList_inj.1 e, h1, h2, h3⟩

set_option maxRecDepth 100000 in
theorem open_msg_cells {H : Type} {enc : TypeId × Value → H} {W : World} {n : Nat} {cs : List Value} {x : DataW H × List MemPlace} (h : DataW.trod enc Tryz.prog W 0 (fun _ => true) true n 52 cs = some x) :
    ∃ (m : Ms) (a : Option Addr) (l c : Nat), cs = [.int .i64 m.k, .int .i64 m.u, .int .i64 m.n, .int .i64 m.at', .int .i64 m.im, .slice a l c, .bool m.y] ∧ BI W a l m.ws ∧ l ≤ c ∧ c ≤ maxLen ∧ MsB m := by
  obtain ⟨xs, k, hk, hxy, hl, hxl, hf⟩ := DataW.trod_struct Tryz.underlying52 h
  rw [cells_msg] at hl
  match cs, hl with
  | [v0, v1, v2, v3, v4, v5, v6], _ =>
    match xs, hxl with
    | [y0, y1, y2, y3, y4, y5, y6], _ =>
      have g0 := hf 0 _ rfl
      have g1 := hf 1 _ rfl
      have g2 := hf 2 _ rfl
      have g3 := hf 3 _ rfl
      have g4 := hf 4 _ rfl
      have g5 := hf 5 _ rfl
      have g6 := hf 6 _ rfl
      simp [cells_int, cells_ints2, cells_bool1] at g0 g1 g2 g3 g4 g5 g6
      obtain ⟨z0, e0, _, w0⟩ := DataW.trod_int Tryz.underlying3 g0
      obtain ⟨z1, e1, _, w1⟩ := DataW.trod_int Tryz.underlying3 g1
      obtain ⟨z2, e2, _, w2⟩ := DataW.trod_int Tryz.underlying3 g2
      obtain ⟨z3, e3, _, w3⟩ := DataW.trod_int Tryz.underlying3 g3
      obtain ⟨z4, e4, _, w4⟩ := DataW.trod_int Tryz.underlying3 g4
      obtain ⟨a, m, c, ws, rfl, hi, h1, h2⟩ := open_ints_room2 g5
      obtain ⟨b, e6, _⟩ := DataW.trod_bool Tryz.underlying4 g6
      simp at e0 e1 e2 e3 e4 e6
      exact ⟨⟨z0, z1, z2, z3, z4, ws, b⟩, a, m, c, by rw [e0, e1, e2, e3, e4, e6], hi, h1, h2, ⟨wf_bounds2 w0, wf_bounds2 w1, wf_bounds2 w2, wf_bounds2 w3, wf_bounds2 w4⟩⟩

set_option maxRecDepth 100000 in
theorem open_msg {H : Type} {enc : TypeId × Value → H} {W : World} {r : Reach} {b0 : Nat} {v : Value} {d : DataW H} {p : List MemPlace}
    (hv : Value.okWide Tryz.prog W r b0 52 v) (h : DataW.Trod enc Tryz.prog W 0 (fun _ => true) true 52 v d p) :
    ∃ (m : Ms) (a : Option Addr) (l c : Nat), v = msv m a l c ∧ BI W a l m.ws ∧ l ≤ c ∧ c ≤ maxLen ∧ MsB m := by
  obtain ⟨cs, rfl, hsz⟩ := okWide_struct Tryz.underlying52 hv
  obtain ⟨fuel, hf⟩ := h
  obtain ⟨m, a, l, c, e, h1, h2, h3, h4⟩ := open_msg_cells (by simpa [Value.cells] using hf)
  exact ⟨m, a, l, c, by unfold msv; congr 1; exact Array.toList_inj.1 e, h1, h2, h3, h4⟩

end Go.Proofs.YtanpglfpopbfkabGreatDoor

namespace Go.Proofs.YtanpglfpopbfkabGreatDoor
open Go.RowKit

theorem chg_take {nx : Nat → Int → Int} {p k lo : Nat} {ws : List Int} (h : lo ≤ p) : (chg nx p k ws).take lo = ws.take lo := by
  apply ext_getD (by simp [chg_length])
  intro i hi
  have hi2 : i < lo ∧ i < ws.length := by simp [chg_length] at hi; omega
  have := chg_get nx p k i ws hi2.2
  rw [if_neg (by omega)] at this
  simpa [hi2.1] using this

theorem chg_drop {nx : Nat → Int → Int} {p k hi' : Nat} {ws : List Int} (h : p + k ≤ hi') : (chg nx p k ws).drop hi' = ws.drop hi' := by
  apply ext_getD (by simp [chg_length])
  intro i hi
  simp [chg_length] at hi
  have := chg_get nx p k (hi' + i) ws (by omega)
  rw [if_neg (by omega)] at this
  simpa using this

theorem chk_seven (ws : List Int) (fuel : Int) : chk ws fuel ≠ 7 := by
  unfold chk
  split
  · decide
  · split
    · decide
    · decide

/-- Where Program has done something: what it has done. -/
theorem prog_did {ws words : List Int} {fuel p : Int} (h : (progS ws fuel p words).2.2 = 0 ∨ (progS ws fuel p words).2.2 = 7) :
    chk ws fuel = 0 ∧ 0 ≤ p ∧ p + words.length ≤ ws.length ∧ okL words = true ∧ progS ws fuel p words = (chg (andW words) p.toNat (cnt fuel words.length) ws, burn fuel (cnt fuel words.length), perr fuel words.length) := by
  unfold progS at *
  split at h
  · rename_i c
    rcases h with h | h
    · exact absurd h c
    · exact absurd h (chk_seven _ _)
  · split at h
    · simp at h
    · split at h
      · simp at h
      · rename_i h1 h2 h3
        rw [if_neg h1, if_neg h2, if_neg h3]
        simp [fitB] at h2
        simp at h1 h3
        exact ⟨h1, by omega, by omega, h3, rfl⟩

theorem era_did {ws : List Int} {fuel s : Int} (h : (eraS ws fuel s).2.2 = 0 ∨ (eraS ws fuel s).2.2 = 7) :
    chk ws fuel = 0 ∧ 0 ≤ s ∧ s < (ws.length : Int) / 32 ∧ eraS ws fuel s = (chg (fun _ _ => 65535) (s.toNat * 32) (cnt fuel 32) ws, burn fuel (cnt fuel 32), perr fuel 32) := by
  unfold eraS at *
  split at h
  · rename_i c
    rcases h with h | h
    · exact absurd h c
    · exact absurd h (chk_seven _ _)
  · split at h
    · simp at h
    · rename_i h1 h2
      rw [if_neg h1, if_neg h2]
      simp at h1 h2
      exact ⟨h1, h2.1, h2.2, rfl⟩

/-- Of what has been done to a slot: outside it all is as it was. -/
def Apt (ws : List Int) (s : Int) (r : List Int × Int × Int) : Prop :=
  (r.2.2 = 0 ∨ r.2.2 = 7) → ws.length = 192 ∧ r.1.length = 192 ∧ r.1.take (64 + 64 * s).toNat = ws.take (64 + 64 * s).toNat ∧ r.1.drop (128 + 64 * s).toNat = ws.drop (128 + 64 * s).toNat

theorem slotE_seven (ws : List Int) (fuel s : Int) : slotE ws fuel s ≠ 7 := by
  unfold slotE
  split
  · exact chk_seven _ _
  · split
    · decide
    · split
      · decide
      · decide

theorem apt_err {ws : List Int} {s e : Int} (h0 : e ≠ 0) (h7 : e ≠ 7) : Apt ws s ([], 0, e) := by
  intro h
  rcases h with h | h
  · exact absurd h h0
  · exact absurd h h7

theorem apt_prog {ws words : List Int} {fuel s p : Int} (hl : ws.length = 192) (h0 : 64 + 64 * s ≤ p) (h1 : p + words.length ≤ 128 + 64 * s) (hs : 0 ≤ s) : Apt ws s (progS ws fuel p words) := by
  intro h
  obtain ⟨-, q0, q1, -, e⟩ := prog_did h
  rw [e]
  have := cnt_le fuel words.length
  refine ⟨hl, by rw [chg_length]; exact hl, chg_take (by omega), chg_drop (by omega)⟩

theorem apt_fill (ws : List Int) (fuel s at' : Int) (words : List Int) : Apt ws s (fillS ws fuel s at' words) := by
  unfold fillS
  split
  · rename_i c; exact apt_err c (slotE_seven _ _ _)
  · split
    · exact apt_err (by decide) (by decide)
    · rename_i h1 h2
      obtain ⟨-, hl, p0, p1⟩ := slotE_parts (show slotE ws fuel s = 0 by simpa using h1)
      simp [fillB, inB] at h2
      exact apt_prog hl (by omega) (by omega) p0

theorem apt_seal (ws : List Int) (fuel s long name : Int) : Apt ws s (sealS ws fuel s long name) := by
  unfold sealS
  split
  · rename_i c; exact apt_err c (slotE_seven _ _ _)
  · split
    · exact apt_err (by decide) (by decide)
    · rename_i h1 h2
      obtain ⟨-, hl, p0, p1⟩ := slotE_parts (show slotE ws fuel s = 0 by simpa using h1)
      refine apt_prog hl (by omega) ?_ p0
      show 64 + 64 * s + 4 ≤ _
      omega

theorem apt_clear (ws : List Int) (fuel s : Int) : Apt ws s (clrS ws fuel s) := by
  unfold clrS
  split
  · rename_i c; exact apt_err c (slotE_seven _ _ _)
  · rename_i h1
    obtain ⟨-, hl, p0, p1⟩ := slotE_parts (show slotE ws fuel s = 0 by simpa using h1)
    have key : ∀ k, k ≤ 2 → Apt ws s (clrAt ws fuel s k) := by
      intro k
      induction k with
      | zero => exact fun _ _ => ⟨hl, hl, rfl, rfl⟩
      | succ k ih =>
        intro hk
        by_cases e : (clrAt ws fuel s k).2.2 = 0
        · rw [clrAt_go e]
          intro h
          obtain ⟨q0, q1, q2, q3⟩ := ih (by omega) (.inl e)
          obtain ⟨-, r0, r1, r2⟩ := era_did h
          rw [r2]
          have := cnt_le (clrAt ws fuel s k).2.1 32
          refine ⟨hl, by rw [chg_length]; exact q1, ?_, ?_⟩
          · show (chg _ _ _ _).take _ = _
            rw [chg_take (by omega)]; exact q2
          · show (chg _ _ _ _).drop _ = _
            rw [chg_drop (by omega)]; exact q3
        · rw [clrAt_stay e]; exact ih (by omega)
    exact key 2 (Nat.le_refl _)

end Go.Proofs.YtanpglfpopbfkabGreatDoor
