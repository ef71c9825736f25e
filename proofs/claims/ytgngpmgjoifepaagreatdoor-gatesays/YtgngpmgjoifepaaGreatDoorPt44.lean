/- What room the lists of a gateway that came in take. How an offer is opened: with what its keys are (numbers of their kind). What the rows' listed variables give: the table that strconv.Itoa reads ('Tab'). -/
import Derived.Test.YtgngpmgjoifepaaGreatDoorPt43
import Derived.Test.YtgngpmgjoifepaaGreatDoorPt29
import Derived.Test.YtgngpmgjoifepaaGreatDoorPt9
import Derived.Stop.LaidErr
import Derived.LaidMore
namespace Go.Proofs.YtgngpmgjoifepaaGreatDoor
open Go.ChangeShapes Go.WideShapes Go.ChangeAt Go.RowKit Go.Joins

theorem room_slice {H : Type} {enc : TypeId × Value → H} {W : World} {fuel : Nat} {t e : TypeId} {a : Option Addr} {n c : Nat} {x : DataW H × List MemPlace} (hu : Tryz.prog.underlying t = some (.slice e))
    (h : DataW.trod enc Tryz.prog W 0 (fun _ => true) true fuel t [.slice a n c] = some x) : n = 0 ∨ ∃ q ∈ x.1.weights Tryz.prog t, n * Tryz.prog.bytesOf e ≤ q := by
  rcases Go.Deep.open_slice hu h with ⟨hcs, hx⟩ | ⟨ad, len, cap, m, k, D, Pl, hcs, _, hl, hm, hmm, hx, hV⟩
  {
  simp at hcs
  exact .inl hcs.2.1
  }
  {
  simp at hcs hmm
  refine .inr ⟨_, by rw [hx]; simp only [DataW.weights, hu]; exact List.mem_cons_self .., ?_⟩
  rw [hcs.2.1]
  apply Nat.mul_le_mul_right
  simp

  }
theorem room_field {H : Type} {t : TypeId} {fs : Array Field} {f : Field} {xs : List (DataW H × List MemPlace)} {i : Nat} {y : DataW H × List MemPlace} {q : Nat} (hu : Tryz.prog.underlying t = some (.struct fs)) (hf : fs[i]? = some f) (hy : xs[i]? = some y)
    (h : q ∈ y.1.weights Tryz.prog f.type) : q ∈ (DataW.agg (xs.map (·.1))).weights Tryz.prog t := by
  simp only [DataW.weights, hu]
  exact DataW.weights_mem_each (j := i) (t := f.type) (d := y.1) (by simp [hf]) (by simp [hy]) q h

set_option maxRecDepth 100000 in
theorem bytes_bool : Tryz.prog.bytesOf 4 = 1 := by kernel_rfl

def Wgh {H : Type} (n b : Nat) (d : DataW H) (t : TypeId) : Prop := n = 0 ∨ ∃ q ∈ d.weights Tryz.prog t, n * b ≤ q
theorem Wgh.up {H : Type} {n b : Nat} {t ft : TypeId} {fs : Array Field} {f : Field} {xs : List (DataW H × List MemPlace)} {i : Nat} {y : DataW H × List MemPlace} (h : n = 0 ∨ ∃ q ∈ y.1.weights Tryz.prog ft, n * b ≤ q) (hu : Tryz.prog.underlying t = some (.struct fs)) (hf : fs[i]? = some f) (hy : xs[i]? = some y) (hft : f.type = ft) : Wgh n b (DataW.agg (xs.map (·.1))) t := by
  subst hft
  rcases h with h | ⟨q, h1, h2⟩
  { exact .inl h }
  {
  exact .inr ⟨q, room_field hu hf hy h1, h2⟩

  }
set_option maxRecDepth 100000 in
theorem wgh_flash {H : Type} {enc : TypeId × Value → H} {W : World} {fuel : Nat} {a : Option Addr} {n c : Nat} {v : Value} {x : DataW H × List MemPlace}
    (h : DataW.trod enc Tryz.prog W 0 (fun _ => true) true fuel 27 [.slice a n c, v] = some x) : Wgh n 8 x.1 27 := by
  obtain ⟨xs, k, hk, hxy, hl, hxl, hf⟩ := DataW.trod_struct Tryz.underlying27 h
  match xs, hxl with
  | [y0, y1], _ =>
    have g0 := hf 0 _ rfl
    simp [cells_ints] at g0
    rw [hxy]
    have := room_slice Tryz.underlying25 g0
    rw [bytes_int] at this
    exact Wgh.up (i := 0) (y := y0) this Tryz.underlying27 rfl rfl rfl

set_option maxRecDepth 100000 in
theorem wgh_root {H : Type} {enc : TypeId × Value → H} {W : World} {fuel : Nat} {a : Option Addr} {n c : Nat} {u v : Value} {x : DataW H × List MemPlace}
    (h : DataW.trod enc Tryz.prog W 0 (fun _ => true) true fuel 63 [u, .slice a n c, v] = some x) : Wgh n 8 x.1 63 := by
  obtain ⟨xs, k, hk, hxy, hl, hxl, hf⟩ := DataW.trod_struct Tryz.underlying63 h
  match xs, hxl with
  | [y0, y1, y2], _ =>
    have g1 := hf 1 _ rfl
    simp [cells_ints] at g1
    rw [hxy]
    have := room_slice Tryz.underlying25 g1
    rw [bytes_int] at this
    exact Wgh.up (i := 1) (y := y1) this Tryz.underlying63 rfl rfl rfl

set_option maxRecDepth 100000 in
theorem wgh_trust {H : Type} {enc : TypeId × Value → H} {W : World} {fuel : Nat} {a : Option Addr} {n c : Nat} {u v z : Value} {x : DataW H × List MemPlace}
    (h : DataW.trod enc Tryz.prog W 0 (fun _ => true) true fuel 65 [u, .slice a n c, v, z] = some x) : Wgh n 8 x.1 65 := by
  obtain ⟨xs, k, hk, hxy, hl, hxl, hf⟩ := DataW.trod_struct Tryz.underlying65 h
  match xs, hxl with
  | [y0, y1], _ =>
    have g0 := hf 0 _ rfl
    simp [cells_root] at g0
    rw [hxy]
    exact Wgh.up (i := 0) (y := y0) (wgh_root g0) Tryz.underlying65 rfl rfl rfl

set_option maxRecDepth 100000 in
theorem wgh_gate {H : Type} {enc : TypeId × Value → H} {W : World} {fuel : Nat} {m : GA} {v1 v2 v3 v5 v6 : Value} {x : DataW H × List MemPlace}
    (h : DataW.trod enc Tryz.prog W 0 (fun _ => true) true fuel 68 [.slice m.a m.n m.c, v1, v2, v3, .slice m.ak m.nk m.ck, v5, v6, .slice m.av m.nv m.cv, .slice m.ad m.nd m.cd] = some x) :
    Wgh m.n 8 x.1 68 ∧ Wgh m.nk 8 x.1 68 ∧ Wgh m.nv 1 x.1 68 ∧ Wgh m.nd 1 x.1 68 := by
  obtain ⟨xs, k, hk, hxy, hl, hxl, hf⟩ := DataW.trod_struct Tryz.underlying68 h
  match xs, hxl with
  | [y0, y1, y2, y3, y4], _ =>
    have g0 := hf 0 _ rfl
    have g2 := hf 2 _ rfl
    have g3 := hf 3 _ rfl
    have g4 := hf 4 _ rfl
    simp [cells_flash2, cells_trust, cells_bools] at g0 g2 g3 g4
    have r3 := room_slice Tryz.underlying66 g3
    have r4 := room_slice Tryz.underlying66 g4
    rw [bytes_bool] at r3 r4
    rw [hxy]
    exact ⟨Wgh.up (i := 0) (y := y0) (wgh_flash g0) Tryz.underlying68 rfl rfl rfl, Wgh.up (i := 2) (y := y2) (wgh_trust g2) Tryz.underlying68 rfl rfl rfl, Wgh.up (i := 3) (y := y3) r3 Tryz.underlying68 rfl rfl rfl, Wgh.up (i := 4) (y := y4) r4 Tryz.underlying68 rfl rfl rfl⟩

theorem Wgh.room {H : Type} {n b : Nat} {d : DataW H} {t : TypeId} {ts : List TypeId} {ds : List (DataW H)} {j : Nat} (h : Wgh n b d t) (hs : (DataW.weightsEach Tryz.prog ts ds).all (· ≤ reachBytes) = true) (ht : ts[j]? = some t) (hd : ds[j]? = some d) : n * b ≤ 140737488351232 := by
  rcases h with h | ⟨q, h1, h2⟩
  { rw [h]; omega }
  {
  have := of_decide_eq_true (List.all_eq_true.1 hs _ (DataW.weights_mem_each ht hd q h1))
  simp [reachBytes] at this
  omega

  }
set_option maxRecDepth 100000 in
theorem sized_gate {H : Type} {enc : TypeId × Value → H} {W : World} {ts : List TypeId} {ds : List (DataW H)} {j : Nat} {g : Gt} {m : GA} {d : DataW H} {p : List MemPlace} (hs : (DataW.weightsEach Tryz.prog ts ds).all (· ≤ reachBytes) = true) (ht : ts[j]? = some 68) (hd : ds[j]? = some d)
    (h : DataW.Trod enc Tryz.prog W 0 (fun _ => true) true 68 (gtv g m) d p) : m.n * 8 ≤ 140737488351232 ∧ m.nk * 8 ≤ 140737488351232 ∧ m.nv ≤ 140737488351232 ∧ m.nd ≤ 140737488351232 := by
  obtain ⟨fuel, hf⟩ := h
  obtain ⟨h1, h2, h3, h4⟩ := wgh_gate (m := m) (by simpa [gtv, Value.cells] using hf)
  have q1 := h1.room hs ht hd
  have q2 := h2.room hs ht hd
  have q3 := h3.room hs ht hd
  have q4 := h4.room hs ht hd
  omega

end Go.Proofs.YtgngpmgjoifepaaGreatDoor

namespace Go.Proofs.YtgngpmgjoifepaaGreatDoor
open Go.ChangeShapes Go.WideShapes Go.ChangeAt Go.RowKit Go.Joins

theorem add_at (b off j : Nat) : (⟨b, off, none⟩ : Addr).add j = ⟨b, off + j, none⟩ := by unfold Addr.add; split <;> simp_all

set_option maxRecDepth 100000 in
theorem open_ints_wf {H : Type} {enc : TypeId × Value → H} {W : World} {fuel : Nat} {a : Option Addr} {n c : Nat} {xs : List Int} {x : DataW H × List MemPlace}
    (h : DataW.trod enc Tryz.prog W 0 (fun _ => true) true fuel 25 [.slice a n c] = some x) (hi : IsInts W a xs) (hl : xs.length = n) : ∀ k ∈ xs, WfI k := by
  rcases open_ints Tryz.underlying25 Tryz.underlying3 cells_int h with ⟨hcs, hx⟩ | ⟨ad, len, cap, zs, hcs, _, hlc, hm, hz, hx, hcell, hwf⟩
  {
  simp at hcs
  intro k hk
  have h0 : xs = [] := List.eq_nil_of_length_eq_zero (by rw [hl]; exact hcs.2.1)
  rw [h0] at hk
  cases hk
  }
  {
  simp at hcs hz
  obtain ⟨rfl, rfl, rfl⟩ := hcs
  intro k hk
  obtain ⟨i, hi2, rfl⟩ := List.getElem_of_mem hk
  rcases hi with e | ⟨b, off, e, hc⟩
  { rw [e] at hi2; simp at hi2 }
  {
  cases e
  have h1 := hc i hi2
  have hzl : i < zs.length := by omega
  have h2 := hcell i hzl
  rw [add_at] at h2
  rw [h1] at h2
  have h3 : xs.getD i 0 = zs.getD i 0 := by simpa using h2
  rw [show xs[i] = xs.getD i 0 by simp [hi2], h3, show zs.getD i 0 = zs[i] by simp [hzl]]
  exact hwf _ (List.getElem_mem hzl)

  }
  }
set_option maxRecDepth 100000 in
theorem open_lists_wf {H : Type} {enc : TypeId × Value → H} {W : World} {fuel : Nat} {a : Option Addr} {n c : Nat} {ls : List (List Int)} {x : DataW H × List MemPlace}
    (h : DataW.trod enc Tryz.prog W 0 (fun _ => true) true fuel 70 [.slice a n c] = some x) (hb : BL W a n ls) : ∀ s ∈ ls, ∀ k ∈ s, WfI k := by
  intro s hs
  obtain ⟨i, hi2, rfl⟩ := List.getElem_of_mem hs
  have hin : i < n := by rw [← hb.len]; exact hi2
  rcases hb.at_ with e | ⟨b, off, e, hc⟩
  { rw [e] at hi2; simp at hi2 }
  obtain ⟨ai, ci, h1, h2, _⟩ := hc i ls[i] (List.getElem?_eq_getElem hi2)
  rcases Go.Deep.open_slice Tryz.underlying70 h with ⟨hcs, hx⟩ | ⟨ad, len, cap, m, n', D, Pl, hcs, _, hl, hm, hmm, hx, hV⟩
  {
  simp at hcs
  omega
  }
  {
  simp at hcs hmm
  obtain ⟨rfl, rfl, rfl⟩ := hcs
  cases e
  obtain ⟨cs', g1, g2⟩ := hV i (by omega)
  rw [cells_ints] at g1
  obtain ⟨_, hlen, hcell⟩ := World.cells?_some g1
  match cs', hlen with
  | [u0], _ =>
    have := hcell 0 (by simp)
    rw [Nat.mul_one, add_at, add_at, Nat.add_zero, h1] at this
    have hu : u0 = .slice ai ls[i].length ci := by simpa using this.symm
    rw [hu] at g2
    exact open_ints_wf g2 h2 rfl

  }
set_option maxRecDepth 100000 in
theorem open_offer_wf {H : Type} {enc : TypeId × Value → H} {W : World} {o : Of} {m : OA} {d : DataW H} {p : List MemPlace}
    (h : DataW.Trod enc Tryz.prog W 0 (fun _ => true) true 75 (offv o.v o.u m) d p) (hb : BO W m o) : (∀ k ∈ o.sigs, WfI k) ∧ ∀ s ∈ o.rsigs, ∀ k ∈ s, WfI k := by
  obtain ⟨fuel, hf⟩ := h
  obtain ⟨xs, k, hk, hxy, hl, hxl, hf⟩ := DataW.trod_struct Tryz.underlying75 hf
  match xs, hxl with
  | [y0, y1, y2, y3, y4], _ =>
    have g1 := hf 1 _ rfl
    have g3 := hf 3 _ rfl
    unfold offv at g1 g3
    simp [cells_ints, cells_lists, Value.cells] at g1 g3
    exact ⟨open_ints_wf g3 hb.sigs.at_ hb.sigs.len, open_lists_wf g1 hb.rsigs⟩

end Go.Proofs.YtgngpmgjoifepaaGreatDoor

namespace Go.Proofs.YtgngpmgjoifepaaGreatDoor
open Go.RowKit

set_option maxRecDepth 100000 in
theorem gTab : Tryz.prog.globalNamed "internal/strconv.uint64pow10" = some 0 := by kernel_rfl
set_option maxRecDepth 100000 in
theorem gTabType : (Tryz.prog.globals[0]?).map (·.type) = some 292 := by kernel_rfl
set_option maxRecDepth 100000 in
theorem cells_tab : Tryz.prog.cellsOf 292 = 20 := by kernel_rfl
set_option maxRecDepth 100000 in
theorem cells_u64 : Tryz.prog.cellsOf 233 = 1 := by kernel_rfl

theorem tab_head {W : World} {r : List (String × DataW Unit)} (h : laidMet Tryz.prog (("internal/strconv.uint64pow10", Rows.laid_internal_strconv_uint64pow10) :: r) W) : Tab W :=
  Lib.tabIs_of_head (zs := Lib.pow10Tab) gTab gTabType Tryz.underlying292 Tryz.underlying233 cells_u64 cells_tab h

end Go.Proofs.YtgngpmgjoifepaaGreatDoor
