/- How an offer is opened: with what its keys are (numbers of their kind). -/
import Derived.Test.YtanpglfpopbfkabDoorTOpn
import Derived.Test.YtanpglfpopbfkabDoorTRfC
namespace Go.Proofs.YtanpglfpopbfkabDoor
open Go.ChangeShapes Go.WideShapes Go.ChangeAt Go.RowKit Go.Joins

theorem add_at (b off j : Nat) : (⟨b, off, none⟩ : Addr).add j = ⟨b, off + j, none⟩ := by unfold Addr.add; split <;> simp_all

set_option maxRecDepth 100000 in
theorem open_ints_wf {H : Type} {enc : TypeId × Value → H} {W : World} {fuel : Nat} {a : Option Addr} {n c : Nat} {xs : List Int} {x : DataW H × List MemPlace}
    (h : DataW.trod enc Tryd.prog W 0 (fun _ => true) true fuel 25 [.slice a n c] = some x) (hi : IsInts W a xs) (hl : xs.length = n) : ∀ k ∈ xs, WfI k := by
  rcases open_ints Tryd.underlying25 Tryd.underlying3 cells_int h with ⟨hcs, hx⟩ | ⟨ad, len, cap, zs, hcs, _, hlc, hm, hz, hx, hcell, hwf⟩
  · simp at hcs
    intro k hk
    have h0 : xs = [] := List.eq_nil_of_length_eq_zero (by rw [hl]; exact hcs.2.1)
    rw [h0] at hk
    cases hk
  · simp at hcs hz
    obtain ⟨rfl, rfl, rfl⟩ := hcs
    intro k hk
    obtain ⟨i, hi2, rfl⟩ := List.getElem_of_mem hk
    rcases hi with e | ⟨b, off, e, hc⟩
    · rw [e] at hi2; simp at hi2
    · cases e
      have h1 := hc i hi2
      have hzl : i < zs.length := by omega
      have h2 := hcell i hzl
      rw [add_at] at h2
      rw [h1] at h2
      have h3 : xs.getD i 0 = zs.getD i 0 := by simpa using h2
      rw [show xs[i] = xs.getD i 0 by simp [hi2], h3, show zs.getD i 0 = zs[i] by simp [hzl]]
      exact hwf _ (List.getElem_mem hzl)

set_option maxRecDepth 100000 in
theorem open_lists_wf {H : Type} {enc : TypeId × Value → H} {W : World} {fuel : Nat} {a : Option Addr} {n c : Nat} {ls : List (List Int)} {x : DataW H × List MemPlace}
    (h : DataW.trod enc Tryd.prog W 0 (fun _ => true) true fuel 55 [.slice a n c] = some x) (hb : BL W a n ls) : ∀ s ∈ ls, ∀ k ∈ s, WfI k := by
  intro s hs
  obtain ⟨i, hi2, rfl⟩ := List.getElem_of_mem hs
  have hin : i < n := by rw [← hb.len]; exact hi2
  rcases hb.at_ with e | ⟨b, off, e, hc⟩
  · rw [e] at hi2; simp at hi2
  obtain ⟨ai, ci, h1, h2, _⟩ := hc i ls[i] (List.getElem?_eq_getElem hi2)
  rcases Go.Deep.open_slice Tryd.underlying55 h with ⟨hcs, hx⟩ | ⟨ad, len, cap, m, n', D, Pl, hcs, _, hl, hm, hmm, hx, hV⟩
  · simp at hcs
    omega
  · simp at hcs hmm
    obtain ⟨rfl, rfl, rfl⟩ := hcs
    cases e
    obtain ⟨cs', g1, g2⟩ := hV i (by omega)
    rw [cells_ints] at g1
    obtain ⟨_, hlen, hcell⟩ := World.cells?_some g1
    match cs', hlen with
    | [u0], _ =>
      have := hcell 0 (by simp)
      rw [Nat.mul_one, add_at, add_at, Nat.add_zero, h1] at this
      have hu : u0 = .slice ai ls[i].length ci := by simpa using this.symm
      rw [hu] at g2
      exact open_ints_wf g2 h2 rfl

set_option maxRecDepth 100000 in
theorem open_offer_wf {H : Type} {enc : TypeId × Value → H} {W : World} {o : Of} {m : OA} {d : DataW H} {p : List MemPlace}
    (h : DataW.Trod enc Tryd.prog W 0 (fun _ => true) true 57 (offv o.v o.u m) d p) (hb : BO W m o) : (∀ k ∈ o.sigs, WfI k) ∧ ∀ s ∈ o.rsigs, ∀ k ∈ s, WfI k := by
  obtain ⟨fuel, hf⟩ := h
  obtain ⟨xs, k, hk, hxy, hl, hxl, hf⟩ := DataW.trod_struct Tryd.underlying57 hf
  match xs, hxl with
  | [y0, y1, y2, y3, y4], _ =>
    have g1 := hf 1 _ rfl
    have g3 := hf 3 _ rfl
    unfold offv at g1 g3
    simp [cells_ints, cells_lists, Value.cells] at g1 g3
    exact ⟨open_ints_wf g3 hb.sigs.at_ hb.sigs.len, open_lists_wf g1 hb.rsigs⟩

end Go.Proofs.YtanpglfpopbfkabDoor
