/- How a slice of ints is opened, with what its ints are (numbers of their kind). -/
import Derived.Test.YtanpglfpopbfkabGreatDoorPk37
namespace Go.Proofs.YtanpglfpopbfkabGreatDoor
open Go.ChangeShapes Go.WideShapes Go.ChangeAt Go.RowKit Go.Joins

theorem add_at2 (b off j : Nat) : (⟨b, off, none⟩ : Addr).add j = ⟨b, off + j, none⟩ := by unfold Addr.add; split <;> simp_all

set_option maxRecDepth 100000 in
theorem open_ints_wf2 {H : Type} {enc : TypeId × Value → H} {W : World} {fuel : Nat} {a : Option Addr} {n c : Nat} {xs : List Int} {x : DataW H × List MemPlace}
    (h : DataW.trod enc Tryz.prog W 0 (fun _ => true) true fuel 22 [.slice a n c] = some x) (hi : IsInts W a xs) (hl : xs.length = n) : ∀ k ∈ xs, -9223372036854775808 ≤ k ∧ k ≤ 9223372036854775807 := by
  rcases open_ints Tryz.underlying22 Tryz.underlying3 cells_int h with ⟨hcs, hx⟩ | ⟨ad, len, cap, zs, hcs, _, hlc, hm, hz, hx, hcell, hwf⟩
  · simp at hcs
    intro k hk
    have h0 : xs = [] := List.eq_nil_of_length_eq_zero (by rw [hl]; exact hcs.2.1)
    rw [h0] at hk
    cases hk
  · simp at hcs hz
    obtain ⟨rfl, rfl, rfl⟩ := hcs
    intro k hk
    obtain ⟨i, hi2, rfl⟩ := List.getElem_of_mem hk
    rcases hi with e | ⟨b, off, e, hc⟩
    · rw [e] at hi2; simp at hi2
    · cases e
      have h1 := hc i hi2
      have hzl : i < zs.length := by omega
      have h2 := hcell i hzl
      rw [add_at2] at h2
      rw [h1] at h2
      have h3 : xs.getD i 0 = zs.getD i 0 := by simpa using h2
      rw [show xs[i] = xs.getD i 0 by simp [hi2], h3, show zs.getD i 0 = zs[i] by simp [hzl]]
      exact wf_bounds2 (hwf _ (List.getElem_mem hzl))

end Go.Proofs.YtanpglfpopbfkabGreatDoor
