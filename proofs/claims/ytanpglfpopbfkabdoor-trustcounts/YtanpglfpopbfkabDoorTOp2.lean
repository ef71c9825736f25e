/- How an argument that is a list of ints is opened, with its room. -/
import Derived.Test.YtanpglfpopbfkabDoorMOpen
import Derived.SizedLaws
namespace Go.Proofs.YtanpglfpopbfkabDoor
open Go.ChangeShapes Go.WideShapes Go.ChangeAt Go.RowKit Go.Joins

set_option maxRecDepth 100000 in
theorem bytes_int : Tryd.prog.bytesOf 3 = 8 := by kernel_rfl

theorem open_ints_sized {H : Type} {enc : TypeId × Value → H} {W : World} {fuel : Nat} {v : Value} {x : DataW H × List MemPlace}
    (h : DataW.trod enc Tryd.prog W 0 (fun _ => true) true fuel 25 [v] = some x) :
    ∃ a n c xs, v = .slice a n c ∧ InInts W a n c xs ∧ ((x.1 = .nil ∧ c = 0) ∨ ∃ e s, x.1 = .slice e s ∧ e.length + s.length = c) := by
  obtain ⟨a, n, c, xs, rfl, hi⟩ := open_ints_cells h
  refine ⟨a, n, c, xs, rfl, hi, ?_⟩
  rcases open_ints Tryd.underlying25 Tryd.underlying3 cells_int h with ⟨hcs, hx⟩ | ⟨ad, len, cap, zs, hcs, _, hl, hm, hz, hx, hcell, _⟩
  · simp at hcs
    exact .inl ⟨by rw [hx], hcs.2.2⟩
  · simp at hcs
    simp at hz
    refine .inr ⟨_, _, by rw [hx], ?_⟩
    simp [lits, hz, hcs]
    omega

end Go.Proofs.YtanpglfpopbfkabDoor
