/- A list of records that came in without a place has no room. -/
import Derived.Test.YtanpglfpopbfkaaOpenR
namespace Go.Proofs.Ytanpglfpopbfkaa
open Go.ChangeShapes Go.WideShapes Go.ChangeAt Go.RowKit Go.Joins

set_option maxRecDepth 100000 in
theorem recs_nil {H : Type} {enc : TypeId × Value → H} {W : World} {a : Option Addr} {n c : Nat} {d : DataW H} {p : List MemPlace}
    (h : DataW.Trod enc Try.prog W 0 (fun _ => true) true 44 (.slice a n c) d p) (ha : a = none) : c = 0 := by
  subst ha
  obtain ⟨m, hf⟩ := h
  have hf' : DataW.trod enc Try.prog W 0 (fun _ => true) true m 44 [.slice none n c] = some (d, p) := by simpa [Value.cells] using hf
  rcases Go.Deep.open_slice1 Try.underlying44 cells_rec hf' with ⟨hcs, _⟩ | ⟨ad, len, cap, m, n, V, D, Pl, hcs, _⟩
  · simp at hcs
    exact hcs.2
  · simp at hcs

end Go.Proofs.Ytanpglfpopbfkaa
