/- A flash that came in, and the room that its words take. -/
import Derived.Test.YtanpglfpopbfkaaOpen
namespace Go.Proofs.Ytanpglfpopbfkaa
open Go.ChangeShapes Go.WideShapes Go.ChangeAt Go.RowKit Go.Joins

set_option maxRecDepth 100000 in
/-- A flash that came in, opened, and what its reading says of its room. -/
theorem open_flash_data {H : Type} {enc : TypeId × Value → H} {W : World} {r : Reach} {b0 : Nat} {v : Value} {d : DataW H} {p : List MemPlace}
    (hv : Value.okWide Try.prog W r b0 28 v) (h : DataW.Trod enc Try.prog W 0 (fun _ => true) true 28 v d p) :
    ∃ a n c xs fuel, v = .agg #[.slice a n c, .int .i64 fuel] ∧ InInts W a n c xs ∧ ((∃ x1, d = .agg [.nil, x1] ∧ c = 0) ∨ ∃ e s x1, d = .agg [.slice e s, x1] ∧ e.length + s.length = c) := by
  obtain ⟨c0, c1, y0, y1, m, rfl, rfl, rfl, hy0, hy1⟩ := open_agg2 (by exact Try.underlying28) (by kernel_rfl) cells_flash hv h
  obtain ⟨a, n, c, xs, rfl, hi, hd⟩ := open_ints_cells hy0
  obtain ⟨f, e1, rfl, wf⟩ := DataW.trod_int Try.underlying3 hy1
  simp at e1
  subst e1
  refine ⟨a, n, c, xs, f, rfl, hi, ?_⟩
  rcases hd with ⟨hd, hc⟩ | ⟨e, s, hd, hc⟩
  · exact .inl ⟨_, by rw [hd], hc⟩
  · exact .inr ⟨e, s, _, by rw [hd], hc⟩

set_option maxRecDepth 100000 in
theorem sized_flash {H : Type} {ts : List TypeId} {ds : List (DataW H)} (h : (DataW.weightsEach Try.prog ts ds).all (· ≤ reachBytes) = true) {j : Nat} {e s : List (DataW H)} {x1 : DataW H} (ht : ts[j]? = some 28) (hd : ds[j]? = some (.agg [.slice e s, x1])) :
    (e.length + s.length) * 8 ≤ 140737488351232 := by
  have hm : (e.length + s.length) * Try.prog.bytesOf 3 ∈ (DataW.agg [.slice e s, x1]).weights Try.prog 28 := by
    simp [DataW.weights, DataW.weightsEach, Try.underlying28, Try.underlying24]
  have := List.all_eq_true.1 h _ (DataW.weights_mem_each ht hd _ hm)
  rw [bytes_int] at this
  have := of_decide_eq_true this
  simpa [reachBytes] using this

end Go.Proofs.Ytanpglfpopbfkaa
