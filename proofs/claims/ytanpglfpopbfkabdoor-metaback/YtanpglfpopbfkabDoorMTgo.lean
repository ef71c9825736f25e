/- The contract of meta.targetOf. -/
import Derived.Test.YtanpglfpopbfkabDoorMChk
namespace Go.Proofs.YtanpglfpopbfkabDoor
open Go.RowKit

set_option maxRecDepth 100000 in
theorem targetOf_any (t : T3) (w : World) : Calls Tryd.prog 92 #[tv t] w fun e w' => e = .returned (tv t) ∧ Below w.heap.size w w' := by
  unfold tv
  go_enter Tryd.func92, Tryd.ntmps92
  go_wp2
  refine bodyPost_ret (v := .agg #[.int .i64 t.1, .int .i64 t.2.1, .int .i64 t.2.2]) (by simp [results, Tryd.results92, go_sem]) rfl ⟨rfl, ?_⟩
  exact ((Below.refl _ _).alloc (Nat.le_refl _) _).alloc (by simp) _

end Go.Proofs.YtanpglfpopbfkabDoor
