/- The contract of flash.twinWords. -/
import Derived.Test.YtanpglfpopbfkaaBase
import Derived.Test.YtanpglfpopbfkaaMem0
namespace Go.Proofs.Ytanpglfpopbfkaa
open Go.RowKit

set_option maxHeartbeats 400000 in
theorem twinWords_any (a : Option Addr) (n c : Nat) (xs : List Int) (w : World) (h : IsInts w a xs) (hn : xs.length = n) (hsz : n * 8 ≤ 140737488351232) :
    Calls Try.prog 59 #[.slice a n c] w fun e w' => e = .returned (.slice (some ⟨w.heap.size, 0, none⟩) n n) ∧ OwnInts w' w.heap.size xs ∧ Below w.heap.size w w' := by
  have hmk := make_ints n w (by omega)
  have hcp := copy_ints a n c xs w h hn
  clear hn
  go_enter Try.func59, Try.ntmps59
  go_wp2
  go_ret
  refine ⟨rfl, ?_, (Below.refl _ _).alloc (Nat.le_refl _) _⟩
  exact heap_alloc_last w _

end Go.Proofs.Ytanpglfpopbfkaa
