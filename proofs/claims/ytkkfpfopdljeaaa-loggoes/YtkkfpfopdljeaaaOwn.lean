/- A row of one's own lies in a block of one's own. -/
import Derived.Test.YtkkfpfopdljeaaaBase
namespace Go.Proofs.Ytkkfpfopdljeaaa
open Go.RowKit

theorem ownBlock_ge {w : World} {base : Nat} {e : TypeId} {size : Nat} {v : Value} {n : Nat} {xs : List Value} (h : w.ownsRow base e size v n xs) : ∀ k, v.ownBlock = some k → base ≤ k := by
  intro k hk
  obtain ⟨_, ⟨hv, _⟩ | ⟨g, cap, cur, hv, hg, _⟩⟩ := h
  · rw [hv] at hk; cases hk
  · rw [hv] at hk
    have : g = k := by simpa [Value.ownBlock] using hk
    omega

end Go.Proofs.Ytkkfpfopdljeaaa
