/- What a call that answers words and an error hands back ('Reads'); the document's Read. -/
import Derived.Test.YtanpglfpopbfkaaErase
namespace Go.Proofs.Ytanpglfpopbfkaa
open Go.RowKit

/-- The document's Read: the words, the error. -/
def readS (ws : List Int) (fuel p m : Int) : List Int × Int :=
  if chk ws fuel ≠ 0 then ([], chk ws fuel) else if fitB ws.length p m = false then ([], 5)
  else ((ws.drop p.toNat).take m.toNat, 0)

def Reads (w : World) (r : List Int × Int) (e : Ending) (w' : World) : Prop :=
  (∃ a n c, e = .returned (.tuple #[.slice a n c, .int .i64 r.2]) ∧ IsInts w' a r.1 ∧ r.1.length = n ∧ n ≤ c ∧ FreshA w.heap.size a) ∧ Below w.heap.size w w'

theorem reads_err {w w' : World} {r : List Int × Int} {err : Int} (hr : r = ([], err)) (hb : Below w.heap.size w w') : Reads w r (.returned (.tuple #[.slice none 0 0, .int .i64 err])) w' := by
  subst hr
  exact ⟨⟨none, 0, 0, rfl, .inl rfl, rfl, Nat.le_refl _, FreshA.nil _⟩, hb⟩

end Go.Proofs.Ytanpglfpopbfkaa
