/- Small words for the laws that hold the program against the document's own answers. -/
import Derived.Test.YtanpglfpopbfkaaRef
import Derived.Test.YtanpglfpopbfkaaParts
namespace Go.Proofs.Ytanpglfpopbfkaa
open Go.RowKit

theorem freshA0 (a : Option Addr) : FreshA 0 a := fun _ _ => Nat.zero_le _

/-- A variable that holds a flash of these words and this fuel. -/
abbrev FlV (w : World) (b : Nat) (ws : List Int) (fuel : Int) : Prop := FlVar 0 w b ws fuel

theorem refSame_yes (a : Option Addr) (n c : Nat) (xs : List Int) (fuel : Int) (a2 : Option Addr) (n2 c2 : Nat) (w : World) (h : IsInts w a xs) (hn : xs.length = n) (h2 : IsInts w a2 xs) (hn2 : xs.length = n2) (hm : xs.length ≤ maxLen) :
    Calls Try.prog 25 #[.agg #[.slice a n c, .int .i64 fuel], .agg #[.slice a2 n2 c2, .int .i64 fuel]] w fun e w' => e = .returned (.bool true) ∧ Below w.heap.size w w' := by
  refine (refSame_any a n c xs fuel a2 n2 c2 xs fuel w h hn (by omega) h2 hn2 (by omega)).mono ?_
  rintro e w' ⟨rfl, hb⟩
  exact ⟨ret_bool (by simp [eqL_self]), hb⟩

end Go.Proofs.Ytanpglfpopbfkaa
