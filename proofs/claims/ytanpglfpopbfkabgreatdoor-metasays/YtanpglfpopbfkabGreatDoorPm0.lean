/- What a slice of ints in memory holds ('IsInts'). -/
import Derived.Test.YtanpglfpopbfkabGreatDoorRows
import Derived.WalkKit
import Derived.WalkSpells
import Derived.WalkLawsBesides
import Derived.Deep.QuietTactic
import Derived.BigQuiet
namespace Go.Proofs.YtanpglfpopbfkabGreatDoor
open Go.RowKit

theorem hide {p : Prop} (h : p) : Hid p := h
theorem unhide {p : Prop} (h : Hid p) : p := h

/-- The slice at 'a' of length 'xs.length' holds the numbers 'xs' in the world w. -/
def IsInts (w : World) (a : Option Addr) (xs : List Int) : Prop :=
  xs = [] ∨ ∃ b off, a = some ⟨b, off, none⟩ ∧ ∀ i, i < xs.length → w.cell? ⟨b, off + i, none⟩ = some (.int .i64 (xs.getD i 0))

theorem ret_bool {a b : Bool} (h : a = b) : Ending.returned (.bool a) = .returned (.bool b) := by rw [h]

/-! ### A list in memory stays there -/
theorem cell_lt {w : World} {p : Addr} {v : Value} (h : w.cell? p = some v) : p.block < w.heap.size := by
  unfold World.cell? at h
  split at h <;> simp_all
  rename_i hb
  obtain ⟨hlt, _⟩ := Array.getElem?_eq_some_iff.1 hb
  exact hlt

theorem IsInts.below {w w' : World} {a : Option Addr} {xs : List Int} (h : IsInts w a xs) (hb : Below w.heap.size w w') : IsInts w' a xs := by
  rcases h with h | ⟨b, off, rfl, hc⟩
  · exact .inl h
  · exact .inr ⟨b, off, rfl, fun i hi => by rw [hb.cell (cell_lt (hc i hi))]; exact hc i hi⟩

theorem IsInts.alloc {w : World} {a : Option Addr} {xs : List Int} (h : IsInts w a xs) (o : Obj) : IsInts (w.alloc o) a xs :=
  h.below ((Below.refl _ _).alloc (Nat.le_refl _) _)

theorem IsInts.drewN {w : World} {a : Option Addr} {xs : List Int} (h : IsInts w a xs) (n : Nat) : IsInts (w.drewN n) a xs :=
  h.below (below_drewN (Below.refl _ _) n)

theorem isInts_at (w : World) (b : Nat) (xs : List Int) (vs : Array Value) (t : TypeId) (hb : b = w.heap.size) (hv : vs = (xs.map (Value.int .i64)).toArray) : IsInts (w.alloc (.cells vs t)) (some ⟨b, 0, none⟩) xs := by
  subst hb hv
  refine .inr ⟨_, _, rfl, fun i hi => ?_⟩
  simp [hi]

end Go.Proofs.YtanpglfpopbfkabGreatDoor
