/- The package variables of Go's library that stand as they were laid ('Tab', 'Vars'), and what strconv.Itoa, strings.Join do in their presence. -/
import Derived.Test.YtanpglfpopbfkabDoorMMem
import Derived.Test.YtanpglfpopbfkabDoorMShelf
namespace Go.Proofs.YtanpglfpopbfkabDoor
open Go.RowKit

/-- A text of these bytes. -/
def bs (l : List UInt8) : ByteArray := ⟨l.toArray⟩
theorem bs_data (l : List UInt8) : (bs l).data.toList = l := by simp [bs]
theorem bs_of (s : ByteArray) : bs s.data.toList = s := by simp [bs]
theorem bs_size (l : List UInt8) : (bs l).size = l.length := rfl
theorem bs_inj {a b : List UInt8} (h : bs a = bs b) : a = b := by rw [← bs_data a, h, bs_data]
theorem size_data (s : ByteArray) : s.data.toList.length = s.size := Array.length_toList

theorem var_below {w w' : World} {n : String} {cs : Array Value} (h : w.var? Tryd.prog n = some cs) (hb : Below w.heap.size w w') : w'.var? Tryd.prog n = some cs := by
  unfold World.var? at h ⊢
  cases hg : Tryd.prog.globalNamed n with
  | none => rw [hg] at h; cases h
  | some g =>
    rw [hg] at h
    simp only [Option.bind_some] at h ⊢
    have hlt : g < w.heap.size := by
      cases hx : w.heap[g]? with
      | none => rw [hx] at h; cases h
      | some o => exact (Array.getElem?_eq_some_iff.1 hx).1
    rw [hb.block g hlt]
    exact h

/-- The table that strconv.Itoa reads stands as it was laid. -/
def Tab (w : World) : Prop := Lib.TabIs Tryd.prog w "internal/strconv.uint64pow10" .u64 Lib.pow10Tab

theorem Tab.below {w w' : World} (h : Tab w) (hb : Below w.heap.size w w') : Tab w' := var_below h hb
theorem Tab.alloc {w : World} (h : Tab w) (o : Obj) : Tab (w.alloc o) := h.below ((Below.refl _ _).alloc (Nat.le_refl _) _)

theorem grow_below (w : World) (os : Array Obj) : Below w.heap.size w (Sort.grow w os) :=
  ⟨rfl, rfl, rfl, by simp, fun k hk => Sort.heap_grow_old w os hk⟩

theorem itoa_any (n : Int) (hn : I64 n) (w : World) (hT : Tab w) :
    Calls Tryd.prog 71 #[.int .i64 n] w fun e w' => e = .returned (.string (bs (Lib.itoa n))) ∧ Below w.heap.size w w' := by
  refine (Tryd.strconv_Itoa n hn.1 hn.2 w hT).mono ?_
  rintro e w' ⟨rfl, k, os, rfl⟩
  exact ⟨rfl, (below_drewN (Below.refl _ _) k).trans (grow_below (w.drewN k) os : Below (w.drewN k).heap.size _ _)⟩

/-- strings.Join of a row of texts. -/
theorem join_any (a : Option Addr) (n c : Nat) (ss : List ByteArray) (sep : List UInt8) (w : World) (h : IsStrs w a ss) (hn : ss.length = n) (hc : n ≤ c) (hm : n ≤ 140737488355328)
    (hlen : (Lib.join (ss.map (·.data.toList)) sep).length ≤ 140737488355328) :
    Calls Tryd.prog 47 #[.slice a n c, .string (bs sep)] w fun e w' => e = .returned (.string (bs (Lib.join (ss.map (·.data.toList)) sep))) ∧ Below w.heap.size w w' := by
  subst hn
  rcases h with rfl | ⟨b, off, rfl, hcell⟩
  · refine (Tryd.strings_Join_none a c (bs sep) w).mono ?_
    rintro e w' ⟨rfl, rfl⟩
    exact ⟨rfl, Below.refl _ _⟩
  · by_cases h0 : ss = []
    · subst h0
      refine (Tryd.strings_Join_none _ c (bs sep) w).mono ?_
      rintro e w' ⟨rfl, rfl⟩
      exact ⟨rfl, Below.refl _ _⟩
    have hpos : 0 < ss.length := by cases ss with
      | nil => exact absurd rfl h0
      | cons x r => simp
    have := Tryd.strings_Join b off c ss (bs sep) w (fun j x hx => by
      obtain ⟨hj, hx⟩ := List.getElem?_eq_some_iff.1 hx
      have := hcell j hj
      rw [show ss.getD j ByteArray.empty = x by simp [hj, hx]] at this
      exact this) (cell_lt (hcell 0 hpos)) hm hc (by rw [bs_data]; exact hlen)
    rw [bs_data] at this
    exact this

end Go.Proofs.YtanpglfpopbfkabDoor
