/- Signatures, roots and lists in memory: 'IsSigs', 'IsRoots', 'IsLists'; what is trusted, and an offer, as values ('trv', 'offv'). -/
import Derived.Test.YtanpglfpopbfkabDoorTSpec
namespace Go.Proofs.YtanpglfpopbfkabDoor
open Go.RowKit

/-- The slice at 'a' of length 'l.length' holds the signatures 'l'. -/
def IsSigs (w : World) (a : Option Addr) (l : List S2) : Prop :=
  l = [] ∨ ∃ b off, a = some ⟨b, off, none⟩ ∧ ∀ i s, l[i]? = some s →
    w.cell? ⟨b, off + i * 2, none⟩ = some (.int .i64 s.1) ∧ w.cell? ⟨b, off + i * 2 + 1, none⟩ = some (.int .i64 s.2)

theorem IsSigs.below {w w' : World} {a : Option Addr} {l : List S2} (h : IsSigs w a l) (hb : Below w.heap.size w w') : IsSigs w' a l := by
  rcases h with h | ⟨b, off, rfl, hc⟩
  · exact .inl h
  · refine .inr ⟨b, off, rfl, fun i s hi => ?_⟩
    obtain ⟨h1, h2⟩ := hc i s hi
    exact ⟨by rw [hb.cell (cell_lt h1)]; exact h1, by rw [hb.cell (cell_lt h2)]; exact h2⟩

/-- .. the lists 'ls'. -/
def IsLists (w : World) (a : Option Addr) (ls : List (List Int)) : Prop :=
  ls = [] ∨ ∃ b off, a = some ⟨b, off, none⟩ ∧ ∀ i r, ls[i]? = some r →
    ∃ ai ci, w.cell? ⟨b, off + i, none⟩ = some (Value.slice ai r.length ci) ∧ IsInts w ai r ∧ r.length ≤ ci ∧ ci ≤ maxLen

theorem IsLists.below {w w' : World} {a : Option Addr} {ls : List (List Int)} (h : IsLists w a ls) (hb : Below w.heap.size w w') : IsLists w' a ls := by
  rcases h with h | ⟨b, off, rfl, hc⟩
  · exact .inl h
  · refine .inr ⟨b, off, rfl, fun i r hi => ?_⟩
    obtain ⟨ai, ci, h1, h2, h3⟩ := hc i r hi
    exact ⟨ai, ci, by rw [hb.cell (cell_lt h1)]; exact h1, h2.below hb, h3⟩

/-- .. the roots 'rs'. -/
def IsRoots (w : World) (a : Option Addr) (rs : List Rt) : Prop :=
  rs = [] ∨ ∃ b off, a = some ⟨b, off, none⟩ ∧ ∀ i r, rs[i]? = some r →
    ∃ ai ci, w.cell? ⟨b, off + i * 3, none⟩ = some (.int .i64 r.v) ∧ w.cell? ⟨b, off + i * 3 + 1, none⟩ = some (Value.slice ai r.ks.length ci) ∧ w.cell? ⟨b, off + i * 3 + 2, none⟩ = some (.int .i64 r.t) ∧ IsInts w ai r.ks ∧ r.ks.length ≤ ci ∧ ci ≤ maxLen

theorem IsRoots.below {w w' : World} {a : Option Addr} {rs : List Rt} (h : IsRoots w a rs) (hb : Below w.heap.size w w') : IsRoots w' a rs := by
  rcases h with h | ⟨b, off, rfl, hc⟩
  · exact .inl h
  · refine .inr ⟨b, off, rfl, fun i r hi => ?_⟩
    obtain ⟨ai, ci, h1, h2, h3, h4, h5⟩ := hc i r hi
    exact ⟨ai, ci, by rw [hb.cell (cell_lt h1)]; exact h1, by rw [hb.cell (cell_lt h2)]; exact h2, by rw [hb.cell (cell_lt h3)]; exact h3, h4.below hb, h5⟩

def trv (v : Int) (a : Option Addr) (n c : Nat) (t ver : Int) : Value := .agg #[.int .i64 v, .slice a n c, .int .i64 t, .int .i64 ver]
def sv (s : S2) : Value := .agg #[.int .i64 s.1, .int .i64 s.2]

/-! ### With lengths -/
structure BI (w : World) (a : Option Addr) (n : Nat) (xs : List Int) : Prop where
  at_ : IsInts w a xs
  len : xs.length = n
  max : n ≤ maxLen
structure BG (w : World) (a : Option Addr) (n : Nat) (l : List S2) : Prop where
  at_ : IsSigs w a l
  len : l.length = n
  max : n ≤ maxLen
structure BB (w : World) (a : Option Addr) (n c : Nat) (ss : List ByteArray) : Prop where
  at_ : IsStrs w a ss
  len : ss.length = n
  cap : n ≤ c
  max : n ≤ maxLen
  short : ∀ s ∈ ss, s.size ≤ maxLen
structure BT (w : World) (a : Option Addr) (n : Nat) (ts : List T3) : Prop where
  at_ : IsTgts w a ts
  len : ts.length = n
  max : n ≤ maxLen
structure BR (w : World) (a : Option Addr) (n : Nat) (rs : List Rt) : Prop where
  at_ : IsRoots w a rs
  len : rs.length = n
  max : n ≤ maxLen
structure BL (w : World) (a : Option Addr) (n : Nat) (ls : List (List Int)) : Prop where
  at_ : IsLists w a ls
  len : ls.length = n
  max : n ≤ maxLen

theorem BI.below {w w' : World} {a : Option Addr} {n : Nat} {xs : List Int} (h : BI w a n xs) (hb : Below w.heap.size w w') : BI w' a n xs := ⟨h.at_.below hb, h.len, h.max⟩
theorem BG.below {w w' : World} {a : Option Addr} {n : Nat} {l : List S2} (h : BG w a n l) (hb : Below w.heap.size w w') : BG w' a n l := ⟨h.at_.below hb, h.len, h.max⟩
theorem BB.below {w w' : World} {a : Option Addr} {n c : Nat} {ss : List ByteArray} (h : BB w a n c ss) (hb : Below w.heap.size w w') : BB w' a n c ss := ⟨h.at_.below hb, h.len, h.cap, h.max, h.short⟩
theorem BT.below {w w' : World} {a : Option Addr} {n : Nat} {ts : List T3} (h : BT w a n ts) (hb : Below w.heap.size w w') : BT w' a n ts := ⟨h.at_.below hb, h.len, h.max⟩
theorem BR.below {w w' : World} {a : Option Addr} {n : Nat} {rs : List Rt} (h : BR w a n rs) (hb : Below w.heap.size w w') : BR w' a n rs := ⟨h.at_.below hb, h.len, h.max⟩
theorem BL.below {w w' : World} {a : Option Addr} {n : Nat} {ls : List (List Int)} (h : BL w a n ls) (hb : Below w.heap.size w w') : BL w' a n ls := ⟨h.at_.below hb, h.len, h.max⟩

end Go.Proofs.YtanpglfpopbfkabDoor
