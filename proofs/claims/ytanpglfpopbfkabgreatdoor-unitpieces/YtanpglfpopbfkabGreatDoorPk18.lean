/- What package unit says, as plain functions: 'stOf', 'unE', 'msE', 'heE', 'doU', 'pieceS', 'prepS', 'comS', 'aboS', 'hearS'. No program in this text. What package trust says, as plain functions: 'sigE', 'trE', 'cntE', 'cntN', 'csE', 'turnE', 'allE', 'crE', 'meantB', 'takeE', 'takeT'. No program in this text. Signatures, roots and lists in memory: 'IsSigs', 'IsRoots', 'IsLists'; what is trusted, and an offer, as values ('trv', 'offv'). Units and messages in memory: 'unO', 'OwnU', 'msv', 'IsMsgs'; what one block's turning leaves ('turns'). Lists of changes in memory; the contracts of wainwrightref.erases and programs. The contract of wainwrightref.Changed: as many changes as there is power for. Lists of changes that erase, and that program. What a list of changes that programs words does. Plain facts: lists of changes one behind the other, of which there is power for so many. -/
import Derived.Test.YtanpglfpopbfkabGreatDoorPk12
import Derived.Test.YtanpglfpopbfkabGreatDoorPk14
import Derived.Test.YtanpglfpopbfkabGreatDoorPk15
import Derived.Test.YtanpglfpopbfkabGreatDoorPk17
import Derived.Maps.AppendAt
import Derived.Test.YtanpglfpopbfkabGreatDoorPk6
import Derived.Deep.DeepCutAuto
import Derived.Laws.EntriesVeiled
namespace Go.Proofs.YtanpglfpopbfkabGreatDoor
open Go.RowKit

/-- A unit; a message; what a unit's records say. -/
structure Un where
  ws : List Int
  fu : Int
  up : Bool
  n : Int
  hv : Int
structure Ms where
  k : Int
  u : Int
  n : Int
  at' : Int
  im : Int
  ws : List Int
  y : Bool
structure Us where
  slot : Int
  by' : Int
  rdy : Int

def isR (r : List Int) (k : Int) (l : Nat) : Bool := decide (r.length = l) && decide (r.getD 0 0 = k)
def stNext (s : Us) (r : List Int) : Us :=
  if (isR r 1 3 && decide (r.getD 1 0 ≤ 1)) = true then ⟨r.getD 1 0, r.getD 2 0, 0⟩
  else if isR r 2 2 = true then ⟨s.slot, s.by', r.getD 1 0⟩
  else if isR r 3 2 = true then ⟨s.slot, s.by', 0⟩ else s
def us0 : Us := ⟨0, 0, 0⟩
def stR (rs : List (List Int)) : Us := rs.foldl stNext us0
def stOf (ws : List Int) : Us := stR (logR ws)

def unE (u : Un) : Int := if lchk u.ws u.fu ≠ 0 then lchk u.ws u.fu else if u.ws.length ≠ 192 then 4 else if (inB u.n 0 8 && inB u.hv 0 40) = true then 0 else 3
def msB (m : Ms) : Bool := inB m.k 1 7 && (inB m.u 0 3 && (inB m.n 1 8 && (inB m.at' 0 40 && (inB m.im 0 60 && (decide (m.ws.length ≤ 8) && okL m.ws)))))
def msE (m : Ms) : Int := if msB m = true then 0 else 3
def heE (ss : List ByteArray) (u : Un) (m : Ms) : Int := if bookE ss ≠ 0 then bookE ss else if unE u ≠ 0 then unE u else msE m

/-- A change of flash: what becomes of the unit, and whether it is done. -/
def doU (u : Un) (r : List Int × Int × Int) : Un × Bool :=
  if r.2.2 = 7 then (⟨r.1, r.2.1, false, 0, 0⟩, false) else if r.2.2 = 0 then (⟨r.1, r.2.1, u.up, u.n, u.hv⟩, true) else (u, false)

def keepU (s : Us) : List (List Int) := if s.rdy = 0 then [[1, s.slot, s.by']] else [[1, s.slot, s.by'], [2, s.rdy]]

/-- A step: the log is formatted, a slot cleared, filled, sealed, a record noted. -/
abbrev Stu := Sum (Sum Unit Int) (Sum (Int × Int × List Int) (Sum (Int × Int × Int) (Us × List Int)))
abbrev Stu.fmt : Stu := Sum.inl (Sum.inl ())
abbrev Stu.clr (s : Int) : Stu := Sum.inl (Sum.inr s)
abbrev Stu.fil (s a : Int) (words : List Int) : Stu := Sum.inr (Sum.inl (s, a, words))
abbrev Stu.sea (s long name : Int) : Stu := Sum.inr (Sum.inr (Sum.inl (s, long, name)))
abbrev Stu.not (s : Us) (r : List Int) : Stu := Sum.inr (Sum.inr (Sum.inr (s, r)))
def doT : Stu → List Int → Int → List Int × Int × Int
  | .inl (.inl _), ws, f => fmtS ws f
  | .inl (.inr s), ws, f => clrS ws f s
  | .inr (.inl (s, a, words)), ws, f => fillS ws f s a words
  | .inr (.inr (.inl (s, l, n))), ws, f => sealS ws f s l n
  | .inr (.inr (.inr (s, r))), ws, f => appS ws f r (keepU s)
def doV (u : Un) (st : Stu) : Un × Bool := doU u (doT st u.ws u.fu)
def turnU : List Stu → Un → Un × Bool
  | [], u => (u, true)
  | st :: r, u => if (doV u st).2 = true then turnU r (doV u st).1 else ((doV u st).1, false)

def oth (s : Us) : Int := 1 - s.slot
def mind (u : Un) (n hv : Int) : Un := ⟨u.ws, u.fu, u.up, n, hv⟩

def voteM (m : Ms) (y : Bool) : Ms := ⟨3, m.u, m.n, 0, 0, [], y⟩
def doneM (m : Ms) : Ms := ⟨6, m.u, m.n, 0, 0, [], false⟩

def pieceA (u : Un) (s : Us) (m : Ms) : Un × Bool :=
  if m.at' = 0 ∧ (u.n ≠ m.n ∨ u.hv = 0) then
    (if (doV u (.clr (oth s))).2 = true then (mind (doV u (.clr (oth s))).1 m.n 0, true) else ((doV u (.clr (oth s))).1, false))
  else (u, true)
def pieceB (u : Un) (s : Us) (m : Ms) : Un :=
  if u.n = m.n ∧ u.hv = m.at' ∧ (m.ws.length : Int) ≤ 40 - m.at' then
    (if (doV u (.fil (oth s) m.at' m.ws)).2 = true then mind (doV u (.fil (oth s) m.at' m.ws)).1 (doV u (.fil (oth s) m.at' m.ws)).1.n ((doV u (.fil (oth s) m.at' m.ws)).1.hv + m.ws.length)
    else (doV u (.fil (oth s) m.at' m.ws)).1)
  else u
def pieceS (u : Un) (s : Us) (m : Ms) : Un :=
  if s.rdy ≠ 0 ∨ m.n ≤ s.by' then u else if (pieceA u s m).2 = true then pieceB (pieceA u s m).1 s m else (pieceA u s m).1

/-- The words that a Prepare speaks of; are they those that it names? -/
def wordsU (u : Un) (s : Us) (m : Ms) : List Int := (bodyS u.ws u.fu (oth s) m.at').1
def meantU (ss : List ByteArray) (u : Un) (s : Us) (m : Ms) : Bool :=
  decide ((bodyS u.ws u.fu (oth s) m.at').2 = 0) && (decide (inE ss (wordsU u s m) = 0) && (decide (inN ss (wordsU u s m) ≠ 0) && decide (inN ss (wordsU u s m) = m.im)))
def wholeU (u : Un) (s : Us) (m : Ms) (words : List Int) : Bool :=
  decide ((imgS u.ws u.fu (oth s)).2.2 = 0) && (decide ((imgS u.ws u.fu (oth s)).2.1 = m.im) && eqL (imgS u.ws u.fu (oth s)).1 words)
def prepC (u : Un) (s : Us) (m : Ms) : Un × List Ms :=
  if (doV u (.not s [2, m.n])).2 = true then ((doV u (.not s [2, m.n])).1, [voteM m true]) else ((doV u (.not s [2, m.n])).1, [])
def prepB (u : Un) (s : Us) (m : Ms) (words : List Int) : Un × List Ms :=
  if (doV u (.sea (oth s) m.at' m.im)).2 = true then
    (if wholeU (mind (doV u (.sea (oth s) m.at' m.im)).1 0 0) s m words = true then prepC (mind (doV u (.sea (oth s) m.at' m.im)).1 0 0) s m
    else (mind (doV u (.sea (oth s) m.at' m.im)).1 0 0, [voteM m false]))
  else ((doV u (.sea (oth s) m.at' m.im)).1, [])
def prepS (ss : List ByteArray) (u : Un) (s : Us) (m : Ms) : Un × List Ms :=
  if m.n ≤ s.by' then (u, [doneM m]) else if s.rdy ≠ 0 then (u, [voteM m (decide (s.rdy = m.n))])
  else if u.n = m.n ∧ u.hv = m.at' ∧ meantU ss u s m = true then prepB u s m (wordsU u s m) else (u, [voteM m false])

def comS (u : Un) (s : Us) (m : Ms) : Un × List Ms :=
  if s.by' = m.n then (u, [doneM m]) else if s.rdy ≠ m.n then (u, [])
  else if (doV u (.not s [1, oth s, m.n])).2 = true then ((doV u (.not s [1, oth s, m.n])).1, [doneM m]) else ((doV u (.not s [1, oth s, m.n])).1, [])

def aboB (u : Un) (m : Ms) : Un × List Ms := (if u.n = m.n then mind u 0 0 else u, [doneM m])
def aboS (u : Un) (s : Us) (m : Ms) : Un × List Ms :=
  if m.n ≤ s.by' then (u, []) else if s.rdy = m.n then
    (if (doV u (.not s [3, m.n])).2 = true then aboB (doV u (.not s [3, m.n])).1 m else ((doV u (.not s [3, m.n])).1, []))
  else aboB u m

def hearK (ss : List ByteArray) (u : Un) (m : Ms) : Un × List Ms :=
  if m.k = 1 then (pieceS u (stOf u.ws) m, []) else if m.k = 2 then prepS ss u (stOf u.ws) m
  else if m.k = 4 then comS u (stOf u.ws) m else if m.k = 5 then aboS u (stOf u.ws) m else (u, [])
def hearS (ss : List ByteArray) (u : Un) (m : Ms) : Un × List Ms := if u.up = true then hearK ss u m else (u, [])

def sameM (x y : Ms) : Bool := decide (x.k = y.k) && (decide (x.u = y.u) && (decide (x.n = y.n) && (decide (x.at' = y.at') && (decide (x.im = y.im) && (x.y == y.y && eqL x.ws y.ws)))))
def sameU (x y : Un) : Bool := (decide (x.fu = y.fu) && eqL x.ws y.ws) && ((x.up == y.up) && (decide (x.n = y.n) && decide (x.hv = y.hv)))

end Go.Proofs.YtanpglfpopbfkabGreatDoor

namespace Go.Proofs.YtanpglfpopbfkabGreatDoor
open Go.RowKit

abbrev S2 := Int × Int
/-- A root; what is trusted; an offer. -/
structure Rt where
  v : Int
  ks : List Int
  t : Int
structure Of where
  roots : List Rt
  rsigs : List (List Int)
  v : Int
  u : Int
  ts : List T3
  sigs : List Int
  imgs : List (List Int)

def Rt.e (r : Rt) : Int := rootE r.v r.ks r.t
/-- Is it among them? -/
def has {α : Type} [DecidableEq α] (xs : List α) (x : α) : Bool := decide (x ∈ xs)
end Go.Proofs.YtanpglfpopbfkabGreatDoor

namespace Go.Proofs.YtanpglfpopbfkabGreatDoor
open Go.RowKit

structure BI (w : World) (a : Option Addr) (n : Nat) (xs : List Int) : Prop where
  at_ : IsInts w a xs
  len : xs.length = n
  max : n ≤ maxLen
structure BB (w : World) (a : Option Addr) (n c : Nat) (ss : List ByteArray) : Prop where
  at_ : IsStrs w a ss
  len : ss.length = n
  cap : n ≤ c
  max : n ≤ maxLen
  short : ∀ s ∈ ss, s.size ≤ maxLen
theorem BI.below {w w' : World} {a : Option Addr} {n : Nat} {xs : List Int} (h : BI w a n xs) (hb : Below w.heap.size w w') : BI w' a n xs := ⟨h.at_.below hb, h.len, h.max⟩
theorem BB.below {w w' : World} {a : Option Addr} {n c : Nat} {ss : List ByteArray} (h : BB w a n c ss) (hb : Below w.heap.size w w') : BB w' a n c ss := ⟨h.at_.below hb, h.len, h.cap, h.max, h.short⟩
end Go.Proofs.YtanpglfpopbfkabGreatDoor

namespace Go.Proofs.YtanpglfpopbfkabGreatDoor
open Go.RowKit

theorem turns_of {w w' : World} (h : Below w.heap.size w w') (B : Nat) : w.grownBy w' (some B) := ⟨h.os, h.tape, h.output, h.size, fun k hk _ => h.block k hk⟩
theorem turns_set {w w' : World} {B : Nat} (h : w.grownBy w' (some B)) (i : Nat) (v : Value) : w.grownBy (w'.setCell ⟨B, i, none⟩ v) (some B) :=
  h.trans ⟨rfl, rfl, rfl, by simp [World.setCell], fun k _ hne => Below.heap_setCell _ _ _ _ (fun e => hne (by rw [e]))⟩
theorem turns_below {B : Nat} {n : Nat} {a w w' : World} (h : Below n a w) (hg : w.grownBy w' (some B)) (hB : n ≤ B) (hs : n ≤ w.heap.size) : Below n a w' :=
  h.grown hg hs (fun k e => by cases e; exact hB)
/-- What doesn't lie in block B stays. -/
def Off (B : Nat) (a : Option Addr) : Prop := ∀ ad, a = some ad → ad.block ≠ B
theorem off_fresh {B n : Nat} {a : Option Addr} (h : FreshA n a) (hB : B < n) : Off B a := fun ad e => by have := h ad e; omega
theorem ints_turns {w w' : World} {B : Nat} {a : Option Addr} {xs : List Int} (h : IsInts w a xs) (hg : w.grownBy w' (some B)) (ho : Off B a) : IsInts w' a xs := by
  rcases h with h | ⟨b, off, rfl, hc⟩
  · exact .inl h
  · exact .inr ⟨b, off, rfl, fun i hi => hg.cell (hc i hi) (fun e => ho _ rfl (by cases e; rfl))⟩
theorem blk_turns {w w' : World} {B b : Nat} {o : Obj} (h : w.heap[b]? = some o) (hg : w.grownBy w' (some B)) (hne : b ≠ B) : w'.heap[b]? = some o := by
  rw [hg.block b (blk_lt h) (fun e => hne (by cases e; rfl))]
  exact h
theorem ints_off {w : World} {a : Option Addr} {xs : List Int} (h : IsInts w a xs) (B : Nat) (hB : w.heap.size ≤ B) : xs = [] ∨ Off B a := by
  rcases h with h | ⟨b, off, rfl, hc⟩
  · exact .inl h
  · by_cases h0 : xs = []
    · exact .inl h0
    · refine .inr fun ad e => ?_
      cases e
      have := cell_lt (hc 0 (by cases xs with | nil => exact absurd rfl h0 | cons _ _ => simp))
      show b ≠ B
      have h2 : b < w.heap.size := this
      omega

theorem uLast1 (w : World) (o1 o2 : Obj) : ((w.alloc o1).alloc o2).heap[w.heap.size + 1]? = some o2 := by
  have := heap_alloc_last (w.alloc o1) o2
  rwa [World.size_alloc] at this
theorem uLast2 (w : World) (o1 o2 o3 : Obj) : (((w.alloc o1).alloc o2).alloc o3).heap[w.heap.size + 1 + 1]? = some o3 := by
  have := heap_alloc_last ((w.alloc o1).alloc o2) o3
  rwa [World.size_alloc, World.size_alloc] at this
theorem uLast3 (w : World) (o1 o2 o3 o4 : Obj) : ((((w.alloc o1).alloc o2).alloc o3).alloc o4).heap[w.heap.size + 1 + 1 + 1]? = some o4 := by
  have := heap_alloc_last (((w.alloc o1).alloc o2).alloc o3) o4
  rwa [World.size_alloc, World.size_alloc, World.size_alloc] at this

/-- A unit's block. -/
def unO (u : Un) (a : Option Addr) (n c : Nat) : Obj := .cells #[.slice a n c, .int .i64 u.fu, .bool u.up, .int .i64 u.n, .int .i64 u.hv] 50 (0, 0)
def unv (u : Un) (a : Option Addr) (n c : Nat) : Value := .agg #[.slice a n c, .int .i64 u.fu, .bool u.up, .int .i64 u.n, .int .i64 u.hv]
/-- Block B is the unit u, its words elsewhere. -/
def OwnU (w : World) (B : Nat) (u : Un) : Prop := ∃ a n c, w.heap[B]? = some (unO u a n c) ∧ IsInts w a u.ws ∧ u.ws.length = n ∧ n ≤ c ∧ n ≤ maxLen ∧ Off B a

def msv (m : Ms) (a : Option Addr) (n c : Nat) : Value := .agg #[.int .i64 m.k, .int .i64 m.u, .int .i64 m.n, .int .i64 m.at', .int .i64 m.im, .slice a n c, .bool m.y]
/-- A list of messages in memory, none of them with words. -/
def IsMsgs (w : World) (a : Option Addr) (l : List Ms) : Prop :=
  l = [] ∨ ∃ b, a = some ⟨b, 0, none⟩ ∧ ∀ i m, l[i]? = some m → m.ws = [] ∧
    w.cell? ⟨b, i * 7, none⟩ = some (.int .i64 m.k) ∧ w.cell? ⟨b, i * 7 + 1, none⟩ = some (.int .i64 m.u) ∧ w.cell? ⟨b, i * 7 + 2, none⟩ = some (.int .i64 m.n) ∧ w.cell? ⟨b, i * 7 + 3, none⟩ = some (.int .i64 m.at') ∧
    w.cell? ⟨b, i * 7 + 4, none⟩ = some (.int .i64 m.im) ∧ w.cell? ⟨b, i * 7 + 5, none⟩ = some (.slice none 0 0) ∧ w.cell? ⟨b, i * 7 + 6, none⟩ = some (.bool m.y)

theorem IsMsgs.below {w w' : World} {a : Option Addr} {l : List Ms} (h : IsMsgs w a l) (hb : Below w.heap.size w w') : IsMsgs w' a l := by
  rcases h with h | ⟨b, rfl, hc⟩
  · exact .inl h
  · refine .inr ⟨b, rfl, fun i m hi => ?_⟩
    obtain ⟨h0, h1, h2, h3, h4, h5, h6, h7⟩ := hc i m hi
    exact ⟨h0, by rw [hb.cell (cell_lt h1)]; exact h1, by rw [hb.cell (cell_lt h2)]; exact h2, by rw [hb.cell (cell_lt h3)]; exact h3, by rw [hb.cell (cell_lt h4)]; exact h4, by rw [hb.cell (cell_lt h5)]; exact h5, by rw [hb.cell (cell_lt h6)]; exact h6, by rw [hb.cell (cell_lt h7)]; exact h7⟩
theorem isMsgs_one {w : World} {b : Nat} {m : Ms} {t : TypeId} (h0 : m.ws = []) (h : w.heap[b]? = some (.cells #[.int .i64 m.k, .int .i64 m.u, .int .i64 m.n, .int .i64 m.at', .int .i64 m.im, .slice none 0 0, .bool m.y] t (0, 0))) : IsMsgs w (some ⟨b, 0, none⟩) [m] := by
  refine .inr ⟨b, rfl, fun i x hi => ?_⟩
  have hlt := (List.getElem?_eq_some_iff.1 hi).1
  simp at hlt
  subst hlt
  simp at hi
  subst hi
  exact ⟨h0, blk_cell h 0 _ rfl, blk_cell h 1 _ rfl, blk_cell h 2 _ rfl, blk_cell h 3 _ rfl, blk_cell h 4 _ rfl, blk_cell h 5 _ rfl, blk_cell h 6 _ rfl⟩

end Go.Proofs.YtanpglfpopbfkabGreatDoor

namespace Go.Proofs.YtanpglfpopbfkabGreatDoor
open Go.RowKit

def apW (o : Option (Nat × Int)) (was : Int) : Int := match o with
  | none => 65535
  | some (_, x) => bits .and .i64 was x
def eraL (s : Nat) (k : Nat) : List (Nat × Option (Nat × Int)) := (List.range k).map (fun i => (32 * s + i, none))
theorem eraL_length (s k : Nat) : (eraL s k).length = k := by simp [eraL]
theorem eraL_succ (s k : Nat) : eraL s (k + 1) = eraL s k ++ [(32 * s + k, none)] := by simp [eraL, List.range_succ]

/-- The first k changes of a Program. -/
def ProL (p : Nat) (words : List Int) (k : Nat) (cs : List (Nat × Option (Nat × Int))) : Prop := cs.length = k ∧ ∀ i, i < k → ∃ b, cs[i]? = some (p + i, some (b, words.getD i 0))

theorem ProL.nil (p : Nat) (words : List Int) : ProL p words 0 [] := ⟨rfl, fun i hi => by omega⟩
theorem ProL.succ {p : Nat} {words : List Int} {k : Nat} {cs : List (Nat × Option (Nat × Int))} (h : ProL p words k cs) (b : Nat) : ProL p words (k + 1) (cs ++ [(p + k, some (b, words.getD k 0))]) := by
  refine ⟨by rw [List.length_append, h.1]; rfl, fun i hi => ?_⟩
  by_cases c : i < k
  · obtain ⟨b', hb'⟩ := h.2 i c
    exact ⟨b', by rw [List.getElem?_append_left (by rw [h.1]; exact c)]; exact hb'⟩
  · obtain rfl : i = k := by omega
    exact ⟨b, by rw [List.getElem?_append_right (by rw [h.1]; exact Nat.le_refl _), h.1]; simp⟩

end Go.Proofs.YtanpglfpopbfkabGreatDoor

namespace Go.Proofs.YtanpglfpopbfkabGreatDoor
open Go.RowKit
set_option linter.unusedSimpArgs false

/-- The words behind some changes. -/
def applyL (cs : List (Nat × Option (Nat × Int))) (ws : List Int) : List Int := cs.foldl (fun ws c => ws.set c.1 (apW c.2 (ws.getD c.1 0))) ws

theorem applyL_length (cs : List (Nat × Option (Nat × Int))) (ws : List Int) : (applyL cs ws).length = ws.length := by
  unfold applyL
  induction cs generalizing ws with
  | nil => rfl
  | cons c cs ih => simp only [List.foldl_cons]; rw [ih]; simp

theorem applyL_succ (cs : List (Nat × Option (Nat × Int))) (ws : List Int) (k : Nat) (c : Nat × Option (Nat × Int)) (h : cs[k]? = some c) :
    applyL (cs.take (k + 1)) ws = (applyL (cs.take k) ws).set c.1 (apW c.2 ((applyL (cs.take k) ws).getD c.1 0)) := by
  obtain ⟨hk, rfl⟩ := List.getElem?_eq_some_iff.1 h
  show (cs.take (k + 1)).foldl _ ws = _
  rw [List.take_succ_eq_append_getElem hk, List.foldl_append]
  rfl

/-- The error of Changed. -/
def chgS (ws : List Int) (fuel : Int) (cs : List (Nat × Option (Nat × Int))) : List Int × Int × Int :=
  (applyL (cs.take (cnt fuel cs.length)) ws, burn fuel (cnt fuel cs.length), perr fuel cs.length)

end Go.Proofs.YtanpglfpopbfkabGreatDoor

namespace Go.Proofs.YtanpglfpopbfkabGreatDoor
open Go.RowKit
attribute [local go_sem ↓] Go.wp_at_zero Go.wp_at_succ

theorem applyL_era (ws : List Int) (s k : Nat) : applyL (eraL s k) ws = chg (fun _ _ => 65535) (s * 32) k ws := by
  induction k with
  | zero => rfl
  | succ k ih =>
    rw [eraL_succ]
    have : applyL (eraL s k ++ [(32 * s + k, none)]) ws = (applyL (eraL s k) ws).set (32 * s + k) 65535 := by simp [applyL, apW]
    rw [this, ih, Nat.mul_comm 32 s]
    rfl

theorem eraL_take (s n k : Nat) (h : k ≤ n) : (eraL s n).take k = eraL s k := by
  unfold eraL
  rw [← List.map_take, List.take_range, Nat.min_eq_left h]

theorem chgS_era {ws : List Int} {fuel : Int} {s : Nat} (h : chk ws fuel = 0) (hs : (s : Int) < (ws.length : Int) / 32) : chgS ws fuel (eraL s 32) = eraS ws fuel s := by
  unfold chgS eraS
  rw [if_neg (by simpa using h), if_neg (by omega), eraL_length, eraL_take _ _ _ (cnt_le _ _), applyL_era, Int.toNat_natCast]

end Go.Proofs.YtanpglfpopbfkabGreatDoor

namespace Go.Proofs.YtanpglfpopbfkabGreatDoor
open Go.RowKit
attribute [local go_sem ↓] Go.wp_at_zero Go.wp_at_succ

theorem ProL.lt {p n : Nat} {words : List Int} {cs : List (Nat × Option (Nat × Int))} (h : ProL p words n cs) (c : Nat × Option (Nat × Int)) (hc : c ∈ cs) : c.1 < p + n := by
  obtain ⟨i, hi, he⟩ := List.getElem_of_mem hc
  have hi' : i < n := by rw [h.1] at hi; exact hi
  obtain ⟨b, hb⟩ := h.2 i hi'
  rw [List.getElem?_eq_getElem hi, he] at hb
  have := Option.some.inj hb
  rw [this]
  simp only
  omega

theorem applyL_pro {ws words : List Int} {p n : Nat} {cs : List (Nat × Option (Nat × Int))} (h : ProL p words n cs) (hf : p + n ≤ ws.length) (k : Nat) (hk : k ≤ n) : applyL (cs.take k) ws = chg (andW words) p k ws := by
  induction k with
  | zero => rfl
  | succ k ih =>
    obtain ⟨b, hb⟩ := h.2 k (by omega)
    rw [applyL_succ cs ws k _ hb, ih (by omega)]
    simp only [apW]
    rw [chg_here (andW words) p k ws (by omega)]
    rfl

theorem chgS_pro {ws words : List Int} {fuel : Int} {p : Nat} {cs : List (Nat × Option (Nat × Int))} (h : chk ws fuel = 0) (hp : ProL p words words.length cs) (hf : p + words.length ≤ ws.length) (hok : okL words = true) : chgS ws fuel cs = progS ws fuel p words := by
  rw [prog_ok h hf hok]
  unfold chgS
  rw [hp.1, applyL_pro hp hf _ (cnt_le _ _)]

end Go.Proofs.YtanpglfpopbfkabGreatDoor

namespace Go.Proofs.YtanpglfpopbfkabGreatDoor
open Go.RowKit

theorem applyL_append (A B : List (Nat × Option (Nat × Int))) (ws : List Int) : applyL (A ++ B) ws = applyL B (applyL A ws) := by
  unfold applyL; rw [List.foldl_append]

theorem cnt_add_stop {f : Int} {n m : Nat} (h : cnt f n < n) : cnt f (n + m) = cnt f n := by
  by_cases hf : f < 0
  · rw [cnt_neg _ hf] at h; omega
  · rw [cnt_nn _ hf] at *; rw [cnt_nn _ hf]; omega
theorem cnt_add_go {f : Int} {n m : Nat} (h : cnt f n = n) : cnt f (n + m) = n + cnt (burn f n) m := by
  by_cases hf : f < 0
  · rw [cnt_neg _ hf, burn_negf _ hf, cnt_neg _ hf]
  · have h' := h
    rw [cnt_nn _ hf] at h'
    rw [cnt_nn _ hf, burn_nn _ hf, cnt_nn _ (by omega)]
    omega
theorem burn_add {f : Int} {n k : Nat} (h : cnt f n = n) : burn f (n + k) = burn (burn f n) k := by
  by_cases hf : f < 0
  · rw [burn_negf _ hf, burn_negf _ hf, burn_negf _ hf]
  · have h' := h
    rw [cnt_nn _ hf] at h'
    rw [burn_nn _ hf, burn_nn _ hf, burn_nn _ (by omega)]
    omega

theorem chgS_stop {ws : List Int} {f : Int} {A B : List (Nat × Option (Nat × Int))} (h : cnt f A.length < A.length) : chgS ws f (A ++ B) = chgS ws f A := by
  unfold chgS
  rw [List.length_append, cnt_add_stop h, perr_no h, perr_no (by rw [cnt_add_stop h]; omega), List.take_append_of_le_length (by omega)]

theorem chgS_go {ws : List Int} {f : Int} {A B : List (Nat × Option (Nat × Int))} (h : cnt f A.length = A.length) : chgS ws f (A ++ B) = chgS (applyL A ws) (burn f A.length) B := by
  unfold chgS
  rw [List.length_append, cnt_add_go h, burn_add h, List.take_length_add_append, applyL_append]
  congr 2
  unfold perr
  rw [cnt_add_go h]
  by_cases c : cnt (burn f A.length) B.length = B.length
  · rw [if_pos c, if_pos (by omega)]
  · rw [if_neg c, if_neg (by omega)]

end Go.Proofs.YtanpglfpopbfkabGreatDoor
