/- What package gate says, as plain functions: 'gOf', 'gtE', 'kepG', 'noteG', 'gvUp', 'gHear', 'gDue'. No program in this text. Signatures, roots and lists in memory: 'IsSigs', 'IsRoots', 'IsLists'; what is trusted, and an offer, as values ('trv', 'offv'). Units and messages in memory: 'unO', 'OwnU', 'msv', 'IsMsgs'; what one block's turning leaves ('turns'). Lists of changes in memory; the contracts of wainwrightref.erases and programs. The contract of wainwrightref.Changed: as many changes as there is power for. Lists of changes that erase, and that program. What a list of changes that programs words does. Plain facts: lists of changes one behind the other, of which there is power for so many. -/
import Derived.Test.YtgngpmgjoifepaaGreatDoorPq12
import Derived.Maps.AppendAt
import Derived.Test.YtgngpmgjoifepaaGreatDoorPq5
import Derived.Deep.DeepCutAuto
import Derived.Laws.EntriesVeiled
namespace Go.Proofs.YtgngpmgjoifepaaGreatDoor
open Go.RowKit

/-- A gateway; what its records say. -/
structure Gt where
  ws : List Int
  fu : Int
  up : Bool
  t : Tr
  vo : List Bool
  di : List Bool
structure Gs where
  n : Int
  v : Int
  co : Bool
  ab : Bool
  en : Bool
def gs0 : Gs := ⟨0, 0, false, false, false⟩
def decG (s : Gs) : Bool := s.co || s.ab
def trnG (s : Gs) (k : Int) : Gs :=
  if k = 2 then ⟨s.n, s.v, !s.ab, s.ab, s.en⟩ else if k = 3 then ⟨s.n, s.v, s.co, !s.co, s.en⟩ else if k = 4 then ⟨s.n, s.v, s.co, s.ab, decG s⟩ else s
def isBeg (r : List Int) : Bool := decide (r.length = 3) && (decide (r.getD 0 0 = 1) && inB (r.getD 1 0) 1 8)
def isOf (s : Gs) (r : List Int) : Bool := decide (r.length = 2) && (decide (s.n ≠ 0) && decide (r.getD 1 0 = s.n))
def gNext (s : Gs) (r : List Int) : Gs :=
  if isBeg r = true then ⟨r.getD 1 0, r.getD 2 0, false, false, false⟩ else if isOf s r = true then trnG s (r.getD 0 0) else s
def gR (rs : List (List Int)) : Gs := rs.foldl gNext gs0
def gOf (ws : List Int) : Gs := gR (logR ws)

def gtB (g : Gt) : Bool := inB g.vo.length 1 4 && decide (g.di.length = g.vo.length)
def gtE (g : Gt) : Int := if lchk g.ws g.fu ≠ 0 then lchk g.ws g.fu else if gtB g = true then trE g.t else 4

/-- What a state's records are. -/
def kepG (s : Gs) : List (List Int) :=
  if s.n = 0 then [] else [1, s.n, s.v] :: ((if s.co = true then [[2, s.n]] else []) ++ ((if s.ab = true then [[3, s.n]] else []) ++ (if s.en = true then [[4, s.n]] else [])))
def falses (l : List Bool) : List Bool := l.map fun _ => false
def forgG (g : Gt) : Gt := ⟨g.ws, g.fu, g.up, g.t, falses g.vo, falses g.di⟩
def dnG (g : Gt) (r : List Int × Int × Int) : Gt × Bool :=
  if r.2.2 = 7 then (⟨r.1, r.2.1, false, g.t, falses g.vo, falses g.di⟩, false) else if r.2.2 = 0 then (⟨r.1, r.2.1, g.up, g.t, g.vo, g.di⟩, true) else (g, false)
def noteG (g : Gt) (s : Gs) (r : List Int) : Gt × Bool := dnG g (appS g.ws g.fu r (kepG s))

def gt0 : Gt := ⟨[], 0, false, ⟨⟨0, [], 0⟩, 0⟩, [], []⟩
def gReadS (g : Gt) : Gs × Int := if gtE g ≠ 0 then (gs0, gtE g) else (gOf g.ws, 0)
def gBootS (g : Gt) : Gt × Int := if gtE g ≠ 0 then (gt0, gtE g) else (⟨g.ws, -1, true, g.t, falses g.vo, falses g.di⟩, 0)
/-- The error of those that a gateway without power refuses. -/
def upE (g : Gt) : Int := if gtE g ≠ 0 then gtE g else if g.up = true then 0 else 7
def gvUp (g : Gt) : Gt × Int :=
  if upE g ≠ 0 then (gt0, upE g) else if (decide ((gOf g.ws).n = 0) || decG (gOf g.ws)) = true then (gt0, 12) else ((noteG g (gOf g.ws) [3, (gOf g.ws).n]).1, 0)

/-- Hear. -/
def ghE (g : Gt) (m : Ms) : Int := if gtE g ≠ 0 then gtE g else if (inB m.u 0 ((g.vo.length : Int) - 1) && inB m.n 1 8) = true then 0 else 3
def pend (s : Gs) (m : Ms) : Bool := decide (s.n = m.n) && !s.en
def verd (s : Gs) (u n : Int) : Ms := ⟨if (decide (s.n = n) && s.co) = true then 4 else 5, u, n, 0, 0, [], false⟩
def setB (l : List Bool) (u : Int) : List Bool := l.set u.toNat true
def allB (l : List Bool) : Bool := !(l.any fun b => !b)
def voteG (g : Gt) (s : Gs) (m : Ms) : Gt :=
  if allB (setB g.vo m.u) = true then (noteG ⟨g.ws, g.fu, g.up, g.t, setB g.vo m.u, g.di⟩ s [2, s.n]).1 else ⟨g.ws, g.fu, g.up, g.t, setB g.vo m.u, g.di⟩
def doneG (g : Gt) (s : Gs) (m : Ms) : Gt :=
  if allB (setB g.di m.u) = true then (noteG ⟨g.ws, g.fu, g.up, g.t, g.vo, setB g.di m.u⟩ s [4, s.n]).1 else ⟨g.ws, g.fu, g.up, g.t, g.vo, setB g.di m.u⟩
def ghK (g : Gt) (s : Gs) (m : Ms) : Gt × List Ms :=
  if m.k = 3 then (if (pend s m && (!decG s && m.y)) = true then voteG g s m else g, [])
  else if m.k = 6 then (if (pend s m && decG s) = true then doneG g s m else g, [])
  else if m.k = 7 then (g, if (pend s m && !decG s) = true then [] else [verd s m.u m.n]) else (g, [])
def gHear (g : Gt) (m : Ms) : Gt × List Ms × Int :=
  if ghE g m ≠ 0 then (gt0, [], ghE g m) else if g.up = true then ((ghK g (gOf g.ws) m).1, (ghK g (gOf g.ws) m).2, 0) else (g, [], 0)

/-- Due, of a campaign's number, targets and images. -/
def dueE (g : Gt) (cn : Int) (ts : List T3) (ims : List (List Int)) (u : Int) : Int :=
  if upE g ≠ 0 then upE g else if (decide ((gOf g.ws).n = 0) || (gOf g.ws).en) = true then 12
  else if (inB u 0 ((g.vo.length : Int) - 1) && (decide (cn = (gOf g.ws).n) && (decide (u < ims.length) && decide (u < ts.length)))) = true then 0 else 5
def pieces (u n : Int) (image : List Int) : Nat → Nat → List Ms
  | 0, _ => []
  | f + 1, p => if p < image.length then ⟨1, u, n, p, 0, (image.drop p).take 8, false⟩ :: pieces u n image f (p + 8) else []
def delG (n : Int) (u : Int) (im : Int) (image : List Int) : List Ms := pieces u n image 6 0 ++ [⟨2, u, n, image.length, im, [], false⟩]
def gDue (g : Gt) (cn : Int) (ts : List T3) (ims : List (List Int)) (u : Int) : List Ms × Int :=
  if dueE g cn ts ims u ≠ 0 then ([], dueE g cn ts ims u)
  else if decG (gOf g.ws) = true then (if g.di.getD u.toNat false = true then [] else [verd (gOf g.ws) u (gOf g.ws).n], 0)
  else if g.vo.getD u.toNat false = true then ([], 0)
  else if 40 < (ims.getD u.toNat []).length then ([], 2) else (delG cn u (ts.getD u.toNat (0, 0, 0)).2.1 (ims.getD u.toNat []), 0)

end Go.Proofs.YtgngpmgjoifepaaGreatDoor

namespace Go.Proofs.YtgngpmgjoifepaaGreatDoor
open Go.RowKit

/-- The slice at 'a' of length 'l.length' holds the signatures 'l'. -/
def IsSigs (w : World) (a : Option Addr) (l : List S2) : Prop :=
  l = [] ∨ ∃ b off, a = some ⟨b, off, none⟩ ∧ ∀ i s, l[i]? = some s →
    w.cell? ⟨b, off + i * 2, none⟩ = some (.int .i64 s.1) ∧ w.cell? ⟨b, off + i * 2 + 1, none⟩ = some (.int .i64 s.2)

theorem IsSigs.below {w w' : World} {a : Option Addr} {l : List S2} (h : IsSigs w a l) (hb : Below w.heap.size w w') : IsSigs w' a l := by
  rcases h with h | ⟨b, off, rfl, hc⟩
  · exact .inl h
  · refine .inr ⟨b, off, rfl, fun i s hi => ?_⟩
    obtain ⟨h1, h2⟩ := hc i s hi
    exact ⟨by rw [hb.cell (cell_lt h1)]; exact h1, by rw [hb.cell (cell_lt h2)]; exact h2⟩

/-- .. the lists 'ls'. -/
def IsLists (w : World) (a : Option Addr) (ls : List (List Int)) : Prop :=
  ls = [] ∨ ∃ b off, a = some ⟨b, off, none⟩ ∧ ∀ i r, ls[i]? = some r →
    ∃ ai ci, w.cell? ⟨b, off + i, none⟩ = some (Value.slice ai r.length ci) ∧ IsInts w ai r ∧ r.length ≤ ci ∧ ci ≤ maxLen

theorem IsLists.below {w w' : World} {a : Option Addr} {ls : List (List Int)} (h : IsLists w a ls) (hb : Below w.heap.size w w') : IsLists w' a ls := by
  rcases h with h | ⟨b, off, rfl, hc⟩
  · exact .inl h
  · refine .inr ⟨b, off, rfl, fun i r hi => ?_⟩
    obtain ⟨ai, ci, h1, h2, h3⟩ := hc i r hi
    exact ⟨ai, ci, by rw [hb.cell (cell_lt h1)]; exact h1, h2.below hb, h3⟩

/-- .. the roots 'rs'. -/
def IsRoots (w : World) (a : Option Addr) (rs : List Rt) : Prop :=
  rs = [] ∨ ∃ b off, a = some ⟨b, off, none⟩ ∧ ∀ i r, rs[i]? = some r →
    ∃ ai ci, w.cell? ⟨b, off + i * 3, none⟩ = some (.int .i64 r.v) ∧ w.cell? ⟨b, off + i * 3 + 1, none⟩ = some (Value.slice ai r.ks.length ci) ∧ w.cell? ⟨b, off + i * 3 + 2, none⟩ = some (.int .i64 r.t) ∧ IsInts w ai r.ks ∧ r.ks.length ≤ ci ∧ ci ≤ maxLen

theorem IsRoots.below {w w' : World} {a : Option Addr} {rs : List Rt} (h : IsRoots w a rs) (hb : Below w.heap.size w w') : IsRoots w' a rs := by
  rcases h with h | ⟨b, off, rfl, hc⟩
  · exact .inl h
  · refine .inr ⟨b, off, rfl, fun i r hi => ?_⟩
    obtain ⟨ai, ci, h1, h2, h3, h4, h5⟩ := hc i r hi
    exact ⟨ai, ci, by rw [hb.cell (cell_lt h1)]; exact h1, by rw [hb.cell (cell_lt h2)]; exact h2, by rw [hb.cell (cell_lt h3)]; exact h3, h4.below hb, h5⟩

def trv (v : Int) (a : Option Addr) (n c : Nat) (t ver : Int) : Value := .agg #[.int .i64 v, .slice a n c, .int .i64 t, .int .i64 ver]
def sv (s : S2) : Value := .agg #[.int .i64 s.1, .int .i64 s.2]

/-! ### With lengths -/
structure BI (w : World) (a : Option Addr) (n : Nat) (xs : List Int) : Prop where
  at_ : IsInts w a xs
  len : xs.length = n
  max : n ≤ maxLen
structure BG (w : World) (a : Option Addr) (n : Nat) (l : List S2) : Prop where
  at_ : IsSigs w a l
  len : l.length = n
  max : n ≤ maxLen
structure BB (w : World) (a : Option Addr) (n c : Nat) (ss : List ByteArray) : Prop where
  at_ : IsStrs w a ss
  len : ss.length = n
  cap : n ≤ c
  max : n ≤ maxLen
  short : ∀ s ∈ ss, s.size ≤ maxLen
structure BT (w : World) (a : Option Addr) (n : Nat) (ts : List T3) : Prop where
  at_ : IsTgts w a ts
  len : ts.length = n
  max : n ≤ maxLen
structure BR (w : World) (a : Option Addr) (n : Nat) (rs : List Rt) : Prop where
  at_ : IsRoots w a rs
  len : rs.length = n
  max : n ≤ maxLen
structure BL (w : World) (a : Option Addr) (n : Nat) (ls : List (List Int)) : Prop where
  at_ : IsLists w a ls
  len : ls.length = n
  max : n ≤ maxLen

theorem BI.below {w w' : World} {a : Option Addr} {n : Nat} {xs : List Int} (h : BI w a n xs) (hb : Below w.heap.size w w') : BI w' a n xs := ⟨h.at_.below hb, h.len, h.max⟩
theorem BG.below {w w' : World} {a : Option Addr} {n : Nat} {l : List S2} (h : BG w a n l) (hb : Below w.heap.size w w') : BG w' a n l := ⟨h.at_.below hb, h.len, h.max⟩
theorem BB.below {w w' : World} {a : Option Addr} {n c : Nat} {ss : List ByteArray} (h : BB w a n c ss) (hb : Below w.heap.size w w') : BB w' a n c ss := ⟨h.at_.below hb, h.len, h.cap, h.max, h.short⟩
theorem BT.below {w w' : World} {a : Option Addr} {n : Nat} {ts : List T3} (h : BT w a n ts) (hb : Below w.heap.size w w') : BT w' a n ts := ⟨h.at_.below hb, h.len, h.max⟩
theorem BR.below {w w' : World} {a : Option Addr} {n : Nat} {rs : List Rt} (h : BR w a n rs) (hb : Below w.heap.size w w') : BR w' a n rs := ⟨h.at_.below hb, h.len, h.max⟩
theorem BL.below {w w' : World} {a : Option Addr} {n : Nat} {ls : List (List Int)} (h : BL w a n ls) (hb : Below w.heap.size w w') : BL w' a n ls := ⟨h.at_.below hb, h.len, h.max⟩

end Go.Proofs.YtgngpmgjoifepaaGreatDoor

namespace Go.Proofs.YtgngpmgjoifepaaGreatDoor
open Go.RowKit

theorem turns_of {w w' : World} (h : Below w.heap.size w w') (B : Nat) : w.grownBy w' (some B) := ⟨h.os, h.tape, h.output, h.size, fun k hk _ => h.block k hk⟩
theorem turns_set {w w' : World} {B : Nat} (h : w.grownBy w' (some B)) (i : Nat) (v : Value) : w.grownBy (w'.setCell ⟨B, i, none⟩ v) (some B) :=
  h.trans ⟨rfl, rfl, rfl, by simp [World.setCell], fun k _ hne => Below.heap_setCell _ _ _ _ (fun e => hne (by rw [e]))⟩
theorem turns_below {B : Nat} {n : Nat} {a w w' : World} (h : Below n a w) (hg : w.grownBy w' (some B)) (hB : n ≤ B) (hs : n ≤ w.heap.size) : Below n a w' :=
  h.grown hg hs (fun k e => by cases e; exact hB)
/-- What doesn't lie in block B stays. -/
def Off (B : Nat) (a : Option Addr) : Prop := ∀ ad, a = some ad → ad.block ≠ B
theorem off_none (B : Nat) : Off B none := fun _ h => by cases h
theorem off_fresh {B n : Nat} {a : Option Addr} (h : FreshA n a) (hB : B < n) : Off B a := fun ad e => by have := h ad e; omega
theorem ints_turns {w w' : World} {B : Nat} {a : Option Addr} {xs : List Int} (h : IsInts w a xs) (hg : w.grownBy w' (some B)) (ho : Off B a) : IsInts w' a xs := by
  rcases h with h | ⟨b, off, rfl, hc⟩
  · exact .inl h
  · exact .inr ⟨b, off, rfl, fun i hi => hg.cell (hc i hi) (fun e => ho _ rfl (by cases e; rfl))⟩
theorem blk_turns {w w' : World} {B b : Nat} {o : Obj} (h : w.heap[b]? = some o) (hg : w.grownBy w' (some B)) (hne : b ≠ B) : w'.heap[b]? = some o := by
  rw [hg.block b (blk_lt h) (fun e => hne (by cases e; rfl))]
  exact h
theorem ints_off {w : World} {a : Option Addr} {xs : List Int} (h : IsInts w a xs) (B : Nat) (hB : w.heap.size ≤ B) : xs = [] ∨ Off B a := by
  rcases h with h | ⟨b, off, rfl, hc⟩
  · exact .inl h
  · by_cases h0 : xs = []
    · exact .inl h0
    · refine .inr fun ad e => ?_
      cases e
      have := cell_lt (hc 0 (by cases xs with | nil => exact absurd rfl h0 | cons _ _ => simp))
      show b ≠ B
      have h2 : b < w.heap.size := this
      omega

theorem uLast1 (w : World) (o1 o2 : Obj) : ((w.alloc o1).alloc o2).heap[w.heap.size + 1]? = some o2 := by
  have := heap_alloc_last (w.alloc o1) o2
  rwa [World.size_alloc] at this
theorem uLast2 (w : World) (o1 o2 o3 : Obj) : (((w.alloc o1).alloc o2).alloc o3).heap[w.heap.size + 1 + 1]? = some o3 := by
  have := heap_alloc_last ((w.alloc o1).alloc o2) o3
  rwa [World.size_alloc, World.size_alloc] at this
theorem uLast3 (w : World) (o1 o2 o3 o4 : Obj) : ((((w.alloc o1).alloc o2).alloc o3).alloc o4).heap[w.heap.size + 1 + 1 + 1]? = some o4 := by
  have := heap_alloc_last (((w.alloc o1).alloc o2).alloc o3) o4
  rwa [World.size_alloc, World.size_alloc, World.size_alloc] at this

def msv (m : Ms) (a : Option Addr) (n c : Nat) : Value := .agg #[.int .i64 m.k, .int .i64 m.u, .int .i64 m.n, .int .i64 m.at', .int .i64 m.im, .slice a n c, .bool m.y]
def msO (m : Ms) (a : Option Addr) (n c : Nat) : Obj := .cells #[.int .i64 m.k, .int .i64 m.u, .int .i64 m.n, .int .i64 m.at', .int .i64 m.im, .slice a n c, .bool m.y] 31 (0, 0)

/-- A list of messages in memory, none of them with words. -/
def IsMsgs (w : World) (a : Option Addr) (l : List Ms) : Prop :=
  l = [] ∨ ∃ b, a = some ⟨b, 0, none⟩ ∧ ∀ i m, l[i]? = some m → m.ws = [] ∧
    w.cell? ⟨b, i * 7, none⟩ = some (.int .i64 m.k) ∧ w.cell? ⟨b, i * 7 + 1, none⟩ = some (.int .i64 m.u) ∧ w.cell? ⟨b, i * 7 + 2, none⟩ = some (.int .i64 m.n) ∧ w.cell? ⟨b, i * 7 + 3, none⟩ = some (.int .i64 m.at') ∧
    w.cell? ⟨b, i * 7 + 4, none⟩ = some (.int .i64 m.im) ∧ w.cell? ⟨b, i * 7 + 5, none⟩ = some (.slice none 0 0) ∧ w.cell? ⟨b, i * 7 + 6, none⟩ = some (.bool m.y)

theorem IsMsgs.below {w w' : World} {a : Option Addr} {l : List Ms} (h : IsMsgs w a l) (hb : Below w.heap.size w w') : IsMsgs w' a l := by
  rcases h with h | ⟨b, rfl, hc⟩
  · exact .inl h
  · refine .inr ⟨b, rfl, fun i m hi => ?_⟩
    obtain ⟨h0, h1, h2, h3, h4, h5, h6, h7⟩ := hc i m hi
    exact ⟨h0, by rw [hb.cell (cell_lt h1)]; exact h1, by rw [hb.cell (cell_lt h2)]; exact h2, by rw [hb.cell (cell_lt h3)]; exact h3, by rw [hb.cell (cell_lt h4)]; exact h4, by rw [hb.cell (cell_lt h5)]; exact h5, by rw [hb.cell (cell_lt h6)]; exact h6, by rw [hb.cell (cell_lt h7)]; exact h7⟩
theorem isMsgs_one {w : World} {b : Nat} {m : Ms} {t : TypeId} (h0 : m.ws = []) (h : w.heap[b]? = some (.cells #[.int .i64 m.k, .int .i64 m.u, .int .i64 m.n, .int .i64 m.at', .int .i64 m.im, .slice none 0 0, .bool m.y] t (0, 0))) : IsMsgs w (some ⟨b, 0, none⟩) [m] := by
  refine .inr ⟨b, rfl, fun i x hi => ?_⟩
  have hlt := (List.getElem?_eq_some_iff.1 hi).1
  simp at hlt
  subst hlt
  simp at hi
  subst hi
  exact ⟨h0, blk_cell h 0 _ rfl, blk_cell h 1 _ rfl, blk_cell h 2 _ rfl, blk_cell h 3 _ rfl, blk_cell h 4 _ rfl, blk_cell h 5 _ rfl, blk_cell h 6 _ rfl⟩

end Go.Proofs.YtgngpmgjoifepaaGreatDoor

namespace Go.Proofs.YtgngpmgjoifepaaGreatDoor
open Go.RowKit

def apW (o : Option (Nat × Int)) (was : Int) : Int := match o with
  | none => 65535
  | some (_, x) => bits .and .i64 was x
def eraL (s : Nat) (k : Nat) : List (Nat × Option (Nat × Int)) := (List.range k).map (fun i => (32 * s + i, none))
theorem eraL_length (s k : Nat) : (eraL s k).length = k := by simp [eraL]
theorem eraL_succ (s k : Nat) : eraL s (k + 1) = eraL s k ++ [(32 * s + k, none)] := by simp [eraL, List.range_succ]

/-- The first k changes of a Program. -/
def ProL (p : Nat) (words : List Int) (k : Nat) (cs : List (Nat × Option (Nat × Int))) : Prop := cs.length = k ∧ ∀ i, i < k → ∃ b, cs[i]? = some (p + i, some (b, words.getD i 0))

theorem ProL.nil (p : Nat) (words : List Int) : ProL p words 0 [] := ⟨rfl, fun i hi => by omega⟩
theorem ProL.succ {p : Nat} {words : List Int} {k : Nat} {cs : List (Nat × Option (Nat × Int))} (h : ProL p words k cs) (b : Nat) : ProL p words (k + 1) (cs ++ [(p + k, some (b, words.getD k 0))]) := by
  refine ⟨by rw [List.length_append, h.1]; rfl, fun i hi => ?_⟩
  by_cases c : i < k
  · obtain ⟨b', hb'⟩ := h.2 i c
    exact ⟨b', by rw [List.getElem?_append_left (by rw [h.1]; exact c)]; exact hb'⟩
  · obtain rfl : i = k := by omega
    exact ⟨b, by rw [List.getElem?_append_right (by rw [h.1]; exact Nat.le_refl _), h.1]; simp⟩

end Go.Proofs.YtgngpmgjoifepaaGreatDoor

namespace Go.Proofs.YtgngpmgjoifepaaGreatDoor
open Go.RowKit
set_option linter.unusedSimpArgs false

/-- The words behind some changes. -/
def applyL (cs : List (Nat × Option (Nat × Int))) (ws : List Int) : List Int := cs.foldl (fun ws c => ws.set c.1 (apW c.2 (ws.getD c.1 0))) ws

theorem applyL_length (cs : List (Nat × Option (Nat × Int))) (ws : List Int) : (applyL cs ws).length = ws.length := by
  unfold applyL
  induction cs generalizing ws with
  | nil => rfl
  | cons c cs ih => simp only [List.foldl_cons]; rw [ih]; simp

theorem applyL_succ (cs : List (Nat × Option (Nat × Int))) (ws : List Int) (k : Nat) (c : Nat × Option (Nat × Int)) (h : cs[k]? = some c) :
    applyL (cs.take (k + 1)) ws = (applyL (cs.take k) ws).set c.1 (apW c.2 ((applyL (cs.take k) ws).getD c.1 0)) := by
  obtain ⟨hk, rfl⟩ := List.getElem?_eq_some_iff.1 h
  show (cs.take (k + 1)).foldl _ ws = _
  rw [List.take_succ_eq_append_getElem hk, List.foldl_append]
  rfl

/-- The error of Changed. -/
def chgS (ws : List Int) (fuel : Int) (cs : List (Nat × Option (Nat × Int))) : List Int × Int × Int :=
  (applyL (cs.take (cnt fuel cs.length)) ws, burn fuel (cnt fuel cs.length), perr fuel cs.length)

end Go.Proofs.YtgngpmgjoifepaaGreatDoor

namespace Go.Proofs.YtgngpmgjoifepaaGreatDoor
open Go.RowKit
attribute [local go_sem ↓] Go.wp_at_zero Go.wp_at_succ

theorem applyL_era (ws : List Int) (s k : Nat) : applyL (eraL s k) ws = chg (fun _ _ => 65535) (s * 32) k ws := by
  induction k with
  | zero => rfl
  | succ k ih =>
    rw [eraL_succ]
    have : applyL (eraL s k ++ [(32 * s + k, none)]) ws = (applyL (eraL s k) ws).set (32 * s + k) 65535 := by simp [applyL, apW]
    rw [this, ih, Nat.mul_comm 32 s]
    rfl

theorem eraL_take (s n k : Nat) (h : k ≤ n) : (eraL s n).take k = eraL s k := by
  unfold eraL
  rw [← List.map_take, List.take_range, Nat.min_eq_left h]

theorem chgS_era {ws : List Int} {fuel : Int} {s : Nat} (h : chk ws fuel = 0) (hs : (s : Int) < (ws.length : Int) / 32) : chgS ws fuel (eraL s 32) = eraS ws fuel s := by
  unfold chgS eraS
  rw [if_neg (by simpa using h), if_neg (by omega), eraL_length, eraL_take _ _ _ (cnt_le _ _), applyL_era, Int.toNat_natCast]

end Go.Proofs.YtgngpmgjoifepaaGreatDoor

namespace Go.Proofs.YtgngpmgjoifepaaGreatDoor
open Go.RowKit
attribute [local go_sem ↓] Go.wp_at_zero Go.wp_at_succ

theorem ProL.lt {p n : Nat} {words : List Int} {cs : List (Nat × Option (Nat × Int))} (h : ProL p words n cs) (c : Nat × Option (Nat × Int)) (hc : c ∈ cs) : c.1 < p + n := by
  obtain ⟨i, hi, he⟩ := List.getElem_of_mem hc
  have hi' : i < n := by rw [h.1] at hi; exact hi
  obtain ⟨b, hb⟩ := h.2 i hi'
  rw [List.getElem?_eq_getElem hi, he] at hb
  have := Option.some.inj hb
  rw [this]
  simp only
  omega

theorem applyL_pro {ws words : List Int} {p n : Nat} {cs : List (Nat × Option (Nat × Int))} (h : ProL p words n cs) (hf : p + n ≤ ws.length) (k : Nat) (hk : k ≤ n) : applyL (cs.take k) ws = chg (andW words) p k ws := by
  induction k with
  | zero => rfl
  | succ k ih =>
    obtain ⟨b, hb⟩ := h.2 k (by omega)
    rw [applyL_succ cs ws k _ hb, ih (by omega)]
    simp only [apW]
    rw [chg_here (andW words) p k ws (by omega)]
    rfl

theorem chgS_pro {ws words : List Int} {fuel : Int} {p : Nat} {cs : List (Nat × Option (Nat × Int))} (h : chk ws fuel = 0) (hp : ProL p words words.length cs) (hf : p + words.length ≤ ws.length) (hok : okL words = true) : chgS ws fuel cs = progS ws fuel p words := by
  rw [prog_ok h hf hok]
  unfold chgS
  rw [hp.1, applyL_pro hp hf _ (cnt_le _ _)]

end Go.Proofs.YtgngpmgjoifepaaGreatDoor

namespace Go.Proofs.YtgngpmgjoifepaaGreatDoor
open Go.RowKit

theorem applyL_append (A B : List (Nat × Option (Nat × Int))) (ws : List Int) : applyL (A ++ B) ws = applyL B (applyL A ws) := by
  unfold applyL; rw [List.foldl_append]

theorem cnt_add_stop {f : Int} {n m : Nat} (h : cnt f n < n) : cnt f (n + m) = cnt f n := by
  by_cases hf : f < 0
  · rw [cnt_neg _ hf] at h; omega
  · rw [cnt_nn _ hf] at *; rw [cnt_nn _ hf]; omega
theorem cnt_add_go {f : Int} {n m : Nat} (h : cnt f n = n) : cnt f (n + m) = n + cnt (burn f n) m := by
  by_cases hf : f < 0
  · rw [cnt_neg _ hf, burn_negf _ hf, cnt_neg _ hf]
  · have h' := h
    rw [cnt_nn _ hf] at h'
    rw [cnt_nn _ hf, burn_nn _ hf, cnt_nn _ (by omega)]
    omega
theorem burn_add {f : Int} {n k : Nat} (h : cnt f n = n) : burn f (n + k) = burn (burn f n) k := by
  by_cases hf : f < 0
  · rw [burn_negf _ hf, burn_negf _ hf, burn_negf _ hf]
  · have h' := h
    rw [cnt_nn _ hf] at h'
    rw [burn_nn _ hf, burn_nn _ hf, burn_nn _ (by omega)]
    omega

theorem chgS_stop {ws : List Int} {f : Int} {A B : List (Nat × Option (Nat × Int))} (h : cnt f A.length < A.length) : chgS ws f (A ++ B) = chgS ws f A := by
  unfold chgS
  rw [List.length_append, cnt_add_stop h, perr_no h, perr_no (by rw [cnt_add_stop h]; omega), List.take_append_of_le_length (by omega)]

theorem chgS_go {ws : List Int} {f : Int} {A B : List (Nat × Option (Nat × Int))} (h : cnt f A.length = A.length) : chgS ws f (A ++ B) = chgS (applyL A ws) (burn f A.length) B := by
  unfold chgS
  rw [List.length_append, cnt_add_go h, burn_add h, List.take_length_add_append, applyL_append]
  congr 2
  unfold perr
  rw [cnt_add_go h]
  by_cases c : cnt (burn f A.length) B.length = B.length
  · rw [if_pos c, if_pos (by omega)]
  · rw [if_neg c, if_neg (by omega)]

end Go.Proofs.YtgngpmgjoifepaaGreatDoor
