/- What package trust says, as plain functions: 'sigE', 'trE', 'cntE', 'cntN', 'csE', 'turnE', 'allE', 'crE', 'meantB', 'takeE', 'takeT'. No program in this text. What package gate says, as plain functions: 'gOf', 'gtE', 'kepG', 'noteG', 'gvUp', 'gHear', 'gDue'. No program in this text. Signatures, roots and lists in memory: 'IsSigs', 'IsRoots', 'IsLists'; what is trusted, and an offer, as values ('trv', 'offv'). Units and messages in memory: 'unO', 'OwnU', 'msv', 'IsMsgs'; what one block's turning leaves ('turns'). The contract of wainwrightref.CheckFlash: the document's Check. Lists of changes in memory; the contracts of wainwrightref.erases and programs. -/
import Derived.Test.YtgngpmgjoifepaaGreatDoorPt9
import Derived.Maps.AppendAt
import Derived.Test.YtgngpmgjoifepaaGreatDoorPt3
import Derived.Deep.DeepCutAuto
namespace Go.Proofs.YtgngpmgjoifepaaGreatDoor
open Go.RowKit

abbrev S2 := Int × Int
structure Rt where
  v : Int
  ks : List Int
  t : Int
structure Tr where
  r : Rt
  ver : Int
structure Of where
  roots : List Rt
  rsigs : List (List Int)
  v : Int
  u : Int
  ts : List T3
  sigs : List Int
  imgs : List (List Int)

def Rt.e (r : Rt) : Int := rootE r.v r.ks r.t
def Rt.tx (r : Rt) : List UInt8 := rootT r.v r.ks r.t

def sOK (s : S2) : Bool := inR s.1 1 50 && inR s.2 1 60
def sigE (l : List S2) : Int := if 360 < l.length then 2 else if l.all sOK then 0 else 3
def trE (t : Tr) : Int := if inR t.ver 0 1000 then t.r.e else 3
def has {α : Type} [DecidableEq α] (xs : List α) (x : α) : Bool := decide (x ∈ xs)
def hit (l : List S2) (sigs : List Int) (name k : Int) : Bool := has sigs k && has l (k, name)
def cntN (l : List S2) (ks sigs : List Int) (name : Int) : Nat := ks.countP (hit l sigs name)
def cntE (l : List S2) (r : Rt) (sigs : List Int) : Int :=
  if sigE l = 0 then (if r.e = 0 then (if 50 < sigs.length then 2 else 0) else r.e) else sigE l
def cntV (l : List S2) (r : Rt) (sigs : List Int) (name : Int) : Int := if cntE l r sigs = 0 then (cntN l r.ks sigs name : Int) else 0
def csE (l : List S2) (r : Rt) (sigs : List Int) (name : Int) : Int :=
  if cntE l r sigs = 0 then (if (cntN l r.ks sigs name : Int) < r.t then 9 else 0) else cntE l r sigs

def turnE (ss : List ByteArray) (l : List S2) (t : Tr) (x : Rt) (sigs : List Int) : Int :=
  if trE t = 0 then
    (if x.e = 0 then
      (if bookE ss = 0 then
        (if x.v = t.r.v + 1 then
          (if csE l t.r sigs (nameN ss (bs x.tx)) = 0 then csE l x sigs (nameN ss (bs x.tx)) else csE l t.r sigs (nameN ss (bs x.tx)))
        else 10)
      else bookE ss)
    else x.e)
  else trE t

def turnsE (ss : List ByteArray) (l : List S2) (t : Tr) : List Rt → List (List Int) → Int
  | r :: rs, s :: sgs => if turnE ss l t r s = 0 then turnsE ss l ⟨r, t.ver⟩ rs sgs else turnE ss l t r s
  | _, _ => 0
def lastR (r : Rt) : List Rt → Rt
  | [] => r
  | x :: rs => lastR x rs
def allE (ss : List ByteArray) (l : List S2) (t : Tr) (rs : List Rt) (sgs : List (List Int)) : Int :=
  if 6 < rs.length then 2 else if sgs.length = rs.length then turnsE ss l t rs sgs else 2

def crE (ss : List ByteArray) (l : List S2) (by_ : Rt) (v u : Int) (ts : List T3) (sigs : List Int) : Int :=
  if relE v u ts = 0 then (if bookE ss = 0 then csE l by_ sigs (nameN ss (bs (relT v u ts))) else bookE ss) else relE v u ts

def meant1 (ss : List ByteArray) (t : T3) (w : List Int) : Bool := decide (inE ss w = 0) && (decide (inN ss w = t.2.1) && decide ((w.length : Int) = t.2.2))
def meantB (ss : List ByteArray) : List T3 → List (List Int) → Bool
  | t :: ts, w :: ws => meant1 ss t w && meantB ss ts ws
  | _, _ => true

def restE (ss : List ByteArray) (ver : Int) (o : Of) (now units : Int) : Int :=
  if o.v ≤ ver then 10 else if o.u < now then 11
  else if (o.ts.length : Int) ≠ units then 4 else if (o.imgs.length : Int) ≠ units then 4
  else if meantB ss o.ts o.imgs then 0 else 5
def takeE (ss : List ByteArray) (l : List S2) (t : Tr) (o : Of) (now units : Int) : Int :=
  if trE t = 0 then
    (if allE ss l t o.roots o.rsigs = 0 then
      (if crE ss l (lastR t.r o.roots) o.v o.u o.ts o.sigs = 0 then restE ss t.ver o now units
      else crE ss l (lastR t.r o.roots) o.v o.u o.ts o.sigs)
    else allE ss l t o.roots o.rsigs)
  else trE t

/-! ### What they give -/

theorem sigE_many {l : List S2} (h : 360 < l.length) : sigE l = 2 := by unfold sigE; rw [if_pos h]
theorem sigE_bad {l : List S2} {k : Nat} (h : l.length ≤ 360) (hk : k < l.length) (h2 : sOK l[k] = false) : sigE l = 3 := by
  unfold sigE
  rw [if_neg (by omega), if_neg]
  intro ha
  have := List.all_eq_true.1 ha l[k] (List.getElem_mem hk)
  rw [h2] at this
  cases this
theorem sigE_ok {l : List S2} (h : l.length ≤ 360) (h2 : l.all sOK = true) : sigE l = 0 := by
  unfold sigE; rw [if_neg (by omega), if_pos h2]
theorem sOK_step {l : List S2} {k : Nat} (hk : k < l.length) (h : (l.take k).all sOK = true) (hv : sOK l[k] = true) : (l.take (k + 1)).all sOK = true := by
  rw [List.take_succ_eq_append_getElem hk, List.all_append, h]
  simp [hv]

theorem cntN_step {l : List S2} {ks sigs : List Int} {name : Int} {k : Nat} (hk : k < ks.length) :
    cntN l (ks.take (k + 1)) sigs name = cntN l (ks.take k) sigs name + if hit l sigs name ks[k] then 1 else 0 := by
  unfold cntN
  rw [List.take_succ_eq_append_getElem hk, List.countP_append]
  simp [List.countP_cons]
end Go.Proofs.YtgngpmgjoifepaaGreatDoor

namespace Go.Proofs.YtgngpmgjoifepaaGreatDoor
open Go.RowKit

structure Gt where
  ws : List Int
  fu : Int
  up : Bool
  t : Tr
  vo : List Bool
  di : List Bool
structure Gs where
  n : Int
  v : Int
  co : Bool
  ab : Bool
  en : Bool
def gs0 : Gs := ⟨0, 0, false, false, false⟩
def decG (s : Gs) : Bool := s.co || s.ab
def trnG (s : Gs) (k : Int) : Gs :=
  if k = 2 then ⟨s.n, s.v, !s.ab, s.ab, s.en⟩ else if k = 3 then ⟨s.n, s.v, s.co, !s.co, s.en⟩ else if k = 4 then ⟨s.n, s.v, s.co, s.ab, decG s⟩ else s
def isBeg (r : List Int) : Bool := decide (r.length = 3) && (decide (r.getD 0 0 = 1) && inB (r.getD 1 0) 1 8)
def isOf (s : Gs) (r : List Int) : Bool := decide (r.length = 2) && (decide (s.n ≠ 0) && decide (r.getD 1 0 = s.n))
def gNext (s : Gs) (r : List Int) : Gs :=
  if isBeg r = true then ⟨r.getD 1 0, r.getD 2 0, false, false, false⟩ else if isOf s r = true then trnG s (r.getD 0 0) else s
def gR (rs : List (List Int)) : Gs := rs.foldl gNext gs0
def gOf (ws : List Int) : Gs := gR (logR ws)

def gtB (g : Gt) : Bool := inB g.vo.length 1 4 && decide (g.di.length = g.vo.length)
def gtE (g : Gt) : Int := if lchk g.ws g.fu ≠ 0 then lchk g.ws g.fu else if gtB g = true then trE g.t else 4

def kepG (s : Gs) : List (List Int) :=
  if s.n = 0 then [] else [1, s.n, s.v] :: ((if s.co = true then [[2, s.n]] else []) ++ ((if s.ab = true then [[3, s.n]] else []) ++ (if s.en = true then [[4, s.n]] else [])))
def falses (l : List Bool) : List Bool := l.map fun _ => false
def forgG (g : Gt) : Gt := ⟨g.ws, g.fu, g.up, g.t, falses g.vo, falses g.di⟩
def dnG (g : Gt) (r : List Int × Int × Int) : Gt × Bool :=
  if r.2.2 = 7 then (⟨r.1, r.2.1, false, g.t, falses g.vo, falses g.di⟩, false) else if r.2.2 = 0 then (⟨r.1, r.2.1, g.up, g.t, g.vo, g.di⟩, true) else (g, false)
def noteG (g : Gt) (s : Gs) (r : List Int) : Gt × Bool := dnG g (appS g.ws g.fu r (kepG s))

def gt0 : Gt := ⟨[], 0, false, ⟨⟨0, [], 0⟩, 0⟩, [], []⟩
def gReadS (g : Gt) : Gs × Int := if gtE g ≠ 0 then (gs0, gtE g) else (gOf g.ws, 0)
def gBootS (g : Gt) : Gt × Int := if gtE g ≠ 0 then (gt0, gtE g) else (⟨g.ws, -1, true, g.t, falses g.vo, falses g.di⟩, 0)
def upE (g : Gt) : Int := if gtE g ≠ 0 then gtE g else if g.up = true then 0 else 7
def gvUp (g : Gt) : Gt × Int :=
  if upE g ≠ 0 then (gt0, upE g) else if (decide ((gOf g.ws).n = 0) || decG (gOf g.ws)) = true then (gt0, 12) else ((noteG g (gOf g.ws) [3, (gOf g.ws).n]).1, 0)

def ghE (g : Gt) (m : Ms) : Int := if gtE g ≠ 0 then gtE g else if (inB m.u 0 ((g.vo.length : Int) - 1) && inB m.n 1 8) = true then 0 else 3
def pend (s : Gs) (m : Ms) : Bool := decide (s.n = m.n) && !s.en
def verd (s : Gs) (u n : Int) : Ms := ⟨if (decide (s.n = n) && s.co) = true then 4 else 5, u, n, 0, 0, [], false⟩
def setB (l : List Bool) (u : Int) : List Bool := l.set u.toNat true
def allB (l : List Bool) : Bool := !(l.any fun b => !b)
def voteG (g : Gt) (s : Gs) (m : Ms) : Gt :=
  if allB (setB g.vo m.u) = true then (noteG ⟨g.ws, g.fu, g.up, g.t, setB g.vo m.u, g.di⟩ s [2, s.n]).1 else ⟨g.ws, g.fu, g.up, g.t, setB g.vo m.u, g.di⟩
def doneG (g : Gt) (s : Gs) (m : Ms) : Gt :=
  if allB (setB g.di m.u) = true then (noteG ⟨g.ws, g.fu, g.up, g.t, g.vo, setB g.di m.u⟩ s [4, s.n]).1 else ⟨g.ws, g.fu, g.up, g.t, g.vo, setB g.di m.u⟩
def ghK (g : Gt) (s : Gs) (m : Ms) : Gt × List Ms :=
  if m.k = 3 then (if (pend s m && (!decG s && m.y)) = true then voteG g s m else g, [])
  else if m.k = 6 then (if (pend s m && decG s) = true then doneG g s m else g, [])
  else if m.k = 7 then (g, if (pend s m && !decG s) = true then [] else [verd s m.u m.n]) else (g, [])
def gHear (g : Gt) (m : Ms) : Gt × List Ms × Int :=
  if ghE g m ≠ 0 then (gt0, [], ghE g m) else if g.up = true then ((ghK g (gOf g.ws) m).1, (ghK g (gOf g.ws) m).2, 0) else (g, [], 0)

def dueE (g : Gt) (cn : Int) (ts : List T3) (ims : List (List Int)) (u : Int) : Int :=
  if upE g ≠ 0 then upE g else if (decide ((gOf g.ws).n = 0) || (gOf g.ws).en) = true then 12
  else if (inB u 0 ((g.vo.length : Int) - 1) && (decide (cn = (gOf g.ws).n) && (decide (u < ims.length) && decide (u < ts.length)))) = true then 0 else 5
def pieces (u n : Int) (image : List Int) : Nat → Nat → List Ms
  | 0, _ => []
  | f + 1, p => if p < image.length then ⟨1, u, n, p, 0, (image.drop p).take 8, false⟩ :: pieces u n image f (p + 8) else []
def delG (n : Int) (u : Int) (im : Int) (image : List Int) : List Ms := pieces u n image 6 0 ++ [⟨2, u, n, image.length, im, [], false⟩]
def gDue (g : Gt) (cn : Int) (ts : List T3) (ims : List (List Int)) (u : Int) : List Ms × Int :=
  if dueE g cn ts ims u ≠ 0 then ([], dueE g cn ts ims u)
  else if decG (gOf g.ws) = true then (if g.di.getD u.toNat false = true then [] else [verd (gOf g.ws) u (gOf g.ws).n], 0)
  else if g.vo.getD u.toNat false = true then ([], 0)
  else if 40 < (ims.getD u.toNat []).length then ([], 2) else (delG cn u (ts.getD u.toNat (0, 0, 0)).2.1 (ims.getD u.toNat []), 0)

end Go.Proofs.YtgngpmgjoifepaaGreatDoor

namespace Go.Proofs.YtgngpmgjoifepaaGreatDoor
open Go.RowKit

def IsSigs (w : World) (a : Option Addr) (l : List S2) : Prop :=
  l = [] ∨ ∃ b off, a = some ⟨b, off, none⟩ ∧ ∀ i s, l[i]? = some s →
    w.cell? ⟨b, off + i * 2, none⟩ = some (.int .i64 s.1) ∧ w.cell? ⟨b, off + i * 2 + 1, none⟩ = some (.int .i64 s.2)

theorem IsSigs.below {w w' : World} {a : Option Addr} {l : List S2} (h : IsSigs w a l) (hb : Below w.heap.size w w') : IsSigs w' a l := by
  rcases h with h | ⟨b, off, rfl, hc⟩
  { exact .inl h }
  {
  refine .inr ⟨b, off, rfl, fun i s hi => ?_⟩
  obtain ⟨h1, h2⟩ := hc i s hi
  exact ⟨by rw [hb.cell (cell_lt h1)]; exact h1, by rw [hb.cell (cell_lt h2)]; exact h2⟩

  }
def IsLists (w : World) (a : Option Addr) (ls : List (List Int)) : Prop :=
  ls = [] ∨ ∃ b off, a = some ⟨b, off, none⟩ ∧ ∀ i r, ls[i]? = some r →
    ∃ ai ci, w.cell? ⟨b, off + i, none⟩ = some (Value.slice ai r.length ci) ∧ IsInts w ai r ∧ r.length ≤ ci ∧ ci ≤ maxLen

theorem IsLists.below {w w' : World} {a : Option Addr} {ls : List (List Int)} (h : IsLists w a ls) (hb : Below w.heap.size w w') : IsLists w' a ls := by
  rcases h with h | ⟨b, off, rfl, hc⟩
  { exact .inl h }
  {
  refine .inr ⟨b, off, rfl, fun i r hi => ?_⟩
  obtain ⟨ai, ci, h1, h2, h3⟩ := hc i r hi
  exact ⟨ai, ci, by rw [hb.cell (cell_lt h1)]; exact h1, h2.below hb, h3⟩

  }
def IsRoots (w : World) (a : Option Addr) (rs : List Rt) : Prop :=
  rs = [] ∨ ∃ b off, a = some ⟨b, off, none⟩ ∧ ∀ i r, rs[i]? = some r →
    ∃ ai ci, w.cell? ⟨b, off + i * 3, none⟩ = some (.int .i64 r.v) ∧ w.cell? ⟨b, off + i * 3 + 1, none⟩ = some (Value.slice ai r.ks.length ci) ∧ w.cell? ⟨b, off + i * 3 + 2, none⟩ = some (.int .i64 r.t) ∧ IsInts w ai r.ks ∧ r.ks.length ≤ ci ∧ ci ≤ maxLen

theorem IsRoots.below {w w' : World} {a : Option Addr} {rs : List Rt} (h : IsRoots w a rs) (hb : Below w.heap.size w w') : IsRoots w' a rs := by
  rcases h with h | ⟨b, off, rfl, hc⟩
  { exact .inl h }
  {
  refine .inr ⟨b, off, rfl, fun i r hi => ?_⟩
  obtain ⟨ai, ci, h1, h2, h3, h4, h5⟩ := hc i r hi
  exact ⟨ai, ci, by rw [hb.cell (cell_lt h1)]; exact h1, by rw [hb.cell (cell_lt h2)]; exact h2, by rw [hb.cell (cell_lt h3)]; exact h3, h4.below hb, h5⟩

  }
def trv (v : Int) (a : Option Addr) (n c : Nat) (t ver : Int) : Value := .agg #[.int .i64 v, .slice a n c, .int .i64 t, .int .i64 ver]
def sv (s : S2) : Value := .agg #[.int .i64 s.1, .int .i64 s.2]

/-! ### With lengths -/
structure BI (w : World) (a : Option Addr) (n : Nat) (xs : List Int) : Prop where
  at_ : IsInts w a xs
  len : xs.length = n
  max : n ≤ maxLen
structure BG (w : World) (a : Option Addr) (n : Nat) (l : List S2) : Prop where
  at_ : IsSigs w a l
  len : l.length = n
  max : n ≤ maxLen
structure BB (w : World) (a : Option Addr) (n c : Nat) (ss : List ByteArray) : Prop where
  at_ : IsStrs w a ss
  len : ss.length = n
  cap : n ≤ c
  max : n ≤ maxLen
  short : ∀ s ∈ ss, s.size ≤ maxLen
structure BT (w : World) (a : Option Addr) (n : Nat) (ts : List T3) : Prop where
  at_ : IsTgts w a ts
  len : ts.length = n
  max : n ≤ maxLen
structure BR (w : World) (a : Option Addr) (n : Nat) (rs : List Rt) : Prop where
  at_ : IsRoots w a rs
  len : rs.length = n
  max : n ≤ maxLen
structure BL (w : World) (a : Option Addr) (n : Nat) (ls : List (List Int)) : Prop where
  at_ : IsLists w a ls
  len : ls.length = n
  max : n ≤ maxLen

theorem BI.below {w w' : World} {a : Option Addr} {n : Nat} {xs : List Int} (h : BI w a n xs) (hb : Below w.heap.size w w') : BI w' a n xs := ⟨h.at_.below hb, h.len, h.max⟩
theorem BG.below {w w' : World} {a : Option Addr} {n : Nat} {l : List S2} (h : BG w a n l) (hb : Below w.heap.size w w') : BG w' a n l := ⟨h.at_.below hb, h.len, h.max⟩
theorem BB.below {w w' : World} {a : Option Addr} {n c : Nat} {ss : List ByteArray} (h : BB w a n c ss) (hb : Below w.heap.size w w') : BB w' a n c ss := ⟨h.at_.below hb, h.len, h.cap, h.max, h.short⟩
theorem BT.below {w w' : World} {a : Option Addr} {n : Nat} {ts : List T3} (h : BT w a n ts) (hb : Below w.heap.size w w') : BT w' a n ts := ⟨h.at_.below hb, h.len, h.max⟩
theorem BR.below {w w' : World} {a : Option Addr} {n : Nat} {rs : List Rt} (h : BR w a n rs) (hb : Below w.heap.size w w') : BR w' a n rs := ⟨h.at_.below hb, h.len, h.max⟩
theorem BL.below {w w' : World} {a : Option Addr} {n : Nat} {ls : List (List Int)} (h : BL w a n ls) (hb : Below w.heap.size w w') : BL w' a n ls := ⟨h.at_.below hb, h.len, h.max⟩

end Go.Proofs.YtgngpmgjoifepaaGreatDoor

namespace Go.Proofs.YtgngpmgjoifepaaGreatDoor
open Go.RowKit

theorem turns_of {w w' : World} (h : Below w.heap.size w w') (B : Nat) : w.grownBy w' (some B) := ⟨h.os, h.tape, h.output, h.size, fun k hk _ => h.block k hk⟩
theorem turns_set {w w' : World} {B : Nat} (h : w.grownBy w' (some B)) (i : Nat) (v : Value) : w.grownBy (w'.setCell ⟨B, i, none⟩ v) (some B) :=
  h.trans ⟨rfl, rfl, rfl, by simp [World.setCell], fun k _ hne => Below.heap_setCell _ _ _ _ (fun e => hne (by rw [e]))⟩
theorem turns_below {B : Nat} {n : Nat} {a w w' : World} (h : Below n a w) (hg : w.grownBy w' (some B)) (hB : n ≤ B) (hs : n ≤ w.heap.size) : Below n a w' :=
  h.grown hg hs (fun k e => by cases e; exact hB)
def Off (B : Nat) (a : Option Addr) : Prop := ∀ ad, a = some ad → ad.block ≠ B
theorem off_none (B : Nat) : Off B none := fun _ h => by cases h
theorem off_fresh {B n : Nat} {a : Option Addr} (h : FreshA n a) (hB : B < n) : Off B a := fun ad e => by have := h ad e; omega
theorem ints_turns {w w' : World} {B : Nat} {a : Option Addr} {xs : List Int} (h : IsInts w a xs) (hg : w.grownBy w' (some B)) (ho : Off B a) : IsInts w' a xs := by
  rcases h with h | ⟨b, off, rfl, hc⟩
  { exact .inl h }
  { exact .inr ⟨b, off, rfl, fun i hi => hg.cell (hc i hi) (fun e => ho _ rfl (by cases e; rfl))⟩ }
theorem blk_turns {w w' : World} {B b : Nat} {o : Obj} (h : w.heap[b]? = some o) (hg : w.grownBy w' (some B)) (hne : b ≠ B) : w'.heap[b]? = some o := by
  rw [hg.block b (blk_lt h) (fun e => hne (by cases e; rfl))]
  exact h
theorem ints_off {w : World} {a : Option Addr} {xs : List Int} (h : IsInts w a xs) (B : Nat) (hB : w.heap.size ≤ B) : xs = [] ∨ Off B a := by
  rcases h with h | ⟨b, off, rfl, hc⟩
  { exact .inl h }
  {
  by_cases h0 : xs = []
  { exact .inl h0 }
  {
  refine .inr fun ad e => ?_
  cases e
  have := cell_lt (hc 0 (by cases xs with | nil => exact absurd rfl h0 | cons _ _ => simp))
  show b ≠ B
  have h2 : b < w.heap.size := this
  omega

  }
  }
theorem uLast1 (w : World) (o1 o2 : Obj) : ((w.alloc o1).alloc o2).heap[w.heap.size + 1]? = some o2 := by
  have := heap_alloc_last (w.alloc o1) o2
  rwa [World.size_alloc] at this
theorem uLast2 (w : World) (o1 o2 o3 : Obj) : (((w.alloc o1).alloc o2).alloc o3).heap[w.heap.size + 1 + 1]? = some o3 := by
  have := heap_alloc_last ((w.alloc o1).alloc o2) o3
  rwa [World.size_alloc, World.size_alloc] at this
theorem uLast3 (w : World) (o1 o2 o3 o4 : Obj) : ((((w.alloc o1).alloc o2).alloc o3).alloc o4).heap[w.heap.size + 1 + 1 + 1]? = some o4 := by
  have := heap_alloc_last (((w.alloc o1).alloc o2).alloc o3) o4
  rwa [World.size_alloc, World.size_alloc, World.size_alloc] at this

def msv (m : Ms) (a : Option Addr) (n c : Nat) : Value := .agg #[.int .i64 m.k, .int .i64 m.u, .int .i64 m.n, .int .i64 m.at', .int .i64 m.im, .slice a n c, .bool m.y]
def msO (m : Ms) (a : Option Addr) (n c : Nat) : Obj := .cells #[.int .i64 m.k, .int .i64 m.u, .int .i64 m.n, .int .i64 m.at', .int .i64 m.im, .slice a n c, .bool m.y] 31 (0, 0)

def IsMsgs (w : World) (a : Option Addr) (l : List Ms) : Prop :=
  l = [] ∨ ∃ b, a = some ⟨b, 0, none⟩ ∧ ∀ i m, l[i]? = some m → m.ws = [] ∧
    w.cell? ⟨b, i * 7, none⟩ = some (.int .i64 m.k) ∧ w.cell? ⟨b, i * 7 + 1, none⟩ = some (.int .i64 m.u) ∧ w.cell? ⟨b, i * 7 + 2, none⟩ = some (.int .i64 m.n) ∧ w.cell? ⟨b, i * 7 + 3, none⟩ = some (.int .i64 m.at') ∧
    w.cell? ⟨b, i * 7 + 4, none⟩ = some (.int .i64 m.im) ∧ w.cell? ⟨b, i * 7 + 5, none⟩ = some (.slice none 0 0) ∧ w.cell? ⟨b, i * 7 + 6, none⟩ = some (.bool m.y)

theorem IsMsgs.below {w w' : World} {a : Option Addr} {l : List Ms} (h : IsMsgs w a l) (hb : Below w.heap.size w w') : IsMsgs w' a l := by
  rcases h with h | ⟨b, rfl, hc⟩
  { exact .inl h }
  {
  refine .inr ⟨b, rfl, fun i m hi => ?_⟩
  obtain ⟨h0, h1, h2, h3, h4, h5, h6, h7⟩ := hc i m hi
  exact ⟨h0, by rw [hb.cell (cell_lt h1)]; exact h1, by rw [hb.cell (cell_lt h2)]; exact h2, by rw [hb.cell (cell_lt h3)]; exact h3, by rw [hb.cell (cell_lt h4)]; exact h4, by rw [hb.cell (cell_lt h5)]; exact h5, by rw [hb.cell (cell_lt h6)]; exact h6, by rw [hb.cell (cell_lt h7)]; exact h7⟩
  }
theorem isMsgs_one {w : World} {b : Nat} {m : Ms} {t : TypeId} (h0 : m.ws = []) (h : w.heap[b]? = some (.cells #[.int .i64 m.k, .int .i64 m.u, .int .i64 m.n, .int .i64 m.at', .int .i64 m.im, .slice none 0 0, .bool m.y] t (0, 0))) : IsMsgs w (some ⟨b, 0, none⟩) [m] := by
  refine .inr ⟨b, rfl, fun i x hi => ?_⟩
  have hlt := (List.getElem?_eq_some_iff.1 hi).1
  simp at hlt
  subst hlt
  simp at hi
  subst hi
  exact ⟨h0, blk_cell h 0 _ rfl, blk_cell h 1 _ rfl, blk_cell h 2 _ rfl, blk_cell h 3 _ rfl, blk_cell h 4 _ rfl, blk_cell h 5 _ rfl, blk_cell h 6 _ rfl⟩

end Go.Proofs.YtgngpmgjoifepaaGreatDoor

namespace Go.Proofs.YtgngpmgjoifepaaGreatDoor
open Go.RowKit

theorem formB_cases {n : Nat} (h : formB n = true) : n = 32 ∨ n = 64 ∨ n = 96 ∨ n = 128 ∨ n = 160 ∨ n = 192 := by
  simp [formB] at h; omega

theorem formB_not {n : Nat} (k : Nat) (h : formB n = false) (hk : formB k = true) : ((n : Int) != (k : Int)) = true := by
  simp only [bne_iff_ne, ne_eq]
  intro e
  obtain rfl : n = k := by omega
  rw [h] at hk
  cases hk

set_option maxRecDepth 100000 in
set_option maxHeartbeats 2000000 in
theorem refCheck_any (a : Option Addr) (n c : Nat) (xs : List Int) (fuel : Int) (w : World) (h : IsInts w a xs) (hn : xs.length = n) (hm : n ≤ maxLen) :
    Calls Tryz.prog 125 #[.agg #[.slice a n c, .int .i64 fuel]] w fun e w' => e = .returned (.int .i64 (chk xs fuel)) ∧ Below w.heap.size w w' := by
  have HA := hide (fun W (h : IsInts W a xs) => refAllWords_any a n c xs W h hn hm)
  have i1 := h.alloc (.cells #[.slice a n c, .int .i64 fuel] 27)
  unfold maxLen at hm
  have hb : Below w.heap.size w (w.alloc (.cells #[.slice a n c, .int .i64 fuel] 27)) := (Below.refl _ _).alloc (Nat.le_refl _) _
  have b0 := heap_alloc_last w (.cells #[.slice a n c, .int .i64 fuel] 27)
  have HN := hide hn
  clear hn
  go_enter Tryz.func125, Tryz.ntmps125
  go_upto_region 2 with fail
  generalize w.alloc (.cells #[.slice a n c, .int .i64 fuel] 27) = W at *
  have x1 : W.cell? ⟨w.heap.size, 1, none⟩ = some (.int .i64 fuel) := blk_cell b0 1 _ rfl
  have x0 : W.cell? ⟨w.heap.size, 0, none⟩ = some (.slice a n c) := blk_cell b0 0 _ rfl
  clear b0
  go_cut [28] (fun v28 wx => v28 = .bool (!formB n) ∧ wx = W)
  case first =>
    cases hf : formB n
    {
    have HF := hide hf
    have n1 : ((n : Int) != 32) = true := formB_not 32 hf rfl
    have n2 : ((n : Int) != 64) = true := formB_not 64 hf rfl
    have n3 : ((n : Int) != 96) = true := formB_not 96 hf rfl
    have n4 : ((n : Int) != 128) = true := formB_not 128 hf rfl
    have n5 : ((n : Int) != 160) = true := formB_not 160 hf rfl
    have n6 : ((n : Int) != 192) = true := formB_not 192 hf rfl
    clear hf
    go_wp2_with fail
    go_meet
    case rel => exact ⟨by first | rw [HF.out]; rfl | rfl, rfl⟩
    }
    {
    rcases formB_cases hf with rfl | rfl | rfl | rfl | rfl | rfl
    all_goals
      clear hf
      go_wp2_with fail
      go_meet
      case rel => exact ⟨rfl, rfl⟩
    }
  case rest =>
    obtain ⟨rfl, hwc⟩ := hcut
    subst hwc
    cases hf : formB n
    {
    have HF : Hid (formB xs.length = false) := by rw [HN.out]; exact hf
    clear hf
    go_wp2
    go_ret
    exact ⟨ret_intk (chk_form HF.out).symm, hb⟩
    }
    have hform : Hid (formB xs.length = true) := by rw [HN.out]; exact hf
    clear hf
    by_cases c4 : fuel < -1
    {
    have hr : Hid (rangeB xs fuel = false) := by show _ = _; unfold rangeB; simp; omega
    go_wp2
    go_ret
    exact ⟨ret_intk (chk_range hform.out hr.out).symm, hb⟩
    }
    have c4' : decide (fuel < -1) = false := by simp; omega
    by_cases c5 : fuel ≤ 100000
    rotate_left
    {
    have hr : Hid (rangeB xs fuel = false) := by show _ = _; unfold rangeB; simp; omega
    go_wp2
    go_ret
    exact ⟨ret_intk (chk_range hform.out hr.out).symm, hb⟩
    }
    have c5' : decide (100000 < fuel) = false := by simp; omega
    cases hok : okL xs
    {
    have hr : Hid (rangeB xs fuel = false) := by show _ = _; unfold rangeB; simp [hok]
    have HO := hide hok
    clear hok
    go_wp2_with fail
    refine (unhide HA _ i1).mono ?_
    rintro e w' ⟨rfl, rfl⟩
    rw [HO.out]
    go_wp2
    go_ret
    exact ⟨ret_intk (chk_range hform.out hr.out).symm, hb⟩
    }
    {
    have hr : Hid (rangeB xs fuel = true) := by show _ = _; unfold rangeB; simp [hok]; omega
    have HO := hide hok
    clear hok
    go_wp2_with fail
    refine (unhide HA _ i1).mono ?_
    rintro e w' ⟨rfl, rfl⟩
    rw [HO.out]
    go_wp2
    go_ret
    exact ⟨ret_intk (chk_ok hform.out hr.out).symm, hb⟩

    }
end Go.Proofs.YtgngpmgjoifepaaGreatDoor

namespace Go.Proofs.YtgngpmgjoifepaaGreatDoor
open Go.RowKit

def fnV (o : Option (Nat × Int)) : Value := match o with
  | none => .func (.func 178) #[] #[]
  | some (b, _) => .func (.func 205) #[] #[.pointer (some ⟨b, 0, none⟩)]
def apW (o : Option (Nat × Int)) (was : Int) : Int := match o with
  | none => 65535
  | some (_, x) => bits .and .i64 was x
def cells2 (cs : List (Nat × Option (Nat × Int))) : List Value := cs.flatMap (fun c => [.int .i64 c.1, fnV c.2])

theorem cells2_length (cs : List (Nat × Option (Nat × Int))) : (cells2 cs).length = cs.length * 2 := by
  induction cs with
  | nil => rfl
  | cons c cs ih => simp only [cells2, List.flatMap_cons, List.length_append, List.length_cons, List.length_nil] at *; omega

theorem cells2_get (cs : List (Nat × Option (Nat × Int))) (i : Nat) (c : Nat × Option (Nat × Int)) (h : cs[i]? = some c) : (cells2 cs)[2 * i]? = some (.int .i64 c.1) ∧ (cells2 cs)[2 * i + 1]? = some (fnV c.2) := by
  induction cs generalizing i with
  | nil => simp at h
  | cons d cs ih =>
    cases i with
    | zero => simp at h; subst h; simp [cells2]
    | succ i =>
      have := ih i (by simpa using h)
      simp only [cells2, List.flatMap_cons] at *
      rw [show 2 * (i + 1) = 2 * i + 2 by omega, show 2 * i + 2 + 1 = (2 * i + 1) + 2 by omega]
      simpa using this

structure Making (w0 wr : World) (v : Value) (cs : List (Nat × Option (Nat × Int))) : Prop where
  own : wr.ownsRow w0.heap.size 237 2 v cs.length (cells2 cs)
  caps : ∀ c ∈ cs, ∀ b x, c.2 = some (b, x) → wr.heap[b]? = some (.cells #[.int .i64 x] 3 (0, 0))
  below : Below w0.heap.size w0 wr

theorem making_nil (w : World) : Making w w (.slice none 0 0) [] := ⟨World.ownsRow_nil _ _ _ _, by simp, Below.refl _ _⟩

theorem info_change : (Tryz.prog.info? 237).map (fun i => (i.zero, i.size, i.bytes)) = some (some (.agg #[.int .i64 0, .nilFunc]), 2, 16) := by kernel_rfl

theorem Making.step {w0 wr wa w1 : World} {v v' : Value} {cs : List (Nat × Option (Nat × Int))} {p : Nat} {o : Option (Nat × Int)} (h : Making w0 wr v cs) (hba : Below wr.heap.size wr wa) (hown : w1.ownsRow w0.heap.size 237 2 v' (cs.length + 1) (cells2 cs ++ [.int .i64 p, fnV o]))
    (hgrow : wa.grownBy w1 v.ownBlock) (ho : ∀ b x, o = some (b, x) → wa.heap[b]? = some (.cells #[.int .i64 x] 3 (0, 0))) : Making w0 w1 v' (cs ++ [(p, o)]) := by
  have hbw : Below w0.heap.size w0 wa := h.below.trans (hba.mono h.below.size)
  have hrow : ∀ k, v.ownBlock = some k → w0.heap.size ≤ k ∧ ∃ cur, wr.heap[k]? = some (.cells cur 237 (0, 0)) := by
    intro k hk
    obtain ⟨_, ⟨hv, _⟩ | ⟨g, cap, cur, hv, hg, hh, _⟩⟩ := h.own
    { rw [hv] at hk; cases hk }
    {
    rw [hv] at hk
    have : g = k := by simpa [Value.ownBlock] using hk
    subst this
    exact ⟨hg, cur, hh⟩
    }
  have keep : ∀ (b : Nat) (x : Int), wa.heap[b]? = some (Obj.cells #[.int .i64 x] 3 (0, 0)) → w1.heap[b]? = some (Obj.cells #[.int .i64 x] 3 (0, 0)) := by
    intro b x hb
    rw [hgrow.block b (blk_lt hb) ?_]
    { exact hb }
    {
    intro e
    obtain ⟨_, cur, hc⟩ := hrow b e.symm
    rw [blk_below hc hba] at hb
    simp at hb
    }
  refine ⟨?_, ?_, ?_⟩
  {
  have e : cells2 (cs ++ [(p, o)]) = cells2 cs ++ [.int .i64 p, fnV o] := by simp [cells2]
  rw [e, List.length_append]
  exact hown
  }
  {
  intro c hc b x hcx
  rw [List.mem_append] at hc
  rcases hc with hc | hc
  { exact keep b x (blk_below (h.caps c hc b x hcx) hba) }
  {
  have : c = (p, o) := by simpa using hc
  subst this
  exact keep b x (ho b x hcx)
  }
  }
  {
  exact hbw.grown hgrow (Nat.le_trans h.below.size hba.size) (fun k hk => (hrow k hk).1)

  }
def eraL (s : Nat) (k : Nat) : List (Nat × Option (Nat × Int)) := (List.range k).map (fun i => (32 * s + i, none))
theorem eraL_length (s k : Nat) : (eraL s k).length = k := by simp [eraL]
theorem eraL_succ (s k : Nat) : eraL s (k + 1) = eraL s k ++ [(32 * s + k, none)] := by simp [eraL, List.range_succ]

set_option maxRecDepth 100000 in
set_option maxHeartbeats 1000000 in
theorem erases_any (s : Nat) (w : World) (hs : s ≤ 6) : Calls Tryz.prog 134 #[.int .i64 s] w fun e w' => ∃ v, e = .returned v ∧ Making w w' v (eraL s 32) := by
  obtain ⟨i0, hi0, hz0, hz1, hz2⟩ := info_parts info_change
  go_enter Tryz.func134, Tryz.ntmps134
  go_wp2
  go_loopw [3, 5] (fun v i wr => ∃ k : Nat, k ≤ 32 ∧ i = .int .i64 k ∧ Making w wr v (eraL s k)) (fun _ i _ => 32 - (intOf i).toNat)
  case atStart => exact ⟨0, by omega, rfl, making_nil w⟩
  case round =>
    obtain ⟨k, hk, rfl, hmk⟩ := hrel
    by_cases hlt : k < 32
    {
    have hc := hmk.below.size
    have HM := hide hmk
    clear hmk
    go_wp2_with (at_builtin; refine wpList_append_own _ rfl _ _ 195 rfl w.heap.size 237 i0 (.agg #[.int .i64 0, .nilFunc]) 2 16 Tryz.underlying195 hi0 hz0 hz1 hz2 rfl (by decide) _ _ _ rfl (HM.out.own.alloc _) ⟨wr.heap.size, 0, none⟩ 1 1 [.int .i64 (32 * (s : Int) + (k : Int)), .func (.func 178) #[] #[]] rfl rfl ?c1 ?c2 ?c3 ?c4 ?c5 ?_)
    case c1 => exact cell_two_new _ _ _ _
    case c2 => intro u hu; simp at hu; rcases hu with rfl | rfl <;> rfl
    case c3 => rw [eraL_length]; unfold maxLen; omega
    case c4 => rw [eraL_length]; omega
    case c5 => simp; omega
    intro v' w1 hown' hgrow _
    have R : Making w w1 v' (eraL s (k + 1)) := by
      rw [eraL_succ]
      refine HM.out.step (o := none) (p := 32 * s + k) ((Below.refl _ _).alloc (Nat.le_refl _) _) ?_ hgrow (by intro b x h; cases h)
      have e : ((32 * s + k : Nat) : Int) = 32 * (s : Int) + (k : Int) := by omega
      rw [e]
      exact hown'
    clear hown' hgrow HM
    go_wp2
    go_roundw
    case rel => exact ⟨k + 1, by omega, by go_num, R⟩
    case measure => simp [intOf]; omega
    }
    {
    obtain rfl : k = 32 := by omega
    have HM := hide hmk
    clear hmk
    go_wp2
    go_ret
    exact ⟨_, rfl, HM.out⟩

    }
def ProL (p : Nat) (words : List Int) (k : Nat) (cs : List (Nat × Option (Nat × Int))) : Prop := cs.length = k ∧ ∀ i, i < k → ∃ b, cs[i]? = some (p + i, some (b, words.getD i 0))

theorem ProL.nil (p : Nat) (words : List Int) : ProL p words 0 [] := ⟨rfl, fun i hi => by omega⟩
theorem ProL.succ {p : Nat} {words : List Int} {k : Nat} {cs : List (Nat × Option (Nat × Int))} (h : ProL p words k cs) (b : Nat) : ProL p words (k + 1) (cs ++ [(p + k, some (b, words.getD k 0))]) := by
  refine ⟨by rw [List.length_append, h.1]; rfl, fun i hi => ?_⟩
  by_cases c : i < k
  {
  obtain ⟨b', hb'⟩ := h.2 i c
  exact ⟨b', by rw [List.getElem?_append_left (by rw [h.1]; exact c)]; exact hb'⟩
  }
  {
  obtain rfl : i = k := by omega
  exact ⟨b, by rw [List.getElem?_append_right (by rw [h.1]; exact Nat.le_refl _), h.1]; simp⟩

  }
set_option maxRecDepth 100000 in
set_option maxHeartbeats 1000000 in
theorem programs_any (p : Nat) (a : Option Addr) (n c : Nat) (words : List Int) (w : World) (h : IsInts w a words) (hn : words.length = n) (hm : n ≤ 100000) (hp : p ≤ 100000) :
    Calls Tryz.prog 179 #[.int .i64 p, .slice a n c] w fun e w' => ∃ v cs, e = .returned v ∧ Making w w' v cs ∧ ProL p words n cs := by
  obtain ⟨i0, hi0, hz0, hz1, hz2⟩ := info_parts info_change
  have HN := hide hn
  clear hn
  go_enter Tryz.func179, Tryz.ntmps179
  go_wp2
  go_loopw [5, 10] (fun v i wr => ∃ (k : Nat) (cs : List (Nat × Option (Nat × Int))), k ≤ n ∧ i = .int .i64 k ∧ Making w wr v cs ∧ ProL p words k cs) (fun _ i _ => n - (intOf i).toNat)
  case atStart => exact ⟨0, [], by omega, rfl, making_nil w, ProL.nil _ _⟩
  case round =>
    obtain ⟨k, cs, hk, rfl, hmk, hpl⟩ := hrel
    by_cases hlt : k < n
    {
    have hc := hmk.below.size
    have hlen := hpl.1
    have hi := h.below hmk.below
    rcases hi with hnil | ⟨b0, o0, rfl, hc0⟩
    { have := HN.out; rw [hnil] at this; simp at this; omega }
    have e0 := hc0 k (by have := HN.out; omega)
    obtain ⟨x, hx⟩ : ∃ x, x = words.getD k 0 := ⟨_, rfl⟩
    rw [← hx] at e0
    have HX := hide hx
    have HM := hide hmk
    have HPL := hide hpl
    have HLen := hide hlen
    clear hmk hpl hx hc0 hlen
    go_wp2_with (at_builtin; refine wpList_append_own _ rfl _ _ 195 rfl w.heap.size 237 i0 (.agg #[.int .i64 0, .nilFunc]) 2 16 Tryz.underlying195 hi0 hz0 hz1 hz2 rfl (by decide) _ _ _ rfl ((HM.out.own.alloc _).alloc _) ⟨wr.heap.size + 1, 0, none⟩ 1 1 [.int .i64 ((p : Int) + (k : Int)), .func (.func 205) #[] #[.pointer (some ⟨wr.heap.size, 0, none⟩)]] rfl rfl ?c1 ?c2 ?c3 ?c4 ?c5 ?_)
    case c1 =>
      have := cell_two_new (wr.alloc (.cells #[.int .i64 x] 3)) (.int .i64 ((p : Int) + (k : Int))) (.func (.func 205) #[] #[.pointer (some ⟨wr.heap.size, 0, none⟩)]) 237
      simpa using this
    case c2 => intro u hu; simp at hu; rcases hu with rfl | rfl <;> rfl
    case c3 => rw [HLen.out]; unfold maxLen; omega
    case c4 => rw [HLen.out]; omega
    case c5 => simp; omega
    intro v' w1 hown' hgrow _
    have R : Making w w1 v' (cs ++ [(p + k, some (wr.heap.size, words.getD k 0))]) := by
      refine HM.out.step (o := some (wr.heap.size, words.getD k 0)) (p := p + k) (((Below.refl _ _).alloc (Nat.le_refl _) _).alloc (by simp) _) ?_ hgrow ?_
      {
      have e : ((p + k : Nat) : Int) = (p : Int) + (k : Int) := by omega
      rw [e]
      exact hown'
      }
      {
      intro b y hby
      cases hby
      rw [← HX.out]
      exact blk_alloc (heap_alloc_last _ _) _
      }
    have R2 := HPL.out.succ wr.heap.size
    clear hown' hgrow HM
    go_wp2
    go_roundw
    case rel => exact ⟨k + 1, _, by omega, by go_num, R, R2⟩
    case measure => simp [intOf]; omega
    }
    {
    obtain rfl : k = n := by omega
    have HM := hide hmk
    have HPL := hide hpl
    clear hmk hpl
    go_wp2
    go_ret
    exact ⟨_, _, rfl, HM.out, HPL.out⟩

    }
end Go.Proofs.YtgngpmgjoifepaaGreatDoor
