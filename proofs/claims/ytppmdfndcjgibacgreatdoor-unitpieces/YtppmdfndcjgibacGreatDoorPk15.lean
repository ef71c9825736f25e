/- The contracts of meta.Name, ImageName. What package unit says, as plain functions: 'stOf', 'unE', 'msE', 'heE', 'doU', 'pieceS', 'prepS', 'comS', 'aboS', 'hearS'. No program in this text. What package trust says, as plain functions: 'sigE', 'trE', 'cntE', 'cntN', 'csE', 'turnE', 'allE', 'crE', 'meantB', 'takeE', 'takeT'. No program in this text. Signatures, roots and lists in memory: 'IsSigs', 'IsRoots', 'IsLists'; what is trusted, and an offer, as values ('trv', 'offv'). Units and messages in memory: 'unO', 'OwnU', 'msv', 'IsMsgs'; what one block's turning leaves ('turns'). -/
import Derived.Test.YtppmdfndcjgibacGreatDoorPk14
import Derived.Test.YtppmdfndcjgibacGreatDoorPk8
import Derived.Test.YtppmdfndcjgibacGreatDoorPk9
import Derived.Test.YtppmdfndcjgibacGreatDoorPk10
import Derived.Maps.AppendAt
namespace Go.Proofs.YtppmdfndcjgibacGreatDoor
open Go.RowKit

def nameE (ss : List ByteArray) (s : ByteArray) : Int := if bookE ss = 0 then (nameN ss s : Int) else 0
def inE (ss : List ByteArray) (xs : List Int) : Int := if imgE xs = 0 then bookE ss else imgE xs
def inN (ss : List ByteArray) (xs : List Int) : Int := if imgE xs = 0 then nameE ss (bs (imgT xs)) else 0

theorem ret_ints {a b c d : Int} (h : a = c) (h2 : b = d) : Ending.returned (.tuple #[.int .i64 a, .int .i64 b]) = .returned (.tuple #[.int .i64 c, .int .i64 d]) := by rw [h, h2]

set_option maxHeartbeats 800000 in
set_option maxRecDepth 100000 in
theorem name_any (a : Option Addr) (n c : Nat) (ss : List ByteArray) (s : ByteArray) (w : World) (h : IsStrs w a ss) (hn : ss.length = n) (hc : n ≤ c) (hm : n ≤ maxLen) (hz : ∀ s ∈ ss, s.size ≤ maxLen) :
    Calls Tryz.prog 41 #[bookv a n c, .string s] w fun e w' => e = .returned (.tuple #[.int .i64 (nameE ss s), .int .i64 (bookE ss)]) ∧ Below w.heap.size w w' := by
  have hw0 : Below w.heap.size w (w.alloc (.cells #[.slice a n c] 24)) := (Below.refl _ _).alloc (Nat.le_refl _) _
  have b0 := hide (heap_alloc_last w (.cells #[.slice a n c] 24))
  have i0 := h.below hw0
  have HC := hide (fun W (hW : IsStrs W a ss) => checkBook_any a n c ss W hW hn hc hz)
  have HI := hide (fun W (hW : IsStrs W a ss) => index_strs a n c ss s W hW hn hm)
  have hle := nameN_le ss s
  rw [hn] at hle
  unfold maxLen at hm
  have hwrap : IntKind.i64.wrap ((nameN ss s : Int) - 1 + 1) = (nameN ss s : Int) := by rw [IntKind.wrap_i64]; omega
  obtain ⟨q, hq⟩ : ∃ q : Int, q = (nameN ss s : Int) - 1 := ⟨_, rfl⟩
  rw [← hq] at hwrap HI
  unfold bookv at HC ⊢
  clear hn
  by_cases h0 : bookE ss = 0
  · have HX := hide (show nameE ss s = (nameN ss s : Int) by unfold nameE; rw [if_pos h0])
    have H0 := hide h0
    rw [h0] at HC
    rw [h0]
    clear h0 hq
    generalize (nameN ss s : Int) = r at *
    go_enter Tryz.func41, Tryz.ntmps41
    go_wp2_with fail
    generalize w.alloc (.cells #[.slice a n c] 24) = W at *
    refine (unhide HC _ i0).mono ?_
    rintro e w1 ⟨rfl, hb1⟩
    replace i0 := i0.below hb1
    replace hw0 := hw0.trans (hb1.mono hw0.size)
    have x0 := blk_cell (blk_below b0.out hb1) 0 _ rfl
    clear hb1
    go_wp2_with fail
    refine (unhide HI _ i0).mono ?_
    rintro e w2 ⟨rfl, rfl⟩
    go_wp2_with fail
    go_ret2
    exact ⟨ret_ints HX.out.symm rfl, hw0⟩
  · have hb : (bookE ss != 0) = true := by simpa using h0
    have HX := hide (show nameE ss s = 0 by unfold nameE; rw [if_neg h0])
    clear h0 hq
    generalize bookE ss = r at *
    go_enter Tryz.func41, Tryz.ntmps41
    go_wp2_with fail
    generalize w.alloc (.cells #[.slice a n c] 24) = W at *
    refine (unhide HC _ i0).mono ?_
    rintro e w1 ⟨rfl, hb1⟩
    replace hw0 := hw0.trans (hb1.mono hw0.size)
    go_wp2_with fail
    go_ret2
    exact ⟨ret_ints HX.out.symm rfl, hw0⟩

set_option maxHeartbeats 800000 in
set_option maxRecDepth 100000 in
theorem imageName_any (a : Option Addr) (n c : Nat) (ss : List ByteArray) (a2 : Option Addr) (n2 c2 : Nat) (xs : List Int) (w : World) (h : IsStrs w a ss) (hn : ss.length = n) (hc : n ≤ c) (hm : n ≤ maxLen) (hz : ∀ s ∈ ss, s.size ≤ maxLen)
    (h2 : IsInts w a2 xs) (hn2 : xs.length = n2) (hm2 : n2 ≤ maxLen) (hT : Tab w) :
    Calls Tryz.prog 10 #[bookv a n c, .slice a2 n2 c2] w fun e w' => e = .returned (.tuple #[.int .i64 (inN ss xs), .int .i64 (inE ss xs)]) ∧ Below w.heap.size w w' := by
  have hw0 : Below w.heap.size w (w.alloc (.cells #[.slice a n c] 24)) := (Below.refl _ _).alloc (Nat.le_refl _) _
  have b0 := hide (heap_alloc_last w (.cells #[.slice a n c] 24))
  have i0 := h.below hw0
  have j0 := h2.below hw0
  have t0 := hT.below hw0
  have HT := hide (fun W (hW : IsInts W a2 xs) (hTW : Tab W) => imageText_any a2 n2 c2 xs W hW hn2 hm2 hTW)
  have HNm := hide (fun W s (hW : IsStrs W a ss) => name_any a n c ss s W hW hn hc hm hz)
  unfold bookv at HNm ⊢
  clear hn hn2
  by_cases h0 : imgE xs = 0
  · have HX := hide (show inN ss xs = nameE ss (bs (imgT xs)) by unfold inN; rw [if_pos h0])
    have HY := hide (show inE ss xs = bookE ss by unfold inE; rw [if_pos h0])
    have HZ := hide (show imgTx xs = imgT xs by unfold imgTx; rw [if_pos h0])
    rw [HZ.out, h0] at HT
    clear h0
    generalize bs (imgT xs) = s at *
    replace HNm := hide (fun W => unhide HNm W s)
    generalize nameE ss s = r1 at *
    generalize bookE ss = r2 at *
    go_enter Tryz.func10, Tryz.ntmps10
    go_wp2_with fail
    generalize w.alloc (.cells #[.slice a n c] 24) = W at *
    refine (unhide HT _ j0 t0).mono ?_
    rintro e w1 ⟨rfl, hb1⟩
    replace i0 := i0.below hb1
    replace hw0 := hw0.trans (hb1.mono hw0.size)
    have x0 := blk_cell (blk_below b0.out hb1) 0 _ rfl
    clear hb1
    go_wp2_with fail
    refine (unhide HNm _ i0).mono ?_
    rintro e w2 ⟨rfl, hb2⟩
    go_wp2_with fail
    go_ret2
    exact ⟨ret_ints HX.out.symm HY.out.symm, hw0.trans (hb2.mono hw0.size)⟩
  · have hb : (imgE xs != 0) = true := by simpa using h0
    have HX := hide (show inN ss xs = 0 by unfold inN; rw [if_neg h0])
    have HY := hide (show inE ss xs = imgE xs by unfold inE; rw [if_neg h0])
    clear h0
    generalize imgE xs = r at *
    go_enter Tryz.func10, Tryz.ntmps10
    go_wp2_with fail
    generalize w.alloc (.cells #[.slice a n c] 24) = W at *
    refine (unhide HT _ j0 t0).mono ?_
    rintro e w1 ⟨rfl, hb1⟩
    replace hw0 := hw0.trans (hb1.mono hw0.size)
    go_wp2_with fail
    go_ret2
    exact ⟨ret_ints HX.out.symm HY.out.symm, hw0⟩

end Go.Proofs.YtppmdfndcjgibacGreatDoor

namespace Go.Proofs.YtppmdfndcjgibacGreatDoor
open Go.RowKit

/-- A unit; a message; what a unit's records say. -/
structure Un where
  ws : List Int
  fu : Int
  up : Bool
  n : Int
  hv : Int
structure Ms where
  k : Int
  u : Int
  n : Int
  at' : Int
  im : Int
  ws : List Int
  y : Bool
structure Us where
  slot : Int
  by' : Int
  rdy : Int

def isR (r : List Int) (k : Int) (l : Nat) : Bool := decide (r.length = l) && decide (r.getD 0 0 = k)
def stNext (s : Us) (r : List Int) : Us :=
  if (isR r 1 3 && decide (r.getD 1 0 ≤ 1)) = true then ⟨r.getD 1 0, r.getD 2 0, 0⟩
  else if isR r 2 2 = true then ⟨s.slot, s.by', r.getD 1 0⟩
  else if isR r 3 2 = true then ⟨s.slot, s.by', 0⟩ else s
def us0 : Us := ⟨0, 0, 0⟩
def stR (rs : List (List Int)) : Us := rs.foldl stNext us0
def stOf (ws : List Int) : Us := stR (logR ws)

def unE (u : Un) : Int := if lchk u.ws u.fu ≠ 0 then lchk u.ws u.fu else if u.ws.length ≠ 192 then 4 else if (inB u.n 0 8 && inB u.hv 0 40) = true then 0 else 3
def msB (m : Ms) : Bool := inB m.k 1 7 && (inB m.u 0 3 && (inB m.n 1 8 && (inB m.at' 0 40 && (inB m.im 0 60 && (decide (m.ws.length ≤ 8) && okL m.ws)))))
def msE (m : Ms) : Int := if msB m = true then 0 else 3
def heE (ss : List ByteArray) (u : Un) (m : Ms) : Int := if bookE ss ≠ 0 then bookE ss else if unE u ≠ 0 then unE u else msE m

/-- A change of flash: what becomes of the unit, and whether it is done. -/
def doU (u : Un) (r : List Int × Int × Int) : Un × Bool :=
  if r.2.2 = 7 then (⟨r.1, r.2.1, false, 0, 0⟩, false) else if r.2.2 = 0 then (⟨r.1, r.2.1, u.up, u.n, u.hv⟩, true) else (u, false)

def keepU (s : Us) : List (List Int) := if s.rdy = 0 then [[1, s.slot, s.by']] else [[1, s.slot, s.by'], [2, s.rdy]]

/-- A step. -/
inductive Stu where
  | fmt
  | clr (s : Int)
  | fil (s a : Int) (words : List Int)
  | sea (s long name : Int)
  | not (s : Us) (r : List Int)
def doT : Stu → List Int → Int → List Int × Int × Int
  | .fmt, ws, f => fmtS ws f
  | .clr s, ws, f => clrS ws f s
  | .fil s a words, ws, f => fillS ws f s a words
  | .sea s l n, ws, f => sealS ws f s l n
  | .not s r, ws, f => appS ws f r (keepU s)
def doV (u : Un) (st : Stu) : Un × Bool := doU u (doT st u.ws u.fu)
def turnU : List Stu → Un → Un × Bool
  | [], u => (u, true)
  | st :: r, u => if (doV u st).2 = true then turnU r (doV u st).1 else ((doV u st).1, false)

def oth (s : Us) : Int := 1 - s.slot
def mind (u : Un) (n hv : Int) : Un := ⟨u.ws, u.fu, u.up, n, hv⟩

def voteM (m : Ms) (y : Bool) : Ms := ⟨3, m.u, m.n, 0, 0, [], y⟩
def doneM (m : Ms) : Ms := ⟨6, m.u, m.n, 0, 0, [], false⟩

def pieceA (u : Un) (s : Us) (m : Ms) : Un × Bool :=
  if m.at' = 0 ∧ (u.n ≠ m.n ∨ u.hv = 0) then
    (if (doV u (.clr (oth s))).2 = true then (mind (doV u (.clr (oth s))).1 m.n 0, true) else ((doV u (.clr (oth s))).1, false))
  else (u, true)
def pieceB (u : Un) (s : Us) (m : Ms) : Un :=
  if u.n = m.n ∧ u.hv = m.at' ∧ (m.ws.length : Int) ≤ 40 - m.at' then
    (if (doV u (.fil (oth s) m.at' m.ws)).2 = true then mind (doV u (.fil (oth s) m.at' m.ws)).1 (doV u (.fil (oth s) m.at' m.ws)).1.n ((doV u (.fil (oth s) m.at' m.ws)).1.hv + m.ws.length)
    else (doV u (.fil (oth s) m.at' m.ws)).1)
  else u
def pieceS (u : Un) (s : Us) (m : Ms) : Un :=
  if s.rdy ≠ 0 ∨ m.n ≤ s.by' then u else if (pieceA u s m).2 = true then pieceB (pieceA u s m).1 s m else (pieceA u s m).1

/-- The words that a Prepare speaks of; are they those that it names? -/
def wordsU (u : Un) (s : Us) (m : Ms) : List Int := (bodyS u.ws u.fu (oth s) m.at').1
def meantU (ss : List ByteArray) (u : Un) (s : Us) (m : Ms) : Bool :=
  decide ((bodyS u.ws u.fu (oth s) m.at').2 = 0) && (decide (inE ss (wordsU u s m) = 0) && (decide (inN ss (wordsU u s m) ≠ 0) && decide (inN ss (wordsU u s m) = m.im)))
def wholeU (u : Un) (s : Us) (m : Ms) (words : List Int) : Bool :=
  decide ((imgS u.ws u.fu (oth s)).2.2 = 0) && (decide ((imgS u.ws u.fu (oth s)).2.1 = m.im) && eqL (imgS u.ws u.fu (oth s)).1 words)
def prepC (u : Un) (s : Us) (m : Ms) : Un × List Ms :=
  if (doV u (.not s [2, m.n])).2 = true then ((doV u (.not s [2, m.n])).1, [voteM m true]) else ((doV u (.not s [2, m.n])).1, [])
def prepB (u : Un) (s : Us) (m : Ms) (words : List Int) : Un × List Ms :=
  if (doV u (.sea (oth s) m.at' m.im)).2 = true then
    (if wholeU (mind (doV u (.sea (oth s) m.at' m.im)).1 0 0) s m words = true then prepC (mind (doV u (.sea (oth s) m.at' m.im)).1 0 0) s m
    else (mind (doV u (.sea (oth s) m.at' m.im)).1 0 0, [voteM m false]))
  else ((doV u (.sea (oth s) m.at' m.im)).1, [])
def prepS (ss : List ByteArray) (u : Un) (s : Us) (m : Ms) : Un × List Ms :=
  if m.n ≤ s.by' then (u, [doneM m]) else if s.rdy ≠ 0 then (u, [voteM m (decide (s.rdy = m.n))])
  else if u.n = m.n ∧ u.hv = m.at' ∧ meantU ss u s m = true then prepB u s m (wordsU u s m) else (u, [voteM m false])

def comS (u : Un) (s : Us) (m : Ms) : Un × List Ms :=
  if s.by' = m.n then (u, [doneM m]) else if s.rdy ≠ m.n then (u, [])
  else if (doV u (.not s [1, oth s, m.n])).2 = true then ((doV u (.not s [1, oth s, m.n])).1, [doneM m]) else ((doV u (.not s [1, oth s, m.n])).1, [])

def aboB (u : Un) (m : Ms) : Un × List Ms := (if u.n = m.n then mind u 0 0 else u, [doneM m])
def aboS (u : Un) (s : Us) (m : Ms) : Un × List Ms :=
  if m.n ≤ s.by' then (u, []) else if s.rdy = m.n then
    (if (doV u (.not s [3, m.n])).2 = true then aboB (doV u (.not s [3, m.n])).1 m else ((doV u (.not s [3, m.n])).1, []))
  else aboB u m

def hearK (ss : List ByteArray) (u : Un) (m : Ms) : Un × List Ms :=
  if m.k = 1 then (pieceS u (stOf u.ws) m, []) else if m.k = 2 then prepS ss u (stOf u.ws) m
  else if m.k = 4 then comS u (stOf u.ws) m else if m.k = 5 then aboS u (stOf u.ws) m else (u, [])
def hearS (ss : List ByteArray) (u : Un) (m : Ms) : Un × List Ms := if u.up = true then hearK ss u m else (u, [])

def sameM (x y : Ms) : Bool := decide (x.k = y.k) && (decide (x.u = y.u) && (decide (x.n = y.n) && (decide (x.at' = y.at') && (decide (x.im = y.im) && (x.y == y.y && eqL x.ws y.ws)))))
def sameU (x y : Un) : Bool := (decide (x.fu = y.fu) && eqL x.ws y.ws) && ((x.up == y.up) && (decide (x.n = y.n) && decide (x.hv = y.hv)))

end Go.Proofs.YtppmdfndcjgibacGreatDoor

namespace Go.Proofs.YtppmdfndcjgibacGreatDoor
open Go.RowKit

abbrev S2 := Int × Int
/-- A root; what is trusted; an offer. -/
structure Rt where
  v : Int
  ks : List Int
  t : Int
structure Tr where
  r : Rt
  ver : Int
structure Of where
  roots : List Rt
  rsigs : List (List Int)
  v : Int
  u : Int
  ts : List T3
  sigs : List Int
  imgs : List (List Int)

def Rt.e (r : Rt) : Int := rootE r.v r.ks r.t
def Rt.tx (r : Rt) : List UInt8 := rootT r.v r.ks r.t

def sOK (s : S2) : Bool := inR s.1 1 50 && inR s.2 1 60
def sigE (l : List S2) : Int := if 360 < l.length then 2 else if l.all sOK then 0 else 3
def trE (t : Tr) : Int := if inR t.ver 0 1000 then t.r.e else 3
/-- Is it among them? -/
def has {α : Type} [DecidableEq α] (xs : List α) (x : α) : Bool := decide (x ∈ xs)
def hit (l : List S2) (sigs : List Int) (name k : Int) : Bool := has sigs k && has l (k, name)
def cntN (l : List S2) (ks sigs : List Int) (name : Int) : Nat := ks.countP (hit l sigs name)
def cntE (l : List S2) (r : Rt) (sigs : List Int) : Int :=
  if sigE l = 0 then (if r.e = 0 then (if 50 < sigs.length then 2 else 0) else r.e) else sigE l
def cntV (l : List S2) (r : Rt) (sigs : List Int) (name : Int) : Int := if cntE l r sigs = 0 then (cntN l r.ks sigs name : Int) else 0
def csE (l : List S2) (r : Rt) (sigs : List Int) (name : Int) : Int :=
  if cntE l r sigs = 0 then (if (cntN l r.ks sigs name : Int) < r.t then 9 else 0) else cntE l r sigs

def turnE (ss : List ByteArray) (l : List S2) (t : Tr) (x : Rt) (sigs : List Int) : Int :=
  if trE t = 0 then
    (if x.e = 0 then
      (if bookE ss = 0 then
        (if x.v = t.r.v + 1 then
          (if csE l t.r sigs (nameN ss (bs x.tx)) = 0 then csE l x sigs (nameN ss (bs x.tx)) else csE l t.r sigs (nameN ss (bs x.tx)))
        else 10)
      else bookE ss)
    else x.e)
  else trE t

/-- Root by root. -/
def turnsE (ss : List ByteArray) (l : List S2) (t : Tr) : List Rt → List (List Int) → Int
  | r :: rs, s :: sgs => if turnE ss l t r s = 0 then turnsE ss l ⟨r, t.ver⟩ rs sgs else turnE ss l t r s
  | _, _ => 0
def lastR (r : Rt) : List Rt → Rt
  | [] => r
  | x :: rs => lastR x rs
def allE (ss : List ByteArray) (l : List S2) (t : Tr) (rs : List Rt) (sgs : List (List Int)) : Int :=
  if 6 < rs.length then 2 else if sgs.length = rs.length then turnsE ss l t rs sgs else 2

def crE (ss : List ByteArray) (l : List S2) (by_ : Rt) (v u : Int) (ts : List T3) (sigs : List Int) : Int :=
  if relE v u ts = 0 then (if bookE ss = 0 then csE l by_ sigs (nameN ss (bs (relT v u ts))) else bookE ss) else relE v u ts

def meant1 (ss : List ByteArray) (t : T3) (w : List Int) : Bool := decide (inE ss w = 0) && (decide (inN ss w = t.2.1) && decide ((w.length : Int) = t.2.2))
def meantB (ss : List ByteArray) : List T3 → List (List Int) → Bool
  | t :: ts, w :: ws => meant1 ss t w && meantB ss ts ws
  | _, _ => true

/-- What Take asks of the release, once it is signed. -/
def restE (ss : List ByteArray) (ver : Int) (o : Of) (now units : Int) : Int :=
  if o.v ≤ ver then 10 else if o.u < now then 11
  else if (o.ts.length : Int) ≠ units then 4 else if (o.imgs.length : Int) ≠ units then 4
  else if meantB ss o.ts o.imgs then 0 else 5
def takeE (ss : List ByteArray) (l : List S2) (t : Tr) (o : Of) (now units : Int) : Int :=
  if trE t = 0 then
    (if allE ss l t o.roots o.rsigs = 0 then
      (if crE ss l (lastR t.r o.roots) o.v o.u o.ts o.sigs = 0 then restE ss t.ver o now units
      else crE ss l (lastR t.r o.roots) o.v o.u o.ts o.sigs)
    else allE ss l t o.roots o.rsigs)
  else trE t

/-! ### What they give -/

theorem sigE_many {l : List S2} (h : 360 < l.length) : sigE l = 2 := by unfold sigE; rw [if_pos h]
theorem sigE_bad {l : List S2} {k : Nat} (h : l.length ≤ 360) (hk : k < l.length) (h2 : sOK l[k] = false) : sigE l = 3 := by
  unfold sigE
  rw [if_neg (by omega), if_neg]
  intro ha
  have := List.all_eq_true.1 ha l[k] (List.getElem_mem hk)
  rw [h2] at this
  cases this
theorem sigE_ok {l : List S2} (h : l.length ≤ 360) (h2 : l.all sOK = true) : sigE l = 0 := by
  unfold sigE; rw [if_neg (by omega), if_pos h2]
theorem sigE_or (l : List S2) : sigE l = 0 ∨ sigE l = 2 ∨ sigE l = 3 := by
  unfold sigE; split <;> (try split) <;> simp

theorem sOK_step {l : List S2} {k : Nat} (hk : k < l.length) (h : (l.take k).all sOK = true) (hv : sOK l[k] = true) : (l.take (k + 1)).all sOK = true := by
  rw [List.take_succ_eq_append_getElem hk, List.all_append, h]
  simp [hv]

theorem cntN_step {l : List S2} {ks sigs : List Int} {name : Int} {k : Nat} (hk : k < ks.length) :
    cntN l (ks.take (k + 1)) sigs name = cntN l (ks.take k) sigs name + if hit l sigs name ks[k] then 1 else 0 := by
  unfold cntN
  rw [List.take_succ_eq_append_getElem hk, List.countP_append]
  simp [List.countP_cons]
theorem cntN_le (l : List S2) (ks sigs : List Int) (name : Int) : cntN l ks sigs name ≤ ks.length := List.countP_le_length

end Go.Proofs.YtppmdfndcjgibacGreatDoor

namespace Go.Proofs.YtppmdfndcjgibacGreatDoor
open Go.RowKit

/-- The slice at 'a' of length 'l.length' holds the signatures 'l'. -/
def IsSigs (w : World) (a : Option Addr) (l : List S2) : Prop :=
  l = [] ∨ ∃ b off, a = some ⟨b, off, none⟩ ∧ ∀ i s, l[i]? = some s →
    w.cell? ⟨b, off + i * 2, none⟩ = some (.int .i64 s.1) ∧ w.cell? ⟨b, off + i * 2 + 1, none⟩ = some (.int .i64 s.2)

theorem IsSigs.below {w w' : World} {a : Option Addr} {l : List S2} (h : IsSigs w a l) (hb : Below w.heap.size w w') : IsSigs w' a l := by
  rcases h with h | ⟨b, off, rfl, hc⟩
  · exact .inl h
  · refine .inr ⟨b, off, rfl, fun i s hi => ?_⟩
    obtain ⟨h1, h2⟩ := hc i s hi
    exact ⟨by rw [hb.cell (cell_lt h1)]; exact h1, by rw [hb.cell (cell_lt h2)]; exact h2⟩

/-- .. the lists 'ls'. -/
def IsLists (w : World) (a : Option Addr) (ls : List (List Int)) : Prop :=
  ls = [] ∨ ∃ b off, a = some ⟨b, off, none⟩ ∧ ∀ i r, ls[i]? = some r →
    ∃ ai ci, w.cell? ⟨b, off + i, none⟩ = some (Value.slice ai r.length ci) ∧ IsInts w ai r ∧ r.length ≤ ci ∧ ci ≤ maxLen

theorem IsLists.below {w w' : World} {a : Option Addr} {ls : List (List Int)} (h : IsLists w a ls) (hb : Below w.heap.size w w') : IsLists w' a ls := by
  rcases h with h | ⟨b, off, rfl, hc⟩
  · exact .inl h
  · refine .inr ⟨b, off, rfl, fun i r hi => ?_⟩
    obtain ⟨ai, ci, h1, h2, h3⟩ := hc i r hi
    exact ⟨ai, ci, by rw [hb.cell (cell_lt h1)]; exact h1, h2.below hb, h3⟩

/-- .. the roots 'rs'. -/
def IsRoots (w : World) (a : Option Addr) (rs : List Rt) : Prop :=
  rs = [] ∨ ∃ b off, a = some ⟨b, off, none⟩ ∧ ∀ i r, rs[i]? = some r →
    ∃ ai ci, w.cell? ⟨b, off + i * 3, none⟩ = some (.int .i64 r.v) ∧ w.cell? ⟨b, off + i * 3 + 1, none⟩ = some (Value.slice ai r.ks.length ci) ∧ w.cell? ⟨b, off + i * 3 + 2, none⟩ = some (.int .i64 r.t) ∧ IsInts w ai r.ks ∧ r.ks.length ≤ ci ∧ ci ≤ maxLen

theorem IsRoots.below {w w' : World} {a : Option Addr} {rs : List Rt} (h : IsRoots w a rs) (hb : Below w.heap.size w w') : IsRoots w' a rs := by
  rcases h with h | ⟨b, off, rfl, hc⟩
  · exact .inl h
  · refine .inr ⟨b, off, rfl, fun i r hi => ?_⟩
    obtain ⟨ai, ci, h1, h2, h3, h4, h5⟩ := hc i r hi
    exact ⟨ai, ci, by rw [hb.cell (cell_lt h1)]; exact h1, by rw [hb.cell (cell_lt h2)]; exact h2, by rw [hb.cell (cell_lt h3)]; exact h3, h4.below hb, h5⟩

def trv (v : Int) (a : Option Addr) (n c : Nat) (t ver : Int) : Value := .agg #[.int .i64 v, .slice a n c, .int .i64 t, .int .i64 ver]
def sv (s : S2) : Value := .agg #[.int .i64 s.1, .int .i64 s.2]

/-! ### With lengths -/
structure BI (w : World) (a : Option Addr) (n : Nat) (xs : List Int) : Prop where
  at_ : IsInts w a xs
  len : xs.length = n
  max : n ≤ maxLen
structure BG (w : World) (a : Option Addr) (n : Nat) (l : List S2) : Prop where
  at_ : IsSigs w a l
  len : l.length = n
  max : n ≤ maxLen
structure BB (w : World) (a : Option Addr) (n c : Nat) (ss : List ByteArray) : Prop where
  at_ : IsStrs w a ss
  len : ss.length = n
  cap : n ≤ c
  max : n ≤ maxLen
  short : ∀ s ∈ ss, s.size ≤ maxLen
structure BT (w : World) (a : Option Addr) (n : Nat) (ts : List T3) : Prop where
  at_ : IsTgts w a ts
  len : ts.length = n
  max : n ≤ maxLen
structure BR (w : World) (a : Option Addr) (n : Nat) (rs : List Rt) : Prop where
  at_ : IsRoots w a rs
  len : rs.length = n
  max : n ≤ maxLen
structure BL (w : World) (a : Option Addr) (n : Nat) (ls : List (List Int)) : Prop where
  at_ : IsLists w a ls
  len : ls.length = n
  max : n ≤ maxLen

theorem BI.below {w w' : World} {a : Option Addr} {n : Nat} {xs : List Int} (h : BI w a n xs) (hb : Below w.heap.size w w') : BI w' a n xs := ⟨h.at_.below hb, h.len, h.max⟩
theorem BG.below {w w' : World} {a : Option Addr} {n : Nat} {l : List S2} (h : BG w a n l) (hb : Below w.heap.size w w') : BG w' a n l := ⟨h.at_.below hb, h.len, h.max⟩
theorem BB.below {w w' : World} {a : Option Addr} {n c : Nat} {ss : List ByteArray} (h : BB w a n c ss) (hb : Below w.heap.size w w') : BB w' a n c ss := ⟨h.at_.below hb, h.len, h.cap, h.max, h.short⟩
theorem BT.below {w w' : World} {a : Option Addr} {n : Nat} {ts : List T3} (h : BT w a n ts) (hb : Below w.heap.size w w') : BT w' a n ts := ⟨h.at_.below hb, h.len, h.max⟩
theorem BR.below {w w' : World} {a : Option Addr} {n : Nat} {rs : List Rt} (h : BR w a n rs) (hb : Below w.heap.size w w') : BR w' a n rs := ⟨h.at_.below hb, h.len, h.max⟩
theorem BL.below {w w' : World} {a : Option Addr} {n : Nat} {ls : List (List Int)} (h : BL w a n ls) (hb : Below w.heap.size w w') : BL w' a n ls := ⟨h.at_.below hb, h.len, h.max⟩

end Go.Proofs.YtppmdfndcjgibacGreatDoor

namespace Go.Proofs.YtppmdfndcjgibacGreatDoor
open Go.RowKit

theorem turns_of {w w' : World} (h : Below w.heap.size w w') (B : Nat) : w.grownBy w' (some B) := ⟨h.os, h.tape, h.output, h.size, fun k hk _ => h.block k hk⟩
theorem turns_alloc (w : World) (o : Obj) (B : Nat) : w.grownBy (w.alloc o) (some B) := World.grownBy_alloc w o _
theorem turns_set {w w' : World} {B : Nat} (h : w.grownBy w' (some B)) (i : Nat) (v : Value) : w.grownBy (w'.setCell ⟨B, i, none⟩ v) (some B) :=
  h.trans ⟨rfl, rfl, rfl, by simp [World.setCell], fun k _ hne => Below.heap_setCell _ _ _ _ (fun e => hne (by rw [e]))⟩
theorem turns_below {B : Nat} {n : Nat} {a w w' : World} (h : Below n a w) (hg : w.grownBy w' (some B)) (hB : n ≤ B) (hs : n ≤ w.heap.size) : Below n a w' :=
  h.grown hg hs (fun k e => by cases e; exact hB)
/-- What doesn't lie in block B stays. -/
def Off (B : Nat) (a : Option Addr) : Prop := ∀ ad, a = some ad → ad.block ≠ B
theorem off_none (B : Nat) : Off B none := fun _ h => by cases h
theorem off_fresh {B n : Nat} {a : Option Addr} (h : FreshA n a) (hB : B < n) : Off B a := fun ad e => by have := h ad e; omega
theorem ints_turns {w w' : World} {B : Nat} {a : Option Addr} {xs : List Int} (h : IsInts w a xs) (hg : w.grownBy w' (some B)) (ho : Off B a) : IsInts w' a xs := by
  rcases h with h | ⟨b, off, rfl, hc⟩
  · exact .inl h
  · exact .inr ⟨b, off, rfl, fun i hi => hg.cell (hc i hi) (fun e => ho _ rfl (by cases e; rfl))⟩
theorem blk_turns {w w' : World} {B b : Nat} {o : Obj} (h : w.heap[b]? = some o) (hg : w.grownBy w' (some B)) (hne : b ≠ B) : w'.heap[b]? = some o := by
  rw [hg.block b (blk_lt h) (fun e => hne (by cases e; rfl))]
  exact h
theorem ints_off {w : World} {a : Option Addr} {xs : List Int} (h : IsInts w a xs) (B : Nat) (hB : w.heap.size ≤ B) : xs = [] ∨ Off B a := by
  rcases h with h | ⟨b, off, rfl, hc⟩
  · exact .inl h
  · by_cases h0 : xs = []
    · exact .inl h0
    · refine .inr fun ad e => ?_
      cases e
      have := cell_lt (hc 0 (by cases xs with | nil => exact absurd rfl h0 | cons _ _ => simp))
      show b ≠ B
      have h2 : b < w.heap.size := this
      omega

theorem uLast1 (w : World) (o1 o2 : Obj) : ((w.alloc o1).alloc o2).heap[w.heap.size + 1]? = some o2 := by
  have := heap_alloc_last (w.alloc o1) o2
  rwa [World.size_alloc] at this
theorem uLast2 (w : World) (o1 o2 o3 : Obj) : (((w.alloc o1).alloc o2).alloc o3).heap[w.heap.size + 1 + 1]? = some o3 := by
  have := heap_alloc_last ((w.alloc o1).alloc o2) o3
  rwa [World.size_alloc, World.size_alloc] at this
theorem uLast3 (w : World) (o1 o2 o3 o4 : Obj) : ((((w.alloc o1).alloc o2).alloc o3).alloc o4).heap[w.heap.size + 1 + 1 + 1]? = some o4 := by
  have := heap_alloc_last (((w.alloc o1).alloc o2).alloc o3) o4
  rwa [World.size_alloc, World.size_alloc, World.size_alloc] at this

/-- A unit's block. -/
def unO (u : Un) (a : Option Addr) (n c : Nat) : Obj := .cells #[.slice a n c, .int .i64 u.fu, .bool u.up, .int .i64 u.n, .int .i64 u.hv] 29 (0, 0)
def unv (u : Un) (a : Option Addr) (n c : Nat) : Value := .agg #[.slice a n c, .int .i64 u.fu, .bool u.up, .int .i64 u.n, .int .i64 u.hv]
/-- Block B is the unit u, its words elsewhere. -/
def OwnU (w : World) (B : Nat) (u : Un) : Prop := ∃ a n c, w.heap[B]? = some (unO u a n c) ∧ IsInts w a u.ws ∧ u.ws.length = n ∧ n ≤ c ∧ n ≤ maxLen ∧ Off B a

def msv (m : Ms) (a : Option Addr) (n c : Nat) : Value := .agg #[.int .i64 m.k, .int .i64 m.u, .int .i64 m.n, .int .i64 m.at', .int .i64 m.im, .slice a n c, .bool m.y]
def msO (m : Ms) (a : Option Addr) (n c : Nat) : Obj := .cells #[.int .i64 m.k, .int .i64 m.u, .int .i64 m.n, .int .i64 m.at', .int .i64 m.im, .slice a n c, .bool m.y] 42 (0, 0)

/-- A list of messages in memory, none of them with words. -/
def IsMsgs (w : World) (a : Option Addr) (l : List Ms) : Prop :=
  l = [] ∨ ∃ b, a = some ⟨b, 0, none⟩ ∧ ∀ i m, l[i]? = some m → m.ws = [] ∧
    w.cell? ⟨b, i * 7, none⟩ = some (.int .i64 m.k) ∧ w.cell? ⟨b, i * 7 + 1, none⟩ = some (.int .i64 m.u) ∧ w.cell? ⟨b, i * 7 + 2, none⟩ = some (.int .i64 m.n) ∧ w.cell? ⟨b, i * 7 + 3, none⟩ = some (.int .i64 m.at') ∧
    w.cell? ⟨b, i * 7 + 4, none⟩ = some (.int .i64 m.im) ∧ w.cell? ⟨b, i * 7 + 5, none⟩ = some (.slice none 0 0) ∧ w.cell? ⟨b, i * 7 + 6, none⟩ = some (.bool m.y)

theorem IsMsgs.below {w w' : World} {a : Option Addr} {l : List Ms} (h : IsMsgs w a l) (hb : Below w.heap.size w w') : IsMsgs w' a l := by
  rcases h with h | ⟨b, rfl, hc⟩
  · exact .inl h
  · refine .inr ⟨b, rfl, fun i m hi => ?_⟩
    obtain ⟨h0, h1, h2, h3, h4, h5, h6, h7⟩ := hc i m hi
    exact ⟨h0, by rw [hb.cell (cell_lt h1)]; exact h1, by rw [hb.cell (cell_lt h2)]; exact h2, by rw [hb.cell (cell_lt h3)]; exact h3, by rw [hb.cell (cell_lt h4)]; exact h4, by rw [hb.cell (cell_lt h5)]; exact h5, by rw [hb.cell (cell_lt h6)]; exact h6, by rw [hb.cell (cell_lt h7)]; exact h7⟩
theorem isMsgs_one {w : World} {b : Nat} {m : Ms} {t : TypeId} (h0 : m.ws = []) (h : w.heap[b]? = some (.cells #[.int .i64 m.k, .int .i64 m.u, .int .i64 m.n, .int .i64 m.at', .int .i64 m.im, .slice none 0 0, .bool m.y] t (0, 0))) : IsMsgs w (some ⟨b, 0, none⟩) [m] := by
  refine .inr ⟨b, rfl, fun i x hi => ?_⟩
  have hlt := (List.getElem?_eq_some_iff.1 hi).1
  simp at hlt
  subst hlt
  simp at hi
  subst hi
  exact ⟨h0, blk_cell h 0 _ rfl, blk_cell h 1 _ rfl, blk_cell h 2 _ rfl, blk_cell h 3 _ rfl, blk_cell h 4 _ rfl, blk_cell h 5 _ rfl, blk_cell h 6 _ rfl⟩

end Go.Proofs.YtppmdfndcjgibacGreatDoor
