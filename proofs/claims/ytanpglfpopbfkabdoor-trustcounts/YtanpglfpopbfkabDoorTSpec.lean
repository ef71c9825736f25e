/- What package trust says, as plain functions: 'sigE', 'trE', 'cntE', 'cntN', 'csE', 'turnE', 'allE', 'crE', 'meantB', 'takeE', 'takeT'. No program in this text. -/
import Derived.Test.YtanpglfpopbfkabDoorMNam
namespace Go.Proofs.YtanpglfpopbfkabDoor
open Go.RowKit

abbrev S2 := Int × Int
/-- A root; what is trusted; an offer. -/
structure Rt where
  v : Int
  ks : List Int
  t : Int
structure Tr where
  r : Rt
  ver : Int
structure Of where
  roots : List Rt
  rsigs : List (List Int)
  v : Int
  u : Int
  ts : List T3
  sigs : List Int
  imgs : List (List Int)

def Rt.e (r : Rt) : Int := rootE r.v r.ks r.t
def Rt.tx (r : Rt) : List UInt8 := rootT r.v r.ks r.t

def sOK (s : S2) : Bool := inR s.1 1 50 && inR s.2 1 60
def sigE (l : List S2) : Int := if 360 < l.length then 2 else if l.all sOK then 0 else 3
def trE (t : Tr) : Int := if inR t.ver 0 1000 then t.r.e else 3
/-- Is it among them? -/
def has {α : Type} [DecidableEq α] (xs : List α) (x : α) : Bool := decide (x ∈ xs)
def hit (l : List S2) (sigs : List Int) (name k : Int) : Bool := has sigs k && has l (k, name)
def cntN (l : List S2) (ks sigs : List Int) (name : Int) : Nat := ks.countP (hit l sigs name)
def cntE (l : List S2) (r : Rt) (sigs : List Int) : Int :=
  if sigE l = 0 then (if r.e = 0 then (if 50 < sigs.length then 2 else 0) else r.e) else sigE l
def cntV (l : List S2) (r : Rt) (sigs : List Int) (name : Int) : Int := if cntE l r sigs = 0 then (cntN l r.ks sigs name : Int) else 0
def csE (l : List S2) (r : Rt) (sigs : List Int) (name : Int) : Int :=
  if cntE l r sigs = 0 then (if (cntN l r.ks sigs name : Int) < r.t then 9 else 0) else cntE l r sigs

def turnE (ss : List ByteArray) (l : List S2) (t : Tr) (x : Rt) (sigs : List Int) : Int :=
  if trE t = 0 then
    (if x.e = 0 then
      (if bookE ss = 0 then
        (if x.v = t.r.v + 1 then
          (if csE l t.r sigs (nameN ss (bs x.tx)) = 0 then csE l x sigs (nameN ss (bs x.tx)) else csE l t.r sigs (nameN ss (bs x.tx)))
        else 10)
      else bookE ss)
    else x.e)
  else trE t

/-- Root by root. -/
def turnsE (ss : List ByteArray) (l : List S2) (t : Tr) : List Rt → List (List Int) → Int
  | r :: rs, s :: sgs => if turnE ss l t r s = 0 then turnsE ss l ⟨r, t.ver⟩ rs sgs else turnE ss l t r s
  | _, _ => 0
def lastR (r : Rt) : List Rt → Rt
  | [] => r
  | x :: rs => lastR x rs
def allE (ss : List ByteArray) (l : List S2) (t : Tr) (rs : List Rt) (sgs : List (List Int)) : Int :=
  if 6 < rs.length then 2 else if sgs.length = rs.length then turnsE ss l t rs sgs else 2

def crE (ss : List ByteArray) (l : List S2) (by_ : Rt) (v u : Int) (ts : List T3) (sigs : List Int) : Int :=
  if relE v u ts = 0 then (if bookE ss = 0 then csE l by_ sigs (nameN ss (bs (relT v u ts))) else bookE ss) else relE v u ts

def meant1 (ss : List ByteArray) (t : T3) (w : List Int) : Bool := decide (inE ss w = 0) && (decide (inN ss w = t.2.1) && decide ((w.length : Int) = t.2.2))
def meantB (ss : List ByteArray) : List T3 → List (List Int) → Bool
  | t :: ts, w :: ws => meant1 ss t w && meantB ss ts ws
  | _, _ => true

/-- What Take asks of the release, once it is signed. -/
def restE (ss : List ByteArray) (ver : Int) (o : Of) (now units : Int) : Int :=
  if o.v ≤ ver then 10 else if o.u < now then 11
  else if (o.ts.length : Int) ≠ units then 4 else if (o.imgs.length : Int) ≠ units then 4
  else if meantB ss o.ts o.imgs then 0 else 5
def takeE (ss : List ByteArray) (l : List S2) (t : Tr) (o : Of) (now units : Int) : Int :=
  if trE t = 0 then
    (if allE ss l t o.roots o.rsigs = 0 then
      (if crE ss l (lastR t.r o.roots) o.v o.u o.ts o.sigs = 0 then restE ss t.ver o now units
      else crE ss l (lastR t.r o.roots) o.v o.u o.ts o.sigs)
    else allE ss l t o.roots o.rsigs)
  else trE t

/-! ### What they give -/

theorem sigE_many {l : List S2} (h : 360 < l.length) : sigE l = 2 := by unfold sigE; rw [if_pos h]
theorem sigE_bad {l : List S2} {k : Nat} (h : l.length ≤ 360) (hk : k < l.length) (h2 : sOK l[k] = false) : sigE l = 3 := by
  unfold sigE
  rw [if_neg (by omega), if_neg]
  intro ha
  have := List.all_eq_true.1 ha l[k] (List.getElem_mem hk)
  rw [h2] at this
  cases this
theorem sigE_ok {l : List S2} (h : l.length ≤ 360) (h2 : l.all sOK = true) : sigE l = 0 := by
  unfold sigE; rw [if_neg (by omega), if_pos h2]
theorem sigE_or (l : List S2) : sigE l = 0 ∨ sigE l = 2 ∨ sigE l = 3 := by
  unfold sigE; split <;> (try split) <;> simp

theorem sOK_step {l : List S2} {k : Nat} (hk : k < l.length) (h : (l.take k).all sOK = true) (hv : sOK l[k] = true) : (l.take (k + 1)).all sOK = true := by
  rw [List.take_succ_eq_append_getElem hk, List.all_append, h]
  simp [hv]

theorem cntN_step {l : List S2} {ks sigs : List Int} {name : Int} {k : Nat} (hk : k < ks.length) :
    cntN l (ks.take (k + 1)) sigs name = cntN l (ks.take k) sigs name + if hit l sigs name ks[k] then 1 else 0 := by
  unfold cntN
  rw [List.take_succ_eq_append_getElem hk, List.countP_append]
  simp [List.countP_cons]
theorem cntN_le (l : List S2) (ks sigs : List Int) (name : Int) : cntN l ks sigs name ≤ ks.length := List.countP_le_length

end Go.Proofs.YtanpglfpopbfkabDoor
