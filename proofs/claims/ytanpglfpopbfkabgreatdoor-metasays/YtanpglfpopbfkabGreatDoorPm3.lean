/- Plain texts of package meta: 'wr', 'rootT', 'relT', 'imgT'; 'readR' (the program's way of reading a release) and 'readQ' (the other way) read just what 'relT' writes; unlike ones have unlike texts. No program in this text. -/
import Derived.Test.YtanpglfpopbfkabGreatDoorPm2
namespace Go.Proofs.YtanpglfpopbfkabGreatDoor
open Go.Lib

abbrev T3 := Int × Int × Int

def semiW : List UInt8 := [59, 32]
def relW : List UInt8 := [114, 101, 108, 101, 97, 115, 101, 32]
def untW : List UInt8 := [32, 117, 110, 116, 105, 108, 32]
def rootW : List UInt8 := [114, 111, 111, 116, 32]
def ofW : List UInt8 := [32, 111, 102, 32]
def imgW : List UInt8 := [105, 109, 97, 103, 101, 32]

/-- Numbers, a blank between two. -/
def wr (l : List Int) : List UInt8 := join (l.map itoa) [32]
def tgtT (t : T3) : List UInt8 := wr [t.1, t.2.1, t.2.2]
def headT (v u : Int) : List UInt8 := relW ++ wr [v] ++ untW ++ wr [u]
def relT (v u : Int) (ts : List T3) : List UInt8 := join (headT v u :: ts.map tgtT) semiW
def rootT (v : Int) (ks : List Int) (n : Int) : List UInt8 := rootW ++ wr [v, n] ++ ofW ++ wr ks
def imgT (w : List Int) : List UInt8 := imgW ++ wr w

def I3 (t : T3) : Prop := I64 t.1 ∧ I64 t.2.1 ∧ I64 t.2.2

/-- All of them, or none. -/
def allO {α β : Type} (f : α → Option β) : List α → Option (List β)
  | [] => some []
  | x :: r => match f x, allO f r with
    | some y, some ys => some (y :: ys)
    | _, _ => none

theorem allO_some {α β : Type} {f : α → Option β} {g : β → α} {P : β → Prop} (h : ∀ x y, f x = some y ↔ x = g y ∧ P y) : ∀ (l : List α) (ys : List β), allO f l = some ys ↔ l = ys.map g ∧ ∀ y ∈ ys, P y
  | [], ys => by
    constructor
    · intro e
      cases e
      simp
    · rintro ⟨e, _⟩
      cases ys with
      | nil => rfl
      | cons y ys => simp at e
  | x :: r, ys => by
    constructor
    · intro e
      simp only [allO] at e
      split at e
      · rename_i y zs hy hz
        cases e
        obtain ⟨rfl, p⟩ := (h _ _).1 hy
        obtain ⟨rfl, q⟩ := (allO_some h r zs).1 hz
        exact ⟨rfl, fun z hz => by
          rcases List.mem_cons.1 hz with rfl | hz
          · exact p
          · exact q z hz⟩
      · cases e
    · rintro ⟨e, p⟩
      cases ys with
      | nil => simp at e
      | cons y ys =>
        simp only [List.map_cons, List.cons.injEq] at e
        obtain ⟨rfl, rfl⟩ := e
        simp only [allO]
        rw [(h _ _).2 ⟨rfl, p y (by simp)⟩, (allO_some h _ ys).2 ⟨rfl, fun z hz => p z (by simp [hz])⟩]

theorem allO_length {α β : Type} {f : α → Option β} : ∀ {l : List α} {ys : List β}, allO f l = some ys → ys.length = l.length
  | [], ys, h => by cases h; rfl
  | x :: r, ys, h => by
    simp only [allO] at h
    split at h
    · rename_i y zs hy hz
      cases h
      simp [allO_length hz]
    · cases h

def tgtO (l : List UInt8) : Option T3 := match allO numO (split l [32]) with
  | some [a, b, c] => some (a, b, c)
  | _ => none

theorem nums_join (l : List UInt8) (ys : List Int) (hne : ys ≠ []) : allO numO (split l [32]) = some ys ↔ l = wr ys ∧ ∀ y ∈ ys, I64 y := by
  rw [allO_some (g := itoa) (P := I64) (fun x y => numO_some)]
  constructor
  · rintro ⟨h, p⟩
    refine ⟨?_, p⟩
    rw [wr, ← h, join_split]
  · rintro ⟨rfl, p⟩
    refine ⟨?_, p⟩
    unfold wr
    rw [split_join (c := 32) (t := []) rfl _ (by simpa using hne) ?_]
    intro x hx
    obtain ⟨y, _, rfl⟩ := List.mem_map.1 hx
    exact itoa_no y 32 (by decide)

theorem tgtO_some (l : List UInt8) (t : T3) : tgtO l = some t ↔ l = tgtT t ∧ I3 t := by
  obtain ⟨a, b, c⟩ := t
  have h := nums_join l [a, b, c] (by simp)
  have e : tgtO l = some (a, b, c) ↔ allO numO (split l [32]) = some [a, b, c] := by
    unfold tgtO
    constructor
    · intro h
      split at h
      · rename_i x y z hx
        cases h
        exact hx
      · cases h
    · intro h
      rw [h]
  rw [e, h]
  simp [tgtT, I3]

/-! ### What stands ahead of the targets -/

def untO (l : List UInt8) : Option (Int × Int) := if (cut l untW).2.2 = true then (match numO (cut l untW).1, numO (cut l untW).2.1 with
  | some v, some u => some (v, u)
  | _, _ => none) else none

theorem untO_some (l : List UInt8) (v u : Int) : untO l = some (v, u) ↔ l = wr [v] ++ (untW ++ wr [u]) ∧ I64 v ∧ I64 u := by
  have e1 : ∀ n : Int, wr [n] = itoa n := fun n => join_one _ _
  rw [e1, e1]
  constructor
  · intro h
    unfold untO at h
    split at h
    · rename_i hf
      split at h
      · rename_i a b ha hb
        cases h
        obtain ⟨h1, p1⟩ := numO_some.1 ha
        obtain ⟨h2, p2⟩ := numO_some.1 hb
        refine ⟨?_, p1, p2⟩
        rw [← h1, ← h2]
        exact cut_found hf
      · cases h
    · cases h
  · rintro ⟨rfl, p1, p2⟩
    unfold untO
    rw [cut_at (sep := untW) (c := 32) (t := [117, 110, 116, 105, 108, 32]) rfl (itoa_no v 32 (by decide))]
    simp [numO_itoa p1, numO_itoa p2]

def headO (l : List UInt8) : Option (Int × Int) := if hasPrefix l relW = true then untO (trimPrefix l relW) else none

theorem trim_has {l p : List UInt8} (h : hasPrefix l p = true) : l = p ++ trimPrefix l p := by
  unfold trimPrefix
  rw [if_pos h]
  have : p <+: l := List.isPrefixOf_iff_prefix.1 h
  obtain ⟨r, rfl⟩ := this
  rw [List.drop_left]
theorem trim_app (p r : List UInt8) : trimPrefix (p ++ r) p = r ∧ hasPrefix (p ++ r) p = true := by
  have h : hasPrefix (p ++ r) p = true := List.isPrefixOf_iff_prefix.2 (List.prefix_append _ _)
  exact ⟨by unfold trimPrefix; rw [if_pos h, List.drop_left], h⟩

theorem headO_some (l : List UInt8) (v u : Int) : headO l = some (v, u) ↔ l = headT v u ∧ I64 v ∧ I64 u := by
  have e : headT v u = relW ++ (wr [v] ++ (untW ++ wr [u])) := by unfold headT; simp [List.append_assoc]
  rw [e]
  constructor
  · intro h
    unfold headO at h
    split at h
    · rename_i hp
      obtain ⟨h1, p⟩ := (untO_some _ _ _).1 h
      refine ⟨?_, p⟩
      rw [← h1]
      exact trim_has hp
    · cases h
  · rintro ⟨rfl, p⟩
    unfold headO
    rw [(trim_app _ _).1, if_pos (trim_app _ _).2, untO_some]
    exact ⟨rfl, p⟩

/-! ### A release -/

def readR (s : List UInt8) : Option (Int × Int × List T3) := match split s semiW with
  | [] => none
  | h :: ps => match headO h, allO tgtO ps with
    | some (v, u), some ts => some (v, u, ts)
    | _, _ => none

def readQ (s : List UInt8) : Option (Int × Int × List T3) := if hasPrefix s relW = true then (match split (trimPrefix s relW) semiW with
  | [] => none
  | h :: ps => match untO h, allO tgtO ps with
    | some (v, u), some ts => some (v, u, ts)
    | _, _ => none) else none

def IR (v u : Int) (ts : List T3) : Prop := I64 v ∧ I64 u ∧ ∀ t ∈ ts, I3 t

theorem wr_no {c : UInt8} (hc : c = 59) (l : List Int) : c ∉ wr l := by
  subst hc
  refine join_no (by decide) _ fun x hx => ?_
  obtain ⟨y, _, rfl⟩ := List.mem_map.1 hx
  exact itoa_no_semi y

theorem headT_no (v u : Int) : (59 : UInt8) ∉ headT v u := by
  unfold headT
  simp only [List.mem_append, not_or]
  exact ⟨⟨⟨by decide, wr_no rfl _⟩, by decide⟩, wr_no rfl _⟩

theorem readR_some (s : List UInt8) (v u : Int) (ts : List T3) : readR s = some (v, u, ts) ↔ s = relT v u ts ∧ IR v u ts := by
  constructor
  · intro h
    unfold readR at h
    split at h
    · cases h
    · rename_i hd ps hs
      split at h
      · rename_i a b us h1 h2
        cases h
        obtain ⟨rfl, p1, p2⟩ := (headO_some _ _ _).1 h1
        obtain ⟨rfl, p3⟩ := (allO_some tgtO_some _ _).1 h2
        refine ⟨?_, p1, p2, p3⟩
        rw [relT, ← hs, join_split]
      · cases h
  · rintro ⟨rfl, p1, p2, p3⟩
    have hs : split (relT v u ts) semiW = headT v u :: ts.map tgtT := by
      unfold relT
      refine split_join (c := 59) (t := [32]) rfl _ (by simp) ?_
      intro x hx
      rcases List.mem_cons.1 hx with rfl | hx
      · exact headT_no v u
      · obtain ⟨y, _, rfl⟩ := List.mem_map.1 hx
        exact wr_no rfl _
    unfold readR
    rw [hs]
    simp only
    rw [(headO_some _ _ _).2 ⟨rfl, p1, p2⟩, (allO_some tgtO_some _ _).2 ⟨rfl, p3⟩]

theorem relT_eq (v u : Int) (ts : List T3) : relT v u ts = relW ++ join ((wr [v] ++ (untW ++ wr [u])) :: ts.map tgtT) semiW := by
  unfold relT headT
  rw [join_cons, join_cons]
  simp [List.append_assoc]

theorem readQ_some (s : List UInt8) (v u : Int) (ts : List T3) : readQ s = some (v, u, ts) ↔ s = relT v u ts ∧ IR v u ts := by
  constructor
  · intro h
    unfold readQ at h
    split at h
    · rename_i hp
      split at h
      · cases h
      · rename_i hd ps hs
        split at h
        · rename_i a b us h1 h2
          cases h
          obtain ⟨rfl, p1, p2⟩ := (untO_some _ _ _).1 h1
          obtain ⟨rfl, p3⟩ := (allO_some tgtO_some _ _).1 h2
          refine ⟨?_, p1, p2, p3⟩
          rw [relT_eq, ← hs, join_split]
          exact trim_has hp
        · cases h
    · cases h
  · rintro ⟨rfl, p1, p2, p3⟩
    have hs : split (join ((wr [v] ++ (untW ++ wr [u])) :: ts.map tgtT) semiW) semiW = (wr [v] ++ (untW ++ wr [u])) :: ts.map tgtT := by
      refine split_join (c := 59) (t := [32]) rfl _ (by simp) ?_
      intro x hx
      rcases List.mem_cons.1 hx with rfl | hx
      · simp only [List.mem_append, not_or]
        exact ⟨wr_no rfl _, by decide, wr_no rfl _⟩
      · obtain ⟨y, _, rfl⟩ := List.mem_map.1 hx
        exact wr_no rfl _
    unfold readQ
    rw [relT_eq, (trim_app _ _).1, if_pos (trim_app _ _).2, hs]
    simp only
    rw [(untO_some _ _ _).2 ⟨rfl, p1, p2⟩, (allO_some tgtO_some _ _).2 ⟨rfl, p3⟩]

theorem readQ_readR (s : List UInt8) : readQ s = readR s := by
  cases h : readR s with
  | none =>
    cases h' : readQ s with
    | none => rfl
    | some x =>
      obtain ⟨v, u, ts⟩ := x
      rw [readQ_some, ← readR_some, h] at h'
      cases h'
  | some x =>
    obtain ⟨v, u, ts⟩ := x
    rw [readR_some, ← readQ_some] at h
    exact h

/-! ### Unlike ones -/

theorem join_len (k m : Nat) : ∀ (xs : List (List UInt8)) (sep : List UInt8), sep.length ≤ m → (∀ x ∈ xs, x.length ≤ k) → (join xs sep).length ≤ xs.length * (k + m)
  | [], _, _, _ => by simp [join_nil]
  | [x], _, _, h => by rw [join_one]; have := h x (by simp); simp; omega
  | x :: y :: r, sep, hm, h => by
    rw [join_cons2]
    have := join_len k m (y :: r) sep hm (fun z hz => h z (by simp at hz ⊢; exact .inr hz))
    have := h x (by simp)
    simp only [List.length_append, List.length_cons] at *
    rw [Nat.add_mul (r.length + 1) 1]
    omega

theorem wr_len (k : Nat) (l : List Int) (h : ∀ x ∈ l, (itoa x).length ≤ k) : (wr l).length ≤ l.length * (k + 1) := by
  have := join_len k 1 (l.map itoa) [32] (by simp) (fun x hx => by obtain ⟨y, hy, rfl⟩ := List.mem_map.1 hx; exact h y hy)
  simpa [wr] using this

end Go.Proofs.YtanpglfpopbfkabGreatDoor
