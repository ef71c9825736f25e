/- Plain facts: what is taken is newer, and signed; without signatures it isn't taken, nor twice. -/
import Derived.Test.YtanpglfpopbfkabDoorTTak
namespace Go.Proofs.YtanpglfpopbfkabDoor
open Go.RowKit

theorem takeE_ok {ss : List ByteArray} {l : List S2} {t : Tr} {o : Of} {now units : Int} (h : takeE ss l t o now units = 0) :
    trE t = 0 ∧ allE ss l t o.roots o.rsigs = 0 ∧ crE ss l (lastR t.r o.roots) o.v o.u o.ts o.sigs = 0 ∧ restE ss t.ver o now units = 0 := by
  unfold takeE at h
  split at h
  · rename_i h1
    split at h
    · rename_i h2
      split at h
      · rename_i h3
        exact ⟨h1, h2, h3, h⟩
      · rename_i h3
        exact absurd h h3
    · rename_i h2
      exact absurd h h2
  · rename_i h1
    exact absurd h h1

theorem restE_ok {ss : List ByteArray} {ver : Int} {o : Of} {now units : Int} (h : restE ss ver o now units = 0) :
    ver < o.v ∧ now ≤ o.u ∧ (o.ts.length : Int) = units ∧ (o.imgs.length : Int) = units ∧ meantB ss o.ts o.imgs = true := by
  unfold restE at h
  split at h
  · cases h
  rename_i h1
  split at h
  · cases h
  rename_i h2
  split at h
  · cases h
  rename_i h3
  split at h
  · cases h
  rename_i h4
  split at h
  · rename_i h5
    exact ⟨by omega, by omega, by simpa using h3, by simpa using h4, h5⟩
  · cases h

theorem turnE_v {ss : List ByteArray} {l : List S2} {t : Tr} {x : Rt} {sigs : List Int} (h : turnE ss l t x sigs = 0) : x.v = t.r.v + 1 := by
  unfold turnE at h
  split at h
  · split at h
    · split at h
      · split at h
        · assumption
        · cases h
      · rename_i h3; exact absurd h h3
    · rename_i h2; exact absurd h h2
  · rename_i h1; exact absurd h h1

theorem turnsE_v {ss : List ByteArray} {l : List S2} {rs : List Rt} : ∀ {t : Tr} {sgs : List (List Int)}, turnsE ss l t rs sgs = 0 → sgs.length = rs.length → (lastR t.r rs).v = t.r.v + rs.length := by
  induction rs with
  | nil => intro t sgs _ _; simp [lastR]
  | cons r rs ih =>
    intro t sgs h hl
    cases sgs with
    | nil => simp at hl
    | cons s sgs =>
      rw [turnsE] at h
      split at h
      · rename_i h1
        have h2 := ih h (by simpa using hl)
        have h3 := turnE_v h1
        simp only [lastR, List.length_cons]
        simp only at h2
        rw [h2, h3]
        omega
      · rename_i h1
        exact absurd h h1

theorem allE_ok {ss : List ByteArray} {l : List S2} {t : Tr} {rs : List Rt} {sgs : List (List Int)} (h : allE ss l t rs sgs = 0) : rs.length ≤ 6 ∧ sgs.length = rs.length ∧ turnsE ss l t rs sgs = 0 := by
  unfold allE at h
  split at h
  · cases h
  · rename_i h1
    split at h
    · rename_i h2
      exact ⟨by omega, h2, h⟩
    · cases h

theorem csE_name {l : List S2} {r : Rt} {sigs : List Int} {name : Int} (h : csE l r sigs name = 0) : name ≠ 0 := by
  obtain ⟨h1, h2⟩ := csE_ok h
  obtain ⟨h3, h4, h5⟩ := cntE_ok h1
  have h6 := (rootE_ok h4).2.2.1
  have h7 : 0 < cntN l r.ks sigs name := by omega
  unfold cntN at h7
  rw [List.countP_pos_iff] at h7
  obtain ⟨k, _, hk⟩ := h7
  unfold hit has at hk
  simp only [Bool.and_eq_true, decide_eq_true_eq] at hk
  have h8 : l.all sOK = true := by
    unfold sigE at h3
    split at h3
    · cases h3
    · split at h3
      · assumption
      · cases h3
  have h9 := List.all_eq_true.1 h8 _ hk.2
  unfold sOK at h9
  simp only [Bool.and_eq_true, inR_iff] at h9
  omega

theorem allE_none (ss : List ByteArray) (l : List S2) (t : Tr) : allE ss l t [] [] = 0 := by
  rw [allE_3 (by decide) rfl]
  rfl

/-- Without roots, by the root that counts then. -/
def bare (o : Of) : Of := ⟨[], [], o.v, o.u, o.ts, o.sigs, o.imgs⟩
def unsigned (o : Of) : Of := ⟨[], [], o.v, o.u, o.ts, [], o.imgs⟩

theorem last_ok {ss : List ByteArray} {l : List S2} {t : Tr} {o : Of} {now units : Int} (h : takeE ss l t o now units = 0) {ver : Int} (hv : 0 ≤ ver ∧ ver ≤ 1000) : trE ⟨lastR t.r o.roots, ver⟩ = 0 := by
  have h3 := (crE_ok (takeE_ok h).2.2.1).2.2
  have h4 := (cntE_ok (csE_ok h3).1).2.1
  rw [trE_go (inR_t hv.1 hv.2)]
  exact h4

theorem rises_1 {ss : List ByteArray} {l : List S2} {t : Tr} {o : Of} {now units : Int} (h : takeE ss l t o now units = 0) : takeE ss l ⟨lastR t.r o.roots, o.v⟩ (bare o) now units = 10 := by
  have h3 := (takeE_ok h).2.2.1
  have hv := (relE_ok (crE_ok h3).1).1
  rw [takeE_4 (last_ok h ⟨by omega, by omega⟩) (allE_none _ _ _) h3]
  exact restE_1 (Int.le_refl _)
theorem rises_2 {ss : List ByteArray} {l : List S2} {t : Tr} {o : Of} {now units : Int} (h : takeE ss l t o now units = 0) : takeE ss l ⟨lastR t.r o.roots, t.ver⟩ (bare o) now units = 0 := by
  obtain ⟨h1, _, h3, h4⟩ := takeE_ok h
  rw [takeE_4 (last_ok h (trE_ok h1).1) (allE_none _ _ _) h3]
  exact h4
theorem rises_3 {ss : List ByteArray} {l : List S2} {t : Tr} {o : Of} {now units : Int} (h : takeE ss l t o now units = 0) : takeE ss l ⟨lastR t.r o.roots, t.ver⟩ (unsigned o) now units = 9 := by
  obtain ⟨h1, _, h3, h4⟩ := takeE_ok h
  obtain ⟨g1, g2, g3⟩ := crE_ok h3
  obtain ⟨g4, g5, g6⟩ := cntE_ok (csE_ok g3).1
  have h9 : crE ss l (lastR t.r o.roots) o.v o.u o.ts [] = 9 := by
    rw [crE_3 g1 g2]
    refine csE_2 (cntE_0 g4 g5 (by simp)) ?_
    have := (rootE_ok g5).2.2.1
    have h0 : cntN l (lastR t.r o.roots).ks [] (nameN ss (bs (relT o.v o.u o.ts))) = 0 := by
      unfold cntN
      rw [List.countP_eq_zero]
      intro k _
      simp [hit, has]
    rw [h0]
    exact Int.lt_of_lt_of_le (by decide) this
  rw [takeE_3 (last_ok h (trE_ok h1).1) (allE_none _ _ _) (by show crE ss l (lastR t.r o.roots) o.v o.u o.ts [] ≠ 0; rw [h9]; decide)]
  exact h9

/-! ### Are two alike? -/
def sameT (x y : Tr) : Bool := decide (x.ver = y.ver) && (decide (x.r.v = y.r.v) && (decide (x.r.t = y.r.t) && eqL x.r.ks y.r.ks))

end Go.Proofs.YtanpglfpopbfkabDoor
