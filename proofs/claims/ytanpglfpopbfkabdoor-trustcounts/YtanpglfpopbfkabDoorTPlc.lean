/- Plain facts of TrustCounts: how many count, in another order, of more keys, with one more signed. -/
import Derived.Test.YtanpglfpopbfkabDoorTCnt
namespace Go.Proofs.YtanpglfpopbfkabDoor
open Go.RowKit

theorem has_iff {α : Type} [DecidableEq α] {xs : List α} {x : α} : has xs x = true ↔ x ∈ xs := by unfold has; simp
theorem has_rev {α : Type} [DecidableEq α] (xs : List α) (x : α) : has xs.reverse x = has xs x := by unfold has; simp
theorem hit_iff {l : List S2} {sigs : List Int} {name k : Int} : hit l sigs name k = true ↔ k ∈ sigs ∧ (k, name) ∈ l := by
  unfold hit
  rw [Bool.and_eq_true, has_iff, has_iff]

theorem cntN_nil (l : List S2) (ks : List Int) (name : Int) : cntN l ks [] name = 0 := by
  unfold cntN
  rw [List.countP_eq_zero]
  intro a _ h
  rw [hit_iff] at h
  cases h.1
/-- The same things, in whatever order. -/
def Alike {α : Type} (xs ys : List α) : Prop := ys.length = xs.length ∧ ∀ x, x ∈ ys ↔ x ∈ xs
theorem Alike.refl {α : Type} (xs : List α) : Alike xs xs := ⟨rfl, fun _ => Iff.rfl⟩
theorem Alike.trans {α : Type} {xs ys zs : List α} (h : Alike xs ys) (k : Alike ys zs) : Alike xs zs := ⟨k.1.trans h.1, fun x => (k.2 x).trans (h.2 x)⟩
theorem cntN_alike {l l2 : List S2} {sigs s2 : List Int} (h : Alike l l2) (k : Alike sigs s2) (ks : List Int) (name : Int) : cntN l2 ks s2 name = cntN l ks sigs name := by
  unfold cntN
  refine List.countP_congr fun a _ => ?_
  rw [hit_iff, hit_iff, h.2, k.2]
theorem sigE_alike {l l2 : List S2} (h : Alike l l2) : sigE l2 = sigE l := by
  unfold sigE
  rw [h.1]
  have : l2.all sOK = l.all sOK := by
    rw [Bool.eq_iff_iff, List.all_eq_true, List.all_eq_true]
    exact ⟨fun g x hx => g x ((h.2 x).2 hx), fun g x hx => g x ((h.2 x).1 hx)⟩
  rw [this]
theorem cntE_alike {l l2 : List S2} {sigs s2 : List Int} (h : Alike l l2) (k : Alike sigs s2) (r : Rt) : cntE l2 r s2 = cntE l r sigs := by unfold cntE; rw [sigE_alike h, k.1]
theorem swap_alike {α : Type} (ys : List α) (i j : Nat) (hi : i < ys.length) (hj : j < ys.length) : Alike ys ((ys.set i ys[j]).set j ys[i]) := by
  refine ⟨by simp, fun x => ?_⟩
  have g : ∀ p (h : p < ((ys.set i ys[j]).set j ys[i]).length), ((ys.set i ys[j]).set j ys[i])[p] = if p = j then ys[i] else if p = i then ys[j] else ys[p]'(by simpa using h) := by
    intro p h
    rw [List.getElem_set]
    by_cases e : j = p
    · rw [if_pos e, if_pos e.symm]
    · rw [if_neg e, if_neg (fun e' => e e'.symm), List.getElem_set]
      by_cases e2 : i = p
      · rw [if_pos e2, if_pos e2.symm]
      · rw [if_neg e2, if_neg (fun e' => e2 e'.symm)]
  rw [List.mem_iff_getElem, List.mem_iff_getElem]
  constructor
  · rintro ⟨p, h, rfl⟩
    rw [g p h]
    split
    · exact ⟨i, hi, rfl⟩
    · split
      · exact ⟨j, hj, rfl⟩
      · exact ⟨p, by simpa using h, rfl⟩
  · rintro ⟨p, h, rfl⟩
    by_cases e : p = i
    · subst e
      exact ⟨j, by simpa using hj, by rw [g]; simp⟩
    · by_cases e2 : p = j
      · subst e2
        refine ⟨i, by simpa using hi, ?_⟩
        rw [g]
        split
        · rename_i e3; simp only [e3]
        · simp
      · exact ⟨p, by simpa using h, by rw [g, if_neg e2, if_neg e]⟩
theorem cntE_nil {l : List S2} {r : Rt} {sigs : List Int} (h : cntE l r sigs = 0) : cntE l r [] = 0 := by
  unfold cntE at h ⊢
  split at h
  · rename_i h1
    split at h
    · rename_i h2
      rw [if_pos h1, if_pos h2]
      simp
    · rename_i h2; exact absurd h h2
  · rename_i h1; exact absurd h h1
theorem cntN_more (l : List S2) (ks sigs more : List Int) (name : Int) : cntN l ks sigs name ≤ cntN l ks (sigs ++ more) name := by
  unfold cntN
  refine List.countP_mono_left fun a _ h => ?_
  rw [hit_iff] at h ⊢
  exact ⟨List.mem_append_left _ h.1, h.2⟩
theorem cntE_more {l : List S2} {r : Rt} {sigs more : List Int} (h : cntE l r sigs = 0) : cntE l r (sigs ++ more) = 0 ∨ cntE l r (sigs ++ more) = 2 := by
  unfold cntE at h ⊢
  split at h
  · rename_i h1
    split at h
    · rename_i h2
      rw [if_pos h1, if_pos h2]
      split
      · exact .inr rfl
      · exact .inl rfl
    · rename_i h2; exact absurd h h2
  · rename_i h1; exact absurd h h1

theorem keysE_rise {ks : List Int} : ∀ {a : Int}, keysE a ks = 0 → (∀ k ∈ ks, a < k) ∧ ks.Nodup := by
  induction ks with
  | nil => intro a _; exact ⟨fun k hk => absurd hk (List.not_mem_nil), List.nodup_nil⟩
  | cons x r ih =>
    intro a h
    unfold keysE at h
    split at h
    · split at h
      · cases h
      · rename_i _ h2
        obtain ⟨i1, i2⟩ := ih h
        refine ⟨fun k hk => ?_, ?_⟩
        · rcases List.mem_cons.1 hk with rfl | hk
          · omega
          · have := i1 k hk; omega
        · refine List.nodup_cons.2 ⟨fun hm => ?_, i2⟩
          have := i1 x hm
          omega
    · cases h

theorem countP_or {α : Type} (p q : α → Bool) (l : List α) : l.countP (fun a => p a || q a) ≤ l.countP p + l.countP q := by
  induction l with
  | nil => simp
  | cons a r ih =>
    simp only [List.countP_cons]
    cases p a <;> cases q a <;> simp <;> omega

theorem cntN_extra_lo (l : List S2) (x : S2) (ks sigs : List Int) (name : Int) : cntN l ks sigs name ≤ cntN (l ++ [x]) ks sigs name := by
  unfold cntN
  refine List.countP_mono_left fun a _ h => ?_
  rw [hit_iff] at h ⊢
  exact ⟨h.1, List.mem_append_left _ h.2⟩
theorem cntN_extra_hi {ks : List Int} (hk : keysE 0 ks = 0) (l : List S2) (x : S2) (sigs : List Int) (name : Int) : cntN (l ++ [x]) ks sigs name ≤ cntN l ks sigs name + 1 := by
  unfold cntN
  have h1 : ks.countP (hit (l ++ [x]) sigs name) ≤ ks.countP (fun a => hit l sigs name a || (a == x.1)) := by
    refine List.countP_mono_left fun a _ h => ?_
    rw [hit_iff] at h
    rw [Bool.or_eq_true, hit_iff]
    rcases List.mem_append.1 h.2 with h2 | h2
    · exact .inl ⟨h.1, h2⟩
    · refine .inr ?_
      have : (a, name) = x := by simpa using h2
      rw [← this]
      simp
  have h2 := countP_or (hit l sigs name) (fun a => a == x.1) ks
  have h3 : ks.countP (fun a => a == x.1) ≤ 1 := List.nodup_iff_count.1 (keysE_rise hk).2 x.1
  omega
theorem cntE_root {l : List S2} {r : Rt} {sigs : List Int} (h : cntE l r sigs = 0) : sigE l = 0 ∧ keysE 0 r.ks = 0 ∧ r.ks.length ≤ 6 ∧ sigs.length ≤ 50 ∧ l.length ≤ 360 := by
  unfold cntE at h
  split at h
  · rename_i h1
    split at h
    · rename_i h2
      split at h
      · cases h
      · rename_i h3
        obtain ⟨_, h4, _, _, h5⟩ := rootE_ok h2
        refine ⟨h1, h5, h4.2, by omega, ?_⟩
        unfold sigE at h1
        split at h1
        · cases h1
        · omega
    · rename_i h2; exact absurd h h2
  · rename_i h1; exact absurd h h1

end Go.Proofs.YtanpglfpopbfkabDoor
