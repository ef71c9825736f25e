/- The contract of slices.Clone on lists of records. -/
import Derived.Test.YtanpglfpopbfkaaRecs
namespace Go.Proofs.Ytanpglfpopbfkaa
open Go.RowKit
attribute [local go_sem ↓] Go.wp_at_zero Go.wp_at_succ

/-- A row of one's own that holds these records, whose words lie in the old world. -/
def RowRecs (w0 w : World) (v : Value) (rs : List (List Int)) : Prop :=
  (∃ vs : List Value, w.ownsRow w0.heap.size 43 1 v rs.length vs ∧ ∀ (i : Nat) (r : List Int), rs[i]? = some r → ∃ ai ci, vs[i]? = some (Value.slice ai r.length ci) ∧ IsInts w0 ai r ∧ r.length ≤ ci ∧ ci ≤ maxLen) ∧ Below w0.heap.size w0 w

set_option maxRecDepth 100000 in
theorem RowRecs.isRecs {w0 w : World} {v : Value} {rs : List (List Int)} (h : RowRecs w0 w v rs) : ∃ a c, v = .slice a rs.length c ∧ rs.length ≤ c ∧ c ≤ maxLen ∧ IsRecs w a rs := by
  obtain ⟨⟨vs, hown, hr⟩, hb⟩ := h
  obtain ⟨_, ⟨hv, hn⟩ | ⟨g, cap, cur, hv, hg, hh, hc, hm, _, ht⟩⟩ := hown
  · exact ⟨none, 0, by rw [hv, hn], by omega, by unfold maxLen; omega, .inl (List.eq_nil_of_length_eq_zero hn)⟩
  · refine ⟨some ⟨g, 0, none⟩, cap, hv, hc, hm, .inr ⟨g, 0, rfl, fun i r hi => ?_⟩⟩
    obtain ⟨ai, ci, h1, h2, h3, h4⟩ := hr i r hi
    have hlt : i < rs.length := (List.getElem?_eq_some_iff.1 hi).1
    refine ⟨ai, ci, ?_, h2.below hb, h3, h4⟩
    rw [Nat.zero_add]
    refine blk_cell hh i _ ?_
    rw [← ht] at h1
    simpa [hlt] using h1

/-- The cells of a list of records. -/
theorem recs_cells {w : World} {b off : Nat} {rs : List (List Int)} (h : IsRecs w (some ⟨b, off, none⟩) rs) : ∃ vs : List Value, vs.length = rs.length ∧ (∀ j u, vs[j]? = some u → w.cell? ((⟨b, off, none⟩ : Addr).add j) = some u) ∧ (∀ u ∈ vs, u.oneCell' = true) ∧
    ∀ (i : Nat) (r : List Int), rs[i]? = some r → ∃ ai ci, vs[i]? = some (Value.slice ai r.length ci) ∧ IsInts w ai r ∧ r.length ≤ ci ∧ ci ≤ maxLen := by
  rcases h with rfl | ⟨b', off', e, hc⟩
  · exact ⟨[], rfl, by simp, by simp, by simp⟩
  · cases e
    have hone : ∀ i, ∃ v : Value, ∀ r, rs[i]? = some r → ∃ ai ci, v = .slice ai r.length ci ∧ w.cell? ⟨b, off + i, none⟩ = some v ∧ IsInts w ai r ∧ r.length ≤ ci ∧ ci ≤ maxLen := by
      intro i
      cases hi : rs[i]? with
      | none => exact ⟨.bool true, fun r h => by cases h⟩
      | some r =>
        obtain ⟨ai, ci, h1, h2⟩ := hc i r hi
        exact ⟨_, fun q hq => by cases hq; exact ⟨ai, ci, rfl, h1, h2⟩⟩
    obtain ⟨V, hV⟩ := Classical.axiomOfChoice hone
    refine ⟨(List.range rs.length).map V, by simp, ?_, ?_, ?_⟩
    · intro j u hu
      have hj : j < rs.length := by
        have := (List.getElem?_eq_some_iff.1 hu).1
        simpa using this
      have huV : V j = u := by simpa [hj] using hu
      subst huV
      obtain ⟨ai, ci, _, h2, _⟩ := hV j rs[j] (List.getElem?_eq_getElem hj)
      by_cases hj0 : j = 0
      · subst hj0; simpa [Addr.add] using h2
      · simpa [Addr.add, hj0] using h2
    · intro u hu
      simp only [List.mem_map, List.mem_range] at hu
      obtain ⟨i, hi, rfl⟩ := hu
      obtain ⟨ai, ci, h1, _⟩ := hV i rs[i] (List.getElem?_eq_getElem hi)
      rw [h1]; rfl
    · intro i r hi
      have hlt : i < rs.length := (List.getElem?_eq_some_iff.1 hi).1
      obtain ⟨ai, ci, h1, h2, h3⟩ := hV i r hi
      refine ⟨ai, ci, ?_, h3⟩
      rw [← h1]
      simp [hlt]

set_option maxRecDepth 100000 in
theorem append_emptyR (ty : TypeId) (g : Nat) (ad : Addr) (c : Nat) (w : World) :
    (Builtin.append_ #[44, 44] ty #[.slice (some ⟨g, 0, none⟩) 0 0, .slice (some ad) 0 c]).run Try.prog w = .ok (.slice (some ⟨g, 0, none⟩) 0 0) w := by
  obtain ⟨i0, hi0, hz0, hz1, hz2⟩ := info_parts info_record
  have hl : ∀ (x : Addr), (loadCells x 0).run Try.prog w = .ok #[] w := fun x => by simpa using run_loadCells_list (P := Try.prog) w x [] (by simp)
  simp [Builtin.append_, run_underlying Try.underlying44, Builtin.lenOf, Builtin.firstCells, sizeOf, typeInfo, hi0, storeCells, hl]

def CloneAns (w : World) (rs : List (List Int)) (e : Ending) (w' : World) : Prop := ∃ v, e = .returned v ∧ RowRecs w w' v rs

set_option maxRecDepth 100000 in
set_option maxHeartbeats 1000000 in
theorem clone_any (a : Option Addr) (n c : Nat) (rs : List (List Int)) (w : World) (h : IsRecs w a rs) (hn : rs.length = n) (hm : n ≤ 1000) (hnil : a = none → c = 0) :
    Calls Try.prog 40 #[.slice a n c] w (CloneAns w rs) := by
  obtain ⟨irr, hir, rz0, rz1, rz2⟩ := info_parts info_record
  have HN := hide hn
  clear hn
  cases a with
  | none =>
    obtain rfl := hnil rfl
    have hrs : rs = [] := by
      rcases h with h | ⟨_, _, e, _⟩
      · exact h
      · cases e
    subst hrs
    obtain rfl : 0 = n := HN.out
    have heq := fun (a : Option Addr) (n c : Nat) (W : World) => Go.Lib.run_eql_slice_nil (P := Try.prog) W 44 _ a n c 0 0 Try.underlying44
    go_enter Try.func40, Try.ntmps40
    go_wp2
    go_ret
    exact ⟨_, rfl, ⟨[], World.ownsRow_nil _ _ _ _, by simp⟩, Below.refl _ _⟩
  | some ad =>
    clear hnil
    by_cases h0 : n = 0
    · subst h0
      have hrs : rs = [] := List.eq_nil_of_length_eq_zero HN.out
      have he := append_emptyR
      subst hrs
      have heq := fun (a : Option Addr) (n c : Nat) (W : World) => Go.Lib.run_eql_slice_nil (P := Try.prog) W 44 _ a n c 0 0 Try.underlying44
      go_enter Try.func40, Try.ntmps40
      go_wp2
      go_ret
      refine ⟨_, rfl, ⟨[], ?_, by simp⟩, (Below.refl _ _).alloc (Nat.le_refl _) _⟩
      exact ⟨rfl, .inr ⟨w.heap.size, 0, #[], rfl, Nat.le_refl _, heap_alloc_last _ _, Nat.le_refl _, by decide, rfl, rfl⟩⟩
    · have hne : 0 < rs.length := by rw [HN.out]; omega
      obtain ⟨b, off, spot⟩ := ad
      obtain rfl : spot = none := by
        rcases h with h | ⟨b', off', e, _⟩
        · rw [h] at hne; simp at hne
        · cases e; rfl
      obtain ⟨vs, v1, v2, v3, v4⟩ := recs_cells h
      have hnews : ∀ j u, vs[j]? = some u → (w.alloc (.cells #[] 43)).cell? ((⟨b, off, none⟩ : Addr).add j) = some u := fun j u hu => by
        have := v2 j u hu
        rw [Below.cell ((Below.refl _ w).alloc (Nat.le_refl _) _) (cell_lt this)]
        exact this
      have hrow0 : (w.alloc (.cells #[] 43)).ownsRow w.heap.size 43 1 (.slice (some ⟨w.heap.size, 0, none⟩) 0 0) 0 [] :=
        ⟨rfl, .inr ⟨w.heap.size, 0, #[], rfl, Nat.le_refl _, heap_alloc_last _ _, Nat.le_refl _, by decide, rfl, rfl⟩⟩
      have HV4 := hide v4
      have HV1 := hide v1
      clear v1 v2 v4
      have heq := fun (a : Option Addr) (n c : Nat) (W : World) => Go.Lib.run_eql_slice_nil (P := Try.prog) W 44 _ a n c 0 0 Try.underlying44
      go_enter Try.func40, Try.ntmps40
      go_wp2_with (at_builtin; refine wpList_append_lies _ rfl _ _ 44 rfl w.heap.size 43 irr _ 1 24 Try.underlying44 hir rz0 rz1 rz2 rfl (by omega) (.slice (some ⟨w.heap.size, 0, none⟩) 0 0) 0 [] rfl hrow0 ⟨b, off, none⟩ n c vs rfl (by rw [HV1.out, HN.out, Nat.mul_one]) hnews v3 (by omega) (by unfold maxLen; omega) (by omega) (by simp) (w.heap.size + 1) (by simp) ?_)
      intro g cap w1 hown hgrow hat hlt
      have hB : Below w.heap.size w w1 := ((Below.refl _ w).alloc (Nat.le_refl _) _).grown hgrow (by simp) (fun k hk => by simp [Value.ownBlock] at hk; omega)
      have HO := hide hown
      clear hown
      go_wp2
      go_ret
      refine ⟨_, rfl, ⟨vs, ?_, HV4.out⟩, hB⟩
      have := HO.out
      rw [HN.out]
      simpa using this

/-- One record more at the end of such a row. -/
theorem RowRecs.step {w0 w wa w1 : World} {v v' : Value} {rs : List (List Int)} {r : List Int} {ar : Option Addr} {cr : Nat} (hbe : Below w0.heap.size w0 w) {vs : List Value} (hown : w.ownsRow w0.heap.size 43 1 v rs.length vs)
    (hr : ∀ (i : Nat) (q : List Int), rs[i]? = some q → ∃ ai ci, vs[i]? = some (Value.slice ai q.length ci) ∧ IsInts w0 ai q ∧ q.length ≤ ci ∧ ci ≤ maxLen) (hba : Below w.heap.size w wa) (hi : IsInts w0 ar r) (hc : r.length ≤ cr) (hcm : cr ≤ maxLen)
    (happ : w1.ownsRow w0.heap.size 43 1 v' (rs.length + 1) (vs ++ [Value.slice ar r.length cr])) (hgrow : wa.grownBy w1 v.ownBlock) : RowRecs w0 w1 v' (rs ++ [r]) := by
  refine ⟨⟨vs ++ [Value.slice ar r.length cr], by rw [List.length_append]; exact happ, ?_⟩, (hbe.trans (hba.mono hbe.size)).grown hgrow (Nat.le_trans hbe.size hba.size) (ownBlock_ge hown)⟩
  have hvl : vs.length = rs.length := by have := hown.1; omega
  intro i q hq
  by_cases hlt : i < rs.length
  · rw [List.getElem?_append_left hlt] at hq
    obtain ⟨ai, ci, h1, h2⟩ := hr i q hq
    exact ⟨ai, ci, by rw [List.getElem?_append_left (by omega)]; exact h1, h2⟩
  · have hlt2 : i < (rs ++ [r]).length := (List.getElem?_eq_some_iff.1 hq).1
    simp at hlt2
    obtain rfl : i = rs.length := by omega
    rw [List.getElem?_append_right (Nat.le_refl _)] at hq
    simp at hq
    subst hq
    exact ⟨ar, cr, by rw [List.getElem?_append_right (by omega), hvl]; simp, hi, hc, hcm⟩

end Go.Proofs.Ytanpglfpopbfkaa
