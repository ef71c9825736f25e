/- The contract of slices.Clone at ints, for seats without signatures; of unit.twin. -/
import Derived.Test.YtppmdfndcjgibacGreatDoorPk25
import Derived.Test.YtppmdfndcjgibacGreatDoorPk0
import Derived.Deep.AppendLies
import Derived.Lib.AppendZeros
import Derived.Maps.AppendAt
namespace Go.Proofs.YtppmdfndcjgibacGreatDoor
open Go.RowKit

theorem ad_add (b off j : Nat) : (⟨b, off, none⟩ : Addr).add j = ⟨b, off + j, none⟩ := by unfold Addr.add; split <;> simp_all
theorem BI.news {w : World} {b off n : Nat} {xs : List Int} (h : BI w (some ⟨b, off, none⟩) n xs) : ∀ j u, (vals xs)[j]? = some u → w.cell? ((⟨b, off, none⟩ : Addr).add j) = some u := by
  intro j u hu
  have hj : j < xs.length := by
    have := (List.getElem?_eq_some_iff.1 hu).1
    simpa [vals] using this
  rw [vals_get xs j hj] at hu
  cases hu
  rcases h.at_ with e | ⟨b', off', e, hc⟩
  · rw [e] at hj; simp at hj
  · cases e
    rw [ad_add]
    exact hc j hj
theorem BI.spot {w : World} {a : Option Addr} {n : Nat} {xs : List Int} (h : BI w a n xs) (h0 : ¬ n = 0) : ∃ b off, a = some ⟨b, off, none⟩ := by
  rcases h.at_ with e | ⟨b, off, e, _⟩
  · have := h.len; rw [e] at this; simp at this; omega
  · exact ⟨b, off, e⟩

set_option maxRecDepth 100000 in
theorem append_emptyI (ty : TypeId) (g : Nat) (ad : Addr) (c : Nat) (w : World) :
    (Builtin.append_ #[25, 25] ty #[.slice (some ⟨g, 0, none⟩) 0 0, .slice (some ad) 0 c]).run Tryz.prog w = .ok (.slice (some ⟨g, 0, none⟩) 0 0) w := by
  obtain ⟨i0, hi0, hz0, hz1, hz2⟩ := info_parts info_int
  have hl : ∀ (x : Addr), (loadCells x 0).run Tryz.prog w = .ok #[] w := fun x => by simpa using run_loadCells_list (P := Tryz.prog) w x [] (by simp)
  simp [Builtin.append_, run_underlying Tryz.underlying25, Builtin.lenOf, Builtin.firstCells, sizeOf, typeInfo, hi0, storeCells, hl]

/-- What Clone answers: a row of its own, or nothing. -/
def ClI (w : World) (xs : List Int) (e : Ending) (w' : World) : Prop := (∃ a c, e = .returned (.slice a xs.length c) ∧ w'.ownsRow w.heap.size 3 1 (.slice a xs.length c) xs.length (vals xs)) ∧ Below w.heap.size w w'

set_option maxRecDepth 100000 in
set_option maxHeartbeats 1000000 in
theorem cloneI_any (a : Option Addr) (n c : Nat) (xs : List Int) (w : World) (h : BI w a n xs) (hb : n * 8 ≤ 140737488355328) :
    Calls Tryz.prog 93 #[.slice a n c] w (ClI w xs) := by
  obtain ⟨irr, hir, rz0, rz1, rz2⟩ := info_parts info_int
  have HN := hide h.len
  have heq := fun (a : Option Addr) (n c : Nat) (W : World) => Go.Lib.run_eql_slice_nil (P := Tryz.prog) W 25 _ a n c 0 0 Tryz.underlying25
  by_cases h0 : n = 0
  · subst h0
    have hx : xs = [] := List.eq_nil_of_length_eq_zero HN.out
    subst hx
    cases a with
    | none =>
      go_enter Tryz.func93, Tryz.ntmps93
      go_wp2
      go_ret
      exact ⟨⟨none, 0, rfl, World.ownsRow_nil _ _ _ _⟩, Below.refl _ _⟩
    | some ad =>
      have he := append_emptyI
      go_enter Tryz.func93, Tryz.ntmps93
      go_wp2
      go_ret
      exact ⟨⟨_, _, rfl, ⟨rfl, .inr ⟨w.heap.size, 0, #[], rfl, Nat.le_refl _, heap_alloc_last _ _, Nat.le_refl _, by decide, rfl, rfl⟩⟩⟩, (Below.refl _ _).alloc (Nat.le_refl _) _⟩
  · obtain ⟨b, off, rfl⟩ := h.spot h0
    have hW := (Below.refl _ w).alloc (Nat.le_refl _) (.cells #[] 3)
    have hnews := (h.below hW).news
    have hrow0 : (w.alloc (.cells #[] 3)).ownsRow w.heap.size 3 1 (.slice (some ⟨w.heap.size, 0, none⟩) 0 0) 0 [] :=
      ⟨rfl, .inr ⟨w.heap.size, 0, #[], rfl, Nat.le_refl _, heap_alloc_last _ _, Nat.le_refl _, by decide, rfl, rfl⟩⟩
    have HNW := hide hnews
    have hm := h.max
    clear h hnews
    go_enter Tryz.func93, Tryz.ntmps93
    go_wp2_with (at_builtin; refine wpList_append_lies _ rfl _ _ 25 rfl w.heap.size 3 irr _ 1 8 Tryz.underlying25 hir rz0 rz1 rz2 rfl (by omega) (.slice (some ⟨w.heap.size, 0, none⟩) 0 0) 0 [] rfl hrow0 ⟨b, off, none⟩ n c (vals xs) rfl (by rw [vals_length, HN.out, Nat.mul_one]) HNW.out (vals_one xs) (by omega) (by omega) (by omega) (by simp) (w.heap.size + 1) (by simp) ?_)
    intro g cap w1 hown hgrow hat hlt
    have hB : Below w.heap.size w w1 := ((Below.refl _ w).alloc (Nat.le_refl _) _).grown hgrow (by simp) (fun k hk => by simp [Value.ownBlock] at hk; omega)
    have HR := hide hown
    clear hown hgrow hat
    go_wp2
    go_ret
    rw [← HN.out] at HR ⊢
    exact ⟨⟨_, cap, by simp, HR.out⟩, hB⟩


theorem own_ints {w : World} {base n c : Nat} {a : Option Addr} {xs : List Int} (h : w.ownsRow base 3 1 (.slice a n c) n (vals xs)) (hn : xs.length = n) : IsInts w a xs ∧ FreshA base a ∧ n ≤ c := by
  obtain ⟨_, ⟨hv, h0⟩ | ⟨g, cap, cur, hv, hg, hh, hc, _, _, ht⟩⟩ := h
  · cases hv
    have : xs = [] := by
      apply List.eq_nil_of_length_eq_zero; omega
    exact ⟨.inl this, (fun _ e => by cases e), Nat.le_refl _⟩
  · cases hv
    refine ⟨.inr ⟨g, 0, rfl, fun i hi => ?_⟩, fun ad e => by cases e; exact hg, hc⟩
    rw [Nat.zero_add]
    refine blk_cell hh i _ ?_
    have hv := vals_get xs i hi
    rw [← ht, List.getElem?_take] at hv
    split at hv
    · simpa using hv
    · cases hv

/-- What twin answers: the unit, its words in memory of their own. -/
def UTwin (w : World) (u : Un) (e : Ending) (w' : World) : Prop :=
  (∃ a c, e = .returned (unv u a u.ws.length c) ∧ IsInts w' a u.ws ∧ FreshA w.heap.size a ∧ u.ws.length ≤ c) ∧ Below w.heap.size w w'

set_option maxRecDepth 100000 in
set_option maxHeartbeats 1600000 in
theorem unitTwin_any (u : Un) (a : Option Addr) (n c : Nat) (w : World) (h : BW w a n c u.ws) (hb : n * 8 ≤ 140737488355328) :
    Calls Tryz.prog 45 #[unv u a n c] w (UTwin w u) := by
  have hw0 : Below w.heap.size w ((w.alloc (unO u a n c)).alloc (unO ⟨[], 0, false, 0, 0⟩ none 0 0)) := ((Below.refl _ _).alloc (Nat.le_refl _) _).alloc (by simp) _
  have b0 : Hid (((w.alloc (unO u a n c)).alloc (unO ⟨[], 0, false, 0, 0⟩ none 0 0)).heap[w.heap.size]? = some (unO u a n c)) := blk_alloc (heap_alloc_last _ _) _
  have b1 : Hid (((w.alloc (unO u a n c)).alloc (unO ⟨[], 0, false, 0, 0⟩ none 0 0)).heap[w.heap.size + 1]? = some (unO ⟨[], 0, false, 0, 0⟩ none 0 0)) := uLast1 _ _ _
  have HC := hide (fun W (hW : Below w.heap.size w W) => cloneI_any a n c u.ws W (h.below hW).bi hb)
  clear h
  unfold unv
  unfold unO at hw0 b0 b1
  have x0 := blk_cell b0.out 0 _ rfl
  have f0 := blk_free b0.out 0
  go_enter Tryz.func45, Tryz.ntmps45
  go_wp2_with fail
  generalize (w.alloc (.cells #[.slice a n c, .int .i64 u.fu, .bool u.up, .int .i64 u.n, .int .i64 u.hv] 29)).alloc (.cells #[.slice none 0 0, .int .i64 0, .bool false, .int .i64 0, .int .i64 0] 29) = W at *
  refine (unhide HC _ hw0).mono ?_
  rintro e w1 ⟨⟨a1, c1, rfl, hown⟩, hb1⟩
  obtain ⟨hi1, hf1, hc1⟩ := own_ints hown rfl
  have HI := hide hi1
  have HF := hide hf1
  have HB1 := hide b1.out
  replace b0 := hide (blk_below b0.out hb1)
  replace b1 := hide (blk_below b1.out hb1)
  have hk := hw0.trans (hb1.mono hw0.size)
  clear hown hi1 hf1 hb1 x0 f0 HC
  have y0 := blk_cell b0.out 0 _ rfl
  have y1 := blk_cell b0.out 1 _ rfl
  have y2 := blk_cell b0.out 2 _ rfl
  have y3 := blk_cell b0.out 3 _ rfl
  have y4 := blk_cell b0.out 4 _ rfl
  have z0 := blk_cell b1.out 0 _ rfl
  have z1 := blk_cell b1.out 1 _ rfl
  have z2 := blk_cell b1.out 2 _ rfl
  have z3 := blk_cell b1.out 3 _ rfl
  have z4 := blk_cell b1.out 4 _ rfl
  have g0 := blk_free b0.out 0
  have h0 := blk_free b1.out 0
  have h1 := blk_free b1.out 1
  have h2 := blk_free b1.out 2
  have h3 := blk_free b1.out 3
  have h4 := blk_free b1.out 4
  go_wp2_with fail
  refine bodyPost_ret (v := unv u a1 u.ws.length c1) (by simp [results, Tryz.results45, go_sem, unv, z0, z1, z2, z3, z4]) rfl ?_
  have hx : w.heap.size ≤ w.heap.size + 1 := by omega
  have hs1 : w.heap.size + 1 < W.heap.size := blk_lt HB1.out
  refine ⟨⟨a1, c1, rfl, ?_, fun ad e => by have := HF.out ad e; have := hw0.size; omega, hc1⟩, ?_⟩
  · exact IsInts.other (IsInts.other (IsInts.other (IsInts.other (IsInts.other (IsInts.other HI.out HF.out (by omega) _ _) HF.out hs1 _ _) HF.out hs1 _ _) HF.out hs1 _ _) HF.out hs1 _ _) HF.out hs1 _ _
  · exact (((((hk.setCell (Nat.le_refl _) _).setCell hx _).setCell hx _).setCell hx _).setCell hx _).setCell hx _

end Go.Proofs.YtppmdfndcjgibacGreatDoor
