/- The contracts of slices.Grow, slices.Concat at ints. -/
import Derived.Test.YtanpglfpopbfkabDoorTSli
namespace Go.Proofs.YtanpglfpopbfkabDoor
open Go.RowKit

theorem zeroCells_size (z : Array Value) (n : Nat) : (Builtin.zeroCells z n).size = n * z.size := by simp [Builtin.zeroCells]

theorem own_shape {w : World} {base : Nat} {e : TypeId} {size : Nat} {v : Value} {n : Nat} {xs : List Value} (h : w.ownsRow base e size v n xs) : ∃ a c, v = .slice a n c ∧ n ≤ c := by
  obtain ⟨_, ⟨hv, rfl⟩ | ⟨g', cap', cur, hv, hg, hh, hc, _⟩⟩ := h
  · exact ⟨none, 0, hv, Nat.le_refl _⟩
  · exact ⟨_, _, hv, hc⟩
theorem own_bi {w : World} {base n : Nat} {v : Value} {xs : List Int} (h : w.ownsRow base 3 1 v n (vals xs)) (hn : xs.length = n) (hm : n ≤ maxLen) : ∃ a c, v = .slice a n c ∧ n ≤ c ∧ BI w a n xs := by
  obtain ⟨a, c, rfl, hc⟩ := own_shape h
  refine ⟨a, c, rfl, hc, ?_⟩
  obtain ⟨_, ⟨hv, rfl⟩ | ⟨g', cap', cur, hv, hg, hh, hc, _, _, ht⟩⟩ := h
  · exact ⟨.inl (List.eq_nil_of_length_eq_zero hn), hn, hm⟩
  · cases hv
    exact RowV.bi ⟨cur, 3, hh, by rw [vals_length, hn]; simpa using ht⟩ hn hm

set_option maxRecDepth 100000 in
theorem append_none (ty : TypeId) (a : Option Addr) (n c : Nat) (h : n ≤ c) (a2 : Option Addr) (c2 : Nat) (w : World) :
    (Builtin.append_ #[25, 25] ty #[.slice a n c, .slice a2 0 c2]).run Tryd.prog w = .ok (.slice a n c) w := by
  obtain ⟨i0, hi0, hz0, hz1, hz2⟩ := info_parts info_int
  have hl : ∀ (x : Addr), (loadCells x 0).run Tryd.prog w = .ok #[] w := fun x => by simpa using run_loadCells_list (P := Tryd.prog) w x [] (by simp)
  cases a <;> cases a2 <;> simp [Builtin.append_, run_underlying Tryd.underlying25, Builtin.lenOf, Builtin.firstCells, sizeOf, typeInfo, hi0, storeCells, hl, h]

set_option maxRecDepth 100000 in
set_option maxHeartbeats 1000000 in
theorem growI_any (n : Nat) (w : World) (h2 : n * 8 ≤ 140737488355328) : Calls Tryd.prog 67 #[.slice none 0 0, .int .i64 n] w fun e w' => ∃ v, e = .returned v ∧ w'.ownsRow w.heap.size 3 1 v 0 [] ∧ Below w.heap.size w w' := by
  obtain ⟨i0, hi0, hz0, hz1, hz2⟩ := info_parts info_int
  by_cases h1 : n = 0
  · subst h1
    go_enter Tryd.func67, Tryd.ntmps67
    go_wp2
    go_ret
    exact ⟨_, rfl, World.ownsRow_nil _ _ _ _, Below.refl _ _⟩
  · have hap := fun ty => Go.Lib.run_append_nil_zeros (P := Tryd.prog) w 25 3 ty 3 i0 _ .i64 .i64 Tryd.underlying25 Tryd.underlying3 hi0 hz0 n (by omega) (by omega) (by omega) (by rw [hz2]; omega)
    have hge := grownCap_ge w n 0 3
    have hle := grownCap_le_maxLen w n 0 3 (by unfold maxLen; omega)
    have i1 : ¬ (n : Int) < 0 := by omega
    have i2 : (0 : Int) < (n : Int) := by omega
    go_enter Tryd.func67, Tryd.ntmps67
    have HAp := hide hap
    clear hap
    go_wp2_with (at_builtin; refine Go.Lib.wpList_append_run _ rfl _ _ _ _ rfl _ _ rfl rfl _ _ (HAp.out _) ?_)
    have hcap : (0 : Int) ≤ (grownCap w n 0 3 : Int) := by omega
    go_wp2
    go_ret
    refine ⟨_, rfl, ⟨rfl, .inr ⟨w.heap.size, _, _, rfl, Nat.le_refl _, heap_alloc_last _ _, Nat.zero_le _, hle, ?_, by simp⟩⟩, ((Below.refl _ w).drew).alloc (Nat.le_refl _) _⟩
    rw [Array.size_append, zeroCells_size, zeroCells_size]
    show n * 1 + (grownCap w n 0 3 - n) * 1 = _
    omega

/-- All of them, one list behind the other. -/
def catI (css : List (List Int)) : List Int := css.flatten
theorem catI_step {css : List (List Int)} {k : Nat} (hk : k < css.length) : catI (css.take (k + 1)) = catI (css.take k) ++ css[k] := by
  unfold catI
  rw [List.take_succ_eq_append_getElem hk, List.flatten_append]
  simp
theorem catI_le (css : List (List Int)) (k : Nat) : (catI (css.take k)).length ≤ (catI css).length := by
  unfold catI
  conv => rhs; rw [← List.take_append_drop k css, List.flatten_append, List.length_append]
  omega

/-- What Concat answers. -/
def CatAns (w : World) (xs : List Int) (e : Ending) (w' : World) : Prop := (∃ a c, e = .returned (.slice a xs.length c) ∧ BI w' a xs.length xs) ∧ Below w.heap.size w w'

set_option maxRecDepth 100000 in
set_option maxHeartbeats 2000000 in
theorem concatI_any (bL nL cL : Nat) (css : List (List Int)) (w : World) (h : ∀ (i : Nat) (r : List Int), css[i]? = some r → ∃ a c, w.cell? ⟨bL, i, none⟩ = some (.slice a r.length c) ∧ IsInts w a r) (hn : css.length = nL) (hn3 : nL ≤ 10) (hsum : (catI css).length * 8 ≤ 140737488355328) :
    Calls Tryd.prog 39 #[.slice (some ⟨bL, 0, none⟩) nL cL] w (CatAns w (catI css)) := by
  obtain ⟨i0, hi0, hz0, hz1, hz2⟩ := info_parts info_int
  have HN := hide hn
  have HC := hide h
  clear hn h
  go_enter Tryd.func39, Tryd.ntmps39
  go_wp2
  go_loopw [3, 11] (fun v3 v11 wr => ∃ k : Nat, k ≤ nL ∧ v11 = .int .i64 k ∧ v3 = .int .i64 (catI (css.take k)).length ∧ w = wr) (fun _ i _ => nL - (intOf i).toNat)
  case atStart => exact ⟨0, Nat.zero_le _, rfl, rfl, rfl⟩
  case round =>
    obtain ⟨k, hk, rfl, rfl, rfl⟩ := hrel
    have hle := catI_le css k
    by_cases hlt : k < nL
    · have hkl : k < css.length := by rw [HN.out]; exact hlt
      obtain ⟨a, c, q1, q2⟩ := HC.out k css[k] (List.getElem?_eq_getElem hkl)
      have hle2 := catI_le css (k + 1)
      rw [catI_step hkl, List.length_append] at hle2
      obtain ⟨m, hm⟩ : ∃ m, m = css[k].length := ⟨_, rfl⟩
      have HS : Hid ((catI (css.take (k + 1))).length = (catI (css.take k)).length + m) := by show _ = _; rw [catI_step hkl, List.length_append, hm]
      rw [← hm] at q1 hle2
      obtain ⟨t, ht⟩ : ∃ t, t = (catI (css.take k)).length := ⟨_, rfl⟩
      rw [← ht] at HS hle hle2 ⊢
      have z0 : (k : Int) < (nL : Int) := by omega
      have z1 : ¬ (t : Int) + (m : Int) < 0 := by omega
      have z2 : IntKind.i64.wrap ((t : Int) + (m : Int)) = (t : Int) + (m : Int) := by rw [IntKind.wrap_i64]; omega
      clear hm ht q2
      go_wp2
      go_roundw
      case rel => exact ⟨k + 1, by omega, by go_num, by rw [HS.out]; simp, trivial⟩
      case measure => simp [intOf]; omega
    · have z0 : ¬ (k : Int) < (nL : Int) := by omega
      have hall : (catI (css.take k)).length = (catI css).length := by rw [List.take_of_length_le (by rw [HN.out]; omega)]
      rw [hall]
      obtain ⟨t, ht⟩ : ∃ t, t = (catI css).length := ⟨_, rfl⟩
      rw [← ht] at hsum ⊢
      have HT := hide ht
      clear ht hall hle
      go_wp2_with fail
      refine (growI_any t _ hsum).mono ?_
      rintro e w1 ⟨v1, rfl, own1, hb1⟩
      go_wp2_with fail
      go_loopw [6, 27] (fun v6 v27 wr => ∃ j : Nat, j ≤ nL ∧ v27 = .int .i64 j ∧ World.ownsRow wr w.heap.size 3 1 v6 (catI (css.take j)).length (vals (catI (css.take j))) ∧ Below w.heap.size w wr) (fun _ i _ => nL - (intOf i).toNat)
      case atStart => exact ⟨0, Nat.zero_le _, rfl, own1, hb1⟩
      case round =>
        obtain ⟨j, hj, rfl, own, hb⟩ := hrel
        by_cases hlt2 : j < nL
        · have hjl : j < css.length := by rw [HN.out]; exact hlt2
          obtain ⟨a, c, q1, q2⟩ := HC.out j css[j] (List.getElem?_eq_getElem hjl)
          have hle2 := catI_le css (j + 1)
          rw [← HT.out, catI_step hjl, List.length_append] at hle2
          have HS : Hid ((catI (css.take (j + 1))) = (catI (css.take j)) ++ css[j]) := catI_step hjl
          have q1' : wr.cell? ⟨bL, j, none⟩ = some (.slice a css[j].length c) := by rw [hb.cell (cell_lt q1)]; exact q1
          have z3 : (j : Int) < (nL : Int) := by omega
          have hsz := hb.size
          obtain ⟨m, hm⟩ : ∃ m, m = css[j].length := ⟨_, rfl⟩
          by_cases h0 : m = 0
          · have he : css[j] = [] := List.eq_nil_of_length_eq_zero (by rw [← hm]; exact h0)
            obtain ⟨av, cv, rfl, hav⟩ := own_shape own
            rw [he] at HS q1'
            rw [List.append_nil] at HS
            have HO := hide own
            have hap := fun ty => append_none ty av (catI (css.take j)).length cv hav a c wr
            have HAp := hide hap
            clear hap own q1 q2 he h0 hm
            simp only [List.length_nil] at q1'
            go_wp2_with (at_builtin; refine Go.Lib.wpList_append_run _ rfl _ _ _ _ rfl _ _ rfl rfl _ _ (HAp.out _) ?_)
            go_wp2
            go_roundw
            case rel => exact ⟨j + 1, by omega, by go_num, by rw [HS.out]; exact HO.out, hb⟩
            case measure => simp [intOf]; omega
          · have bi : BI wr a m css[j] := ⟨q2.below hb, hm.symm, by unfold maxLen; omega⟩
            obtain ⟨b, off, rfl⟩ := bi.spot h0
            have hnews := bi.news
            have HO := hide own
            have HM := hide hm
            rw [← hm] at q1' hle2
            clear own q1 q2 bi hm
            go_wp2_with (at_builtin; refine wpList_append_lies _ rfl _ _ 25 rfl w.heap.size 3 i0 (.int .i64 0) 1 8 Tryd.underlying25 hi0 hz0 hz1 hz2 rfl (by omega) _ _ _ rfl HO.out ⟨b, off, none⟩ m c (vals css[j]) rfl (by rw [vals_length, HM.out, Nat.mul_one]) hnews (vals_one _) (by omega) (by unfold maxLen; omega) (by omega) hsz _ rfl ?_)
            intro g cap w2 own2 grow2 at2 lt2
            have R : World.ownsRow w2 w.heap.size 3 1 (.slice (some ⟨g, 0, none⟩) ((catI (css.take j)).length + m) cap) (catI (css.take (j + 1))).length (vals (catI (css.take (j + 1)))) := by
              rw [HS.out, List.length_append, ← HM.out]; unfold vals at own2 ⊢; rw [List.map_append]; exact own2
            have hb2 : Below w.heap.size w w2 := hb.grown grow2 hb.size (ownBlock_ge HO.out)
            have HR := hide R
            clear R own2 grow2
            go_wp2
            go_roundw
            case rel => exact ⟨j + 1, by omega, by go_num, HR.out, hb2⟩
            case measure => simp [intOf]; omega
        · have z3 : ¬ (j : Int) < (nL : Int) := by omega
          rw [List.take_of_length_le (by rw [HN.out]; omega)] at own
          obtain ⟨av, cv, rfl, q4, q5⟩ := own_bi own rfl (by rw [← HT.out]; unfold maxLen; omega)
          have HQ := hide q5
          clear own q5
          go_wp2
          go_ret
          exact ⟨⟨av, cv, rfl, HQ.out⟩, hb⟩

end Go.Proofs.YtanpglfpopbfkabDoor
