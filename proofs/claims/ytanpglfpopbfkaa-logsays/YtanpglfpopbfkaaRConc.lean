/- The contract of slices.Concat on lists of changes (slices.Grow with it). -/
import Derived.Test.YtanpglfpopbfkaaChgM
import Derived.Test.YtanpglfpopbfkaaApp
import Derived.Lib.AppendZeros
namespace Go.Proofs.Ytanpglfpopbfkaa
open Go.RowKit
attribute [local go_sem ↓] Go.wp_at_zero Go.wp_at_succ

theorem zeroCells_size (z : Array Value) (n : Nat) : (Builtin.zeroCells z n).size = n * z.size := by simp [Builtin.zeroCells]

theorem wpList_append_zeros {ops : Array Oper} {rest : List Oper} {o : Oper} {a : Act} {Q : Exit → Act → World → Prop} (w : World) (hgd : o.guard = none) (s x : Operand)
    (ho : o.op = .call { callee := .builtin .append, args := #[s, x], argTypes := #[77, 3] }) (n : Nat) (hs : a.eval s = .slice none 0 0) (hx : a.eval x = .int .i64 n) (V : Value) (W : World)
    (hap : ∀ ty, (Builtin.append_ #[77, 3] ty #[.slice none 0 0, .int .i64 n]).run Try.prog w = .ok V W) (h : wpList Try.prog ops Q rest (a.put o.dst V) W) : wpList Try.prog ops Q (o :: rest) a w :=
  wpList_plain hgd fun _ hK => by
    unfold Oper.wp execOp
    simp only [ho, resolve, invoke, builtin, Sem.run_bind, Sem.run_pure, Result.andThen_ok, List.map_toArray, List.map_cons, List.map_nil, hs, hx, hap]
    exact hK _ _ h

set_option maxRecDepth 100000 in
set_option maxHeartbeats 1000000 in
theorem grow_any (n : Nat) (w : World) (h1 : 1 ≤ n) (h2 : n ≤ 1000) : Calls Try.prog 103 #[.slice none 0 0, .int .i64 n] w fun e w' => ∃ v, e = .returned v ∧ w'.ownsRow w.heap.size 94 2 v 0 [] ∧ Below w.heap.size w w' := by
  obtain ⟨i0, hi0, hz0, hz1, hz2⟩ := info_parts info_change
  have hap := fun ty => Go.Lib.run_append_nil_zeros (P := Try.prog) w 77 3 ty 94 i0 _ .i64 .i64 Try.underlying77 Try.underlying3 hi0 hz0 n (by omega) (by omega) (by omega) (by rw [hz2]; omega)
  have hge := grownCap_ge w n 0 94
  have hle := grownCap_le_maxLen w n 0 94 (by unfold maxLen; omega)
  have i1 : ¬ (n : Int) < 0 := by omega
  have i2 : (0 : Int) < (n : Int) := by omega
  go_enter Try.func103, Try.ntmps103
  have HAp := hide hap
  clear hap
  go_wp2_with (at_builtin; refine wpList_append_zeros _ rfl _ _ rfl n rfl rfl _ _ HAp.out ?_)
  have hcap : (0 : Int) ≤ (grownCap w n 0 94 : Int) := by omega
  go_wp2
  go_ret
  refine ⟨_, rfl, ⟨rfl, .inr ⟨w.heap.size, _, _, rfl, Nat.le_refl _, heap_alloc_last _ _, Nat.zero_le _, hle, ?_, by simp⟩⟩, ((Below.refl _ w).drew).alloc (Nat.le_refl _) _⟩
  rw [Array.size_append, zeroCells_size, zeroCells_size]
  show n * 2 + (grownCap w n 0 94 - n) * 2 = _
  omega

/-- A list of lists of changes in memory. -/
def IsChgL (w : World) (bL : Nat) (css : List (List (Nat × Option (Nat × Int)))) : Prop :=
  ∀ (i : Nat) (cs : List (Nat × Option (Nat × Int))), css[i]? = some cs → ∃ b c, w.cell? ⟨bL, i, none⟩ = some (.slice (some ⟨b, 0, none⟩) cs.length c) ∧ IsChgs w (some ⟨b, 0, none⟩) cs ∧ 0 < cs.length

/-- All of them, one list behind the other. -/
def flL (css : List (List (Nat × Option (Nat × Int)))) : List (Nat × Option (Nat × Int)) := css.flatten

theorem flatten_take_succ {css : List (List (Nat × Option (Nat × Int)))} {k : Nat} (hk : k < css.length) : flL (css.take (k + 1)) = flL (css.take k) ++ css[k] := by
  unfold flL
  rw [List.take_succ_eq_append_getElem hk, List.flatten_append]
  simp

theorem flatten_take_le (css : List (List (Nat × Option (Nat × Int)))) (k : Nat) : (flL (css.take k)).length ≤ (flL css).length := by
  unfold flL
  conv => rhs; rw [← List.take_append_drop k css, List.flatten_append, List.length_append]
  omega

set_option maxRecDepth 100000 in
set_option maxHeartbeats 2000000 in
theorem concat_any (bL nL cL : Nat) (css : List (List (Nat × Option (Nat × Int)))) (w : World) (h : IsChgL w bL css) (hn : css.length = nL) (hn3 : nL ≤ 10) (hpos : 1 ≤ (flL css).length) (hsum : (flL css).length ≤ 1000) :
    Calls Try.prog 76 #[.slice (some ⟨bL, 0, none⟩) nL cL] w fun e w' => ∃ a c, e = .returned (.slice a (flL css).length c) ∧ (flL css).length ≤ c ∧ IsChgs w' a (flL css) ∧ Below w.heap.size w w' := by
  obtain ⟨i0, hi0, hz0, hz1, hz2⟩ := info_parts info_change
  have HN := hide hn
  have HC := hide h
  clear hn h
  go_enter Try.func76, Try.ntmps76
  go_wp2
  go_loopw [3, 11] (fun v3 v11 wr => ∃ k : Nat, k ≤ nL ∧ v11 = .int .i64 k ∧ v3 = .int .i64 (flL (css.take k)).length ∧ w = wr) (fun _ i _ => nL - (intOf i).toNat)
  case atStart => exact ⟨0, Nat.zero_le _, rfl, rfl, rfl⟩
  case round =>
    obtain ⟨k, hk, rfl, rfl, rfl⟩ := hrel
    have hle := flatten_take_le css k
    by_cases hlt : k < nL
    · have hkl : k < css.length := by rw [HN.out]; exact hlt
      obtain ⟨b, c, q1, q2, q3⟩ := HC.out k css[k] (List.getElem?_eq_getElem hkl)
      have hle2 := flatten_take_le css (k + 1)
      rw [flatten_take_succ hkl, List.length_append] at hle2
      obtain ⟨m, hm⟩ : ∃ m, m = css[k].length := ⟨_, rfl⟩
      have HS : Hid ((flL (css.take (k + 1))).length = (flL (css.take k)).length + m) := by show _ = _; rw [flatten_take_succ hkl, List.length_append, hm]
      rw [← hm] at q1 q3 hle2
      obtain ⟨t, ht⟩ : ∃ t, t = (flL (css.take k)).length := ⟨_, rfl⟩
      rw [← ht] at HS hle hle2 ⊢
      have z0 : (k : Int) < (nL : Int) := by omega
      have z1 : ¬ (t : Int) + (m : Int) < 0 := by omega
      have z2 : IntKind.i64.wrap ((t : Int) + (m : Int)) = (t : Int) + (m : Int) := by rw [IntKind.wrap_i64]; omega
      clear hm ht q2
      go_wp2
      go_roundw
      case rel => exact ⟨k + 1, by omega, by go_num, by rw [HS.out]; simp, trivial⟩
      case measure => simp [intOf]; omega
    · have z0 : ¬ (k : Int) < (nL : Int) := by omega
      have hall : (flL (css.take k)).length = (flL css).length := by rw [List.take_of_length_le (by rw [HN.out]; omega)]
      rw [hall]
      obtain ⟨t, ht⟩ : ∃ t, t = (flL css).length := ⟨_, rfl⟩
      rw [← ht] at hpos hsum ⊢
      have HT := hide ht
      clear ht hall hle
      go_wp2_with fail
      refine (grow_any t _ hpos hsum).mono ?_
      rintro e w1 ⟨v1, rfl, own1, hb1⟩
      go_wp2_with fail
      go_loopw [6, 27] (fun v6 v27 wr => ∃ j : Nat, j ≤ nL ∧ v27 = .int .i64 j ∧ World.ownsRow wr w.heap.size 94 2 v6 (flL (css.take j)).length (cells2 (flL (css.take j))) ∧ Below w.heap.size w wr) (fun _ i _ => nL - (intOf i).toNat)
      case atStart => exact ⟨0, Nat.zero_le _, rfl, own1, hb1⟩
      case round =>
        obtain ⟨j, hj, rfl, own, hb⟩ := hrel
        by_cases hlt2 : j < nL
        · have hjl : j < css.length := by rw [HN.out]; exact hlt2
          obtain ⟨b, c, q1, q2, q3⟩ := HC.out j css[j] (List.getElem?_eq_getElem hjl)
          have hle2 := flatten_take_le css (j + 1)
          rw [← HT.out, flatten_take_succ hjl, List.length_append] at hle2
          have hnews := chgs_news (q2.below hb)
          have HS : Hid ((flL (css.take (j + 1))) = (flL (css.take j)) ++ css[j]) := flatten_take_succ hjl
          have q1' : wr.cell? ⟨bL, j, none⟩ = some (.slice (some ⟨b, 0, none⟩) css[j].length c) := by rw [hb.cell (cell_lt q1)]; exact q1
          have z3 : (j : Int) < (nL : Int) := by omega
          have HO := hide own
          have hsz := hb.size
          clear own q1 q2
          go_wp2_with (at_builtin; refine wpList_append_lies _ rfl _ _ 77 rfl w.heap.size 94 i0 (.agg #[.int .i64 0, .nilFunc]) 2 16 Try.underlying77 hi0 hz0 hz1 hz2 rfl (by omega) _ _ _ rfl HO.out ⟨b, 0, none⟩ css[j].length c (cells2 css[j]) rfl (cells2_length _) hnews (cells2_one _) q3 (by unfold maxLen; omega) (by omega) hsz _ rfl ?_)
          intro g cap w2 own2 grow2 at2 lt2
          have R : World.ownsRow w2 w.heap.size 94 2 (.slice (some ⟨g, 0, none⟩) ((flL (css.take j)).length + css[j].length) cap) (flL (css.take (j + 1))).length (cells2 (flL (css.take (j + 1)))) := by
            rw [HS.out, List.length_append, cells2_append]; exact own2
          have hb2 : Below w.heap.size w w2 := hb.grown grow2 hb.size (ownBlock_ge HO.out)
          have HR := hide R
          clear R own2 grow2
          go_wp2
          go_roundw
          case rel => exact ⟨j + 1, by omega, by go_num, HR.out, hb2⟩
          case measure => simp [intOf]; omega
        · have z3 : ¬ (j : Int) < (nL : Int) := by omega
          rw [List.take_of_length_le (by rw [HN.out]; omega)] at own
          have hcaps : CapsOK w (flL css) := by
            intro c hc
            obtain ⟨cs, hcs, hc⟩ := List.mem_flatten.1 hc
            obtain ⟨i, hi, rfl⟩ := List.getElem_of_mem hcs
            obtain ⟨_, _, _, q2, _⟩ := HC.out i _ (List.getElem?_eq_getElem hi)
            exact q2.caps c hc
          obtain ⟨av, cv, rfl, q4, q5⟩ := chgs_of_row own (hcaps.below hb)
          have HQ := hide q5
          clear own q5 hcaps
          go_wp2
          go_ret
          exact ⟨av, cv, rfl, q4, HQ.out, hb⟩

end Go.Proofs.Ytanpglfpopbfkaa
