/- The contract of slices.Repeat at one erased word and some whole sectors. -/
import Derived.Test.YtanpglfpopbfkaaProgrammed
namespace Go.Proofs.Ytanpglfpopbfkaa
open Go.RowKit

set_option maxRecDepth 100000 in
set_option maxHeartbeats 1000000 in
theorem mul_one_any (Y : Nat) (h : Y = 32 ∨ Y = 64 ∨ Y = 96 ∨ Y = 128 ∨ Y = 160 ∨ Y = 192) (w : World) :
    Calls Try.prog 61 #[.int .u64 1, .int .u64 Y] w fun e w' => e = .returned (.tuple #[.int .u64 0, .int .u64 Y]) ∧ w' = w := by
  rcases h with rfl | rfl | rfl | rfl | rfl | rfl
  all_goals
    go_enter Try.func61, Try.ntmps61
    go_wp2
    go_ret2
    exact ⟨by kernel_rfl, rfl⟩

set_option maxRecDepth 100000 in
theorem copy_first (a : Option Addr) (c L : Nat) (w : World) (h : IsInts w a [65535]) (hL : 1 ≤ L) :
    (Builtin.copy_ #[24, 24] 3 #[.slice (some ⟨w.heap.size, 0, none⟩) L L, .slice a 1 c]).run Try.prog (w.alloc (.cells (vals (List.replicate L 0)).toArray 3)) = .ok (goInt 1) (w.alloc (.cells (vals (fillTo L 1)).toArray 3)) := by
  have h' := h.alloc (.cells (vals (List.replicate L 0)).toArray 3)
  rcases h' with h0 | ⟨b, off, rfl, hc⟩
  · cases h0
  · have := run_copy_row (P := Try.prog) (w.alloc (.cells (vals (List.replicate L 0)).toArray 3)) 24 24 3 3 w.heap.size 0 L L ⟨b, off, none⟩ 1 c _ 3 (vals [65535]) Try.underlying24 size_int (heap_alloc_last w _) (by simp only [vals_length, List.length_cons, List.length_nil]; show 1 = Nat.min 1 L; exact (Nat.min_eq_left hL).symm) ?_ (by simp [vals]; omega) (vals_one _)
    · rw [this, vals_length, World.setRow_alloc_new]
      congr 3
      obtain ⟨r, rfl⟩ : ∃ r, L = r + 1 := ⟨L - 1, by omega⟩
      simp [vals, fillTo]
    · intro j v hv
      have hj : j = 0 := by
        have := (List.getElem?_eq_some_iff.1 hv).1
        simp [vals] at this; omega
      subst hj
      simp [vals] at hv
      subst hv
      simpa [Addr.add] using hc 0 (by simp)

set_option maxRecDepth 100000 in
theorem splice_fill {L n m : Nat} (_h : n + m ≤ L) : splice (vals (fillTo L n)) n (vals (List.replicate m 65535)) = vals (fillTo L (n + m)) := by
  unfold splice fillTo vals
  simp
  rw [← List.append_assoc, List.replicate_append_replicate]
  congr 1
  · rw [List.drop_append]
    simp
    omega

set_option maxRecDepth 100000 in
set_option maxHeartbeats 2000000 in
theorem repeat_any (a : Option Addr) (c L : Nat) (hY : L = 32 ∨ L = 64 ∨ L = 96 ∨ L = 128 ∨ L = 160 ∨ L = 192) (w : World) (h : IsInts w a [65535]) :
    Calls Try.prog 26 #[.slice a 1 c, .int .i64 (L : Int)] w fun e w' => ∃ g, e = .returned (.slice (some ⟨g, 0, none⟩) L L) ∧ w.heap.size ≤ g ∧ OwnInts w' g (List.replicate L 65535) ∧ Below w.heap.size w w' := by
  have HM := hide (fun W => mul_one_any L hY W)
  have hmk := make_ints L w (by omega)
  have hcp := copy_first a c L w h (by omega)
  have l1 : 1 ≤ L := by omega
  have l2 : L ≤ 192 := by omega
  clear hY
  go_enter Try.func26, Try.ntmps26
  go_wp2_with fail
  refine (unhide HM _).mono ?_
  rintro e wv ⟨rfl, rfl⟩
  go_wp2_with fail
  go_loopw [8] (fun i wr => ∃ n : Nat, 1 ≤ n ∧ n ≤ L ∧ i = .int .i64 n ∧ OwnInts wr wv.heap.size (fillTo L n) ∧ Below wv.heap.size wv wr) (fun i _ => L - (intOf i).toNat)
  case atStart => exact ⟨1, by omega, by omega, rfl, heap_alloc_last _ _, (Below.refl _ _).alloc (Nat.le_refl _) _⟩
  case round =>
    obtain ⟨n, n1, n2, rfl, how, hbe⟩ := hrel
    by_cases hlt : n < L
    · obtain ⟨m, hm⟩ : ∃ m, m = min n (L - n) := ⟨_, rfl⟩
      have m1 : n + m ≤ L := by omega
      have m2 : 1 ≤ m := by omega
      have hn : (vals (List.replicate m 65535)).length = Nat.min n (L - n) := by rw [vals_length, List.length_replicate, hm]
      have hfit : n + (vals (List.replicate m 65535)).length ≤ (vals (fillTo L n)).length := by rw [vals_length, vals_length, fillTo_length n2, List.length_replicate]; exact m1
      have hsrc : ∀ j v, (vals (List.replicate m 65535))[j]? = some v → wr.drew.cell? ((⟨wv.heap.size, 0, none⟩ : Addr).add j) = some v := by
        intro j v hv
        have hj : j < m := by
          have := (List.getElem?_eq_some_iff.1 hv).1
          simpa [vals] using this
        have hc := how.cell j (by rw [fillTo_length n2]; omega)
        have e : (fillTo L n).getD j 0 = 65535 := by unfold fillTo; simp [List.getElem?_append, show j < n by omega]
        rw [e] at hc
        simp [vals, hj] at hv
        subst hv
        show wr.cell? _ = _
        by_cases hj0 : j = 0
        · subst hj0; simpa [Addr.add] using hc
        · simpa [Addr.add, hj0] using hc
      have HM := hide hm
      have HNm := hide hn
      have HF := hide hfit
      have HS := hide hsrc
      have HW := hide how
      have c1 : ¬ L = n := by omega
      have c2 : (n : Int) ≤ (L : Int) := by omega
      have c3 : (0 : Int) ≤ (n : Int) := by omega
      clear hm hn hfit hsrc how
      go_wp2_with fail
      go_region_held3 (fun _ => True) (trivial)
        ((refine step_copy_splice (by rfl) (.tmp 41) (.tmp 44) 24 24 (by rfl) 3 Try.underlying24 size_int (some ⟨wv.heap.size, n, none⟩) (some ⟨wv.heap.size, 0, none⟩) (L - n) (L - n) n L (by rfl) (by rfl) wv.heap.size n (vals (fillTo L n)) 3 HW.out (vals (List.replicate m 65535)) HNm.out (fun _ => ⟨rfl, _, rfl, HS.out⟩) HF.out (vals_one _) wv.heap.size wv hbe.drew (Nat.le_refl _) ?_; intro w4 hg4 hb4))
      have ev : IntKind.i64.wrap ((n : Int) + ((vals (List.replicate m 65535)).length : Nat)) = ((n + m : Nat) : Int) := by
        rw [vals_length, List.length_replicate, IntKind.wrap_i64]; omega
      have HE := hide ev
      have how4 : OwnInts w4 wv.heap.size (fillTo L (n + m)) := by
        unfold OwnInts
        rw [← splice_fill m1]
        exact hg4.out
      clear ev hg4
      go_wp2
      go_roundw
      case rel => exact ⟨n + m, by omega, by omega, congrArg (Value.int .i64) HE.out, how4, hb4⟩
      case measure =>
        have e := HE.out
        simp only [intOf]
        first | (rw [e]; omega) | omega
    · obtain rfl : n = L := by omega
      go_wp2
      go_ret
      exact ⟨_, rfl, Nat.le_refl _, by rw [fillTo_end] at how; exact how, hbe⟩

end Go.Proofs.Ytanpglfpopbfkaa
