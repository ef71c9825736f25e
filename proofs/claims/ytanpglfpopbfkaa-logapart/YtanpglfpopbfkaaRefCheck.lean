/- The contract of wainwrightref.CheckFlash: the document's Check. -/
import Derived.Test.YtanpglfpopbfkaaRef
import Derived.Deep.DeepCutAuto
namespace Go.Proofs.Ytanpglfpopbfkaa
open Go.RowKit

theorem formB_cases {n : Nat} (h : formB n = true) : n = 32 ∨ n = 64 ∨ n = 96 ∨ n = 128 ∨ n = 160 ∨ n = 192 := by
  simp [formB] at h; omega

theorem formB_not {n : Nat} (k : Nat) (h : formB n = false) (hk : formB k = true) : ((n : Int) != (k : Int)) = true := by
  simp only [bne_iff_ne, ne_eq]
  intro e
  obtain rfl : n = k := by omega
  rw [h] at hk
  cases hk

set_option maxRecDepth 100000 in
set_option maxHeartbeats 2000000 in
theorem refCheck_any (a : Option Addr) (n c : Nat) (xs : List Int) (fuel : Int) (w : World) (h : IsInts w a xs) (hn : xs.length = n) (hm : n ≤ maxLen) :
    Calls Try.prog 21 #[.agg #[.slice a n c, .int .i64 fuel]] w fun e w' => e = .returned (.int .i64 (chk xs fuel)) ∧ Below w.heap.size w w' := by
  have HA := hide (fun W (h : IsInts W a xs) => refAllWords_any a n c xs W h hn hm)
  have i1 := h.alloc (.cells #[.slice a n c, .int .i64 fuel] 28)
  unfold maxLen at hm
  have hb : Below w.heap.size w (w.alloc (.cells #[.slice a n c, .int .i64 fuel] 28)) := (Below.refl _ _).alloc (Nat.le_refl _) _
  have b0 := heap_alloc_last w (.cells #[.slice a n c, .int .i64 fuel] 28)
  have HN := hide hn
  clear hn
  go_enter Try.func21, Try.ntmps21
  go_upto_region 2 with fail
  generalize w.alloc (.cells #[.slice a n c, .int .i64 fuel] 28) = W at *
  have x1 : W.cell? ⟨w.heap.size, 1, none⟩ = some (.int .i64 fuel) := blk_cell b0 1 _ rfl
  have x0 : W.cell? ⟨w.heap.size, 0, none⟩ = some (.slice a n c) := blk_cell b0 0 _ rfl
  clear b0
  go_cut [28] (fun v28 wx => v28 = .bool (!formB n) ∧ wx = W)
  case first =>
    cases hf : formB n
    · have HF := hide hf
      have n1 : ((n : Int) != 32) = true := formB_not 32 hf rfl
      have n2 : ((n : Int) != 64) = true := formB_not 64 hf rfl
      have n3 : ((n : Int) != 96) = true := formB_not 96 hf rfl
      have n4 : ((n : Int) != 128) = true := formB_not 128 hf rfl
      have n5 : ((n : Int) != 160) = true := formB_not 160 hf rfl
      have n6 : ((n : Int) != 192) = true := formB_not 192 hf rfl
      clear hf
      go_wp2_with fail
      go_meet
      case rel => exact ⟨by first | rw [HF.out]; rfl | rfl, rfl⟩
    · rcases formB_cases hf with rfl | rfl | rfl | rfl | rfl | rfl
      all_goals
        clear hf
        go_wp2_with fail
        go_meet
        case rel => exact ⟨rfl, rfl⟩
  case rest =>
    obtain ⟨rfl, hwc⟩ := hcut
    subst hwc
    cases hf : formB n
    · have HF : Hid (formB xs.length = false) := by rw [HN.out]; exact hf
      clear hf
      go_wp2
      go_ret
      exact ⟨ret_intk (chk_form HF.out).symm, hb⟩
    have hform : Hid (formB xs.length = true) := by rw [HN.out]; exact hf
    clear hf
    by_cases c4 : fuel < -1
    · have hr : Hid (rangeB xs fuel = false) := by show _ = _; unfold rangeB; simp; omega
      go_wp2
      go_ret
      exact ⟨ret_intk (chk_range hform.out hr.out).symm, hb⟩
    have c4' : decide (fuel < -1) = false := by simp; omega
    by_cases c5 : fuel ≤ 100000
    rotate_left
    · have hr : Hid (rangeB xs fuel = false) := by show _ = _; unfold rangeB; simp; omega
      go_wp2
      go_ret
      exact ⟨ret_intk (chk_range hform.out hr.out).symm, hb⟩
    have c5' : decide (100000 < fuel) = false := by simp; omega
    cases hok : okL xs
    · have hr : Hid (rangeB xs fuel = false) := by show _ = _; unfold rangeB; simp [hok]
      have HO := hide hok
      clear hok
      go_wp2_with fail
      refine (unhide HA _ i1).mono ?_
      rintro e w' ⟨rfl, rfl⟩
      rw [HO.out]
      go_wp2
      go_ret
      exact ⟨ret_intk (chk_range hform.out hr.out).symm, hb⟩
    · have hr : Hid (rangeB xs fuel = true) := by show _ = _; unfold rangeB; simp [hok]; omega
      have HO := hide hok
      clear hok
      go_wp2_with fail
      refine (unhide HA _ i1).mono ?_
      rintro e w' ⟨rfl, rfl⟩
      rw [HO.out]
      go_wp2
      go_ret
      exact ⟨ret_intk (chk_ok hform.out hr.out).symm, hb⟩

end Go.Proofs.Ytanpglfpopbfkaa
