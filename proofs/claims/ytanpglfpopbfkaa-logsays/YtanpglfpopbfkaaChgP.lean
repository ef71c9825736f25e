/- Plain facts: lists of changes one behind the other, of which there is power for so many. -/
import Derived.Test.YtanpglfpopbfkaaProgrammed0
namespace Go.Proofs.Ytanpglfpopbfkaa
open Go.RowKit

theorem applyL_append (A B : List (Nat × Option (Nat × Int))) (ws : List Int) : applyL (A ++ B) ws = applyL B (applyL A ws) := by
  unfold applyL; rw [List.foldl_append]

theorem cnt_add_stop {f : Int} {n m : Nat} (h : cnt f n < n) : cnt f (n + m) = cnt f n := by
  by_cases hf : f < 0
  · rw [cnt_neg _ hf] at h; omega
  · rw [cnt_nn _ hf] at *; rw [cnt_nn _ hf]; omega
theorem cnt_add_go {f : Int} {n m : Nat} (h : cnt f n = n) : cnt f (n + m) = n + cnt (burn f n) m := by
  by_cases hf : f < 0
  · rw [cnt_neg _ hf, burn_negf _ hf, cnt_neg _ hf]
  · have h' := h
    rw [cnt_nn _ hf] at h'
    rw [cnt_nn _ hf, burn_nn _ hf, cnt_nn _ (by omega)]
    omega
theorem burn_add {f : Int} {n k : Nat} (h : cnt f n = n) : burn f (n + k) = burn (burn f n) k := by
  by_cases hf : f < 0
  · rw [burn_negf _ hf, burn_negf _ hf, burn_negf _ hf]
  · have h' := h
    rw [cnt_nn _ hf] at h'
    rw [burn_nn _ hf, burn_nn _ hf, burn_nn _ (by omega)]
    omega

theorem chgS_stop {ws : List Int} {f : Int} {A B : List (Nat × Option (Nat × Int))} (h : cnt f A.length < A.length) : chgS ws f (A ++ B) = chgS ws f A := by
  unfold chgS
  rw [List.length_append, cnt_add_stop h, perr_no h, perr_no (by rw [cnt_add_stop h]; omega), List.take_append_of_le_length (by omega)]

theorem chgS_go {ws : List Int} {f : Int} {A B : List (Nat × Option (Nat × Int))} (h : cnt f A.length = A.length) : chgS ws f (A ++ B) = chgS (applyL A ws) (burn f A.length) B := by
  unfold chgS
  rw [List.length_append, cnt_add_go h, burn_add h, List.take_length_add_append, applyL_append]
  congr 2
  unfold perr
  rw [cnt_add_go h]
  by_cases c : cnt (burn f A.length) B.length = B.length
  · rw [if_pos c, if_pos (by omega)]
  · rw [if_neg c, if_neg (by omega)]

end Go.Proofs.Ytanpglfpopbfkaa
