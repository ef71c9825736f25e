/- What a list of changes that programs words does. -/
import Derived.Test.YtanpglfpopbfkaaErased0
namespace Go.Proofs.Ytanpglfpopbfkaa
open Go.RowKit
attribute [local go_sem ↓] Go.wp_at_zero Go.wp_at_succ

theorem ProL.lt {p n : Nat} {words : List Int} {cs : List (Nat × Option (Nat × Int))} (h : ProL p words n cs) (c : Nat × Option (Nat × Int)) (hc : c ∈ cs) : c.1 < p + n := by
  obtain ⟨i, hi, he⟩ := List.getElem_of_mem hc
  have hi' : i < n := by rw [h.1] at hi; exact hi
  obtain ⟨b, hb⟩ := h.2 i hi'
  rw [List.getElem?_eq_getElem hi, he] at hb
  have := Option.some.inj hb
  rw [this]
  simp only
  omega

theorem applyL_pro {ws words : List Int} {p n : Nat} {cs : List (Nat × Option (Nat × Int))} (h : ProL p words n cs) (hf : p + n ≤ ws.length) (k : Nat) (hk : k ≤ n) : applyL (cs.take k) ws = chg (andW words) p k ws := by
  induction k with
  | zero => rfl
  | succ k ih =>
    obtain ⟨b, hb⟩ := h.2 k (by omega)
    rw [applyL_succ cs ws k _ hb, ih (by omega)]
    simp only [apW]
    rw [chg_here (andW words) p k ws (by omega)]
    rfl

theorem chgS_pro {ws words : List Int} {fuel : Int} {p : Nat} {cs : List (Nat × Option (Nat × Int))} (h : chk ws fuel = 0) (hp : ProL p words words.length cs) (hf : p + words.length ≤ ws.length) (hok : okL words = true) : chgS ws fuel cs = progS ws fuel p words := by
  rw [prog_ok h hf hok]
  unfold chgS
  rw [hp.1, applyL_pro hp hf _ (cnt_le _ _)]

end Go.Proofs.Ytanpglfpopbfkaa
