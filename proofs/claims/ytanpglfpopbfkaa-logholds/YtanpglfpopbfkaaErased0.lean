/- Lists of changes that erase, and that program. -/
import Derived.Test.YtanpglfpopbfkaaChanged
namespace Go.Proofs.Ytanpglfpopbfkaa
open Go.RowKit
attribute [local go_sem ↓] Go.wp_at_zero Go.wp_at_succ

theorem applyL_era (ws : List Int) (s k : Nat) : applyL (eraL s k) ws = chg (fun _ _ => 65535) (s * 32) k ws := by
  induction k with
  | zero => rfl
  | succ k ih =>
    rw [eraL_succ]
    have : applyL (eraL s k ++ [(32 * s + k, none)]) ws = (applyL (eraL s k) ws).set (32 * s + k) 65535 := by simp [applyL, apW]
    rw [this, ih, Nat.mul_comm 32 s]
    rfl

theorem eraL_take (s n k : Nat) (h : k ≤ n) : (eraL s n).take k = eraL s k := by
  unfold eraL
  rw [← List.map_take, List.take_range, Nat.min_eq_left h]

theorem chgS_era {ws : List Int} {fuel : Int} {s : Nat} (h : chk ws fuel = 0) (hs : (s : Int) < (ws.length : Int) / 32) : chgS ws fuel (eraL s 32) = eraS ws fuel s := by
  unfold chgS eraS
  rw [if_neg (by simpa using h), if_neg (by omega), eraL_length, eraL_take _ _ _ (cnt_le _ _), applyL_era, Int.toNat_natCast]

theorem erases_from (s : Nat) (w : World) (hs : s ≤ 6) : Calls Try.prog 63 #[.int .i64 s] w fun e w' => ∃ al cl, e = .returned (.slice al 32 cl) ∧ 32 ≤ cl ∧ IsChgs w' al (eraL s 32) ∧ Below w.heap.size w w' := by
  refine (erases_any s w hs).mono ?_
  rintro e w' ⟨v, rfl, hm⟩
  obtain ⟨al, cl, hv, hc, hl⟩ := hm.isChgs
  rw [eraL_length] at hv hc
  exact ⟨al, cl, by rw [hv], hc, hl, hm.below⟩

theorem programs_from (p : Nat) (a : Option Addr) (n c : Nat) (words : List Int) (w : World) (h : IsInts w a words) (hn : words.length = n) (hm : n ≤ 100000) (hp : p ≤ 100000) :
    Calls Try.prog 64 #[.int .i64 p, .slice a n c] w fun e w' => ∃ al cl cs, e = .returned (.slice al n cl) ∧ n ≤ cl ∧ IsChgs w' al cs ∧ ProL p words n cs ∧ Below w.heap.size w w' := by
  refine (programs_any p a n c words w h hn hm hp).mono ?_
  rintro e w' ⟨v, cs, rfl, hm, hpl⟩
  obtain ⟨al, cl, hv, hc, hl⟩ := hm.isChgs
  rw [hpl.1] at hv hc
  exact ⟨al, cl, cs, by rw [hv], hc, hl, hpl, hm.below⟩

end Go.Proofs.Ytanpglfpopbfkaa
