/- The reference's erases, as a row; two sectors one behind the other. -/
import Derived.Test.YtanpglfpopbfkaaChgM
import Derived.Test.YtanpglfpopbfkaaChgP
import Derived.Test.YtanpglfpopbfkaaSlotP
namespace Go.Proofs.Ytanpglfpopbfkaa
open Go.RowKit
attribute [local go_sem ↓] Go.wp_at_zero Go.wp_at_succ

theorem erases_row (s : Nat) (w : World) (hs : s ≤ 6) : Calls Try.prog 63 #[.int .i64 s] w fun e w' => ∃ g c, e = .returned (.slice (some ⟨g, 0, none⟩) 32 c) ∧ w'.ownsRow w.heap.size 94 2 (.slice (some ⟨g, 0, none⟩) 32 c) 32 (cells2 (eraL s 32)) ∧ IsChgs w' (some ⟨g, 0, none⟩) (eraL s 32) ∧ Below w.heap.size w w' := by
  refine (erases_any s w hs).mono ?_
  rintro e w' ⟨v, rfl, hm⟩
  obtain ⟨al, cl, hv, hc, hl⟩ := hm.isChgs
  have ho := hm.own
  rw [eraL_length] at hv hc ho
  obtain ⟨q, ⟨hv2, hn⟩ | ⟨g, cap, cur, hv2, hg, hh, r⟩⟩ := id ho
  · omega
  · rw [hv] at hv2 ho
    cases hv2
    exact ⟨g, cl, by rw [hv], ho, hl, hm.below⟩

theorem eraL_caps (w : World) (s k : Nat) : CapsOK w (eraL s k) := by
  intro c hc bb x hx
  simp [eraL] at hc
  obtain ⟨i, hi, rfl⟩ := hc
  cases hx

theorem eraL_in {s i : Nat} {c : Nat × Option (Nat × Int)} (hc : c ∈ eraL s i) : c.1 < 32 * s + i := by
  simp [eraL] at hc
  obtain ⟨j, hj, rfl⟩ := hc
  simp only
  omega

/-- Two sectors, one behind the other. -/
theorem chgS_two {ws : List Int} {fuel : Int} {s : Nat} (hc : chk ws fuel = 0) (hl : ws.length = 192) (hs : s ≤ 1) : chgS ws fuel (eraL (2 + 2 * s) 32 ++ eraL (3 + 2 * s) 32) = clrAt ws fuel s 2 := by
  have q := chk_parts hc
  have e1 : clrAt ws fuel s 1 = eraS ws fuel ((2 + 2 * s : Nat) : Int) := by
    rw [clrAt_go rfl]
    show eraS ws fuel (2 + (s : Int) * 2 + ((0 : Nat) : Int)) = _
    rw [show 2 + (s : Int) * 2 + ((0 : Nat) : Int) = ((2 + 2 * s : Nat) : Int) by omega]
  have hA : chgS ws fuel (eraL (2 + 2 * s) 32) = eraS ws fuel ((2 + 2 * s : Nat) : Int) := chgS_era hc (by rw [hl]; omega)
  have ev : eraS ws fuel ((2 + 2 * s : Nat) : Int) = (chg (fun _ _ => 65535) ((2 + 2 * s) * 32) (cnt fuel 32) ws, burn fuel (cnt fuel 32), perr fuel 32) := by
    unfold eraS
    rw [if_neg (by simpa using hc), if_neg (by rw [hl]; omega), Int.toNat_natCast]
  by_cases h : cnt fuel 32 = 32
  · rw [chgS_go (by rw [eraL_length]; exact h), applyL_era, eraL_length]
    have hk : chk (chg (fun _ _ => 65535) ((2 + 2 * s) * 32) 32 ws) (burn fuel 32) = 0 := by
      have := burn_bounds (n := 32) (k := 32) q.2.1 q.2.2.1 (by rw [h]; exact Nat.le_refl _)
      refine chk_chg hc _ _ _ ?_ this.1 this.2
      apply okL_of
      intro i hi
      rw [chg_length] at hi
      rw [chg_get _ _ _ _ _ hi]
      split
      · decide
      · exact okL_get q.2.2.2 i hi
    rw [h, perr_ok h] at ev
    have hlen : (chg (fun _ _ => 65535) ((2 + 2 * s) * 32) 32 ws).length = 192 := by rw [chg_length]; exact hl
    rw [clrAt_go (by rw [e1, ev]), e1, ev]
    generalize chg (fun _ _ => 65535) ((2 + 2 * s) * 32) 32 ws = X at *
    dsimp only
    rw [chgS_era hk (by rw [hlen]; omega), show 2 + (s : Int) * 2 + ((1 : Nat) : Int) = ((3 + 2 * s : Nat) : Int) by omega]
  · have hlt : cnt fuel 32 < 32 := by have := cnt_le fuel 32; omega
    rw [chgS_stop (by rw [eraL_length]; exact hlt), hA, clrAt_stay (by rw [e1, ev, perr_no hlt]; show (7 : Int) ≠ 0; decide), e1]

end Go.Proofs.Ytanpglfpopbfkaa
