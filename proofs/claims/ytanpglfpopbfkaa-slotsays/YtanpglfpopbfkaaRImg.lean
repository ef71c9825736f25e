/- The contract of wainwrightref.ImageOf: the document's Image, of right flash and slot; 0: it isn't sealed. -/
import Derived.Test.YtanpglfpopbfkaaSlotQ
namespace Go.Proofs.Ytanpglfpopbfkaa
open Go.RowKit
attribute [local go_sem ↓] Go.wp_at_zero Go.wp_at_succ

/-- The words and the name; none, and 0, where there is no image. -/
def refImgT (ws : List Int) (p : Nat) : List Int × Int := if headB ws p = false then ([], 0) else ((ws.drop (p + 4)).take (ws.getD p 0).toNat, ws.getD (p + 1) 0)

def TellsI (w : World) (r : List Int × Int) (e : Ending) (w' : World) : Prop :=
  (∃ a n c, e = .returned (.tuple #[.slice a n c, .int .i64 r.2]) ∧ IsInts w' a r.1 ∧ r.1.length = n) ∧ Below w.heap.size w w'

theorem headB_sum {h0 h1 h2 h3 : Int} : (sealB h0 h1 && decide (h2 = xorW h0 ∧ h3 = xorW h1)) = (sealB h0 h1 && decide (h0 + h2 = 65535 ∧ h1 + h3 = 65535)) := by
  cases hs : sealB h0 h1
  · rfl
  · have q : (1 ≤ h0 ∧ h0 ≤ 40) ∧ 1 ≤ h1 ∧ h1 ≤ 60 := by simpa [sealB, inB] using hs
    rw [xorW_small (x := h0) (by omega) (by omega), xorW_small (x := h1) (by omega) (by omega)]
    simp only [Bool.true_and]
    exact decide_eq_decide.2 (by omega)

set_option maxRecDepth 100000 in
set_option maxHeartbeats 2000000 in
theorem imageOf_any (a : Option Addr) (c : Nat) (ws : List Int) (fuel : Int) (sn p : Nat) (w : World) (h : IsInts w a ws) (hn : ws.length = 192) (hok : okL ws = true) (hcap : 192 ≤ c) (hm : c ≤ maxLen) (hs : sn ≤ 1) (hp : p = 64 + 64 * sn) :
    Calls Try.prog 52 #[.agg #[.slice a 192 c, .int .i64 fuel], .int .i64 sn] w (TellsI w (refImgT ws p)) := by
  have hp1 : p ≤ 128 := by omega
  obtain ⟨b, off, rfl⟩ : ∃ b off, a = some ⟨b, off, none⟩ := by
    rcases h with rfl | ⟨b, off, rfl, _⟩
    · simp at hn
    · exact ⟨b, off, rfl⟩
  have hw : Below w.heap.size w (w.alloc (.cells #[.slice (some ⟨b, off, none⟩) 192 c, .int .i64 fuel] 28)) := (Below.refl _ _).alloc (Nat.le_refl _) _
  have b0 := hide (heap_alloc_last w (.cells #[.slice (some ⟨b, off, none⟩) 192 c, .int .i64 fuel] 28))
  have i0 := h.below hw
  have hx := ((i0.drop p).take 4)
  rw [take4 (by rw [hn]; omega)] at hx
  have hy := i0.drop (p + 4)
  have HH := hide (show headB ws p = (sealB (ws.getD p 0) (ws.getD (p + 1) 0) && decide (ws.getD p 0 + ws.getD (p + 2) 0 = 65535 ∧ ws.getD (p + 1) 0 + ws.getD (p + 3) 0 = 65535)) from headB_sum)
  have HR := hide (show refImgT ws p = if headB ws p = false then ([], 0) else ((ws.drop (p + 4)).take (ws.getD p 0).toNat, ws.getD (p + 1) 0) from rfl)
  have o0 : 0 ≤ ws.getD p 0 ∧ ws.getD p 0 ≤ 65535 := by have := okL_get hok p (by rw [hn]; omega); unfold okW at this; exact of_decide_eq_true this
  have o1 : 0 ≤ ws.getD (p + 1) 0 ∧ ws.getD (p + 1) 0 ≤ 65535 := by have := okL_get hok (p + 1) (by rw [hn]; omega); unfold okW at this; exact of_decide_eq_true this
  have o2 : 0 ≤ ws.getD (p + 2) 0 ∧ ws.getD (p + 2) 0 ≤ 65535 := by have := okL_get hok (p + 2) (by rw [hn]; omega); unfold okW at this; exact of_decide_eq_true this
  have o3 : 0 ≤ ws.getD (p + 3) 0 ∧ ws.getD (p + 3) 0 ≤ 65535 := by have := okL_get hok (p + 3) (by rw [hn]; omega); unfold okW at this; exact of_decide_eq_true this
  have HN := hide hn
  generalize ws.getD p 0 = h0 at *
  generalize ws.getD (p + 1) 0 = h1 at *
  generalize ws.getD (p + 2) 0 = h2 at *
  generalize ws.getD (p + 3) 0 = h3 at *
  obtain ⟨c0, c1, c2, c3⟩ : (w.alloc (.cells #[.slice (some ⟨b, off, none⟩) 192 c, .int .i64 fuel] 28)).cell? ⟨b, off + p, none⟩ = some (.int .i64 h0) ∧ (w.alloc (.cells #[.slice (some ⟨b, off, none⟩) 192 c, .int .i64 fuel] 28)).cell? ⟨b, off + p + 1, none⟩ = some (.int .i64 h1) ∧ (w.alloc (.cells #[.slice (some ⟨b, off, none⟩) 192 c, .int .i64 fuel] 28)).cell? ⟨b, off + p + 2, none⟩ = some (.int .i64 h2) ∧ (w.alloc (.cells #[.slice (some ⟨b, off, none⟩) 192 c, .int .i64 fuel] 28)).cell? ⟨b, off + p + 3, none⟩ = some (.int .i64 h3) := by
    rcases hx with e | ⟨b', off', e, hc⟩
    · cases e
    · cases e
      exact ⟨hc 0 (by simp), hc 1 (by simp), hc 2 (by simp), hc 3 (by simp)⟩
  obtain ⟨d, hd⟩ : ∃ d : Int, d = 64 * (sn : Int) := ⟨_, rfl⟩
  have k1 : IntKind.i64.wrap (64 * (sn : Int)) = d := by rw [IntKind.wrap_i64]; omega
  have k2 : IntKind.i64.wrap (64 + d) = (p : Int) := by rw [IntKind.wrap_i64]; omega
  clear hp hd hs hn hok hx
  unfold maxLen at hm
  have j3 : (p : Int) ≤ 192 := by omega
  have j4 : ¬ c = p := by omega
  have j5 : (192 : Int) ≤ (c : Int) := by omega
  go_enter Try.func52, Try.ntmps52
  go_upto_region 2 with fail
  generalize w.alloc (.cells #[.slice (some ⟨b, off, none⟩) 192 c, .int .i64 fuel] 28) = W at *
  have j6 : (0 : Int) < ((192 - p : Nat) : Int) := by omega
  have j7 : (1 : Int) < ((192 - p : Nat) : Int) := by omega
  have j8 : (2 : Int) < ((192 - p : Nat) : Int) := by omega
  have j9 : (3 : Int) < ((192 - p : Nat) : Int) := by omega
  go_quiet (fail)
  go_upto_region 3 with fail
  obtain ⟨W1, hW1⟩ : ∃ W1, W1 = W.drewN nq := ⟨_, rfl⟩
  replace c2 : W1.cell? ⟨b, off + p + 2, none⟩ = some (.int .i64 h2) := by rw [hW1]; exact c2
  replace c3 : W1.cell? ⟨b, off + p + 3, none⟩ = some (.int .i64 h3) := by rw [hW1]; exact c3
  replace hy : IsInts W1 (some ⟨b, off + (p + 4), none⟩) (ws.drop (p + 4)) := by rw [hW1]; exact hy.drewN nq
  replace hw : Below w.heap.size w W1 := by rw [hW1]; exact below_drewN hw nq
  rw [← hW1]
  clear hW1 c0 c1 i0 b0
  go_cut [50] (fun v50 wx => v50 = .bool (!headB ws p) ∧ wx = W1)
  case first =>
    by_cases s0 : h0 < 1
    · go_wp2_with fail
      go_meet
      case rel => exact ⟨congrArg Value.bool (by rw [HH.out]; unfold sealB inB; simp; omega), rfl⟩
    · have s0' : decide (h0 < 1) = false := by simp; omega
      by_cases s1 : 40 < h0
      · go_wp2_with fail
        go_meet
        case rel => exact ⟨congrArg Value.bool (by rw [HH.out]; unfold sealB inB; simp; omega), rfl⟩
      · have s1' : decide (40 < h0) = false := by simp; omega
        by_cases s2 : h1 < 1
        · go_wp2_with fail
          go_meet
          case rel => exact ⟨congrArg Value.bool (by rw [HH.out]; unfold sealB inB; simp; omega), rfl⟩
        · have s2' : decide (h1 < 1) = false := by simp; omega
          by_cases s3 : 60 < h1
          · go_wp2_with fail
            go_meet
            case rel => exact ⟨congrArg Value.bool (by rw [HH.out]; unfold sealB inB; simp; omega), rfl⟩
          · have s3' : decide (60 < h1) = false := by simp; omega
            by_cases s4 : h0 + h2 = 65535
            · have s4' : (h0 + h2 != 65535) = false := by simpa using s4
              have S4 := hide s4
              clear s4
              by_cases s5 : h1 + h3 = 65535
              · have s5' : (h1 + h3 != 65535) = false := by simpa using s5
                have S5 := hide s5
                clear s5
                go_wp2_with fail
                go_meet
                case rel => exact ⟨congrArg Value.bool (by rw [HH.out]; have := S4.out; have := S5.out; unfold sealB inB; simp; omega), rfl⟩
              · have s5' : (h1 + h3 != 65535) = true := by simpa using s5
                have S5 := hide s5
                clear s5
                go_wp2_with fail
                go_meet
                case rel => exact ⟨congrArg Value.bool (by rw [HH.out]; have := S5.out; unfold sealB inB; simp; omega), rfl⟩
            · have s4' : (h0 + h2 != 65535) = true := by simpa using s4
              have S4 := hide s4
              clear s4
              go_wp2_with fail
              go_meet
              case rel => exact ⟨congrArg Value.bool (by rw [HH.out]; have := S4.out; unfold sealB inB; simp; omega), rfl⟩
  case rest =>
    obtain ⟨rfl, hwc⟩ := hcut
    subst hwc
    cases hb : headB ws p
    · have hr : Hid (refImgT ws p = ([], 0)) := by show _ = _; rw [HR.out, if_pos hb]
      clear hb
      go_wp2
      go_ret2
      rw [hr.out]
      exact ⟨⟨none, 0, 0, rfl, .inl rfl, rfl⟩, hw⟩
    · have hsl : sealB h0 h1 = true := by have := HH.out; rw [hb] at this; have := this.symm; simp only [Bool.and_eq_true] at this; exact this.1
      have q0 : 1 ≤ h0 ∧ h0 ≤ 40 := by unfold sealB inB at hsl; simp only [Bool.and_eq_true, decide_eq_true_eq] at hsl; exact hsl.1
      have hr : Hid (refImgT ws p = ((ws.drop (p + 4)).take h0.toNat, h1)) := by show _ = _; rw [HR.out, if_neg (by simp [hb])]
      obtain ⟨m, rfl⟩ := Int.eq_ofNat_of_zero_le (show 0 ≤ h0 by omega)
      rw [Int.toNat_natCast] at hr
      obtain ⟨m4, hm4⟩ : ∃ m4, m4 = 4 + m := ⟨_, rfl⟩
      have z0 : IntKind.i64.wrap (4 + (m : Int)) = (m4 : Int) := by rw [IntKind.wrap_i64]; omega
      have z1 : (4 : Int) ≤ (m4 : Int) := by omega
      have z2 : (m4 : Int) ≤ ((c - p : Nat) : Int) := by omega
      have z3 : ¬ c - p = 4 := by omega
      have hl : Hid (((ws.drop (p + 4)).take m).length = m4 - 4) := by show _ = _; have := HN.out; simp; omega
      clear hb hsl HH HR hm4 o0
      go_wp2
      go_ret2
      rw [hr.out]
      exact ⟨⟨some ⟨b, off + (p + 4), none⟩, m4 - 4, c - p - 4, rfl, hy.take m, hl.out⟩, hw⟩

end Go.Proofs.Ytanpglfpopbfkaa
