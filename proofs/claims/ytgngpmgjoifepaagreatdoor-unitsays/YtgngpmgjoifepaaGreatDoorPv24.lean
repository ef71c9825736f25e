/- The contract of wainwrightref.ImageOf: the document's Image, of right flash and slot; 0: it isn't sealed. The ref's spaced, ImageText, CheckImage. The ref's CheckBook, NameOf. -/
import Derived.Test.YtgngpmgjoifepaaGreatDoorPv23
import Derived.Test.YtgngpmgjoifepaaGreatDoorPv10
namespace Go.Proofs.YtgngpmgjoifepaaGreatDoor
open Go.RowKit
attribute [local go_sem ↓] Go.wp_at_zero Go.wp_at_succ

def refImgT (ws : List Int) (p : Nat) : List Int × Int := if headB ws p = false then ([], 0) else ((ws.drop (p + 4)).take (ws.getD p 0).toNat, ws.getD (p + 1) 0)

def TellsI (w : World) (r : List Int × Int) (e : Ending) (w' : World) : Prop :=
  (∃ a n c, e = .returned (.tuple #[.slice a n c, .int .i64 r.2]) ∧ IsInts w' a r.1 ∧ r.1.length = n) ∧ Below w.heap.size w w'

theorem headB_sum {h0 h1 h2 h3 : Int} : (sealB h0 h1 && decide (h2 = xorW h0 ∧ h3 = xorW h1)) = (sealB h0 h1 && decide (h0 + h2 = 65535 ∧ h1 + h3 = 65535)) := by
  cases hs : sealB h0 h1
  { rfl }
  {
  have q : (1 ≤ h0 ∧ h0 ≤ 40) ∧ 1 ≤ h1 ∧ h1 ≤ 60 := by simpa [sealB, inB] using hs
  rw [xorW_small (x := h0) (by omega) (by omega), xorW_small (x := h1) (by omega) (by omega)]
  simp only [Bool.true_and]
  exact decide_eq_decide.2 (by omega)

  }
set_option maxRecDepth 100000 in
set_option maxHeartbeats 2000000 in
theorem imageOf_any (a : Option Addr) (c : Nat) (ws : List Int) (fuel : Int) (sn p : Nat) (w : World) (h : IsInts w a ws) (hn : ws.length = 192) (hok : okL ws = true) (hcap : 192 ≤ c) (hs : sn ≤ 1) (hp : p = 64 + 64 * sn) :
    Calls Tryz.prog 24 #[.agg #[.slice a 192 c, .int .i64 fuel], .int .i64 sn] w (TellsI w (refImgT ws p)) := by
  have hp1 : p ≤ 128 := by omega
  obtain ⟨b, off, rfl⟩ : ∃ b off, a = some ⟨b, off, none⟩ := by
    rcases h with rfl | ⟨b, off, rfl, _⟩
    { simp at hn }
    { exact ⟨b, off, rfl⟩ }
  have hw : Below w.heap.size w (w.alloc (.cells #[.slice (some ⟨b, off, none⟩) 192 c, .int .i64 fuel] 27)) := (Below.refl _ _).alloc (Nat.le_refl _) _
  have b0 := hide (heap_alloc_last w (.cells #[.slice (some ⟨b, off, none⟩) 192 c, .int .i64 fuel] 27))
  have i0 := h.below hw
  have hx := ((i0.drop p).take 4)
  rw [take4 (by rw [hn]; omega)] at hx
  have hy := i0.drop (p + 4)
  have HH := hide (show headB ws p = (sealB (ws.getD p 0) (ws.getD (p + 1) 0) && decide (ws.getD p 0 + ws.getD (p + 2) 0 = 65535 ∧ ws.getD (p + 1) 0 + ws.getD (p + 3) 0 = 65535)) from headB_sum)
  have HR := hide (show refImgT ws p = if headB ws p = false then ([], 0) else ((ws.drop (p + 4)).take (ws.getD p 0).toNat, ws.getD (p + 1) 0) from rfl)
  have o0 : 0 ≤ ws.getD p 0 ∧ ws.getD p 0 ≤ 65535 := by have := okL_get hok p (by rw [hn]; omega); unfold okW at this; exact of_decide_eq_true this
  have o1 : 0 ≤ ws.getD (p + 1) 0 ∧ ws.getD (p + 1) 0 ≤ 65535 := by have := okL_get hok (p + 1) (by rw [hn]; omega); unfold okW at this; exact of_decide_eq_true this
  have o2 : 0 ≤ ws.getD (p + 2) 0 ∧ ws.getD (p + 2) 0 ≤ 65535 := by have := okL_get hok (p + 2) (by rw [hn]; omega); unfold okW at this; exact of_decide_eq_true this
  have o3 : 0 ≤ ws.getD (p + 3) 0 ∧ ws.getD (p + 3) 0 ≤ 65535 := by have := okL_get hok (p + 3) (by rw [hn]; omega); unfold okW at this; exact of_decide_eq_true this
  have HN := hide hn
  generalize ws.getD p 0 = h0 at *
  generalize ws.getD (p + 1) 0 = h1 at *
  generalize ws.getD (p + 2) 0 = h2 at *
  generalize ws.getD (p + 3) 0 = h3 at *
  obtain ⟨c0, c1, c2, c3⟩ : (w.alloc (.cells #[.slice (some ⟨b, off, none⟩) 192 c, .int .i64 fuel] 27)).cell? ⟨b, off + p, none⟩ = some (.int .i64 h0) ∧ (w.alloc (.cells #[.slice (some ⟨b, off, none⟩) 192 c, .int .i64 fuel] 27)).cell? ⟨b, off + p + 1, none⟩ = some (.int .i64 h1) ∧ (w.alloc (.cells #[.slice (some ⟨b, off, none⟩) 192 c, .int .i64 fuel] 27)).cell? ⟨b, off + p + 2, none⟩ = some (.int .i64 h2) ∧ (w.alloc (.cells #[.slice (some ⟨b, off, none⟩) 192 c, .int .i64 fuel] 27)).cell? ⟨b, off + p + 3, none⟩ = some (.int .i64 h3) := by
    rcases hx with e | ⟨b', off', e, hc⟩
    { cases e }
    {
    cases e
    exact ⟨hc 0 (by simp), hc 1 (by simp), hc 2 (by simp), hc 3 (by simp)⟩
    }
  obtain ⟨d, hd⟩ : ∃ d : Int, d = 64 * (sn : Int) := ⟨_, rfl⟩
  have k1 : IntKind.i64.wrap (64 * (sn : Int)) = d := by rw [IntKind.wrap_i64]; omega
  have k2 : IntKind.i64.wrap (64 + d) = (p : Int) := by rw [IntKind.wrap_i64]; omega
  clear hp hd hs hn hok hx
  have j3 : (p : Int) ≤ 192 := by omega
  have j4 : ¬ c = p := by omega
  have j5 : (192 : Int) ≤ (c : Int) := by omega
  go_enter Tryz.func24, Tryz.ntmps24
  go_upto_region 2 with fail
  generalize w.alloc (.cells #[.slice (some ⟨b, off, none⟩) 192 c, .int .i64 fuel] 27) = W at *
  have j6 : (0 : Int) < ((192 - p : Nat) : Int) := by omega
  have j7 : (1 : Int) < ((192 - p : Nat) : Int) := by omega
  have j8 : (2 : Int) < ((192 - p : Nat) : Int) := by omega
  have j9 : (3 : Int) < ((192 - p : Nat) : Int) := by omega
  go_quiet (fail)
  go_upto_region 3 with fail
  obtain ⟨W1, hW1⟩ : ∃ W1, W1 = W.drewN nq := ⟨_, rfl⟩
  replace c2 : W1.cell? ⟨b, off + p + 2, none⟩ = some (.int .i64 h2) := by rw [hW1]; exact c2
  replace c3 : W1.cell? ⟨b, off + p + 3, none⟩ = some (.int .i64 h3) := by rw [hW1]; exact c3
  replace hy : IsInts W1 (some ⟨b, off + (p + 4), none⟩) (ws.drop (p + 4)) := by rw [hW1]; exact hy.drewN nq
  replace hw : Below w.heap.size w W1 := by rw [hW1]; exact below_drewN hw nq
  rw [← hW1]
  clear hW1 c0 c1 i0 b0
  go_cut [50] (fun v50 wx => v50 = .bool (!headB ws p) ∧ wx = W1)
  case first =>
    by_cases s0 : h0 < 1
    {
    go_wp2_with fail
    go_meet
    case rel => exact ⟨congrArg Value.bool (by rw [HH.out]; unfold sealB inB; simp; omega), rfl⟩
    }
    {
    have s0' : decide (h0 < 1) = false := by simp; omega
    by_cases s1 : 40 < h0
    {
    go_wp2_with fail
    go_meet
    case rel => exact ⟨congrArg Value.bool (by rw [HH.out]; unfold sealB inB; simp; omega), rfl⟩
    }
    {
    have s1' : decide (40 < h0) = false := by simp; omega
    by_cases s2 : h1 < 1
    {
    go_wp2_with fail
    go_meet
    case rel => exact ⟨congrArg Value.bool (by rw [HH.out]; unfold sealB inB; simp; omega), rfl⟩
    }
    {
    have s2' : decide (h1 < 1) = false := by simp; omega
    by_cases s3 : 60 < h1
    {
    go_wp2_with fail
    go_meet
    case rel => exact ⟨congrArg Value.bool (by rw [HH.out]; unfold sealB inB; simp; omega), rfl⟩
    }
    {
    have s3' : decide (60 < h1) = false := by simp; omega
    by_cases s4 : h0 + h2 = 65535
    {
    have s4' : (h0 + h2 != 65535) = false := by simpa using s4
    have S4 := hide s4
    clear s4
    by_cases s5 : h1 + h3 = 65535
    {
    have s5' : (h1 + h3 != 65535) = false := by simpa using s5
    have S5 := hide s5
    clear s5
    go_wp2_with fail
    go_meet
    case rel => exact ⟨congrArg Value.bool (by rw [HH.out]; have := S4.out; have := S5.out; unfold sealB inB; simp; omega), rfl⟩
    }
    {
    have s5' : (h1 + h3 != 65535) = true := by simpa using s5
    have S5 := hide s5
    clear s5
    go_wp2_with fail
    go_meet
    case rel => exact ⟨congrArg Value.bool (by rw [HH.out]; have := S5.out; unfold sealB inB; simp; omega), rfl⟩
    }
    }
    {
    have s4' : (h0 + h2 != 65535) = true := by simpa using s4
    have S4 := hide s4
    clear s4
    go_wp2_with fail
    go_meet
    case rel => exact ⟨congrArg Value.bool (by rw [HH.out]; have := S4.out; unfold sealB inB; simp; omega), rfl⟩
    }
    }
    }
    }
    }
  case rest =>
    obtain ⟨rfl, hwc⟩ := hcut
    subst hwc
    cases hb : headB ws p
    {
    have hr : Hid (refImgT ws p = ([], 0)) := by show _ = _; rw [HR.out, if_pos hb]
    clear hb
    go_wp2
    go_ret2
    rw [hr.out]
    exact ⟨⟨none, 0, 0, rfl, .inl rfl, rfl⟩, hw⟩
    }
    {
    have hsl : sealB h0 h1 = true := by have := HH.out; rw [hb] at this; have := this.symm; simp only [Bool.and_eq_true] at this; exact this.1
    have q0 : 1 ≤ h0 ∧ h0 ≤ 40 := by unfold sealB inB at hsl; simp only [Bool.and_eq_true, decide_eq_true_eq] at hsl; exact hsl.1
    have hr : Hid (refImgT ws p = ((ws.drop (p + 4)).take h0.toNat, h1)) := by show _ = _; rw [HR.out, if_neg (by simp [hb])]
    obtain ⟨m, rfl⟩ := Int.eq_ofNat_of_zero_le (show 0 ≤ h0 by omega)
    rw [Int.toNat_natCast] at hr
    obtain ⟨m4, hm4⟩ : ∃ m4, m4 = 4 + m := ⟨_, rfl⟩
    have z0 : IntKind.i64.wrap (4 + (m : Int)) = (m4 : Int) := by rw [IntKind.wrap_i64]; omega
    have z1 : (4 : Int) ≤ (m4 : Int) := by omega
    have z2 : (m4 : Int) ≤ ((c - p : Nat) : Int) := by omega
    have z3 : ¬ c - p = 4 := by omega
    have hl : Hid (((ws.drop (p + 4)).take m).length = m4 - 4) := by show _ = _; have := HN.out; simp; omega
    clear hb hsl HH HR hm4 o0
    go_wp2
    go_ret2
    rw [hr.out]
    exact ⟨⟨some ⟨b, off + (p + 4), none⟩, m4 - 4, c - p - 4, rfl, hy.take m, hl.out⟩, hw⟩

    }
end Go.Proofs.YtgngpmgjoifepaaGreatDoor

namespace Go.Proofs.YtgngpmgjoifepaaGreatDoor
open Go.RowKit

theorem join_snoc (sep x : List UInt8) : ∀ (l : List (List UInt8)), l ≠ [] → Lib.join (l ++ [x]) sep = Lib.join l sep ++ sep ++ x
  | [], h => absurd rfl h
  | [a], _ => by rw [List.singleton_append, join_cons2, Lib.join_one, Lib.join_one, List.append_assoc]
  | a :: b :: r, _ => by
    have ih := join_snoc sep x (b :: r) (by simp)
    rw [List.cons_append, List.cons_append, join_cons2, join_cons2]
    rw [List.cons_append] at ih
    rw [ih]
    simp [List.append_assoc]

theorem wr_zero {xs : List Int} (h : 0 < xs.length) : wr (xs.take 1) = Lib.itoa xs[0] := by
  cases xs with
  | nil => simp at h
  | cons x r => simp [wr, Lib.join_one]

theorem wr_snoc {xs : List Int} {k : Nat} (h0 : 0 < k) (hk : k < xs.length) : wr (xs.take (k + 1)) = wr (xs.take k) ++ [32] ++ Lib.itoa xs[k] := by
  unfold wr
  rw [List.take_succ_eq_append_getElem hk, List.map_append, List.map_cons, List.map_nil, join_snoc]
  intro e
  have := congrArg List.length e
  rw [List.length_map, List.length_take, List.length_nil] at this
  omega

theorem app_three (a b c : List UInt8) {s t : ByteArray} (h : s = bs a) (h2 : t = bs b) : s ++ t ++ bs c = bs (a ++ b ++ c) := by rw [h, h2, bs_append, bs_append]

set_option maxHeartbeats 800000 in
set_option maxRecDepth 100000 in
theorem spaced_any (a : Option Addr) (n c : Nat) (xs : List Int) (w : World) (h : IsInts w a xs) (hn : xs.length = n) (hx : ∀ x ∈ xs, I64 x) (hs : n ≤ 64) (hT : Tab w) :
    Calls Tryz.prog 136 #[.slice a n c] w fun e w' => e = .returned (.string (bs (wr xs))) ∧ Below w.heap.size w w' := by
  have HN := hide hn
  clear hn
  go_enter Tryz.func136, Tryz.ntmps136
  go_wp2_with fail
  go_loopw [3, 8] (fun p i wq => ∃ k : Nat, k ≤ n ∧ p = .string (bs (wr (xs.take k))) ∧ i = .int .i64 k ∧ Below w.heap.size w wq) (fun _ i _ => n - (intOf i).toNat)
  case atStart => exact ⟨0, Nat.zero_le _, rfl, rfl, Below.refl _ _⟩
  case round =>
    obtain ⟨wq, rfl⟩ : ∃ wq : World, wq = wr := ⟨_, rfl⟩
    obtain ⟨k, hk, rfl, rfl, hw⟩ := hrel
    by_cases hlt : k < n
    {
    have h1 := h.below hw
    have hkx : k < xs.length := by rw [HN.out]; exact hlt
    have hi := hx xs[k] (List.getElem_mem hkx)
    have hl := hide (wr_short (xs := xs.take k) (fun x hxm => hx x (List.mem_of_mem_take hxm)) (by simp; omega))
    have hl2 := hide (Lib.itoa_length_le xs[k] hi.1 hi.2)
    rcases h1 with h1 | ⟨b0, o0, rfl, hc0⟩
    {
    subst h1
    simp at hkx
    }
    have e0 := hc0 k hkx
    rw [show xs.getD k 0 = xs[k] by simp [hkx]] at e0
    clear hc0
    have hTr := hT.below hw
    have HI := hide (fun W (hW : Tab W) => itoa_any xs[k] hi W hW)
    by_cases hk0 : k = 0
    {
    have HS := hide (wr_zero (xs := xs) (by omega))
    subst hk0
    have za : ¬ 9223372036854775807 < (bs (Lib.itoa xs[0])).size := by rw [bs_size]; have := hl2.out; omega
    have hd : decide ((0 : Int) < 0) = false := by decide
    have zb : ¬ 9223372036854775807 < (bs (wr (xs.take 0))).size + (bs (Lib.itoa xs[0])).size := by rw [bs_size, bs_size]; have := hl2.out; have := hl.out; omega
    simp only [Nat.add_zero] at e0
    generalize xs[0] = x at *
    go_wp2_with fail
    refine (unhide HI _ hTr).mono ?_
    rintro e w1 ⟨rfl, hb1⟩
    go_wp2_with fail
    go_roundw
    case rel =>
      refine ⟨1, by omega, ?_, rfl, hw.trans (hb1.mono hw.size)⟩
      rw [HS.out]
      exact congrArg Value.string (bs_append [] _)
    case measure => simp [intOf]; omega
    }
    {
    have HS := hide (wr_snoc (xs := xs) (by omega) hkx)
    have hd : decide ((0 : Int) < (k : Int)) = true := by simp; omega
    have za : ¬ 9223372036854775807 < (bs (wr (xs.take k))).size + 1 := by rw [bs_size]; have := hl.out; omega
    have zb : ¬ 9223372036854775807 < (bs (wr (xs.take k))).size + 1 + (bs (Lib.itoa xs[k])).size := by rw [bs_size, bs_size]; have := hl2.out; have := hl.out; omega
    generalize xs[k] = x at *
    go_wp2_with fail
    refine (unhide HI _ hTr).mono ?_
    rintro e w1 ⟨rfl, hb1⟩
    go_wp2_with fail
    go_roundw
    case rel =>
      refine ⟨k + 1, by omega, ?_, by go_num, hw.trans (hb1.mono hw.size)⟩
      rw [HS.out]
      exact congrArg Value.string (app_three _ [32] _ rfl rfl)
    case measure => simp [intOf]; omega
    }
    }
    {
    have hkn : k = n := by omega
    have HE := hide (show xs.take k = xs from List.take_of_length_le (by rw [HN.out]; omega))
    rw [HE.out]
    go_wp2_with fail
    go_ret
    exact ⟨rfl, hw⟩

    }
set_option maxHeartbeats 800000 in
set_option maxRecDepth 100000 in
theorem refImageText_any (a : Option Addr) (n c : Nat) (xs : List Int) (w : World) (h : IsInts w a xs) (hn : xs.length = n) (h0 : imgE xs = 0) (hT : Tab w) :
    Calls Tryz.prog 77 #[.slice a n c] w fun e w' => e = .returned (.string (bs (imgT xs))) ∧ Below w.heap.size w w' := by
  have HW := hide (spaced_any a n c xs w h hn (img_I64 h0) (by have := (imgE_ok h0).1; omega) hT)
  have hl := hide (wr_short (img_I64 h0) (by have := (imgE_ok h0).1; omega))
  have hadd : ¬ 9223372036854775807 < 6 + (bs (wr xs)).size := by rw [bs_size]; have := hl.out; omega
  clear hn h0
  go_enter Tryz.func77, Tryz.ntmps77
  go_wp2_with (go_at_call 136; refine (unhide HW).mono ?_; rintro e w1 ⟨rfl, hb1⟩)
  go_ret
  refine ⟨?_, hb1⟩
  exact congrArg (fun x => Ending.returned (Value.string x)) (app_two imgW (wr xs) rfl)

set_option maxHeartbeats 800000 in
set_option maxRecDepth 100000 in
theorem refCheckImage_any (a : Option Addr) (n c : Nat) (xs : List Int) (w : World) (h : IsInts w a xs) (hn : xs.length = n) (hm : n ≤ maxLen) :
    Calls Tryz.prog 21 #[.slice a n c] w fun e w' => e = .returned (.int .i64 (imgE xs)) ∧ w' = w := by
  have HN := hide hn
  have HA := hide (refAllWords_any a n c xs w h hn hm)
  unfold maxLen at hm
  by_cases h1 : n < 1
  {
  have HE := hide (imgE_1 (w := xs) (inR_lo (by omega)))
  have hd : decide ((n : Int) < 1) = true := by simp; omega
  clear hn
  go_enter Tryz.func21, Tryz.ntmps21
  go_wp2_with fail
  go_ret
  exact ⟨ret_int HE.out.symm, rfl⟩
  }
  {
  have hd : decide ((n : Int) < 1) = false := by simp; omega
  by_cases h2 : 40 < n
  {
  have HE := hide (imgE_1 (w := xs) (inR_hi (by omega)))
  have hd2 : decide ((40 : Int) < (n : Int)) = true := by simp; omega
  clear hn
  go_enter Tryz.func21, Tryz.ntmps21
  go_wp2_with fail
  go_ret
  exact ⟨ret_int HE.out.symm, rfl⟩
  }
  {
  have hd2 : decide ((40 : Int) < (n : Int)) = false := by simp; omega
  have hin : inR xs.length 1 40 = true := inR_t (by omega) (by omega)
  cases h3 : okL xs
  {
  have HE := hide (imgE_2 hin h3)
  rw [h3] at HA
  clear hn
  go_enter Tryz.func21, Tryz.ntmps21
  go_wp2_with (go_at_call 67; refine (unhide HA).mono ?_; rintro e w' ⟨rfl, rfl⟩)
  go_ret
  exact ⟨ret_int HE.out.symm, rfl⟩
  }
  {
  have HE := hide (imgE_3 hin h3)
  rw [h3] at HA
  clear hn
  go_enter Tryz.func21, Tryz.ntmps21
  go_wp2_with (go_at_call 67; refine (unhide HA).mono ?_; rintro e w' ⟨rfl, rfl⟩)
  go_ret
  exact ⟨ret_int HE.out.symm, rfl⟩

  }
  }
  }
end Go.Proofs.YtgngpmgjoifepaaGreatDoor

namespace Go.Proofs.YtgngpmgjoifepaaGreatDoor
open Go.RowKit

theorem nameN_take {ss : List ByteArray} {s : ByteArray} : ∀ {k : Nat}, nameN (ss.take k) s ≠ 0 → nameN ss s = nameN (ss.take k) s := by
  induction ss with
  | nil => intro k h; simp [nameN] at h
  | cons t r ih =>
    intro k h
    cases k with
    | zero => simp [nameN] at h
    | succ k =>
      simp only [List.take_succ_cons] at h ⊢
      unfold nameN at h ⊢
      by_cases e : t = s
      { rw [if_pos e, if_pos e] }
      {
      rw [if_neg e] at h ⊢
      rw [if_neg e]
      by_cases h0 : nameN (r.take k) s = 0
      { rw [if_pos h0] at h; exact absurd rfl h }
      {
      rw [ih h0]

      }
      }
theorem index_before {ss : List ByteArray} {k : Nat} (hk : k < ss.length) : decide ((nameN ss ss[k] : Int) - 1 < (k : Int)) = hasB (ss.take k) ss[k] := by
  unfold hasB
  rw [decide_eq_decide]
  by_cases h : nameN (ss.take k) ss[k] = 0
  {
  rw [nameN_hit (nameN_zero.1 h) (List.getElem?_eq_getElem hk)]
  simp only [ne_eq, h, not_true_eq_false, iff_false]
  omega
  }
  {
  have h1 := nameN_take h
  have h2 := nameN_le (ss.take k) ss[k]
  rw [List.length_take] at h2
  simp only [ne_eq, h, not_false_eq_true, iff_true]
  omega

  }
set_option maxHeartbeats 800000 in
set_option maxRecDepth 100000 in
theorem refCheckBook_any (a : Option Addr) (n c : Nat) (ss : List ByteArray) (w : World) (h : IsStrs w a ss) (hn : ss.length = n) (hm : n ≤ maxLen) (hz : ∀ s ∈ ss, s.size ≤ maxLen) :
    Calls Tryz.prog 26 #[bookv a n c] w fun e w' => e = .returned (.int .i64 (bookE ss)) ∧ Below w.heap.size w w' := by
  have HN := hide hn
  have HI := hide (fun W s (hW : IsStrs W a ss) => index_strs a n c ss s W hW hn hm)
  unfold maxLen at hm hz
  unfold bookv
  have hw0 : Below w.heap.size w (w.alloc (.cells #[.slice a n c] 24)) := (Below.refl _ _).alloc (Nat.le_refl _) _
  by_cases h1 : 60 < n
  {
  have HE := hide (show bookE ss = 2 by unfold bookE; rw [if_pos (by omega)])
  clear hn
  go_enter Tryz.func26, Tryz.ntmps26
  go_wp2_with fail
  go_ret
  exact ⟨ret_int HE.out.symm, hw0⟩
  }
  {
  have HE := hide (show bookE ss = booksE [] ss by unfold bookE; rw [if_neg (by omega)])
  clear hn
  go_enter Tryz.func26, Tryz.ntmps26
  go_wp2_with fail
  go_loopw [12] (fun i wr => ∃ k : Nat, k ≤ n ∧ i = .int .i64 k ∧ wr = w.alloc (.cells #[.slice a n c] 24) ∧ Hid (booksE (ss.take k) (ss.drop k) = booksE [] ss)) (fun i _ => n - (intOf i).toNat)
  case atStart => exact ⟨0, Nat.zero_le _, rfl, rfl, by show _ = _; simp⟩
  case round =>
    obtain ⟨k, hk, rfl, rfl, ht⟩ := hrel
    by_cases hlt : k < n
    {
    have i1 := h.below hw0
    have hkx : k < ss.length := by rw [HN.out]; exact hlt
    have HIk := hide (unhide HI _ ss[k] i1)
    have hdec := index_before hkx
    rcases i1 with rfl | ⟨b0, o0, rfl, hc0⟩
    {
    have := HN.out
    simp at this
    omega
    }
    have e0 := hc0 k hkx
    rw [show ss.getD k ByteArray.empty = ss[k] by simp [hkx]] at e0
    have hzk := hz ss[k] (List.getElem_mem hkx)
    clear hc0
    obtain ⟨q, hq⟩ : ∃ q : Int, q = (nameN ss ss[k] : Int) - 1 := ⟨_, rfl⟩
    rw [← hq] at hdec HIk
    clear hq
    by_cases h2 : 2000 < ss[k].size
    {
    have HV := hide (booksE_long hkx h2)
    clear hdec
    generalize ss[k] = sk at *
    go_wp2_with fail
    go_ret
    exact ⟨ret_int (by rw [HE.out, ← ht.out, HV.out]), hw0⟩
    }
    {
    cases h3 : hasB (ss.take k) ss[k]
    {
    have HV := hide (booksE_next hkx h2 h3)
    rw [h3] at hdec
    clear h3
    generalize ss[k] = sk at *
    go_wp2_with (go_at_call 71; refine (unhide HIk).mono ?_; rintro e w' ⟨rfl, rfl⟩)
    go_roundw
    case rel => exact ⟨k + 1, by omega, by go_num, trivial, by show _ = _; rw [← ht.out, HV.out]⟩
    case measure => simp [intOf]; omega
    }
    {
    have HV := hide (booksE_two hkx h2 h3)
    rw [h3] at hdec
    clear h3
    generalize ss[k] = sk at *
    go_wp2_with (go_at_call 71; refine (unhide HIk).mono ?_; rintro e w' ⟨rfl, rfl⟩)
    go_ret
    exact ⟨ret_int (by rw [HE.out, ← ht.out, HV.out]), hw0⟩
    }
    }
    }
    {
    go_wp2_with fail
    go_ret
    have hx := ht.out
    rw [List.drop_eq_nil_of_le (by rw [HN.out]; omega)] at hx
    exact ⟨ret_int (by rw [HE.out, ← hx]; rfl), hw0⟩

    }
  }
set_option maxHeartbeats 800000 in
set_option maxRecDepth 100000 in
theorem refNameOf_any (a : Option Addr) (n c : Nat) (ss : List ByteArray) (s : ByteArray) (w : World) (h : IsStrs w a ss) (hn : ss.length = n) (hm : n ≤ maxLen) :
    Calls Tryz.prog 76 #[bookv a n c, .string s] w fun e w' => e = .returned (.int .i64 (nameN ss s : Int)) ∧ Below w.heap.size w w' := by
  have HN := hide hn
  unfold maxLen at hm
  unfold bookv
  have hw0 : Below w.heap.size w (w.alloc (.cells #[.slice a n c] 24)) := (Below.refl _ _).alloc (Nat.le_refl _) _
  clear hn
  go_enter Tryz.func76, Tryz.ntmps76
  go_wp2_with fail
  go_loopw [10] (fun i wr => ∃ k : Nat, k ≤ n ∧ i = .int .i64 k ∧ wr = w.alloc (.cells #[.slice a n c] 24) ∧ Hid (s ∉ ss.take k)) (fun i _ => n - (intOf i).toNat)
  case atStart => exact ⟨0, Nat.zero_le _, rfl, rfl, by show _ ∉ _; simp⟩
  case round =>
    obtain ⟨k, hk, rfl, rfl, ht⟩ := hrel
    by_cases hlt : k < n
    {
    have i1 := h.below hw0
    have hkx : k < ss.length := by rw [HN.out]; exact hlt
    rcases i1 with rfl | ⟨b0, o0, rfl, hc0⟩
    {
    have := HN.out
    simp at this
    omega
    }
    have e0 := hc0 k hkx
    rw [show ss.getD k ByteArray.empty = ss[k] by simp [hkx]] at e0
    clear hc0
    by_cases he : ss[k] = s
    {
    have hb : (ss[k].toList == s.toList) = true := (Lib.bytes_beq_iff _ _).2 he
    have HE := hide (nameN_hit ht.out (by rw [List.getElem?_eq_getElem hkx, he]))
    clear he
    generalize ss[k] = sk at *
    go_wp2_with fail
    go_ret
    refine ⟨ret_int ?_, hw0⟩
    rw [HE.out]
    rfl
    }
    {
    have hb : (ss[k].toList == s.toList) = false := (Lib.bytes_beq_false_iff _ _).2 he
    have HE := hide (not_take_step hkx ht.out (fun e => he e.symm))
    clear he
    generalize ss[k] = sk at *
    go_wp2_with fail
    go_roundw
    case rel => exact ⟨k + 1, by omega, by go_num, trivial, HE.out⟩
    case measure => simp [intOf]; omega
    }
    }
    {
    go_wp2_with fail
    go_ret
    have hx := ht.out
    rw [List.take_of_length_le (by rw [HN.out]; omega)] at hx
    exact ⟨ret_int (by rw [nameN_zero.2 hx]; rfl), hw0⟩

    }
end Go.Proofs.YtgngpmgjoifepaaGreatDoor
