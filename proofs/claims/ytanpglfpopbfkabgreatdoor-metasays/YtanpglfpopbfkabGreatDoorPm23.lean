/- The ref's spaced, ImageText, CheckImage. -/
import Derived.Test.YtanpglfpopbfkabGreatDoorPm9
namespace Go.Proofs.YtanpglfpopbfkabGreatDoor
open Go.RowKit

theorem join_snoc (sep x : List UInt8) : ∀ (l : List (List UInt8)), l ≠ [] → Lib.join (l ++ [x]) sep = Lib.join l sep ++ sep ++ x
  | [], h => absurd rfl h
  | [a], _ => by rw [List.singleton_append, join_cons2, Lib.join_one, Lib.join_one, List.append_assoc]
  | a :: b :: r, _ => by
    have ih := join_snoc sep x (b :: r) (by simp)
    rw [List.cons_append, List.cons_append, join_cons2, join_cons2]
    rw [List.cons_append] at ih
    rw [ih]
    simp [List.append_assoc]

theorem wr_zero {xs : List Int} (h : 0 < xs.length) : wr (xs.take 1) = Lib.itoa xs[0] := by
  cases xs with
  | nil => simp at h
  | cons x r => simp [wr, Lib.join_one]

theorem wr_snoc {xs : List Int} {k : Nat} (h0 : 0 < k) (hk : k < xs.length) : wr (xs.take (k + 1)) = wr (xs.take k) ++ [32] ++ Lib.itoa xs[k] := by
  unfold wr
  rw [List.take_succ_eq_append_getElem hk, List.map_append, List.map_cons, List.map_nil, join_snoc]
  intro e
  have := congrArg List.length e
  rw [List.length_map, List.length_take, List.length_nil] at this
  omega

theorem app_three (a b c : List UInt8) {s t : ByteArray} (h : s = bs a) (h2 : t = bs b) : s ++ t ++ bs c = bs (a ++ b ++ c) := by rw [h, h2, bs_append, bs_append]

set_option maxHeartbeats 800000 in
set_option maxRecDepth 100000 in
theorem spaced_any (a : Option Addr) (n c : Nat) (xs : List Int) (w : World) (h : IsInts w a xs) (hn : xs.length = n) (hx : ∀ x ∈ xs, I64 x) (hs : n ≤ 64) (hT : Tab w) :
    Calls Tryz.prog 47 #[.slice a n c] w fun e w' => e = .returned (.string (bs (wr xs))) ∧ Below w.heap.size w w' := by
  have HN := hide hn
  clear hn
  go_enter Tryz.func47, Tryz.ntmps47
  go_wp2_with fail
  go_loopw [3, 8] (fun p i wq => ∃ k : Nat, k ≤ n ∧ p = .string (bs (wr (xs.take k))) ∧ i = .int .i64 k ∧ Below w.heap.size w wq) (fun _ i _ => n - (intOf i).toNat)
  case atStart => exact ⟨0, Nat.zero_le _, rfl, rfl, Below.refl _ _⟩
  case round =>
    obtain ⟨wq, rfl⟩ : ∃ wq : World, wq = wr := ⟨_, rfl⟩
    obtain ⟨k, hk, rfl, rfl, hw⟩ := hrel
    by_cases hlt : k < n
    · have h1 := h.below hw
      have hkx : k < xs.length := by rw [HN.out]; exact hlt
      have hi := hx xs[k] (List.getElem_mem hkx)
      have hl := hide (wr_short (xs := xs.take k) (fun x hxm => hx x (List.mem_of_mem_take hxm)) (by simp; omega))
      have hl2 := hide (Lib.itoa_length_le xs[k] hi.1 hi.2)
      rcases h1 with h1 | ⟨b0, o0, rfl, hc0⟩
      · subst h1
        simp at hkx
      have e0 := hc0 k hkx
      rw [show xs.getD k 0 = xs[k] by simp [hkx]] at e0
      clear hc0
      have hTr := hT.below hw
      have HI := hide (fun W (hW : Tab W) => itoa_any xs[k] hi W hW)
      by_cases hk0 : k = 0
      · have HS := hide (wr_zero (xs := xs) (by omega))
        subst hk0
        have za : ¬ 9223372036854775807 < (bs (Lib.itoa xs[0])).size := by rw [bs_size]; have := hl2.out; omega
        have hd : decide ((0 : Int) < 0) = false := by decide
        have zb : ¬ 9223372036854775807 < (bs (wr (xs.take 0))).size + (bs (Lib.itoa xs[0])).size := by rw [bs_size, bs_size]; have := hl2.out; have := hl.out; omega
        simp only [Nat.add_zero] at e0
        generalize xs[0] = x at *
        go_wp2_with fail
        refine (unhide HI _ hTr).mono ?_
        rintro e w1 ⟨rfl, hb1⟩
        go_wp2_with fail
        go_roundw
        case rel =>
          refine ⟨1, by omega, ?_, rfl, hw.trans (hb1.mono hw.size)⟩
          rw [HS.out]
          exact congrArg Value.string (bs_append [] _)
        case measure => simp [intOf]; omega
      · have HS := hide (wr_snoc (xs := xs) (by omega) hkx)
        have hd : decide ((0 : Int) < (k : Int)) = true := by simp; omega
        have za : ¬ 9223372036854775807 < (bs (wr (xs.take k))).size + 1 := by rw [bs_size]; have := hl.out; omega
        have zb : ¬ 9223372036854775807 < (bs (wr (xs.take k))).size + 1 + (bs (Lib.itoa xs[k])).size := by rw [bs_size, bs_size]; have := hl2.out; have := hl.out; omega
        generalize xs[k] = x at *
        go_wp2_with fail
        refine (unhide HI _ hTr).mono ?_
        rintro e w1 ⟨rfl, hb1⟩
        go_wp2_with fail
        go_roundw
        case rel =>
          refine ⟨k + 1, by omega, ?_, by go_num, hw.trans (hb1.mono hw.size)⟩
          rw [HS.out]
          exact congrArg Value.string (app_three _ [32] _ rfl rfl)
        case measure => simp [intOf]; omega
    · have hkn : k = n := by omega
      have HE := hide (show xs.take k = xs from List.take_of_length_le (by rw [HN.out]; omega))
      rw [HE.out]
      go_wp2_with fail
      go_ret
      exact ⟨rfl, hw⟩

set_option maxHeartbeats 800000 in
set_option maxRecDepth 100000 in
theorem refImageText_any (a : Option Addr) (n c : Nat) (xs : List Int) (w : World) (h : IsInts w a xs) (hn : xs.length = n) (h0 : imgE xs = 0) (hT : Tab w) :
    Calls Tryz.prog 22 #[.slice a n c] w fun e w' => e = .returned (.string (bs (imgT xs))) ∧ Below w.heap.size w w' := by
  have HW := hide (spaced_any a n c xs w h hn (img_I64 h0) (by have := (imgE_ok h0).1; omega) hT)
  have hl := hide (wr_short (img_I64 h0) (by have := (imgE_ok h0).1; omega))
  have hadd : ¬ 9223372036854775807 < 6 + (bs (wr xs)).size := by rw [bs_size]; have := hl.out; omega
  clear hn h0
  go_enter Tryz.func22, Tryz.ntmps22
  go_wp2_with (go_at_call 47; refine (unhide HW).mono ?_; rintro e w1 ⟨rfl, hb1⟩)
  go_ret
  refine ⟨?_, hb1⟩
  exact congrArg (fun x => Ending.returned (Value.string x)) (app_two imgW (wr xs) rfl)

set_option maxHeartbeats 800000 in
set_option maxRecDepth 100000 in
theorem refCheckImage_any (a : Option Addr) (n c : Nat) (xs : List Int) (w : World) (h : IsInts w a xs) (hn : xs.length = n) (hm : n ≤ maxLen) :
    Calls Tryz.prog 15 #[.slice a n c] w fun e w' => e = .returned (.int .i64 (imgE xs)) ∧ w' = w := by
  have HN := hide hn
  have HA := hide (refAllWords_any a n c xs w h hn hm)
  unfold maxLen at hm
  by_cases h1 : n < 1
  · have HE := hide (imgE_1 (w := xs) (inR_lo (by omega)))
    have hd : decide ((n : Int) < 1) = true := by simp; omega
    clear hn
    go_enter Tryz.func15, Tryz.ntmps15
    go_wp2_with fail
    go_ret
    exact ⟨ret_int HE.out.symm, rfl⟩
  · have hd : decide ((n : Int) < 1) = false := by simp; omega
    by_cases h2 : 40 < n
    · have HE := hide (imgE_1 (w := xs) (inR_hi (by omega)))
      have hd2 : decide ((40 : Int) < (n : Int)) = true := by simp; omega
      clear hn
      go_enter Tryz.func15, Tryz.ntmps15
      go_wp2_with fail
      go_ret
      exact ⟨ret_int HE.out.symm, rfl⟩
    · have hd2 : decide ((40 : Int) < (n : Int)) = false := by simp; omega
      have hin : inR xs.length 1 40 = true := inR_t (by omega) (by omega)
      cases h3 : okL xs
      · have HE := hide (imgE_2 hin h3)
        rw [h3] at HA
        clear hn
        go_enter Tryz.func15, Tryz.ntmps15
        go_wp2_with (go_at_call 42; refine (unhide HA).mono ?_; rintro e w' ⟨rfl, rfl⟩)
        go_ret
        exact ⟨ret_int HE.out.symm, rfl⟩
      · have HE := hide (imgE_3 hin h3)
        rw [h3] at HA
        clear hn
        go_enter Tryz.func15, Tryz.ntmps15
        go_wp2_with (go_at_call 42; refine (unhide HA).mono ?_; rintro e w' ⟨rfl, rfl⟩)
        go_ret
        exact ⟨ret_int HE.out.symm, rfl⟩

end Go.Proofs.YtanpglfpopbfkabGreatDoor
