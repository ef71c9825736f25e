/- The ref's RootText, ReleaseText. -/
import Derived.Test.YtanpglfpopbfkabGreatDoorPm23
import Derived.Test.YtanpglfpopbfkabGreatDoorPm11
namespace Go.Proofs.YtanpglfpopbfkabGreatDoor
open Go.RowKit

set_option maxHeartbeats 1600000 in
set_option maxRecDepth 100000 in
theorem refRootText_any (v : Int) (a : Option Addr) (n c : Nat) (t : Int) (xs : List Int) (w : World) (h : IsInts w a xs) (hn : xs.length = n) (h0 : rootE v xs t = 0) (hT : Tab w) :
    Calls Tryz.prog 20 #[rv v a n c t] w fun e w' => e = .returned (.string (bs (rootT v xs t))) ∧ Below w.heap.size w w' := by
  have hw0 : Below w.heap.size w (w.alloc (.cells #[.int .i64 v, .slice a n c, .int .i64 t] 24)) := (Below.refl _ _).alloc (Nat.le_refl _) _
  have b0 := hide (heap_alloc_last w (.cells #[.int .i64 v, .slice a n c, .int .i64 t] 24))
  have i0 := h.below hw0
  have t0 := hT.below hw0
  unfold rv
  obtain ⟨k1, k2⟩ := root_I64 h0
  have hl : n ≤ 6 := by have := (rootE_ok h0).2.1; omega
  have HW2 := hide (fun W (hW : IsInts W a xs) (hTW : Tab W) => spaced_any a n c xs W hW hn k1 (by omega) hTW)
  have HW1 := hide (fun W B (hW : IsInts W (some ⟨B, 0, none⟩) [v, t]) (hTW : Tab W) => spaced_any (some ⟨B, 0, none⟩) 2 2 [v, t] W hW rfl k2 (by omega) hTW)
  have l1 := hide (wr_short k2 (by simp))
  have l2 := hide (wr_short k1 (by omega))
  have hadd1 : ¬ 9223372036854775807 < 5 + (bs (wr [v, t])).size := by rw [bs_size]; have := l1.out; omega
  have hadd2 : ¬ 9223372036854775807 < 5 + (bs (wr [v, t])).size + 4 := by rw [bs_size]; have := l1.out; omega
  have hadd3 : ¬ 9223372036854775807 < 5 + (bs (wr [v, t])).size + 4 + (bs (wr xs)).size := by rw [bs_size, bs_size]; have := l1.out; have := l2.out; omega
  clear hn k1 k2 h0
  go_enter Tryz.func20, Tryz.ntmps20
  go_upto_region 1 with fail
  generalize w.alloc (.cells #[.int .i64 v, .slice a n c, .int .i64 t] 24) = w1 at *
  replace HW2 := hide (fun W (hW : Below w1.heap.size w1 W) => (HW2.out W (i0.below hW) (t0.below hW)).mono fun _ _ h => (⟨h.1, h.2, hW.trans (h.2.mono hW.size)⟩ : _ ∧ Below W.heap.size W _ ∧ Below w1.heap.size w1 _))
  replace HW1 := hide (fun W B (hW : Below w1.heap.size w1 W) (hi : IsInts W (some ⟨B, 0, none⟩) [v, t]) => (HW1.out W B hi (t0.below hW)).mono fun _ _ h => (⟨h.1, h.2, hW.trans (h.2.mono hW.size)⟩ : _ ∧ Below W.heap.size W _ ∧ Below w1.heap.size w1 _))
  have hb5 : True := trivial
  go_region_held3 (fun w' => w'.cell? ⟨w.heap.size, 0, none⟩ = some (.int .i64 v) ∧ w'.cell? ⟨w.heap.size, 1, none⟩ = some (.slice a n c) ∧ w'.cell? ⟨w.heap.size, 2, none⟩ = some (.int .i64 t) ∧ Below w1.heap.size w1 w')
    (first | (refine keep3 ?_ b0.out; (repeat (first | assumption | exact Below.refl _ _ | refine Below.drew ?_ | refine below_new ?_ _)); done))
    ((first
      | (go_at_call_of 47 c; refine (unhide HW2 _ ?_).mono ?_; (focus ((repeat (first | assumption | exact Below.refl _ _ | refine Below.drew ?_ | refine below_new ?_ _)); done)); rintro e w5 ⟨rfl, hb5, hk5⟩)
      | (go_at_call 47; refine (unhide HW1 _ _ ?_ ?_).mono ?_; (focus ((repeat (first | assumption | exact Below.refl _ _ | refine Below.drew ?_ | refine below_new ?_ _)); done)); (focus ((repeat (first | exact isInts_at _ _ [v, t] _ _ rfl rfl | refine isInts_drew ?_ | refine IsInts.below ?_ hb5)); done)); rintro e w6 ⟨rfl, hb6, hk6⟩)))
  go_wp2_with fail
  go_ret
  refine ⟨?_, hw0.trans (Below.mono (by first | assumption | exact And.right (And.right (And.right (by assumption)))) hw0.size)⟩
  exact congrArg (fun x => Ending.returned (Value.string x)) (app_four rootW (wr [v, t]) ofW (wr xs) rfl rfl)

set_option maxHeartbeats 1600000 in
set_option maxRecDepth 100000 in
theorem refReleaseText_any (v u : Int) (a : Option Addr) (n c : Nat) (ts : List T3) (w : World) (h : IsTgts w a ts) (hn : ts.length = n) (h0 : relE v u ts = 0) (hT : Tab w) :
    Calls Tryz.prog 21 #[relv v u a n c] w fun e w' => e = .returned (.string (bs (relT v u ts))) ∧ Below w.heap.size w w' := by
  have hw0 : Below w.heap.size w (w.alloc (.cells #[.int .i64 v, .int .i64 u, .slice a n c] 27)) := (Below.refl _ _).alloc (Nat.le_refl _) _
  have b0 := hide (heap_alloc_last w (.cells #[.int .i64 v, .int .i64 u, .slice a n c] 27))
  have i0 := h.below hw0
  have t0 := hT.below hw0
  unfold relv
  obtain ⟨k1, k2, k3⟩ := rel_I64 h0
  have hl : n ≤ 4 := by have := (relE_ok h0).2.2.1; omega
  have HW := hide (fun W B x (kx : ∀ y ∈ [x], I64 y) (hW : IsInts W (some ⟨B, 0, none⟩) [x]) (hTW : Tab W) => spaced_any (some ⟨B, 0, none⟩) 1 1 [x] W hW rfl kx (by omega) hTW)
  have l1 := hide (wr_short k1 (by simp))
  have l2 := hide (wr_short k2 (by simp))
  have K1 := hide k1
  have K2 := hide k2
  have K3 := hide k3
  have H0 := hide h0
  have hadd1 : ¬ 9223372036854775807 < 8 + (bs (wr [v])).size := by rw [bs_size]; have := l1.out; omega
  have hadd2 : ¬ 9223372036854775807 < 8 + (bs (wr [v])).size + 7 := by rw [bs_size]; have := l1.out; omega
  have hadd3 : ¬ 9223372036854775807 < 8 + (bs (wr [v])).size + 7 + (bs (wr [u])).size := by rw [bs_size, bs_size]; have := l1.out; have := l2.out; omega
  have HN := hide hn
  clear hn k1 k2 k3 h0
  go_enter Tryz.func21, Tryz.ntmps21
  go_upto_region 1 with fail
  generalize w.alloc (.cells #[.int .i64 v, .int .i64 u, .slice a n c] 27) = w1 at *
  replace HW := hide (fun W B x (hW : Below w1.heap.size w1 W) kx (hi : IsInts W (some ⟨B, 0, none⟩) [x]) => (HW.out W B x kx hi (t0.below hW)).mono fun _ _ h => (⟨h.1, h.2, hW.trans (h.2.mono hW.size)⟩ : _ ∧ Below W.heap.size W _ ∧ Below w1.heap.size w1 _))
  go_cut [3] (fun v5 wx => ∃ B, v5 = .slice (some ⟨B, 0, none⟩) 1 1 ∧ w1.heap.size ≤ B ∧ Hid (OwnStrs wx B [bs (headT v u)]) ∧ Below w1.heap.size w1 wx)
  case first =>
    have hb5 : True := trivial
    go_region_held3 (fun w' => w'.cell? ⟨w.heap.size, 0, none⟩ = some (.int .i64 v) ∧ w'.cell? ⟨w.heap.size, 1, none⟩ = some (.int .i64 u) ∧ w'.cell? ⟨w.heap.size, 2, none⟩ = some (.slice a n c) ∧ Below w1.heap.size w1 w')
      (first | (refine keep3 ?_ b0.out; (repeat (first | with_reducible assumption | with_reducible exact Below.refl _ _ | with_reducible refine Below.drew ?_ | with_reducible refine below_new ?_ _)); done))
      ((first
        | (go_at_call 47; refine (unhide HW _ _ v ?_ K1.out ?_).mono ?_; (focus ((repeat (first | with_reducible assumption | with_reducible exact Below.refl _ _ | with_reducible refine Below.drew ?_ | with_reducible refine below_new ?_ _)); done)); (focus ((repeat (first | with_reducible refine isInts_drew ?_ | (with_reducible refine isInts_new _ _ v _ ?_; (first | with_reducible rfl | (simp; done))) | with_reducible refine IsInts.alloc ?_ _ | with_reducible refine IsInts.below ?_ hb5)); done)); rintro e w5 ⟨rfl, hb5, hk5⟩)
        | (go_at_call 47; refine (unhide HW _ _ u ?_ K2.out ?_).mono ?_; (focus ((repeat (first | with_reducible assumption | with_reducible exact Below.refl _ _ | with_reducible refine Below.drew ?_ | with_reducible refine below_new ?_ _)); done)); (focus ((repeat (first | with_reducible refine isInts_drew ?_ | (with_reducible refine isInts_new _ _ u _ ?_; (first | with_reducible rfl | (simp; done))) | with_reducible refine IsInts.alloc ?_ _ | with_reducible refine IsInts.below ?_ hb5)); done)); rintro e w5 ⟨rfl, hb5, hk5⟩)))
    all_goals
      go_wp2_with fail
      go_meet
      case rel =>
        refine ⟨_, rfl, hk5.size, ?_, below_new hk5 _⟩
        show OwnStrs _ _ _
        rw [← headT_app v u rfl rfl]
        exact heap_alloc_last _ _
  case rest =>
  obtain ⟨B, rfl, hB, ho, hwc⟩ := hcut
  have hB0 : w.heap.size ≤ B := Nat.le_trans hw0.size hB
  replace b0 := hide (blk_below b0.out hwc)
  replace i0 := i0.below hwc
  replace t0 := t0.below hwc
  replace hw0 := hw0.trans (hwc.mono hw0.size)
  have x2 := blk_cell b0.out 2 _ rfl
  clear hwc hB HW hadd1 hadd2 hadd3 l1 l2 K1 K2
  have hr0 := row_one ho.out hB0
  clear ho
  have HJ := hide (fun W A C (hW : IsStrs W A (prt v u ts n)) (hC : n + 1 ≤ C) => join_any A (n + 1) C (prt v u ts n) [59, 32] W hW (prt_len HN.out (Nat.le_refl _)) hC (by omega) (by rw [prt_all HN.out]; have := relT_len H0.out; unfold relT at this; exact Nat.le_trans this (by decide)))
  rw [prt_all HN.out] at HJ
  obtain ⟨ii, hii, iz0, iz1, iz2⟩ := info_parts info_str
  have hr1 : Hid (wc.ownsRow w.heap.size 9 1 (.slice (some ⟨B, 0, none⟩) 1 1) (0 + 1) (svals (prt v u ts 0))) := hr0
  clear hr0
  go_wp2_with fail
  go_loopw [3, 21] (fun p i wq => ∃ k : Nat, k ≤ n ∧ i = .int .i64 k ∧ Below w.heap.size w wq ∧ Hid (wq.ownsRow w.heap.size 9 1 p (k + 1) (svals (prt v u ts k)))) (fun _ i _ => n - (intOf i).toNat)
  case atStart => exact ⟨0, Nat.zero_le _, rfl, hw0, hr1⟩
  case round =>
    rename_i p5
    clear hr1 x2 b0 i0 t0 hw0
    obtain ⟨wq, rfl⟩ : ∃ wq : World, wq = wr := ⟨_, rfl⟩
    obtain ⟨k, hk, rfl, hw, hr⟩ := hrel
    by_cases hlt : k < n
    · have i1 := h.below hw
      rcases i1 with rfl | ⟨bb, oo, rfl, hc0⟩
      · have := HN.out
        simp at this
        omega
      have hkx : k < ts.length := by rw [HN.out]; exact hlt
      obtain ⟨e0, e1, e2⟩ := hc0 k ts[k] (List.getElem?_eq_getElem hkx)
      have hk3 := K3.out ts[k] (List.getElem_mem hkx)
      have HP := hide (prt_next (v := v) (u := u) hkx)
      clear hc0
      generalize ts[k] = tk at *
      have HW := hide (fun W B (hW : IsInts W (some ⟨B, 0, none⟩) [tk.1, tk.2.1, tk.2.2]) (hTW : Tab W) => spaced_any (some ⟨B, 0, none⟩) 3 3 [tk.1, tk.2.1, tk.2.2] W hW rfl hk3 (by omega) hTW)
      have hwA := hw.alloc hw.size (.cells #[.int .i64 tk.1, .int .i64 tk.2.1, .int .i64 tk.2.2] 78)
      have hrA := hide (hr.out.alloc (.cells #[.int .i64 tk.1, .int .i64 tk.2.1, .int .i64 tk.2.2] 78))
      have bA := hide (heap_alloc_last wq (.cells #[.int .i64 tk.1, .int .i64 tk.2.1, .int .i64 tk.2.2] 78))
      go_upto_region 5 with fail
      generalize wq.alloc (.cells #[.int .i64 tk.1, .int .i64 tk.2.1, .int .i64 tk.2.2] 78) = w2 at *
      have m0 := blk_cell bA.out 0 _ rfl
      have m1 := blk_cell bA.out 1 _ rfl
      have m2 := blk_cell bA.out 2 _ rfl
      have hwB := hwA.alloc hwA.size (.cells #[.int .i64 tk.1, .int .i64 tk.2.1, .int .i64 tk.2.2] 3)
      have hrB := hrA.out.alloc (.cells #[.int .i64 tk.1, .int .i64 tk.2.1, .int .i64 tk.2.2] 3)
      have iB : IsInts (w2.alloc (.cells #[.int .i64 tk.1, .int .i64 tk.2.1, .int .i64 tk.2.2] 3)) (some ⟨w2.heap.size, 0, none⟩) [tk.1, tk.2.1, tk.2.2] := isInts_at _ _ _ _ _ rfl rfl
      go_wp2_with fail
      generalize w2.alloc (.cells #[.int .i64 tk.1, .int .i64 tk.2.1, .int .i64 tk.2.2] 3) = wB at *
      refine (unhide HW _ _ iB (hT.below hwB)).mono ?_
      rintro e w3 ⟨rfl, hb3⟩
      replace hwB := hwB.trans (hb3.mono hwB.size)
      replace hrB := ownsRow_below hrB hb3
      have hrC := hrB.alloc (.cells #[.string (bs (wr [tk.1, tk.2.1, tk.2.2]))] 9)
      clear hb3
      go_wp2_with (at_builtin; refine wpList_append_lies _ rfl _ _ 44 rfl w.heap.size 9 ii _ 1 16 Tryz.underlying44 hii iz0 iz1 iz2 rfl (by omega) _ (k + 1) _ rfl hrC ⟨w3.heap.size, 0, none⟩ 1 1 [.string (bs (wr [tk.1, tk.2.1, tk.2.2]))] rfl rfl (news_one _ _ _) (one_str _) (by omega) (by unfold maxLen; omega) (by omega) (by have := hwB.size; simp; omega) (w3.heap.size + 1) (by simp) ?_; intro g cap w4 hown4 hgr4 _ _)
      have hw4 : Below w.heap.size w w4 := (hwB.alloc hwB.size _).grown hgr4 (by have := hwB.size; simp; omega) (ownBlock_ge hrC)
      go_wp2_with fail
      go_roundw
      case rel =>
        refine ⟨k + 1, by omega, by go_num, hw4, ?_⟩
        show World.ownsRow _ _ _ _ _ _ _
        rw [HP.out]
        exact hown4
      case measure => simp [intOf]; omega
    · have hkn : k = n := by omega
      subst hkn
      obtain ⟨A, C, rfl, hC, hiS⟩ := row_strs hr.out (prt_len HN.out (Nat.le_refl _))
      go_wp2_with fail
      refine (unhide HJ _ _ _ hiS hC).mono ?_
      rintro e w5 ⟨rfl, hb5⟩
      go_wp2_with fail
      go_ret
      exact ⟨rfl, hw.trans (hb5.mono hw.size)⟩

end Go.Proofs.YtanpglfpopbfkabGreatDoor
