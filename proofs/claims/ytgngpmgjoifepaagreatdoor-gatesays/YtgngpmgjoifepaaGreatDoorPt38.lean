/- The ref's RootText, ReleaseText. The ref's Turned. -/
import Derived.Test.YtgngpmgjoifepaaGreatDoorPt37
import Derived.Test.YtgngpmgjoifepaaGreatDoorPt20
import Derived.Test.YtgngpmgjoifepaaGreatDoorPt29
import Derived.Test.YtgngpmgjoifepaaGreatDoorPt19
namespace Go.Proofs.YtgngpmgjoifepaaGreatDoor
open Go.RowKit

set_option maxHeartbeats 1600000 in
set_option maxRecDepth 100000 in
theorem refRootText_any (v : Int) (a : Option Addr) (n c : Nat) (t : Int) (xs : List Int) (w : World) (h : IsInts w a xs) (hn : xs.length = n) (h0 : rootE v xs t = 0) (hT : Tab w) :
    Calls Tryz.prog 191 #[rv v a n c t] w fun e w' => e = .returned (.string (bs (rootT v xs t))) ∧ Below w.heap.size w w' := by
  have hw0 : Below w.heap.size w (w.alloc (.cells #[.int .i64 v, .slice a n c, .int .i64 t] 63)) := (Below.refl _ _).alloc (Nat.le_refl _) _
  have b0 := hide (heap_alloc_last w (.cells #[.int .i64 v, .slice a n c, .int .i64 t] 63))
  have i0 := h.below hw0
  have t0 := hT.below hw0
  unfold rv
  obtain ⟨k1, k2⟩ := root_I64 h0
  have hl : n ≤ 6 := by have := (rootE_ok h0).2.1; omega
  have HW2 := hide (fun W (hW : IsInts W a xs) (hTW : Tab W) => spaced_any a n c xs W hW hn k1 (by omega) hTW)
  have HW1 := hide (fun W B (hW : IsInts W (some ⟨B, 0, none⟩) [v, t]) (hTW : Tab W) => spaced_any (some ⟨B, 0, none⟩) 2 2 [v, t] W hW rfl k2 (by omega) hTW)
  have l1 := hide (wr_short k2 (by simp))
  have l2 := hide (wr_short k1 (by omega))
  have hadd1 : ¬ 9223372036854775807 < 5 + (bs (wr [v, t])).size := by rw [bs_size]; have := l1.out; omega
  have hadd2 : ¬ 9223372036854775807 < 5 + (bs (wr [v, t])).size + 4 := by rw [bs_size]; have := l1.out; omega
  have hadd3 : ¬ 9223372036854775807 < 5 + (bs (wr [v, t])).size + 4 + (bs (wr xs)).size := by rw [bs_size, bs_size]; have := l1.out; have := l2.out; omega
  clear hn k1 k2 h0
  go_enter Tryz.func191, Tryz.ntmps191
  go_upto_region 1 with fail
  generalize w.alloc (.cells #[.int .i64 v, .slice a n c, .int .i64 t] 63) = w1 at *
  replace HW2 := hide (fun W (hW : Below w1.heap.size w1 W) => (HW2.out W (i0.below hW) (t0.below hW)).mono fun _ _ h => (⟨h.1, h.2, hW.trans (h.2.mono hW.size)⟩ : _ ∧ Below W.heap.size W _ ∧ Below w1.heap.size w1 _))
  replace HW1 := hide (fun W B (hW : Below w1.heap.size w1 W) (hi : IsInts W (some ⟨B, 0, none⟩) [v, t]) => (HW1.out W B hi (t0.below hW)).mono fun _ _ h => (⟨h.1, h.2, hW.trans (h.2.mono hW.size)⟩ : _ ∧ Below W.heap.size W _ ∧ Below w1.heap.size w1 _))
  have hb5 : True := trivial
  go_region_held3 (fun w' => w'.cell? ⟨w.heap.size, 0, none⟩ = some (.int .i64 v) ∧ w'.cell? ⟨w.heap.size, 1, none⟩ = some (.slice a n c) ∧ w'.cell? ⟨w.heap.size, 2, none⟩ = some (.int .i64 t) ∧ Below w1.heap.size w1 w')
    (first | (refine keep3 ?_ b0.out; (repeat (first | assumption | exact Below.refl _ _ | refine Below.drew ?_ | refine below_new ?_ _)); done))
    ((first
      | (go_at_call_of 136 c; refine (unhide HW2 _ ?_).mono ?_; (focus ((repeat (first | assumption | exact Below.refl _ _ | refine Below.drew ?_ | refine below_new ?_ _)); done)); rintro e w5 ⟨rfl, hb5, hk5⟩)
      | (go_at_call 136; refine (unhide HW1 _ _ ?_ ?_).mono ?_; (focus ((repeat (first | assumption | exact Below.refl _ _ | refine Below.drew ?_ | refine below_new ?_ _)); done)); (focus ((repeat (first | exact isInts_at _ _ [v, t] _ _ rfl rfl | refine isInts_drew ?_ | refine IsInts.below ?_ hb5)); done)); rintro e w6 ⟨rfl, hb6, hk6⟩)))
  go_wp2_with fail
  go_ret
  refine ⟨?_, hw0.trans (Below.mono (by first | assumption | exact And.right (And.right (And.right (by assumption)))) hw0.size)⟩
  exact congrArg (fun x => Ending.returned (Value.string x)) (app_four rootW (wr [v, t]) ofW (wr xs) rfl rfl)

set_option maxHeartbeats 1600000 in
set_option maxRecDepth 100000 in
theorem refReleaseText_any (v u : Int) (a : Option Addr) (n c : Nat) (ts : List T3) (w : World) (h : IsTgts w a ts) (hn : ts.length = n) (h0 : relE v u ts = 0) (hT : Tab w) :
    Calls Tryz.prog 151 #[relv v u a n c] w fun e w' => e = .returned (.string (bs (relT v u ts))) ∧ Below w.heap.size w w' := by
  have hw0 : Below w.heap.size w (w.alloc (.cells #[.int .i64 v, .int .i64 u, .slice a n c] 73)) := (Below.refl _ _).alloc (Nat.le_refl _) _
  have b0 := hide (heap_alloc_last w (.cells #[.int .i64 v, .int .i64 u, .slice a n c] 73))
  have i0 := h.below hw0
  have t0 := hT.below hw0
  unfold relv
  obtain ⟨k1, k2, k3⟩ := rel_I64 h0
  have hl : n ≤ 4 := by have := (relE_ok h0).2.2.1; omega
  have HW := hide (fun W B x (kx : ∀ y ∈ [x], I64 y) (hW : IsInts W (some ⟨B, 0, none⟩) [x]) (hTW : Tab W) => spaced_any (some ⟨B, 0, none⟩) 1 1 [x] W hW rfl kx (by omega) hTW)
  have l1 := hide (wr_short k1 (by simp))
  have l2 := hide (wr_short k2 (by simp))
  have K1 := hide k1
  have K2 := hide k2
  have K3 := hide k3
  have H0 := hide h0
  have hadd1 : ¬ 9223372036854775807 < 8 + (bs (wr [v])).size := by rw [bs_size]; have := l1.out; omega
  have hadd2 : ¬ 9223372036854775807 < 8 + (bs (wr [v])).size + 7 := by rw [bs_size]; have := l1.out; omega
  have hadd3 : ¬ 9223372036854775807 < 8 + (bs (wr [v])).size + 7 + (bs (wr [u])).size := by rw [bs_size, bs_size]; have := l1.out; have := l2.out; omega
  have HN := hide hn
  clear hn k1 k2 k3 h0
  go_enter Tryz.func151, Tryz.ntmps151
  go_upto_region 1 with fail
  generalize w.alloc (.cells #[.int .i64 v, .int .i64 u, .slice a n c] 73) = w1 at *
  replace HW := hide (fun W B x (hW : Below w1.heap.size w1 W) kx (hi : IsInts W (some ⟨B, 0, none⟩) [x]) => (HW.out W B x kx hi (t0.below hW)).mono fun _ _ h => (⟨h.1, h.2, hW.trans (h.2.mono hW.size)⟩ : _ ∧ Below W.heap.size W _ ∧ Below w1.heap.size w1 _))
  go_cut [3] (fun v5 wx => ∃ B, v5 = .slice (some ⟨B, 0, none⟩) 1 1 ∧ w1.heap.size ≤ B ∧ Hid (OwnStrs wx B [bs (headT v u)]) ∧ Below w1.heap.size w1 wx)
  case first =>
    have hb5 : True := trivial
    go_region_held3 (fun w' => w'.cell? ⟨w.heap.size, 0, none⟩ = some (.int .i64 v) ∧ w'.cell? ⟨w.heap.size, 1, none⟩ = some (.int .i64 u) ∧ w'.cell? ⟨w.heap.size, 2, none⟩ = some (.slice a n c) ∧ Below w1.heap.size w1 w')
      (first | (refine keep3 ?_ b0.out; (repeat (first | with_reducible assumption | with_reducible exact Below.refl _ _ | with_reducible refine Below.drew ?_ | with_reducible refine below_new ?_ _)); done))
      ((first
        | (go_at_call 136; refine (unhide HW _ _ v ?_ K1.out ?_).mono ?_; (focus ((repeat (first | with_reducible assumption | with_reducible exact Below.refl _ _ | with_reducible refine Below.drew ?_ | with_reducible refine below_new ?_ _)); done)); (focus ((repeat (first | with_reducible refine isInts_drew ?_ | (with_reducible refine isInts_new _ _ v _ ?_; (first | with_reducible rfl | (simp; done))) | with_reducible refine IsInts.alloc ?_ _ | with_reducible refine IsInts.below ?_ hb5)); done)); rintro e w5 ⟨rfl, hb5, hk5⟩)
        | (go_at_call 136; refine (unhide HW _ _ u ?_ K2.out ?_).mono ?_; (focus ((repeat (first | with_reducible assumption | with_reducible exact Below.refl _ _ | with_reducible refine Below.drew ?_ | with_reducible refine below_new ?_ _)); done)); (focus ((repeat (first | with_reducible refine isInts_drew ?_ | (with_reducible refine isInts_new _ _ u _ ?_; (first | with_reducible rfl | (simp; done))) | with_reducible refine IsInts.alloc ?_ _ | with_reducible refine IsInts.below ?_ hb5)); done)); rintro e w5 ⟨rfl, hb5, hk5⟩)))
    all_goals
      go_wp2_with fail
      go_meet
      case rel =>
        refine ⟨_, rfl, hk5.size, ?_, below_new hk5 _⟩
        show OwnStrs _ _ _
        rw [← headT_app v u rfl rfl]
        exact heap_alloc_last _ _
  case rest =>
  obtain ⟨B, rfl, hB, ho, hwc⟩ := hcut
  have hB0 : w.heap.size ≤ B := Nat.le_trans hw0.size hB
  replace b0 := hide (blk_below b0.out hwc)
  replace i0 := i0.below hwc
  replace t0 := t0.below hwc
  replace hw0 := hw0.trans (hwc.mono hw0.size)
  have x2 := blk_cell b0.out 2 _ rfl
  clear hwc hB HW hadd1 hadd2 hadd3 l1 l2 K1 K2
  have hr0 := row_one ho.out hB0
  clear ho
  have HJ := hide (fun W A C (hW : IsStrs W A (prt v u ts n)) (hC : n + 1 ≤ C) => join_any A (n + 1) C (prt v u ts n) [59, 32] W hW (prt_len HN.out (Nat.le_refl _)) hC (by omega) (by rw [prt_all HN.out]; have := relT_len H0.out; unfold relT at this; exact Nat.le_trans this (by decide)))
  rw [prt_all HN.out] at HJ
  obtain ⟨ii, hii, iz0, iz1, iz2⟩ := info_parts info_str
  have hr1 : Hid (wc.ownsRow w.heap.size 9 1 (.slice (some ⟨B, 0, none⟩) 1 1) (0 + 1) (svals (prt v u ts 0))) := hr0
  clear hr0
  go_wp2_with fail
  go_loopw [3, 21] (fun p i wq => ∃ k : Nat, k ≤ n ∧ i = .int .i64 k ∧ Below w.heap.size w wq ∧ Hid (wq.ownsRow w.heap.size 9 1 p (k + 1) (svals (prt v u ts k)))) (fun _ i _ => n - (intOf i).toNat)
  case atStart => exact ⟨0, Nat.zero_le _, rfl, hw0, hr1⟩
  case round =>
    rename_i p5
    clear hr1 x2 b0 i0 t0 hw0
    obtain ⟨wq, rfl⟩ : ∃ wq : World, wq = wr := ⟨_, rfl⟩
    obtain ⟨k, hk, rfl, hw, hr⟩ := hrel
    by_cases hlt : k < n
    {
    have i1 := h.below hw
    rcases i1 with rfl | ⟨bb, oo, rfl, hc0⟩
    {
    have := HN.out
    simp at this
    omega
    }
    have hkx : k < ts.length := by rw [HN.out]; exact hlt
    obtain ⟨e0, e1, e2⟩ := hc0 k ts[k] (List.getElem?_eq_getElem hkx)
    have hk3 := K3.out ts[k] (List.getElem_mem hkx)
    have HP := hide (prt_next (v := v) (u := u) hkx)
    clear hc0
    generalize ts[k] = tk at *
    have HW := hide (fun W B (hW : IsInts W (some ⟨B, 0, none⟩) [tk.1, tk.2.1, tk.2.2]) (hTW : Tab W) => spaced_any (some ⟨B, 0, none⟩) 3 3 [tk.1, tk.2.1, tk.2.2] W hW rfl hk3 (by omega) hTW)
    have hwA := hw.alloc hw.size (.cells #[.int .i64 tk.1, .int .i64 tk.2.1, .int .i64 tk.2.2] 104)
    have hrA := hide (hr.out.alloc (.cells #[.int .i64 tk.1, .int .i64 tk.2.1, .int .i64 tk.2.2] 104))
    have bA := hide (heap_alloc_last wq (.cells #[.int .i64 tk.1, .int .i64 tk.2.1, .int .i64 tk.2.2] 104))
    go_upto_region 5 with fail
    generalize wq.alloc (.cells #[.int .i64 tk.1, .int .i64 tk.2.1, .int .i64 tk.2.2] 104) = w2 at *
    have m0 := blk_cell bA.out 0 _ rfl
    have m1 := blk_cell bA.out 1 _ rfl
    have m2 := blk_cell bA.out 2 _ rfl
    have hwB := hwA.alloc hwA.size (.cells #[.int .i64 tk.1, .int .i64 tk.2.1, .int .i64 tk.2.2] 3)
    have hrB := hrA.out.alloc (.cells #[.int .i64 tk.1, .int .i64 tk.2.1, .int .i64 tk.2.2] 3)
    have iB : IsInts (w2.alloc (.cells #[.int .i64 tk.1, .int .i64 tk.2.1, .int .i64 tk.2.2] 3)) (some ⟨w2.heap.size, 0, none⟩) [tk.1, tk.2.1, tk.2.2] := isInts_at _ _ _ _ _ rfl rfl
    go_wp2_with fail
    generalize w2.alloc (.cells #[.int .i64 tk.1, .int .i64 tk.2.1, .int .i64 tk.2.2] 3) = wB at *
    refine (unhide HW _ _ iB (hT.below hwB)).mono ?_
    rintro e w3 ⟨rfl, hb3⟩
    replace hwB := hwB.trans (hb3.mono hwB.size)
    replace hrB := ownsRow_below hrB hb3
    have hrC := hrB.alloc (.cells #[.string (bs (wr [tk.1, tk.2.1, tk.2.2]))] 9)
    clear hb3
    go_wp2_with (at_builtin; refine wpList_append_lies _ rfl _ _ 22 rfl w.heap.size 9 ii _ 1 16 Tryz.underlying22 hii iz0 iz1 iz2 rfl (by omega) _ (k + 1) _ rfl hrC ⟨w3.heap.size, 0, none⟩ 1 1 [.string (bs (wr [tk.1, tk.2.1, tk.2.2]))] rfl rfl (news_one _ _ _) (one_str _) (by omega) (by unfold maxLen; omega) (by omega) (by have := hwB.size; simp; omega) (w3.heap.size + 1) (by simp) ?_; intro g cap w4 hown4 hgr4 _ _)
    have hw4 : Below w.heap.size w w4 := (hwB.alloc hwB.size _).grown hgr4 (by have := hwB.size; simp; omega) (ownBlock_ge hrC)
    go_wp2_with fail
    go_roundw
    case rel =>
      refine ⟨k + 1, by omega, by go_num, hw4, ?_⟩
      show World.ownsRow _ _ _ _ _ _ _
      rw [HP.out]
      exact hown4
    case measure => simp [intOf]; omega
    }
    {
    have hkn : k = n := by omega
    subst hkn
    obtain ⟨A, C, rfl, hC, hiS⟩ := row_strs hr.out (prt_len HN.out (Nat.le_refl _))
    go_wp2_with fail
    refine (unhide HJ _ _ _ hiS hC).mono ?_
    rintro e w5 ⟨rfl, hb5⟩
    go_wp2_with fail
    go_ret
    exact ⟨rfl, hw.trans (hb5.mono hw.size)⟩

    }
end Go.Proofs.YtgngpmgjoifepaaGreatDoor

namespace Go.Proofs.YtgngpmgjoifepaaGreatDoor
open Go.RowKit

set_option maxHeartbeats 400000 in
set_option maxRecDepth 100000 in
theorem tfail1_any (q : Int) (w : World) : Calls Tryz.prog 190 #[.int .i64 q] w fun e w' => e = .returned (.tuple #[.agg #[.int .i64 0, .slice none 0 0, .int .i64 0, .int .i64 0], .int .i64 q]) ∧ Below w.heap.size w w' := by
  have b0 := heap_alloc_last w (.cells #[.int .i64 0, .slice none 0 0, .int .i64 0, .int .i64 0] 65)
  have hw : Below w.heap.size w (w.alloc (.cells #[.int .i64 0, .slice none 0 0, .int .i64 0, .int .i64 0] 65)) := (Below.refl _ _).alloc (Nat.le_refl _) _
  have y0 := blk_cell b0 0 _ rfl
  have fy0 := blk_free b0 0
  have y1 := blk_cell b0 1 _ rfl
  have fy1 := blk_free b0 1
  have y2 := blk_cell b0 2 _ rfl
  have fy2 := blk_free b0 2
  have y3 := blk_cell b0 3 _ rfl
  have fy3 := blk_free b0 3
  clear b0
  go_enter Tryz.func190, Tryz.ntmps190
  go_wp2_with fail
  refine bodyPost_ret (v := .tuple #[.agg #[.int .i64 0, .slice none 0 0, .int .i64 0, .int .i64 0], .int .i64 q]) (by simp [results, Tryz.results190, go_sem, y0, y1, y2, y3]) rfl ?_
  exact ⟨rfl, hw⟩

theorem keepTB {w1 W : World} {B : Nat} {ab : Option Addr} {nb cb : Nat} {o1 o3 : Obj} {x : Rt} {a3 : Option Addr} {n3 c3 : Nat} (hb : Below w1.heap.size w1 W) (h : TB w1 B (bkO ab nb cb) o1 (rtO x a3 n3 c3) o3) :
    W.cell? ⟨B, 0, none⟩ = some (.slice ab nb cb) ∧ W.cell? ⟨B + 1 + 1, 0, none⟩ = some (.int .i64 x.v) ∧ W.cell? ⟨B + 1 + 1, 1, none⟩ = some (.slice a3 n3 c3) ∧ W.cell? ⟨B + 1 + 1, 2, none⟩ = some (.int .i64 x.t) ∧ Below w1.heap.size w1 W :=
  ⟨blk_cell (blk_below h.b0 hb) 0 _ rfl, blk_cell (blk_below h.b2 hb) 0 _ rfl, blk_cell (blk_below h.b2 hb) 1 _ rfl, blk_cell (blk_below h.b2 hb) 2 _ rfl, hb⟩

theorem csE_of {l : List S2} {r : Rt} {sigs : List Int} {name : Int} (h : cntE l r sigs ≠ 0) : csE l r sigs name = cntE l r sigs := csE_1 h

set_option maxHeartbeats 6400000 in
set_option maxRecDepth 100000 in
theorem refTurned_any (ab : Option Addr) (nb cb : Nat) (ss : List ByteArray) (a1 : Option Addr) (n1 c1 : Nat) (l : List S2) (t : Tr) (a2 : Option Addr) (n2 c2 : Nat) (x : Rt) (a3 : Option Addr) (n3 c3 : Nat) (a4 : Option Addr) (n4 c4 : Nat) (sigs : List Int) (w : World)
    (h0 : BB w ab nb cb ss) (h1 : BG w a1 n1 l) (h2 : BI w a2 n2 t.r.ks) (h3 : BI w a3 n3 x.ks) (h4 : BI w a4 n4 sigs) (hwf : ∀ k ∈ sigs, WfI k) (hT : Tab w) :
    Calls Tryz.prog 148 #[bookv ab nb cb, .slice a1 n1 c1, trv t.r.v a2 n2 c2 t.r.t t.ver, rv x.v a3 n3 c3 x.t, .slice a4 n4 c4] w fun e w' => TAns w' e (turnT (turnE ss l t x sigs) t x) (turnE ss l t x sigs) (fun a => a = none ∨ a = a3) ∧ Below w.heap.size w w' := by
  have hw0 : Below w.heap.size w ((((w.alloc (bkO ab nb cb)).alloc (trO t a2 n2 c2)).alloc (rtO x a3 n3 c3)).alloc tzO) := ((((Below.refl _ _).alloc (Nat.le_refl _) _).alloc (by simp) _).alloc (by simp; omega) _).alloc (by simp; omega) _
  have tb : Hid (TB ((((w.alloc (bkO ab nb cb)).alloc (trO t a2 n2 c2)).alloc (rtO x a3 n3 c3)).alloc tzO) w.heap.size (bkO ab nb cb) (trO t a2 n2 c2) (rtO x a3 n3 c3) tzO) :=
    ⟨blk_alloc (blk_alloc (blk_alloc (heap_alloc_last _ _) _) _) _, blk_alloc (blk_alloc (last1 _ _ _) _) _, blk_alloc (last2 _ _ _ _) _, last3 _ _ _ _ _⟩
  have HA := hide (fun W (hW : Below w.heap.size w W) => refCheckTrust_any t a2 n2 c2 W (h2.below hW))
  have HB : Hid (∀ W, Below w.heap.size w W → Calls Tryz.prog 39 #[rv x.v a3 n3 c3 x.t] W fun e w' => e = .returned (.int .i64 x.e) ∧ Below W.heap.size W w') := fun W hW => refCheckRoot_any x.v a3 n3 c3 x.t x.ks W (h3.below hW).at_ h3.len h3.max
  have HK := hide (fun W (hW : Below w.heap.size w W) => refCheckBook_any ab nb cb ss W (h0.below hW).at_ h0.len h0.max h0.short)
  have HX : Hid (x.e = 0 → ∀ W, Below w.heap.size w W → Calls Tryz.prog 191 #[rv x.v a3 n3 c3 x.t] W fun e w' => e = .returned (.string (bs x.tx)) ∧ Below W.heap.size W w') := fun he W hW => refRootText_any x.v a3 n3 c3 x.t x.ks W (h3.below hW).at_ h3.len he (hT.below hW)
  have HC := hide (fun W s (hW : Below w.heap.size w W) => refNameOf_any ab nb cb ss s W (h0.below hW).at_ h0.len h0.max)
  have HD := hide (fun W (r : Rt) a n c name (hW : Below w.heap.size w W) (hr : BI W a n r.ks) => refCounted_any a1 n1 c1 l r a n c a4 n4 c4 sigs name W (h1.below hW) hr (h4.below hW) hwf)
  have H2 := hide (fun W (hW : Below w.heap.size w W) => h2.below hW)
  have H3 := hide (fun W (hW : Below w.heap.size w W) => h3.below hW)
  have H3o := hide h3.old
  unfold trv at HA
  unfold trv rv bookv
  unfold rv at HB HD HX
  unfold bookv at HC HK
  clear h0 h1 h2 h3 h4 hT hwf
  unfold bkO trO rtO tzO at hw0 tb
  go_enter Tryz.func148, Tryz.ntmps148
  have p0 := blk_cell tb.out.b1 0 _ rfl
  have p1 := blk_cell tb.out.b1 1 _ rfl
  have p2 := blk_cell tb.out.b1 2 _ rfl
  have p3 := blk_cell tb.out.b1 3 _ rfl
  go_wp2_with fail
  generalize (((w.alloc (.cells #[.slice ab nb cb] 24)).alloc (.cells #[.int .i64 t.r.v, .slice a2 n2 c2, .int .i64 t.r.t, .int .i64 t.ver] 65)).alloc (.cells #[.int .i64 x.v, .slice a3 n3 c3, .int .i64 x.t] 63)).alloc (.cells #[.int .i64 0, .slice none 0 0, .int .i64 0, .int .i64 0] 65) = W at *
  refine (unhide HA _ hw0).mono ?_
  rintro e w1 ⟨rfl, hb⟩
  replace tb := hide (tb.out.below hb)
  replace hw0 := hw0.trans (hb.mono hw0.size)
  clear hb HA p0 p1 p2 p3
  by_cases z1 : trE t = 0
  rotate_left
  {
  have HE := hide (turnE_1 (ss := ss) (l := l) (x := x) (sigs := sigs) z1)
  have hq : (trE t != 0) = true := by simpa using z1
  have ZN := hide z1
  clear HB HC HD HK HX H2 H3 z1
  generalize trE t = q at *
  go_wp2_with fail
  refine (tfail1_any q _).mono ?_
  rintro e w9 ⟨rfl, hb9⟩
  have tb9 := hide (tb.out.below hb9)
  have hw9 := hw0.trans (hb9.mono hw0.size)
  clear hb9
  have y0 := blk_cell tb9.out.b3 0 _ rfl
  have fy0 := blk_free tb9.out.b3 0
  have y1 := blk_cell tb9.out.b3 1 _ rfl
  have fy1 := blk_free tb9.out.b3 1
  have y2 := blk_cell tb9.out.b3 2 _ rfl
  have fy2 := blk_free tb9.out.b3 2
  have y3 := blk_cell tb9.out.b3 3 _ rfl
  have fy3 := blk_free tb9.out.b3 3
  go_wp2_with fail
  refine bodyPost_ret (v := .tuple #[.agg #[.int .i64 0, .slice none 0 0, .int .i64 0, .int .i64 0], .int .i64 q]) (by simp [results, Tryz.results148, go_sem, y0, y1, y2, y3]) rfl ?_
  exact ⟨tAns_e HE.out ZN.out (.inl rfl), ((((hw9).setCell (by simp; omega) _).setCell (by simp; omega) _).setCell (by simp; omega) _).setCell (by simp; omega) _⟩
  }
  have Z1 := hide z1
  have hv := (rootE_ok (trE_ok z1).2).1
  rw [z1]
  clear z1
  have y0 := blk_cell tb.out.b2 0 _ rfl
  have y1 := blk_cell tb.out.b2 1 _ rfl
  have y2 := blk_cell tb.out.b2 2 _ rfl
  go_wp2_with fail
  refine (unhide HB _ hw0).mono ?_
  rintro e w2 ⟨rfl, hb⟩
  replace tb := hide (tb.out.below hb)
  replace hw0 := hw0.trans (hb.mono hw0.size)
  clear hb HB y0 y1 y2
  by_cases z2 : x.e = 0
  rotate_left
  {
  have HE := hide (turnE_2 (ss := ss) (l := l) (sigs := sigs) Z1.out z2)
  have hq : (x.e != 0) = true := by simpa using z2
  have ZN := hide z2
  clear HC HD HK HX H2 H3 z2 hv
  generalize x.e = q at *
  go_wp2_with fail
  refine (tfail1_any q _).mono ?_
  rintro e w9 ⟨rfl, hb9⟩
  have tb9 := hide (tb.out.below hb9)
  have hw9 := hw0.trans (hb9.mono hw0.size)
  clear hb9
  have y0 := blk_cell tb9.out.b3 0 _ rfl
  have fy0 := blk_free tb9.out.b3 0
  have y1 := blk_cell tb9.out.b3 1 _ rfl
  have fy1 := blk_free tb9.out.b3 1
  have y2 := blk_cell tb9.out.b3 2 _ rfl
  have fy2 := blk_free tb9.out.b3 2
  have y3 := blk_cell tb9.out.b3 3 _ rfl
  have fy3 := blk_free tb9.out.b3 3
  go_wp2_with fail
  refine bodyPost_ret (v := .tuple #[.agg #[.int .i64 0, .slice none 0 0, .int .i64 0, .int .i64 0], .int .i64 q]) (by simp [results, Tryz.results148, go_sem, y0, y1, y2, y3]) rfl ?_
  exact ⟨tAns_e HE.out ZN.out (.inl rfl), ((((hw9).setCell (by simp; omega) _).setCell (by simp; omega) _).setCell (by simp; omega) _).setCell (by simp; omega) _⟩
  }
  have Z2 := hide z2
  have hxv := (rootE_ok z2).1
  replace HX := hide (HX.out z2)
  rw [z2]
  clear z2
  have y0 := blk_cell tb.out.b0 0 _ rfl
  go_wp2_with fail
  refine (unhide HK _ hw0).mono ?_
  rintro e w3 ⟨rfl, hb⟩
  replace tb := hide (tb.out.below hb)
  replace hw0 := hw0.trans (hb.mono hw0.size)
  clear hb HK y0
  by_cases z3 : bookE ss = 0
  rotate_left
  {
  have HE := hide (turnE_3 (l := l) (sigs := sigs) Z1.out Z2.out z3)
  have hq : (bookE ss != 0) = true := by simpa using z3
  have ZN := hide z3
  clear HC HD HX H2 H3 z3 hv hxv
  generalize bookE ss = q at *
  go_wp2_with fail
  refine (tfail1_any q _).mono ?_
  rintro e w9 ⟨rfl, hb9⟩
  have tb9 := hide (tb.out.below hb9)
  have hw9 := hw0.trans (hb9.mono hw0.size)
  clear hb9
  have y0 := blk_cell tb9.out.b3 0 _ rfl
  have fy0 := blk_free tb9.out.b3 0
  have y1 := blk_cell tb9.out.b3 1 _ rfl
  have fy1 := blk_free tb9.out.b3 1
  have y2 := blk_cell tb9.out.b3 2 _ rfl
  have fy2 := blk_free tb9.out.b3 2
  have y3 := blk_cell tb9.out.b3 3 _ rfl
  have fy3 := blk_free tb9.out.b3 3
  go_wp2_with fail
  refine bodyPost_ret (v := .tuple #[.agg #[.int .i64 0, .slice none 0 0, .int .i64 0, .int .i64 0], .int .i64 q]) (by simp [results, Tryz.results148, go_sem, y0, y1, y2, y3]) rfl ?_
  exact ⟨tAns_e HE.out ZN.out (.inl rfl), ((((hw9).setCell (by simp; omega) _).setCell (by simp; omega) _).setCell (by simp; omega) _).setCell (by simp; omega) _⟩
  }
  have Z3 := hide z3
  rw [z3]
  clear z3
  have y0 := blk_cell tb.out.b2 0 _ rfl
  have p0 := blk_cell tb.out.b1 0 _ rfl
  by_cases z4 : x.v = t.r.v + 1
  rotate_left
  {
  have HE := hide (turnE_4 (l := l) (sigs := sigs) Z1.out Z2.out Z3.out z4)
  have hq : (x.v - 1 != t.r.v) = true := by simp; omega
  have ZN := hide (show (10 : Int) ≠ 0 by decide)
  clear HC HD HX H2 H3 z4
  go_wp2_with fail
  refine (tfail1_any 10 _).mono ?_
  rintro e w9 ⟨rfl, hb9⟩
  have tb9 := hide (tb.out.below hb9)
  have hw9 := hw0.trans (hb9.mono hw0.size)
  clear hb9
  clear y0 p0
  have y0 := blk_cell tb9.out.b3 0 _ rfl
  have fy0 := blk_free tb9.out.b3 0
  have y1 := blk_cell tb9.out.b3 1 _ rfl
  have fy1 := blk_free tb9.out.b3 1
  have y2 := blk_cell tb9.out.b3 2 _ rfl
  have fy2 := blk_free tb9.out.b3 2
  have y3 := blk_cell tb9.out.b3 3 _ rfl
  have fy3 := blk_free tb9.out.b3 3
  go_wp2_with fail
  refine bodyPost_ret (v := .tuple #[.agg #[.int .i64 0, .slice none 0 0, .int .i64 0, .int .i64 0], .int .i64 10]) (by simp [results, Tryz.results148, go_sem, y0, y1, y2, y3]) rfl ?_
  exact ⟨tAns_e HE.out ZN.out (.inl rfl), ((((hw9).setCell (by simp; omega) _).setCell (by simp; omega) _).setCell (by simp; omega) _).setCell (by simp; omega) _⟩
  }
  have HE5 := hide (turnE_5 (l := l) (sigs := sigs) Z1.out Z2.out Z3.out z4)
  have HE6 := hide (turnE_6 (l := l) (sigs := sigs) Z1.out Z2.out Z3.out z4)
  have hq : (x.v - 1 != t.r.v) = false := by simp; omega
  clear z4
  go_upto_region 13 with fail
  clear y0 p0 hv hxv hq
  obtain ⟨sx, hsx⟩ : ∃ sx, sx = bs x.tx := ⟨_, rfl⟩
  rw [← hsx] at HE5 HE6 HX
  clear hsx
  have HXk := hide (fun W' (hW : Below w3.heap.size w3 W') => HX.out W' (hw0.trans (hW.mono hw0.size)))
  have HCk := hide (fun W' (hW : Below w3.heap.size w3 W') => HC.out W' sx (hw0.trans (hW.mono hw0.size)))
  generalize (nameN ss sx : Int) = nm at *
  refine wp_region_held_drew (S := fun w' => w'.cell? ⟨w.heap.size, 0, none⟩ = some (.slice ab nb cb) ∧ w'.cell? ⟨w.heap.size + 1 + 1, 0, none⟩ = some (.int .i64 x.v) ∧ w'.cell? ⟨w.heap.size + 1 + 1, 1, none⟩ = some (.slice a3 n3 c3) ∧ w'.cell? ⟨w.heap.size + 1 + 1, 2, none⟩ = some (.int .i64 x.t) ∧ Below w3.heap.size w3 w') (by kernel_rfl) (keepTB (Below.refl _ _).drew tb.out) ?_
  intro hHeld
  refine Htake (i := 0) (v := ?_) (by rfl) (by kernel_rfl) (by exact fun _ _ _ h => h) (Or.inl ⟨by rfl, ?_⟩) (by assumption) ?_
  rotate_left
  {
  intro w hSw
  try dsimp only at hSw
  go_simp
  try with_reducible rfl
  }
  try simp only [sq]
  refine Htake (i := 1) (v := ?_) (by rfl) (by kernel_rfl) (by exact fun _ _ _ h => h) (Or.inl ⟨by rfl, ?_⟩) (by assumption) ?_
  rotate_left
  {
  intro w hSw
  try dsimp only at hSw
  go_simp
  try with_reducible rfl
  }
  try simp only [sq]
  refine wpAnyH_ready (rs := [2]) (by kernel_rfl) (by simp) ?_
  refine AllReadyH.cons (by rfl) (fun K hK => ?_) AllReadyH.nil
  go_simp
  have hB2 := hHeld.2.2.2.2
  refine (unhide HXk _ hB2).mono ?_
  rintro e w5 ⟨rfl, hb⟩
  have hk5 := hB2.trans (hb.mono hB2.size)
  go_wp2_with fail
  refine hK.out _ _ (keepTB hk5 tb.out) (fun hHeld => ?_)
  clear hK K
  try simp only [sq]
  refine wpAnyH_ready (rs := [3]) (by kernel_rfl) (by simp) ?_
  refine AllReadyH.cons (by rfl) (fun K hK => ?_) AllReadyH.nil
  go_simp
  refine (unhide HCk _ hk5).mono ?_
  rintro e w6 ⟨rfl, hb6⟩
  have hk6 := hk5.trans (hb6.mono hk5.size)
  go_wp2_with fail
  refine hK.out _ _ (keepTB hk6 tb.out) (fun hHeld => ?_)
  clear hK K
  try simp only [sq]
  refine Htake (i := 4) (v := ?_) (by rfl) (by kernel_rfl) (by exact fun _ _ _ h => h) (Or.inl ⟨by rfl, ?_⟩) (by assumption) ?_
  rotate_left
  {
  intro w hSw
  try dsimp only at hSw
  go_simp
  try with_reducible rfl
  }
  try simp only [sq]
  refine wpAnyH_done (by kernel_rfl) ?_ _
  replace tb := hide (tb.out.below hk6)
  replace hw0 := hw0.trans (hk6.mono hw0.size)
  clear hk6 hk5 hB2 hb hb6 HXk HCk HX HC hHeld
  have p0 := blk_cell tb.out.b1 0 _ rfl
  have p1 := blk_cell tb.out.b1 1 _ rfl
  have p2 := blk_cell tb.out.b1 2 _ rfl
  have y0 := blk_cell tb.out.b2 0 _ rfl
  have y1 := blk_cell tb.out.b2 1 _ rfl
  have y2 := blk_cell tb.out.b2 2 _ rfl
  go_wp2_with fail
  clear p0 p1 p2 y0 y1 y2
  have bG := hide (heap_alloc_last w6 (.cells #[.int .i64 t.r.v, .slice a2 n2 c2, .int .i64 t.r.t, .int .i64 x.v, .slice a3 n3 c3, .int .i64 x.t] 63))
  have hbG : Below w6.heap.size w6 (w6.alloc (.cells #[.int .i64 t.r.v, .slice a2 n2 c2, .int .i64 t.r.t, .int .i64 x.v, .slice a3 n3 c3, .int .i64 x.t] 63)) := (Below.refl _ _).alloc (Nat.le_refl _) _
  replace tb := hide (tb.out.below hbG)
  replace hw0 := hw0.trans (hbG.mono hw0.size)
  clear hbG
  generalize w6.alloc (.cells #[.int .i64 t.r.v, .slice a2 n2 c2, .int .i64 t.r.t, .int .i64 x.v, .slice a3 n3 c3, .int .i64 x.t] 63) = w7 at *
  obtain ⟨G, hG⟩ : ∃ G, G = w6.heap.size := ⟨_, rfl⟩
  rw [← hG] at bG ⊢
  clear hG
  go_loopw [68] (fun i wr => ∃ k : Nat, k ≤ 2 ∧ i = .int .i64 k ∧ Below w.heap.size w wr ∧ Hid (TB wr w.heap.size (bkO ab nb cb) (trO t a2 n2 c2) (rtO x a3 n3 c3) tzO) ∧ Hid (wr.heap[G]? = some (.cells #[.int .i64 t.r.v, .slice a2 n2 c2, .int .i64 t.r.t, .int .i64 x.v, .slice a3 n3 c3, .int .i64 x.t] 63 (0, 0))) ∧ Hid ((1 ≤ k → csE l t.r sigs nm = 0) ∧ (2 ≤ k → csE l x sigs nm = 0))) (fun i _ => 2 - (intOf i).toNat)
  case atStart => exact ⟨0, by decide, rfl, hw0, tb, bG, ⟨fun h => by omega, fun h => by omega⟩⟩
  case round =>
    clear tb hw0 bG
    obtain ⟨wq, rfl⟩ : ∃ wq : World, wq = wr := ⟨_, rfl⟩
    obtain ⟨k, hk, rfl, hw0, tb, bG, hcs⟩ := hrel
    unfold bkO trO rtO tzO at tb
    have hk' : k = 0 ∨ k = 1 ∨ k = 2 := by omega
    rcases hk' with rfl | rfl | rfl
    {
    have g0 := blk_cell bG.out 0 _ rfl
    have g1 := blk_cell bG.out 1 _ rfl
    have g2 := blk_cell bG.out 2 _ rfl
    have hA1 : Below wq.heap.size wq (wq.alloc (.cells #[.int .i64 t.r.v, .slice a2 n2 c2, .int .i64 t.r.t] 63)) := (Below.refl _ _).alloc (Nat.le_refl _) _
    have hw1 := hw0.trans (hA1.mono hw0.size)
    have tb1 := hide (tb.out.below hA1)
    have bG1 := hide (blk_below bG.out hA1)
    have bV := hide (heap_alloc_last wq (.cells #[.int .i64 t.r.v, .slice a2 n2 c2, .int .i64 t.r.t] 63))
    have HDk := hide (HD.out _ t.r a2 n2 c2 nm hw1 (H2.out _ hw1))
    clear hA1
    go_wp2_with fail
    clear g0 g1 g2
    generalize wq.alloc (.cells #[.int .i64 t.r.v, .slice a2 n2 c2, .int .i64 t.r.t] 63) = wv at *
    refine (unhide HDk).mono ?_
    rintro e w8 ⟨rfl, hb⟩
    replace tb1 := hide (tb1.out.below hb)
    replace bG1 := hide (blk_below bG1.out hb)
    replace bV := hide (blk_below bV.out hb)
    replace hw1 := hw1.trans (hb.mono hw1.size)
    clear hb HDk
    have v2 := blk_cell bV.out 2 _ rfl
    by_cases z5 : cntE l t.r sigs = 0
    rotate_left
    {
    have HE := hide ((HE5.out (by rw [csE_of z5]; exact z5)).trans (csE_of z5))
    have hq : (cntE l t.r sigs != 0) = true := by simpa using z5
    have ZN := hide z5
    clear z5 v2
    generalize cntV l t.r sigs nm = q7 at *
    generalize cntE l t.r sigs = q at *
    go_wp2_with fail
    refine (tfail1_any q _).mono ?_
    rintro e w9 ⟨rfl, hb9⟩
    have tb9 := hide (tb1.out.below hb9)
    have hw9 := hw1.trans (hb9.mono hw1.size)
    clear hb9
    have y0 := blk_cell tb9.out.b3 0 _ rfl
    have fy0 := blk_free tb9.out.b3 0
    have y1 := blk_cell tb9.out.b3 1 _ rfl
    have fy1 := blk_free tb9.out.b3 1
    have y2 := blk_cell tb9.out.b3 2 _ rfl
    have fy2 := blk_free tb9.out.b3 2
    have y3 := blk_cell tb9.out.b3 3 _ rfl
    have fy3 := blk_free tb9.out.b3 3
    go_wp2_with fail
    refine bodyPost_ret (v := .tuple #[.agg #[.int .i64 0, .slice none 0 0, .int .i64 0, .int .i64 0], .int .i64 q]) (by simp [results, Tryz.results148, go_sem, y0, y1, y2, y3]) rfl ?_
    exact ⟨tAns_e HE.out ZN.out (.inl rfl), ((((hw9).setCell (by simp; omega) _).setCell (by simp; omega) _).setCell (by simp; omega) _).setCell (by simp; omega) _⟩
    }
    have C2 := hide (csE_2 (name := nm) z5)
    have C0 := hide (csE_0 (name := nm) z5)
    rw [cntV_0 z5, z5]
    clear z5
    generalize (cntN l t.r.ks sigs nm : Int) = cn at *
    by_cases z6 : cn < t.r.t
    {
    have HE := hide ((HE5.out (by rw [C2.out z6]; decide)).trans (C2.out z6))
    have ZN := hide (show (9 : Int) ≠ 0 by decide)
    go_wp2_with fail
    refine (tfail1_any 9 _).mono ?_
    rintro e w9 ⟨rfl, hb9⟩
    have tb9 := hide (tb1.out.below hb9)
    have hw9 := hw1.trans (hb9.mono hw1.size)
    clear hb9
    have y0 := blk_cell tb9.out.b3 0 _ rfl
    have fy0 := blk_free tb9.out.b3 0
    have y1 := blk_cell tb9.out.b3 1 _ rfl
    have fy1 := blk_free tb9.out.b3 1
    have y2 := blk_cell tb9.out.b3 2 _ rfl
    have fy2 := blk_free tb9.out.b3 2
    have y3 := blk_cell tb9.out.b3 3 _ rfl
    have fy3 := blk_free tb9.out.b3 3
    go_wp2_with fail
    refine bodyPost_ret (v := .tuple #[.agg #[.int .i64 0, .slice none 0 0, .int .i64 0, .int .i64 0], .int .i64 9]) (by simp [results, Tryz.results148, go_sem, y0, y1, y2, y3]) rfl ?_
    exact ⟨tAns_e HE.out ZN.out (.inl rfl), ((((hw9).setCell (by simp; omega) _).setCell (by simp; omega) _).setCell (by simp; omega) _).setCell (by simp; omega) _⟩
    }
    {
    have Z6 := hide (C0.out z6)
    go_wp2_with fail
    go_roundw
    case rel => exact ⟨1, by decide, rfl, hw1, tb1.out, bG1.out, ⟨fun _ => Z6.out, fun h => by omega⟩⟩
    case measure => simp [intOf]
    }
    }
    {
    have g0 := blk_cell bG.out 3 _ rfl
    have g1 := blk_cell bG.out 4 _ rfl
    have g2 := blk_cell bG.out 5 _ rfl
    have hA1 : Below wq.heap.size wq (wq.alloc (.cells #[.int .i64 x.v, .slice a3 n3 c3, .int .i64 x.t] 63)) := (Below.refl _ _).alloc (Nat.le_refl _) _
    have hw1 := hw0.trans (hA1.mono hw0.size)
    have tb1 := hide (tb.out.below hA1)
    have bG1 := hide (blk_below bG.out hA1)
    have bV := hide (heap_alloc_last wq (.cells #[.int .i64 x.v, .slice a3 n3 c3, .int .i64 x.t] 63))
    have HDk := hide (HD.out _ x a3 n3 c3 nm hw1 (H3.out _ hw1))
    clear hA1
    go_wp2_with fail
    clear g0 g1 g2
    generalize wq.alloc (.cells #[.int .i64 x.v, .slice a3 n3 c3, .int .i64 x.t] 63) = wv at *
    refine (unhide HDk).mono ?_
    rintro e w8 ⟨rfl, hb⟩
    replace tb1 := hide (tb1.out.below hb)
    replace bG1 := hide (blk_below bG1.out hb)
    replace bV := hide (blk_below bV.out hb)
    replace hw1 := hw1.trans (hb.mono hw1.size)
    clear hb HDk
    have v2 := blk_cell bV.out 2 _ rfl
    by_cases z5 : cntE l x sigs = 0
    rotate_left
    {
    have HE := hide (((fun (_ : csE l x sigs nm ≠ 0) => HE6.out (hcs.out.1 (by decide))) (by rw [csE_of z5]; exact z5)).trans (csE_of z5))
    have hq : (cntE l x sigs != 0) = true := by simpa using z5
    have ZN := hide z5
    clear z5 v2
    generalize cntV l x sigs nm = q7 at *
    generalize cntE l x sigs = q at *
    go_wp2_with fail
    refine (tfail1_any q _).mono ?_
    rintro e w9 ⟨rfl, hb9⟩
    have tb9 := hide (tb1.out.below hb9)
    have hw9 := hw1.trans (hb9.mono hw1.size)
    clear hb9
    have y0 := blk_cell tb9.out.b3 0 _ rfl
    have fy0 := blk_free tb9.out.b3 0
    have y1 := blk_cell tb9.out.b3 1 _ rfl
    have fy1 := blk_free tb9.out.b3 1
    have y2 := blk_cell tb9.out.b3 2 _ rfl
    have fy2 := blk_free tb9.out.b3 2
    have y3 := blk_cell tb9.out.b3 3 _ rfl
    have fy3 := blk_free tb9.out.b3 3
    go_wp2_with fail
    refine bodyPost_ret (v := .tuple #[.agg #[.int .i64 0, .slice none 0 0, .int .i64 0, .int .i64 0], .int .i64 q]) (by simp [results, Tryz.results148, go_sem, y0, y1, y2, y3]) rfl ?_
    exact ⟨tAns_e HE.out ZN.out (.inl rfl), ((((hw9).setCell (by simp; omega) _).setCell (by simp; omega) _).setCell (by simp; omega) _).setCell (by simp; omega) _⟩
    }
    have C2 := hide (csE_2 (name := nm) z5)
    have C0 := hide (csE_0 (name := nm) z5)
    rw [cntV_0 z5, z5]
    clear z5
    generalize (cntN l x.ks sigs nm : Int) = cn at *
    by_cases z6 : cn < x.t
    {
    have HE := hide (((fun (_ : csE l x sigs nm ≠ 0) => HE6.out (hcs.out.1 (by decide))) (by rw [C2.out z6]; decide)).trans (C2.out z6))
    have ZN := hide (show (9 : Int) ≠ 0 by decide)
    go_wp2_with fail
    refine (tfail1_any 9 _).mono ?_
    rintro e w9 ⟨rfl, hb9⟩
    have tb9 := hide (tb1.out.below hb9)
    have hw9 := hw1.trans (hb9.mono hw1.size)
    clear hb9
    have y0 := blk_cell tb9.out.b3 0 _ rfl
    have fy0 := blk_free tb9.out.b3 0
    have y1 := blk_cell tb9.out.b3 1 _ rfl
    have fy1 := blk_free tb9.out.b3 1
    have y2 := blk_cell tb9.out.b3 2 _ rfl
    have fy2 := blk_free tb9.out.b3 2
    have y3 := blk_cell tb9.out.b3 3 _ rfl
    have fy3 := blk_free tb9.out.b3 3
    go_wp2_with fail
    refine bodyPost_ret (v := .tuple #[.agg #[.int .i64 0, .slice none 0 0, .int .i64 0, .int .i64 0], .int .i64 9]) (by simp [results, Tryz.results148, go_sem, y0, y1, y2, y3]) rfl ?_
    exact ⟨tAns_e HE.out ZN.out (.inl rfl), ((((hw9).setCell (by simp; omega) _).setCell (by simp; omega) _).setCell (by simp; omega) _).setCell (by simp; omega) _⟩
    }
    {
    have Z6 := hide (C0.out z6)
    go_wp2_with fail
    go_roundw
    case rel => exact ⟨2, by decide, rfl, hw1, tb1.out, bG1.out, ⟨fun _ => hcs.out.1 (by decide), fun _ => Z6.out⟩⟩
    case measure => simp [intOf]
    }
    }
    {
    have HE := hide (show turnE ss l t x sigs = 0 by rw [HE6.out (hcs.out.1 (by decide))]; exact hcs.out.2 (by decide))
    have p0 := blk_cell tb.out.b2 0 _ rfl
    have p1 := blk_cell tb.out.b2 1 _ rfl
    have p2 := blk_cell tb.out.b2 2 _ rfl
    have p3 := blk_cell tb.out.b1 3 _ rfl
    have y0 := blk_cell tb.out.b3 0 _ rfl
    have fy0 := blk_free tb.out.b3 0
    have y1 := blk_cell tb.out.b3 1 _ rfl
    have fy1 := blk_free tb.out.b3 1
    have y2 := blk_cell tb.out.b3 2 _ rfl
    have fy2 := blk_free tb.out.b3 2
    have y3 := blk_cell tb.out.b3 3 _ rfl
    have fy3 := blk_free tb.out.b3 3
    have hfar : x.ks = [] ∨ ∀ ad, a3 = some ad → ad.block ≠ w.heap.size + 1 + 1 + 1 := H3o.out.imp id (fun h ad e => by have := h ad e; omega)
    have HI3 := hide (H3.out _ hw0)
    go_wp2_with fail
    refine bodyPost_ret (v := .tuple #[.agg #[.int .i64 x.v, .slice a3 n3 c3, .int .i64 x.t, .int .i64 t.ver], .int .i64 0]) (by simp [results, Tryz.results148, go_sem, y0, y1, y2, y3]) rfl ?_
    rw [HE.out]
    refine ⟨⟨a3, n3, c3, rfl, ?_, .inr rfl⟩, ((((hw0).setCell (by simp; omega) _).setCell (by simp; omega) _).setCell (by simp; omega) _).setCell (by simp; omega) _⟩
    exact (((HI3.out.set2 _ 0 _ hfar).set2 _ 1 _ hfar).set2 _ 2 _ hfar).set2 _ 3 _ hfar

    }
end Go.Proofs.YtgngpmgjoifepaaGreatDoor
