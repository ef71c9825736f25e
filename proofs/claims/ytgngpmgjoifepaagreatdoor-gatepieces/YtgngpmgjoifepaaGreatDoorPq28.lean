/- The contract of meta.ReleaseText. -/
import Derived.Test.YtgngpmgjoifepaaGreatDoorPq12
import Derived.Test.YtgngpmgjoifepaaGreatDoorPq0
import Derived.Deep.AppendLies
namespace Go.Proofs.YtgngpmgjoifepaaGreatDoor
open Go.RowKit

theorem isInts_new (w : World) (b : Nat) (x : Int) (t : TypeId) (hb : b = w.heap.size) : IsInts (w.alloc (.cells #[.int .i64 x] t)) (some ⟨b, 0, none⟩) [x] :=
  isInts_at w b [x] _ t hb rfl

theorem rel_I64 {v u : Int} {ts : List T3} (h : relE v u ts = 0) : (∀ x ∈ [v], I64 x) ∧ (∀ x ∈ [u], I64 x) ∧ ∀ t ∈ ts, ∀ x ∈ [t.1, t.2.1, t.2.2], I64 x := by
  obtain ⟨h1, h2, h3⟩ := relE_IR h
  refine ⟨fun x hx => ?_, fun x hx => ?_, fun t ht x hx => ?_⟩
  · simp at hx; subst hx; exact h1
  · simp at hx; subst hx; exact h2
  · obtain ⟨a, b, c⟩ := h3 t ht
    simp at hx
    rcases hx with rfl | rfl | rfl
    · exact a
    · exact b
    · exact c

/-- The texts that stand in the row, so far. -/
def prt (v u : Int) (ts : List T3) (k : Nat) : List ByteArray := bs (headT v u) :: (ts.take k).map (fun t => bs (tgtT t))

theorem row_one {w : World} {B b : Nat} {s : ByteArray} (h : OwnStrs w B [s]) (hb : b ≤ B) : w.ownsRow b 9 1 (.slice (some ⟨B, 0, none⟩) 1 1) 1 (svals [s]) :=
  ⟨rfl, .inr ⟨B, 1, (svals [s]).toArray, rfl, hb, h, Nat.le_refl _, by decide, by simp [svals], by simp [svals]⟩⟩

theorem prt_len {v u : Int} {ts : List T3} {n k : Nat} (hn : ts.length = n) (hk : k ≤ n) : (prt v u ts k).length = k + 1 := by simp [prt]; omega
theorem prt_all {v u : Int} {ts : List T3} {n : Nat} (hn : ts.length = n) : (prt v u ts n).map (·.data.toList) = headT v u :: ts.map tgtT := by
  unfold prt
  rw [List.take_of_length_le (by omega)]
  simp [bs]
theorem prt_next {v u : Int} {ts : List T3} {k : Nat} (hk : k < ts.length) : svals (prt v u ts (k + 1)) = svals (prt v u ts k) ++ [.string (bs (wr [ts[k].1, ts[k].2.1, ts[k].2.2]))] := by
  unfold prt svals
  rw [List.take_succ_eq_append_getElem hk, List.map_append, List.map_cons, List.map_append, List.map_cons, List.map_cons, List.map_nil, List.map_nil]
  rfl
theorem one_str (s : ByteArray) : ∀ u ∈ [Value.string s], u.oneCell' = true := by
  intro u hu; simp at hu; subst hu; rfl

theorem row_strs {w : World} {b n : Nat} {v : Value} {ss : List ByteArray} (h : w.ownsRow b 9 1 v n (svals ss)) (hn : ss.length = n) : ∃ A C, v = .slice A n C ∧ n ≤ C ∧ IsStrs w A ss := by
  obtain ⟨_, ⟨rfl, rfl⟩ | ⟨g, cap, cur, rfl, _, hg, hc, _, hs, ht⟩⟩ := h
  · exact ⟨none, 0, rfl, Nat.le_refl _, .inl (by simpa using hn)⟩
  · refine ⟨_, cap, rfl, hc, .inr ⟨g, 0, rfl, fun i hi => ?_⟩⟩
    have hi2 : (cur.toList.take (n * 1))[i]? = some (.string (ss.getD i ByteArray.empty)) := by rw [ht]; simp [svals, hi]
    rw [List.getElem?_take, if_pos (by omega)] at hi2
    rw [Nat.zero_add]
    exact blk_cell hg i _ (by simpa using hi2)

theorem headT_app {s t : ByteArray} (v u : Int) (h : s = bs relW) (h2 : t = bs untW) : s ++ bs (wr [v]) ++ t ++ bs (wr [u]) = bs (headT v u) := app_four relW (wr [v]) untW (wr [u]) h h2

set_option maxHeartbeats 1600000 in
set_option maxRecDepth 100000 in
theorem releaseText_any (v u : Int) (a : Option Addr) (n c : Nat) (ts : List T3) (w : World) (h : IsTgts w a ts) (hn : ts.length = n) (hm : n ≤ maxLen) (hT : Tab w) :
    Calls Tryz.prog 184 #[relv v u a n c] w fun e w' => e = .returned (.tuple #[.string (bs (relTx v u ts)), .int .i64 (relE v u ts)]) ∧ Below w.heap.size w w' := by
  have hw0 : Below w.heap.size w (w.alloc (.cells #[.int .i64 v, .int .i64 u, .slice a n c] 73)) := (Below.refl _ _).alloc (Nat.le_refl _) _
  have b0 := hide (heap_alloc_last w (.cells #[.int .i64 v, .int .i64 u, .slice a n c] 73))
  have i0 := h.below hw0
  have t0 := hT.below hw0
  have HC := hide (fun W (hW : IsTgts W a ts) => checkRelease_any v u a n c ts W hW hn hm)
  unfold relv at HC ⊢
  by_cases h0 : relE v u ts = 0
  · have HX := hide (show relTx v u ts = relT v u ts by unfold relTx; rw [if_pos h0])
    obtain ⟨k1, k2, k3⟩ := rel_I64 h0
    have hl : n ≤ 4 := by have := (relE_ok h0).2.2.1; omega
    have HW := hide (fun W B x (kx : ∀ y ∈ [x], I64 y) (hW : IsInts W (some ⟨B, 0, none⟩) [x]) (hTW : Tab W) => written_any (some ⟨B, 0, none⟩) 1 1 [x] W hW rfl kx (by omega) hTW)
    have l1 := hide (wr_short k1 (by simp))
    have l2 := hide (wr_short k2 (by simp))
    have K1 := hide k1
    have K2 := hide k2
    have K3 := hide k3
    have H0 := hide h0
    rw [h0] at HC
    rw [h0]
    have hadd1 : ¬ 9223372036854775807 < 8 + (bs (wr [v])).size := by rw [bs_size]; have := l1.out; omega
    have hadd2 : ¬ 9223372036854775807 < 8 + (bs (wr [v])).size + 7 := by rw [bs_size]; have := l1.out; omega
    have hadd3 : ¬ 9223372036854775807 < 8 + (bs (wr [v])).size + 7 + (bs (wr [u])).size := by rw [bs_size, bs_size]; have := l1.out; have := l2.out; omega
    have HN := hide hn
    clear hn k1 k2 k3 h0
    go_enter Tryz.func184, Tryz.ntmps184
    go_wp2_with fail
    generalize w.alloc (.cells #[.int .i64 v, .int .i64 u, .slice a n c] 73) = W at *
    refine (unhide HC _ i0).mono ?_
    rintro e w1 ⟨rfl, hb1⟩
    replace b0 := hide (blk_below b0.out hb1)
    replace i0 := i0.below hb1
    replace t0 := t0.below hb1
    replace hw0 := hw0.trans (hb1.mono hw0.size)
    clear hb1
    replace HW := hide (fun W B x (hW : Below w1.heap.size w1 W) kx (hi : IsInts W (some ⟨B, 0, none⟩) [x]) => (HW.out W B x kx hi (t0.below hW)).mono fun _ _ h => (⟨h.1, h.2, hW.trans (h.2.mono hW.size)⟩ : _ ∧ Below W.heap.size W _ ∧ Below w1.heap.size w1 _))
    go_upto_region 4 with fail
    go_cut [5] (fun v5 wx => ∃ B, v5 = .slice (some ⟨B, 0, none⟩) 1 1 ∧ w1.heap.size ≤ B ∧ Hid (OwnStrs wx B [bs (headT v u)]) ∧ Below w1.heap.size w1 wx)
    case first =>
      have hb5 : True := trivial
      go_region_held3 (fun w' => w'.cell? ⟨w.heap.size, 0, none⟩ = some (.int .i64 v) ∧ w'.cell? ⟨w.heap.size, 1, none⟩ = some (.int .i64 u) ∧ w'.cell? ⟨w.heap.size, 2, none⟩ = some (.slice a n c) ∧ Below w1.heap.size w1 w')
        (first | (refine keep3 ?_ b0.out; (repeat (first | with_reducible assumption | with_reducible exact Below.refl _ _ | with_reducible refine Below.drew ?_ | with_reducible refine below_new ?_ _)); done))
        ((first
          | (go_at_call 210; refine (unhide HW _ _ v ?_ K1.out ?_).mono ?_; (focus ((repeat (first | with_reducible assumption | with_reducible exact Below.refl _ _ | with_reducible refine Below.drew ?_ | with_reducible refine below_new ?_ _)); done)); (focus ((repeat (first | with_reducible refine isInts_drew ?_ | (with_reducible refine isInts_new _ _ v _ ?_; (first | with_reducible rfl | (simp; done))) | with_reducible refine IsInts.alloc ?_ _ | with_reducible refine IsInts.below ?_ hb5)); done)); rintro e w5 ⟨rfl, hb5, hk5⟩)
          | (go_at_call 210; refine (unhide HW _ _ u ?_ K2.out ?_).mono ?_; (focus ((repeat (first | with_reducible assumption | with_reducible exact Below.refl _ _ | with_reducible refine Below.drew ?_ | with_reducible refine below_new ?_ _)); done)); (focus ((repeat (first | with_reducible refine isInts_drew ?_ | (with_reducible refine isInts_new _ _ u _ ?_; (first | with_reducible rfl | (simp; done))) | with_reducible refine IsInts.alloc ?_ _ | with_reducible refine IsInts.below ?_ hb5)); done)); rintro e w5 ⟨rfl, hb5, hk5⟩)))
      all_goals
        go_wp2_with fail
        go_meet
        case rel =>
          refine ⟨_, rfl, hk5.size, ?_, below_new hk5 _⟩
          show OwnStrs _ _ _
          rw [← headT_app v u rfl rfl]
          exact heap_alloc_last _ _
    case rest =>
    obtain ⟨B, rfl, hB, ho, hwc⟩ := hcut
    have hB0 : w.heap.size ≤ B := Nat.le_trans hw0.size hB
    replace b0 := hide (blk_below b0.out hwc)
    replace i0 := i0.below hwc
    replace t0 := t0.below hwc
    replace hw0 := hw0.trans (hwc.mono hw0.size)
    have x2 := blk_cell b0.out 2 _ rfl
    clear hwc hB HW hadd1 hadd2 hadd3 l1 l2 K1 K2
    have hr0 := row_one ho.out hB0
    clear ho
    have HJ := hide (fun W A C (hW : IsStrs W A (prt v u ts n)) (hC : n + 1 ≤ C) => join_any A (n + 1) C (prt v u ts n) [59, 32] W hW (prt_len HN.out (Nat.le_refl _)) hC (by omega) (by rw [prt_all HN.out]; have := relT_len H0.out; unfold relT at this; exact Nat.le_trans this (by decide)))
    rw [prt_all HN.out] at HJ
    obtain ⟨ii, hii, iz0, iz1, iz2⟩ := info_parts info_str
    have hr1 : Hid (wc.ownsRow w.heap.size 9 1 (.slice (some ⟨B, 0, none⟩) 1 1) (0 + 1) (svals (prt v u ts 0))) := hr0
    clear hr0
    go_wp2_with fail
    go_loopw [5, 29] (fun p i wq => ∃ k : Nat, k ≤ n ∧ i = .int .i64 k ∧ Below w.heap.size w wq ∧ Hid (wq.ownsRow w.heap.size 9 1 p (k + 1) (svals (prt v u ts k)))) (fun _ i _ => n - (intOf i).toNat)
    case atStart => exact ⟨0, Nat.zero_le _, rfl, hw0, hr1⟩
    case round =>
      rename_i p5
      clear hr1 x2 b0 i0 t0 hw0
      obtain ⟨wq, rfl⟩ : ∃ wq : World, wq = wr := ⟨_, rfl⟩
      obtain ⟨k, hk, rfl, hw, hr⟩ := hrel
      by_cases hlt : k < n
      · have i1 := h.below hw
        rcases i1 with rfl | ⟨bb, oo, rfl, hc0⟩
        · have := HN.out
          simp at this
          omega
        have hkx : k < ts.length := by rw [HN.out]; exact hlt
        obtain ⟨e0, e1, e2⟩ := hc0 k ts[k] (List.getElem?_eq_getElem hkx)
        have hk3 := K3.out ts[k] (List.getElem_mem hkx)
        have HP := hide (prt_next (v := v) (u := u) hkx)
        clear hc0
        generalize ts[k] = tk at *
        have HR := hide (fun W => rowOf_any tk W)
        unfold tv at HR
        have HW := hide (fun W B (hW : IsInts W (some ⟨B, 0, none⟩) [tk.1, tk.2.1, tk.2.2]) (hTW : Tab W) => written_any (some ⟨B, 0, none⟩) 3 3 [tk.1, tk.2.1, tk.2.2] W hW rfl hk3 (by omega) hTW)
        have hwA := hw.alloc hw.size (.cells #[.int .i64 tk.1, .int .i64 tk.2.1, .int .i64 tk.2.2] 104)
        have hrA := hr.out.alloc (.cells #[.int .i64 tk.1, .int .i64 tk.2.1, .int .i64 tk.2.2] 104)
        go_wp2_with fail
        generalize wq.alloc (.cells #[.int .i64 tk.1, .int .i64 tk.2.1, .int .i64 tk.2.2] 104) = wA at *
        refine (unhide HR _).mono ?_
        rintro e w2 ⟨rfl, hb2⟩
        replace hwA := hwA.trans (hb2.mono hwA.size)
        replace hrA := hide (ownsRow_below hrA hb2)
        clear hb2
        have hwB := hwA.alloc hwA.size (.cells #[.int .i64 tk.1, .int .i64 tk.2.1, .int .i64 tk.2.2] 261)
        have hrB := hrA.out.alloc (.cells #[.int .i64 tk.1, .int .i64 tk.2.1, .int .i64 tk.2.2] 261)
        have iB : IsInts (w2.alloc (.cells #[.int .i64 tk.1, .int .i64 tk.2.1, .int .i64 tk.2.2] 261)) (some ⟨w2.heap.size, 0, none⟩) [tk.1, tk.2.1, tk.2.2] := isInts_at _ _ _ _ _ rfl rfl
        go_wp2_with fail
        generalize w2.alloc (.cells #[.int .i64 tk.1, .int .i64 tk.2.1, .int .i64 tk.2.2] 261) = wB at *
        refine (unhide HW _ _ iB (hT.below hwB)).mono ?_
        rintro e w3 ⟨rfl, hb3⟩
        replace hwB := hwB.trans (hb3.mono hwB.size)
        replace hrB := ownsRow_below hrB hb3
        have hrC := hrB.alloc (.cells #[.string (bs (wr [tk.1, tk.2.1, tk.2.2]))] 9)
        clear hb3
        go_wp2_with (at_builtin; refine wpList_append_lies _ rfl _ _ 22 rfl w.heap.size 9 ii _ 1 16 Tryz.underlying22 hii iz0 iz1 iz2 rfl (by omega) _ (k + 1) _ rfl hrC ⟨w3.heap.size, 0, none⟩ 1 1 [.string (bs (wr [tk.1, tk.2.1, tk.2.2]))] rfl rfl (news_one _ _ _) (one_str _) (by omega) (by unfold maxLen; omega) (by omega) (by have := hwB.size; simp; omega) (w3.heap.size + 1) (by simp) ?_; intro g cap w4 hown4 hgr4 _ _)
        have hw4 : Below w.heap.size w w4 := (hwB.alloc hwB.size _).grown hgr4 (by have := hwB.size; simp; omega) (ownBlock_ge hrC)
        go_wp2_with fail
        go_roundw
        case rel =>
          refine ⟨k + 1, by omega, by go_num, hw4, ?_⟩
          show World.ownsRow _ _ _ _ _ _ _
          rw [HP.out]
          exact hown4
        case measure => simp [intOf]; omega
      · have hkn : k = n := by omega
        subst hkn
        obtain ⟨A, C, rfl, hC, hiS⟩ := row_strs hr.out (prt_len HN.out (Nat.le_refl _))
        go_wp2_with fail
        refine (unhide HJ _ _ _ hiS hC).mono ?_
        rintro e w5 ⟨rfl, hb5⟩
        go_wp2_with fail
        go_ret2
        rw [HX.out]
        exact ⟨rfl, hw.trans (hb5.mono hw.size)⟩
  · have hb : (relE v u ts != 0) = true := by simpa using h0
    have HX := hide (show relTx v u ts = [] by unfold relTx; rw [if_neg h0])
    clear hn h0
    generalize relE v u ts = q at *
    go_enter Tryz.func184, Tryz.ntmps184
    go_wp2_with fail
    generalize w.alloc (.cells #[.int .i64 v, .int .i64 u, .slice a n c] 73) = W at *
    refine (unhide HC _ i0).mono ?_
    rintro e w1 ⟨rfl, hb1⟩
    replace hw0 := hw0.trans (hb1.mono hw0.size)
    go_wp2_with fail
    go_ret2
    rw [HX.out]
    exact ⟨rfl, hw0⟩

end Go.Proofs.YtgngpmgjoifepaaGreatDoor
