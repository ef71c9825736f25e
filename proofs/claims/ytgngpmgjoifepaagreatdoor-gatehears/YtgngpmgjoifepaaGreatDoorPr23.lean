/- The contract of meta.ReleaseText. The contracts of trust.checkRelease, allMeant. -/
import Derived.Test.YtgngpmgjoifepaaGreatDoorPr10
import Derived.Test.YtgngpmgjoifepaaGreatDoorPr0
import Derived.Deep.AppendLies
import Derived.Test.YtgngpmgjoifepaaGreatDoorPr20
import Derived.Deep.RegionHeld3
import Derived.Deep.DeepCutAuto
namespace Go.Proofs.YtgngpmgjoifepaaGreatDoor
open Go.RowKit

theorem isInts_new (w : World) (b : Nat) (x : Int) (t : TypeId) (hb : b = w.heap.size) : IsInts (w.alloc (.cells #[.int .i64 x] t)) (some ⟨b, 0, none⟩) [x] :=
  isInts_at w b [x] _ t hb rfl

theorem rel_I64 {v u : Int} {ts : List T3} (h : relE v u ts = 0) : (∀ x ∈ [v], I64 x) ∧ (∀ x ∈ [u], I64 x) ∧ ∀ t ∈ ts, ∀ x ∈ [t.1, t.2.1, t.2.2], I64 x := by
  obtain ⟨h1, h2, h3⟩ := relE_IR h
  refine ⟨fun x hx => ?_, fun x hx => ?_, fun t ht x hx => ?_⟩
  · simp at hx; subst hx; exact h1
  · simp at hx; subst hx; exact h2
  · obtain ⟨a, b, c⟩ := h3 t ht
    simp at hx
    rcases hx with rfl | rfl | rfl
    · exact a
    · exact b
    · exact c

/-- The texts that stand in the row, so far. -/
def prt (v u : Int) (ts : List T3) (k : Nat) : List ByteArray := bs (headT v u) :: (ts.take k).map (fun t => bs (tgtT t))

theorem row_one {w : World} {B b : Nat} {s : ByteArray} (h : OwnStrs w B [s]) (hb : b ≤ B) : w.ownsRow b 9 1 (.slice (some ⟨B, 0, none⟩) 1 1) 1 (svals [s]) :=
  ⟨rfl, .inr ⟨B, 1, (svals [s]).toArray, rfl, hb, h, Nat.le_refl _, by decide, by simp [svals], by simp [svals]⟩⟩

theorem prt_len {v u : Int} {ts : List T3} {n k : Nat} (hn : ts.length = n) (hk : k ≤ n) : (prt v u ts k).length = k + 1 := by simp [prt]; omega
theorem prt_all {v u : Int} {ts : List T3} {n : Nat} (hn : ts.length = n) : (prt v u ts n).map (·.data.toList) = headT v u :: ts.map tgtT := by
  unfold prt
  rw [List.take_of_length_le (by omega)]
  simp [bs]
theorem prt_next {v u : Int} {ts : List T3} {k : Nat} (hk : k < ts.length) : svals (prt v u ts (k + 1)) = svals (prt v u ts k) ++ [.string (bs (wr [ts[k].1, ts[k].2.1, ts[k].2.2]))] := by
  unfold prt svals
  rw [List.take_succ_eq_append_getElem hk, List.map_append, List.map_cons, List.map_append, List.map_cons, List.map_cons, List.map_nil, List.map_nil]
  rfl
theorem one_str (s : ByteArray) : ∀ u ∈ [Value.string s], u.oneCell' = true := by
  intro u hu; simp at hu; subst hu; rfl

theorem row_strs {w : World} {b n : Nat} {v : Value} {ss : List ByteArray} (h : w.ownsRow b 9 1 v n (svals ss)) (hn : ss.length = n) : ∃ A C, v = .slice A n C ∧ n ≤ C ∧ IsStrs w A ss := by
  obtain ⟨_, ⟨rfl, rfl⟩ | ⟨g, cap, cur, rfl, _, hg, hc, _, hs, ht⟩⟩ := h
  · exact ⟨none, 0, rfl, Nat.le_refl _, .inl (by simpa using hn)⟩
  · refine ⟨_, cap, rfl, hc, .inr ⟨g, 0, rfl, fun i hi => ?_⟩⟩
    have hi2 : (cur.toList.take (n * 1))[i]? = some (.string (ss.getD i ByteArray.empty)) := by rw [ht]; simp [svals, hi]
    rw [List.getElem?_take, if_pos (by omega)] at hi2
    rw [Nat.zero_add]
    exact blk_cell hg i _ (by simpa using hi2)

theorem headT_app {s t : ByteArray} (v u : Int) (h : s = bs relW) (h2 : t = bs untW) : s ++ bs (wr [v]) ++ t ++ bs (wr [u]) = bs (headT v u) := app_four relW (wr [v]) untW (wr [u]) h h2

set_option maxHeartbeats 1600000 in
set_option maxRecDepth 100000 in
theorem releaseText_any (v u : Int) (a : Option Addr) (n c : Nat) (ts : List T3) (w : World) (h : IsTgts w a ts) (hn : ts.length = n) (hm : n ≤ maxLen) (hT : Tab w) :
    Calls Tryz.prog 184 #[relv v u a n c] w fun e w' => e = .returned (.tuple #[.string (bs (relTx v u ts)), .int .i64 (relE v u ts)]) ∧ Below w.heap.size w w' := by
  have hw0 : Below w.heap.size w (w.alloc (.cells #[.int .i64 v, .int .i64 u, .slice a n c] 73)) := (Below.refl _ _).alloc (Nat.le_refl _) _
  have b0 := hide (heap_alloc_last w (.cells #[.int .i64 v, .int .i64 u, .slice a n c] 73))
  have i0 := h.below hw0
  have t0 := hT.below hw0
  have HC := hide (fun W (hW : IsTgts W a ts) => checkRelease_any v u a n c ts W hW hn hm)
  unfold relv at HC ⊢
  by_cases h0 : relE v u ts = 0
  · have HX := hide (show relTx v u ts = relT v u ts by unfold relTx; rw [if_pos h0])
    obtain ⟨k1, k2, k3⟩ := rel_I64 h0
    have hl : n ≤ 4 := by have := (relE_ok h0).2.2.1; omega
    have HW := hide (fun W B x (kx : ∀ y ∈ [x], I64 y) (hW : IsInts W (some ⟨B, 0, none⟩) [x]) (hTW : Tab W) => written_any (some ⟨B, 0, none⟩) 1 1 [x] W hW rfl kx (by omega) hTW)
    have l1 := hide (wr_short k1 (by simp))
    have l2 := hide (wr_short k2 (by simp))
    have K1 := hide k1
    have K2 := hide k2
    have K3 := hide k3
    have H0 := hide h0
    rw [h0] at HC
    rw [h0]
    have hadd1 : ¬ 9223372036854775807 < 8 + (bs (wr [v])).size := by rw [bs_size]; have := l1.out; omega
    have hadd2 : ¬ 9223372036854775807 < 8 + (bs (wr [v])).size + 7 := by rw [bs_size]; have := l1.out; omega
    have hadd3 : ¬ 9223372036854775807 < 8 + (bs (wr [v])).size + 7 + (bs (wr [u])).size := by rw [bs_size, bs_size]; have := l1.out; have := l2.out; omega
    have HN := hide hn
    clear hn k1 k2 k3 h0
    go_enter Tryz.func184, Tryz.ntmps184
    go_wp2_with fail
    generalize w.alloc (.cells #[.int .i64 v, .int .i64 u, .slice a n c] 73) = W at *
    refine (unhide HC _ i0).mono ?_
    rintro e w1 ⟨rfl, hb1⟩
    replace b0 := hide (blk_below b0.out hb1)
    replace i0 := i0.below hb1
    replace t0 := t0.below hb1
    replace hw0 := hw0.trans (hb1.mono hw0.size)
    clear hb1
    replace HW := hide (fun W B x (hW : Below w1.heap.size w1 W) kx (hi : IsInts W (some ⟨B, 0, none⟩) [x]) => (HW.out W B x kx hi (t0.below hW)).mono fun _ _ h => (⟨h.1, h.2, hW.trans (h.2.mono hW.size)⟩ : _ ∧ Below W.heap.size W _ ∧ Below w1.heap.size w1 _))
    go_upto_region 4 with fail
    go_cut [5] (fun v5 wx => ∃ B, v5 = .slice (some ⟨B, 0, none⟩) 1 1 ∧ w1.heap.size ≤ B ∧ Hid (OwnStrs wx B [bs (headT v u)]) ∧ Below w1.heap.size w1 wx)
    case first =>
      have hb5 : True := trivial
      go_region_held3 (fun w' => w'.cell? ⟨w.heap.size, 0, none⟩ = some (.int .i64 v) ∧ w'.cell? ⟨w.heap.size, 1, none⟩ = some (.int .i64 u) ∧ w'.cell? ⟨w.heap.size, 2, none⟩ = some (.slice a n c) ∧ Below w1.heap.size w1 w')
        (first | (refine keep3 ?_ b0.out; (repeat (first | with_reducible assumption | with_reducible exact Below.refl _ _ | with_reducible refine Below.drew ?_ | with_reducible refine below_new ?_ _)); done))
        ((first
          | (go_at_call 210; refine (unhide HW _ _ v ?_ K1.out ?_).mono ?_; (focus ((repeat (first | with_reducible assumption | with_reducible exact Below.refl _ _ | with_reducible refine Below.drew ?_ | with_reducible refine below_new ?_ _)); done)); (focus ((repeat (first | with_reducible refine isInts_drew ?_ | (with_reducible refine isInts_new _ _ v _ ?_; (first | with_reducible rfl | (simp; done))) | with_reducible refine IsInts.alloc ?_ _ | with_reducible refine IsInts.below ?_ hb5)); done)); rintro e w5 ⟨rfl, hb5, hk5⟩)
          | (go_at_call 210; refine (unhide HW _ _ u ?_ K2.out ?_).mono ?_; (focus ((repeat (first | with_reducible assumption | with_reducible exact Below.refl _ _ | with_reducible refine Below.drew ?_ | with_reducible refine below_new ?_ _)); done)); (focus ((repeat (first | with_reducible refine isInts_drew ?_ | (with_reducible refine isInts_new _ _ u _ ?_; (first | with_reducible rfl | (simp; done))) | with_reducible refine IsInts.alloc ?_ _ | with_reducible refine IsInts.below ?_ hb5)); done)); rintro e w5 ⟨rfl, hb5, hk5⟩)))
      all_goals
        go_wp2_with fail
        go_meet
        case rel =>
          refine ⟨_, rfl, hk5.size, ?_, below_new hk5 _⟩
          show OwnStrs _ _ _
          rw [← headT_app v u rfl rfl]
          exact heap_alloc_last _ _
    case rest =>
    obtain ⟨B, rfl, hB, ho, hwc⟩ := hcut
    have hB0 : w.heap.size ≤ B := Nat.le_trans hw0.size hB
    replace b0 := hide (blk_below b0.out hwc)
    replace i0 := i0.below hwc
    replace t0 := t0.below hwc
    replace hw0 := hw0.trans (hwc.mono hw0.size)
    have x2 := blk_cell b0.out 2 _ rfl
    clear hwc hB HW hadd1 hadd2 hadd3 l1 l2 K1 K2
    have hr0 := row_one ho.out hB0
    clear ho
    have HJ := hide (fun W A C (hW : IsStrs W A (prt v u ts n)) (hC : n + 1 ≤ C) => join_any A (n + 1) C (prt v u ts n) [59, 32] W hW (prt_len HN.out (Nat.le_refl _)) hC (by omega) (by rw [prt_all HN.out]; have := relT_len H0.out; unfold relT at this; exact Nat.le_trans this (by decide)))
    rw [prt_all HN.out] at HJ
    obtain ⟨ii, hii, iz0, iz1, iz2⟩ := info_parts info_str
    have hr1 : Hid (wc.ownsRow w.heap.size 9 1 (.slice (some ⟨B, 0, none⟩) 1 1) (0 + 1) (svals (prt v u ts 0))) := hr0
    clear hr0
    go_wp2_with fail
    go_loopw [5, 29] (fun p i wq => ∃ k : Nat, k ≤ n ∧ i = .int .i64 k ∧ Below w.heap.size w wq ∧ Hid (wq.ownsRow w.heap.size 9 1 p (k + 1) (svals (prt v u ts k)))) (fun _ i _ => n - (intOf i).toNat)
    case atStart => exact ⟨0, Nat.zero_le _, rfl, hw0, hr1⟩
    case round =>
      rename_i p5
      clear hr1 x2 b0 i0 t0 hw0
      obtain ⟨wq, rfl⟩ : ∃ wq : World, wq = wr := ⟨_, rfl⟩
      obtain ⟨k, hk, rfl, hw, hr⟩ := hrel
      by_cases hlt : k < n
      · have i1 := h.below hw
        rcases i1 with rfl | ⟨bb, oo, rfl, hc0⟩
        · have := HN.out
          simp at this
          omega
        have hkx : k < ts.length := by rw [HN.out]; exact hlt
        obtain ⟨e0, e1, e2⟩ := hc0 k ts[k] (List.getElem?_eq_getElem hkx)
        have hk3 := K3.out ts[k] (List.getElem_mem hkx)
        have HP := hide (prt_next (v := v) (u := u) hkx)
        clear hc0
        generalize ts[k] = tk at *
        have HR := hide (fun W => rowOf_any tk W)
        unfold tv at HR
        have HW := hide (fun W B (hW : IsInts W (some ⟨B, 0, none⟩) [tk.1, tk.2.1, tk.2.2]) (hTW : Tab W) => written_any (some ⟨B, 0, none⟩) 3 3 [tk.1, tk.2.1, tk.2.2] W hW rfl hk3 (by omega) hTW)
        have hwA := hw.alloc hw.size (.cells #[.int .i64 tk.1, .int .i64 tk.2.1, .int .i64 tk.2.2] 104)
        have hrA := hr.out.alloc (.cells #[.int .i64 tk.1, .int .i64 tk.2.1, .int .i64 tk.2.2] 104)
        go_wp2_with fail
        generalize wq.alloc (.cells #[.int .i64 tk.1, .int .i64 tk.2.1, .int .i64 tk.2.2] 104) = wA at *
        refine (unhide HR _).mono ?_
        rintro e w2 ⟨rfl, hb2⟩
        replace hwA := hwA.trans (hb2.mono hwA.size)
        replace hrA := hide (ownsRow_below hrA hb2)
        clear hb2
        have hwB := hwA.alloc hwA.size (.cells #[.int .i64 tk.1, .int .i64 tk.2.1, .int .i64 tk.2.2] 261)
        have hrB := hrA.out.alloc (.cells #[.int .i64 tk.1, .int .i64 tk.2.1, .int .i64 tk.2.2] 261)
        have iB : IsInts (w2.alloc (.cells #[.int .i64 tk.1, .int .i64 tk.2.1, .int .i64 tk.2.2] 261)) (some ⟨w2.heap.size, 0, none⟩) [tk.1, tk.2.1, tk.2.2] := isInts_at _ _ _ _ _ rfl rfl
        go_wp2_with fail
        generalize w2.alloc (.cells #[.int .i64 tk.1, .int .i64 tk.2.1, .int .i64 tk.2.2] 261) = wB at *
        refine (unhide HW _ _ iB (hT.below hwB)).mono ?_
        rintro e w3 ⟨rfl, hb3⟩
        replace hwB := hwB.trans (hb3.mono hwB.size)
        replace hrB := ownsRow_below hrB hb3
        have hrC := hrB.alloc (.cells #[.string (bs (wr [tk.1, tk.2.1, tk.2.2]))] 9)
        clear hb3
        go_wp2_with (at_builtin; refine wpList_append_lies _ rfl _ _ 22 rfl w.heap.size 9 ii _ 1 16 Tryz.underlying22 hii iz0 iz1 iz2 rfl (by omega) _ (k + 1) _ rfl hrC ⟨w3.heap.size, 0, none⟩ 1 1 [.string (bs (wr [tk.1, tk.2.1, tk.2.2]))] rfl rfl (news_one _ _ _) (one_str _) (by omega) (by unfold maxLen; omega) (by omega) (by have := hwB.size; simp; omega) (w3.heap.size + 1) (by simp) ?_; intro g cap w4 hown4 hgr4 _ _)
        have hw4 : Below w.heap.size w w4 := (hwB.alloc hwB.size _).grown hgr4 (by have := hwB.size; simp; omega) (ownBlock_ge hrC)
        go_wp2_with fail
        go_roundw
        case rel =>
          refine ⟨k + 1, by omega, by go_num, hw4, ?_⟩
          show World.ownsRow _ _ _ _ _ _ _
          rw [HP.out]
          exact hown4
        case measure => simp [intOf]; omega
      · have hkn : k = n := by omega
        subst hkn
        obtain ⟨A, C, rfl, hC, hiS⟩ := row_strs hr.out (prt_len HN.out (Nat.le_refl _))
        go_wp2_with fail
        refine (unhide HJ _ _ _ hiS hC).mono ?_
        rintro e w5 ⟨rfl, hb5⟩
        go_wp2_with fail
        go_ret2
        rw [HX.out]
        exact ⟨rfl, hw.trans (hb5.mono hw.size)⟩
  · have hb : (relE v u ts != 0) = true := by simpa using h0
    have HX := hide (show relTx v u ts = [] by unfold relTx; rw [if_neg h0])
    clear hn h0
    generalize relE v u ts = q at *
    go_enter Tryz.func184, Tryz.ntmps184
    go_wp2_with fail
    generalize w.alloc (.cells #[.int .i64 v, .int .i64 u, .slice a n c] 73) = W at *
    refine (unhide HC _ i0).mono ?_
    rintro e w1 ⟨rfl, hb1⟩
    replace hw0 := hw0.trans (hb1.mono hw0.size)
    go_wp2_with fail
    go_ret2
    rw [HX.out]
    exact ⟨rfl, hw0⟩

end Go.Proofs.YtgngpmgjoifepaaGreatDoor

namespace Go.Proofs.YtgngpmgjoifepaaGreatDoor
open Go.RowKit

theorem crE_1 {ss : List ByteArray} {l : List S2} {r : Rt} {v u : Int} {ts : List T3} {sigs : List Int} (h : relE v u ts ≠ 0) : crE ss l r v u ts sigs = relE v u ts := by unfold crE; rw [if_neg h]
theorem crE_2 {ss : List ByteArray} {l : List S2} {r : Rt} {v u : Int} {ts : List T3} {sigs : List Int} (h : relE v u ts = 0) (h2 : bookE ss ≠ 0) : crE ss l r v u ts sigs = bookE ss := by unfold crE; rw [if_pos h, if_neg h2]
theorem crE_3 {ss : List ByteArray} {l : List S2} {r : Rt} {v u : Int} {ts : List T3} {sigs : List Int} (h : relE v u ts = 0) (h2 : bookE ss = 0) : crE ss l r v u ts sigs = csE l r sigs (nameN ss (bs (relT v u ts))) := by unfold crE; rw [if_pos h, if_pos h2]

set_option maxHeartbeats 1600000 in
set_option maxRecDepth 100000 in
theorem tCheckRelease_any (ab : Option Addr) (nb cb : Nat) (ss : List ByteArray) (a1 : Option Addr) (n1 c1 : Nat) (l : List S2) (r : Rt) (a2 : Option Addr) (n2 c2 : Nat) (v u : Int) (a3 : Option Addr) (n3 c3 : Nat) (ts : List T3) (a4 : Option Addr) (n4 c4 : Nat) (sigs : List Int) (w : World)
    (h0 : BB w ab nb cb ss) (h1 : BG w a1 n1 l) (h2 : BI w a2 n2 r.ks) (h3 : BT w a3 n3 ts) (h4 : BI w a4 n4 sigs) (hT : Tab w) :
    Calls Tryz.prog 139 #[bookv ab nb cb, .slice a1 n1 c1, rv r.v a2 n2 c2 r.t, relv v u a3 n3 c3, .slice a4 n4 c4] w fun e w' => e = .returned (.int .i64 (crE ss l r v u ts sigs)) ∧ Below w.heap.size w w' := by
  have hw0 : Below w.heap.size w (((w.alloc (.cells #[.slice ab nb cb] 24)).alloc (.cells #[.int .i64 r.v, .slice a2 n2 c2, .int .i64 r.t] 63)).alloc (.cells #[.int .i64 v, .int .i64 u, .slice a3 n3 c3] 73)) := (((Below.refl _ _).alloc (Nat.le_refl _) _).alloc (by simp) _).alloc (by simp; omega) _
  have b0 := hide (blk_alloc (blk_alloc (heap_alloc_last w (.cells #[.slice ab nb cb] 24)) (.cells #[.int .i64 r.v, .slice a2 n2 c2, .int .i64 r.t] 63)) (.cells #[.int .i64 v, .int .i64 u, .slice a3 n3 c3] 73))
  have b1 := heap_alloc_last (w.alloc (.cells #[.slice ab nb cb] 24)) (.cells #[.int .i64 r.v, .slice a2 n2 c2, .int .i64 r.t] 63)
  rw [World.size_alloc] at b1
  replace b1 := hide (blk_alloc b1 (.cells #[.int .i64 v, .int .i64 u, .slice a3 n3 c3] 73))
  have HB := hide (fun W (hW : Below w.heap.size w W) => releaseText_any v u a3 n3 c3 ts W (h3.below hW).at_ h3.len h3.max (hT.below hW))
  have HC := hide (fun W s (hW : Below w.heap.size w W) => name_any ab nb cb ss s W (h0.below hW).at_ h0.len h0.cap h0.max h0.short)
  have HD := hide (fun W name (hW : Below w.heap.size w W) => checkSigs_any a1 n1 c1 l r a2 n2 c2 a4 n4 c4 sigs name W (h1.below hW) (h2.below hW) (h4.below hW))
  unfold rv at HD ⊢
  unfold relv at HB ⊢
  unfold bookv at HC ⊢
  clear h0 h1 h2 h3 h4 hT
  go_enter Tryz.func139, Tryz.ntmps139
  go_wp2_with fail
  generalize ((w.alloc (.cells #[.slice ab nb cb] 24)).alloc (.cells #[.int .i64 r.v, .slice a2 n2 c2, .int .i64 r.t] 63)).alloc (.cells #[.int .i64 v, .int .i64 u, .slice a3 n3 c3] 73) = W at *
  refine (unhide HB _ hw0).mono ?_
  rintro e w1 ⟨rfl, hb⟩
  replace b0 := hide (blk_below b0.out hb)
  replace b1 := hide (blk_below b1.out hb)
  replace hw0 := hw0.trans (hb.mono hw0.size)
  clear hb HB
  by_cases z1 : relE v u ts = 0
  rotate_left
  · have HE := hide (crE_1 (ss := ss) (l := l) (r := r) (sigs := sigs) z1)
    have hq : (relE v u ts != 0) = true := by simpa using z1
    clear z1 HC HD
    generalize relE v u ts = q at *
    generalize bs (relTx v u ts) = sx at *
    go_wp2_with fail
    go_ret
    exact ⟨ret_int HE.out.symm, hw0⟩
  rw [show relTx v u ts = relT v u ts by unfold relTx; rw [if_pos z1], z1]
  have Z1 := hide z1
  clear z1
  have x0 := blk_cell b0.out 0 _ rfl
  generalize hsx : bs (relT v u ts) = sx
  replace hsx := hide hsx
  replace HC := hide (fun W hW => HC.out W sx hW)
  go_wp2_with fail
  refine (unhide HC _ hw0).mono ?_
  rintro e w2 ⟨rfl, hb⟩
  replace b1 := hide (blk_below b1.out hb)
  replace hw0 := hw0.trans (hb.mono hw0.size)
  clear hb HC x0
  by_cases z2 : bookE ss = 0
  rotate_left
  · have HE := hide (crE_2 (l := l) (r := r) (sigs := sigs) Z1.out z2)
    have hq : (bookE ss != 0) = true := by simpa using z2
    clear z2 HD
    generalize bookE ss = q at *
    generalize nameE ss sx = q2 at *
    go_wp2_with fail
    go_ret
    exact ⟨ret_int HE.out.symm, hw0⟩
  have HE := hide (crE_3 (l := l) (r := r) (sigs := sigs) Z1.out z2)
  rw [show nameE ss sx = (nameN ss sx : Int) by unfold nameE; rw [if_pos z2], z2]
  rw [hsx.out] at HE
  clear z2
  generalize (nameN ss sx : Int) = nm at *
  have x0 := blk_cell b1.out 0 _ rfl
  have x1 := blk_cell b1.out 1 _ rfl
  have x2 := blk_cell b1.out 2 _ rfl
  go_wp2_with fail
  refine (unhide HD _ _ hw0).mono ?_
  rintro e w3 ⟨rfl, hb⟩
  go_wp2_with fail
  go_ret
  exact ⟨ret_int HE.out.symm, hw0.trans (hb.mono hw0.size)⟩

/-! ### The images are those that were meant -/

theorem meant_bad {ss : List ByteArray} {ts : List T3} {ws : List (List Int)} {k : Nat} (hk : k < ts.length) (hk2 : k < ws.length) (h : meant1 ss ts[k] ws[k] = false) : meantB ss (ts.drop k) (ws.drop k) = false := by
  rw [List.drop_eq_getElem_cons hk, List.drop_eq_getElem_cons hk2, meantB, h]
  rfl
theorem meant_next {ss : List ByteArray} {ts : List T3} {ws : List (List Int)} {k : Nat} (hk : k < ts.length) (hk2 : k < ws.length) (h : meant1 ss ts[k] ws[k] = true) : meantB ss (ts.drop k) (ws.drop k) = meantB ss (ts.drop (k + 1)) (ws.drop (k + 1)) := by
  rw [List.drop_eq_getElem_cons hk, List.drop_eq_getElem_cons hk2, meantB, h]
  rfl
theorem meant1_1 {ss : List ByteArray} {t : T3} {w : List Int} (h : inE ss w ≠ 0) : meant1 ss t w = false := by unfold meant1; simp [h]
theorem meant1_2 {ss : List ByteArray} {t : T3} {w : List Int} (h : ¬ inN ss w = t.2.1) : meant1 ss t w = false := by unfold meant1; simp [h]
theorem meant1_3 {ss : List ByteArray} {t : T3} {w : List Int} (h : ¬ (w.length : Int) = t.2.2) : meant1 ss t w = false := by unfold meant1; simp [h]
theorem meant1_0 {ss : List ByteArray} {t : T3} {w : List Int} (h : inE ss w = 0) (h2 : inN ss w = t.2.1) (h3 : (w.length : Int) = t.2.2) : meant1 ss t w = true := by unfold meant1; simp [h, h2, h3]

theorem keepM {w1 W : World} {B bs_ os_ : Nat} {v0 v1 : Value} {ty : TypeId} (hb : Below w1.heap.size w1 W) (h : w1.heap[B]? = some (.cells #[v0] ty (0, 0))) (hs : w1.cell? ⟨bs_, os_, none⟩ = some v1) : W.cell? ⟨B, 0, none⟩ = some v0 ∧ W.cell? ⟨bs_, os_, none⟩ = some v1 ∧ Below w1.heap.size w1 W :=
  ⟨blk_cell (blk_below h hb) 0 _ rfl, by rw [hb.cell (cell_lt hs)]; exact hs, hb⟩

set_option maxHeartbeats 3200000 in
set_option maxRecDepth 100000 in
theorem allMeant_any (ab : Option Addr) (nb cb : Nat) (ss : List ByteArray) (a1 : Option Addr) (n1 c1 : Nat) (ts : List T3) (a2 : Option Addr) (n2 c2 : Nat) (ws : List (List Int)) (w : World)
    (h0 : BB w ab nb cb ss) (h1 : BT w a1 n1 ts) (h2 : BL w a2 n2 ws) (hn : n1 = n2) (hT : Tab w) :
    Calls Tryz.prog 140 #[bookv ab nb cb, .slice a1 n1 c1, .slice a2 n2 c2] w fun e w' => e = .returned (.bool (meantB ss ts ws)) ∧ Below w.heap.size w w' := by
  have hw0 : Below w.heap.size w (w.alloc (.cells #[.slice ab nb cb] 24)) := (Below.refl _ _).alloc (Nat.le_refl _) _
  have b0 := hide (heap_alloc_last w (.cells #[.slice ab nb cb] 24))
  have HI := hide (fun W a n c xs (hW : Below w.heap.size w W) (hi : BI W a n xs) => imageName_any ab nb cb ss a n c xs W (h0.below hW).at_ h0.len h0.cap h0.max h0.short hi.at_ hi.len hi.max (hT.below hW))
  have L1 := hide h1.len
  have L2 := hide h2.len
  have m1 := h1.max
  have m2 := h2.max
  have H1 := hide h1.at_
  have H2 := hide h2.at_
  have HNn := hide hn
  unfold maxLen at m1 m2
  unfold bookv at HI ⊢
  clear h0 h1 h2 hT hn
  go_enter Tryz.func140, Tryz.ntmps140
  go_wp2_with fail
  generalize w.alloc (.cells #[.slice ab nb cb] 24) = W at *
  go_loopw [13] (fun i wr => ∃ k : Nat, k ≤ n1 ∧ i = .int .i64 k ∧ Below w.heap.size w wr ∧ Hid (wr.heap[w.heap.size]? = some (.cells #[.slice ab nb cb] 24 (0, 0))) ∧ Hid (meantB ss (ts.drop k) (ws.drop k) = meantB ss ts ws)) (fun i _ => n1 - (intOf i).toNat)
  case atStart => exact ⟨0, Nat.zero_le _, rfl, hw0, b0, rfl⟩
  case round =>
    clear b0 hw0
    obtain ⟨wq, rfl⟩ : ∃ wq : World, wq = wr := ⟨_, rfl⟩
    obtain ⟨k, hk, rfl, hw0, b0, hts⟩ := hrel
    by_cases hlt : k < n1
    · have hk1 : k < ts.length := by rw [L1.out]; exact hlt
      have hk2 : k < ws.length := by rw [L2.out, ← HNn.out]; exact hlt
      have hlt2 : k < n2 := by rw [← HNn.out]; exact hlt
      have i1 := H1.out.below hw0
      have i2 := H2.out.below hw0
      rcases i1 with e | ⟨b3, o3, rfl, hc3⟩
      · rw [e] at hk1; simp at hk1
      rcases i2 with e | ⟨b4, o4, rfl, hc4⟩
      · rw [e] at hk2; simp at hk2
      obtain ⟨e0, e1, e2⟩ := hc3 k ts[k] (List.getElem?_eq_getElem hk1)
      obtain ⟨ag, cg, g0, hig, hlg, hcg⟩ := hc4 k ws[k] (List.getElem?_eq_getElem hk2)
      have big : BI wq ag ws[k].length ws[k] := ⟨hig, rfl, by omega⟩
      have HMb := hide (meant_bad (ss := ss) hk1 hk2)
      have HMn := hide (meant_next (ss := ss) hk1 hk2)
      clear hc3 hc4 hig hlg hcg
      generalize ts[k] = tk at *
      generalize ws[k] = wk at *
      obtain ⟨ng, hng⟩ : ∃ ng, ng = wk.length := ⟨_, rfl⟩
      rw [← hng] at g0 big
      have hbP : Below wq.heap.size wq (wq.alloc (.cells #[.int .i64 tk.1, .int .i64 tk.2.1, .int .i64 tk.2.2] 104)) := (Below.refl _ _).alloc (Nat.le_refl _) _
      have bV := hide (heap_alloc_last wq (.cells #[.int .i64 tk.1, .int .i64 tk.2.1, .int .i64 tk.2.2] 104))
      have b0P := hide (blk_below b0.out hbP)
      have hwP := hw0.trans (hbP.mono hw0.size)
      have bgP := big.below hbP
      have gP : (wq.alloc (.cells #[.int .i64 tk.1, .int .i64 tk.2.1, .int .i64 tk.2.2] 104)).cell? ⟨b4, o4 + k, none⟩ = some (.slice ag ng cg) := by rw [hbP.cell (cell_lt g0)]; exact g0
      replace hng := hide hng
      go_upto_region 4 with fail
      generalize wq.alloc (.cells #[.int .i64 tk.1, .int .i64 tk.2.1, .int .i64 tk.2.2] 104) = wP at *
      obtain ⟨V, hV⟩ : ∃ V, V = wq.heap.size := ⟨_, rfl⟩
      rw [← hV] at bV ⊢
      clear e0 e1 e2 g0 hbP big b0 hw0 hV
      have HIk := hide (fun W' (hW : Below wP.heap.size wP W') => HI.out W' ag ng cg wk (hwP.trans (hW.mono hwP.size)) (bgP.below hW))
      have Q1 := hide (meant1_1 (ss := ss) (t := tk) (w := wk))
      have Q2 := hide (meant1_2 (ss := ss) (t := tk) (w := wk))
      have Q3 := hide (meant1_3 (ss := ss) (t := tk) (w := wk))
      have Q0 := hide (meant1_0 (ss := ss) (t := tk) (w := wk))
      rw [← hng.out] at Q3 Q0
      generalize inE ss wk = qe at *
      generalize inN ss wk = qn at *
      refine wp_region_held_drew (S := fun w' => w'.cell? ⟨w.heap.size, 0, none⟩ = some (.slice ab nb cb) ∧ w'.cell? ⟨b4, o4 + k, none⟩ = some (.slice ag ng cg) ∧ Below wP.heap.size wP w') (by kernel_rfl) (keepM (Below.refl _ _).drew b0P.out gP) ?_
      intro hHeld
      refine wpAnyH_take (i := 0) (v := ?_) (by simp only [List.getElem?_toArray, List.getElem?_cons_zero]; rfl) (by kernel_rfl) (by kernel_rfl) (by kernel_rfl) (by exact fun _ _ _ h => h) (Or.inl ⟨by rfl, ?_⟩) (by assumption) ?_
      rotate_left
      · intro w hSw
        try dsimp only at hSw
        go_simp
        try with_reducible rfl
      try simp only [Act.put, List.setIfInBounds_toArray, List.set_cons_zero, List.set_cons_succ]
      refine wpAnyH_take (i := 1) (v := ?_) (by simp only [List.getElem?_toArray, List.getElem?_cons_zero, List.getElem?_cons_succ]; rfl) (by kernel_rfl) (by kernel_rfl) (by kernel_rfl) (by exact fun _ _ _ h => h) (Or.inl ⟨by rfl, ?_⟩) (by assumption) ?_
      rotate_left
      · intro w hSw
        try dsimp only at hSw
        go_simp
        try with_reducible rfl
      try simp only [Act.put, List.setIfInBounds_toArray, List.set_cons_zero, List.set_cons_succ]
      refine wpAnyH_take (i := 2) (v := ?_) (by simp only [List.getElem?_toArray, List.getElem?_cons_zero, List.getElem?_cons_succ]; rfl) (by kernel_rfl) (by kernel_rfl) (by kernel_rfl) (by exact fun _ _ _ h => h) (Or.inl ⟨by rfl, ?_⟩) (by assumption) ?_
      rotate_left
      · intro w hSw
        try dsimp only at hSw
        go_simp
        try with_reducible rfl
      try simp only [Act.put, List.setIfInBounds_toArray, List.set_cons_zero, List.set_cons_succ]
      refine wpAnyH_take (i := 3) (v := ?_) (by simp only [List.getElem?_toArray, List.getElem?_cons_zero, List.getElem?_cons_succ]; rfl) (by kernel_rfl) (by kernel_rfl) (by kernel_rfl) (by exact fun _ _ _ h => h) (Or.inl ⟨by rfl, ?_⟩) (by assumption) ?_
      rotate_left
      · intro w hSw
        try dsimp only at hSw
        go_simp
        try with_reducible rfl
      try simp only [Act.put, List.setIfInBounds_toArray, List.set_cons_zero, List.set_cons_succ]
      refine wpAnyH_take (i := 4) (v := ?_) (by simp only [List.getElem?_toArray, List.getElem?_cons_zero, List.getElem?_cons_succ]; rfl) (by kernel_rfl) (by kernel_rfl) (by kernel_rfl) (by exact fun _ _ _ h => h) (Or.inl ⟨by rfl, ?_⟩) (by assumption) ?_
      rotate_left
      · intro w hSw
        try dsimp only at hSw
        go_simp
        try with_reducible rfl
      try simp only [Act.put, List.setIfInBounds_toArray, List.set_cons_zero, List.set_cons_succ]
      refine wpAnyH_ready (rs := [5]) (by kernel_rfl) (by simp) ?_
      refine AllReadyH.cons (by simp only [List.getElem?_toArray, List.getElem?_cons_zero, List.getElem?_cons_succ]; rfl) (fun K hK => ?_) AllReadyH.nil
      go_simp
      have hB := hHeld.2.2
      refine (unhide HIk _ hB).mono ?_
      rintro e w5 ⟨rfl, hb⟩
      have hk5 := hB.trans (hb.mono hB.size)
      go_wp2_with fail
      refine hK.out _ _ (keepM hk5 b0P.out gP) (fun hHeld => ?_)
      clear hK K hB
      try simp only [Act.put, List.setIfInBounds_toArray, List.set_cons_zero, List.set_cons_succ]
      refine wpAnyH_take (i := 6) (v := ?_) (by simp only [List.getElem?_toArray, List.getElem?_cons_zero, List.getElem?_cons_succ]; rfl) (by kernel_rfl) (by kernel_rfl) (by kernel_rfl) (by exact fun _ _ _ h => h) (Or.inl ⟨by rfl, ?_⟩) (by assumption) ?_
      rotate_left
      · intro w hSw
        try dsimp only at hSw
        go_simp
        try with_reducible rfl
      try simp only [Act.put, List.setIfInBounds_toArray, List.set_cons_zero, List.set_cons_succ]
      refine wpAnyH_take (i := 7) (v := ?_) (by simp only [List.getElem?_toArray, List.getElem?_cons_zero, List.getElem?_cons_succ]; rfl) (by kernel_rfl) (by kernel_rfl) (by kernel_rfl) (by exact fun _ _ _ h => h) (Or.inl ⟨by rfl, ?_⟩) (by assumption) ?_
      rotate_left
      · intro w hSw
        try dsimp only at hSw
        go_simp
        try with_reducible rfl
      try simp only [Act.put, List.setIfInBounds_toArray, List.set_cons_zero, List.set_cons_succ]
      refine wpAnyH_take (i := 8) (v := ?_) (by simp only [List.getElem?_toArray, List.getElem?_cons_zero, List.getElem?_cons_succ]; rfl) (by kernel_rfl) (by kernel_rfl) (by kernel_rfl) (by exact fun _ _ _ h => h) (Or.inl ⟨by rfl, ?_⟩) (by assumption) ?_
      rotate_left
      · intro w hSw
        try dsimp only at hSw
        go_simp
        try with_reducible rfl
      try simp only [Act.put, List.setIfInBounds_toArray, List.set_cons_zero, List.set_cons_succ]
      refine wpAnyH_take (i := 9) (v := ?_) (by simp only [List.getElem?_toArray, List.getElem?_cons_zero, List.getElem?_cons_succ]; rfl) (by kernel_rfl) (by kernel_rfl) (by kernel_rfl) (by exact fun _ _ _ h => h) (Or.inl ⟨by rfl, ?_⟩) (by assumption) ?_
      rotate_left
      · intro w hSw
        try dsimp only at hSw
        go_simp
        try with_reducible rfl
      try simp only [Act.put, List.setIfInBounds_toArray, List.set_cons_zero, List.set_cons_succ]
      refine wpAnyH_take (i := 10) (v := ?_) (by simp only [List.getElem?_toArray, List.getElem?_cons_zero, List.getElem?_cons_succ]; rfl) (by kernel_rfl) (by kernel_rfl) (by kernel_rfl) (by exact fun _ _ _ h => h) (Or.inl ⟨by rfl, ?_⟩) (by assumption) ?_
      rotate_left
      · intro w hSw
        try dsimp only at hSw
        go_simp
        try with_reducible rfl
      try simp only [Act.put, List.setIfInBounds_toArray, List.set_cons_zero, List.set_cons_succ]
      refine wpAnyH_done (by kernel_rfl) ?_ _
      have hw5 := hwP.trans (hk5.mono hwP.size)
      have b05 := hide (blk_below b0P.out hk5)
      have bV5 := hide (blk_below bV.out hk5)
      have g5 : w5.cell? ⟨b4, o4 + k, none⟩ = some (.slice ag ng cg) := by rw [hk5.cell (cell_lt gP)]; exact gP
      have x1 := blk_cell bV5.out 1 _ rfl
      have x2 := blk_cell bV5.out 2 _ rfl
      clear hk5 hb gP bgP HIk hwP b0P bV
      by_cases z1 : qe = 0
      rotate_left
      · have HE := hide (hts.out.symm.trans (HMb.out (Q1.out z1)))
        have d1 : (qe != 0) = true := by simpa using z1
        clear z1
        go_wp2_with fail
        go_quiet (fail)
        go_wp2_with fail
        go_ret
        exact ⟨ret_bool HE.out.symm, below_drewN hw5 _⟩
      have d1 : (qe != 0) = false := by simpa using z1
      by_cases z2 : qn = tk.2.1
      rotate_left
      · have HE := hide (hts.out.symm.trans (HMb.out (Q2.out z2)))
        have d2 : (qn != tk.2.1) = true := by simpa using z2
        clear z1 z2
        go_wp2_with fail
        go_quiet (fail)
        go_wp2_with fail
        go_ret
        exact ⟨ret_bool HE.out.symm, below_drewN hw5 _⟩
      have d2 : (qn != tk.2.1) = false := by simpa using z2
      by_cases z3 : (ng : Int) = tk.2.2
      rotate_left
      · have HE := hide (hts.out.symm.trans (HMb.out (Q3.out z3)))
        have d3 : ((ng : Int) != tk.2.2) = true := by simpa using z3
        clear z1 z2 z3
        go_wp2_with fail
        go_quiet (fail)
        go_wp2_with fail
        go_ret
        exact ⟨ret_bool HE.out.symm, below_drewN hw5 _⟩
      have d3 : ((ng : Int) != tk.2.2) = false := by simpa using z3
      have HE := hide (HMn.out (Q0.out z1 z2 z3))
      clear z1 z2 z3
      go_wp2_with fail
      go_quiet (fail)
      go_wp2_with fail
      go_roundw
      case rel => exact ⟨k + 1, by omega, by go_num, below_drewN hw5 _, b05.out, HE.out.symm.trans hts.out⟩
      case measure => simp [intOf]; omega
    · go_wp2_with fail
      go_ret
      have hx := hts.out
      rw [List.drop_eq_nil_of_le (by rw [L1.out]; omega)] at hx
      exact ⟨ret_bool (by rw [← hx]; simp [meantB]), hw0⟩

end Go.Proofs.YtgngpmgjoifepaaGreatDoor
