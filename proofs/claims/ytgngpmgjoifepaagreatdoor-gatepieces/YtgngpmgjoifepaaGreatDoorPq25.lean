/- The contracts of trust.Count, checkSigs, trusted. The contract of trust.trusted. -/
import Derived.Test.YtgngpmgjoifepaaGreatDoorPq16
namespace Go.Proofs.YtgngpmgjoifepaaGreatDoor
open Go.RowKit

theorem cntE_1 {l : List S2} {r : Rt} {sigs : List Int} (h : sigE l ≠ 0) : cntE l r sigs = sigE l := by unfold cntE; rw [if_neg h]
theorem cntE_2 {l : List S2} {r : Rt} {sigs : List Int} (h : sigE l = 0) (h2 : r.e ≠ 0) : cntE l r sigs = r.e := by unfold cntE; rw [if_pos h, if_neg h2]
theorem cntE_3 {l : List S2} {r : Rt} {sigs : List Int} (h : sigE l = 0) (h2 : r.e = 0) (h3 : 50 < sigs.length) : cntE l r sigs = 2 := by unfold cntE; rw [if_pos h, if_pos h2, if_pos h3]
theorem cntE_0 {l : List S2} {r : Rt} {sigs : List Int} (h : sigE l = 0) (h2 : r.e = 0) (h3 : ¬ 50 < sigs.length) : cntE l r sigs = 0 := by unfold cntE; rw [if_pos h, if_pos h2, if_neg h3]
theorem cntV_0 {l : List S2} {r : Rt} {sigs : List Int} {name : Int} (h : cntE l r sigs = 0) : cntV l r sigs name = (cntN l r.ks sigs name : Int) := by unfold cntV; rw [if_pos h]
theorem cntV_1 {l : List S2} {r : Rt} {sigs : List Int} {name : Int} (h : cntE l r sigs ≠ 0) : cntV l r sigs name = 0 := by unfold cntV; rw [if_neg h]

set_option maxHeartbeats 1600000 in
set_option maxRecDepth 100000 in
theorem count_any (a1 : Option Addr) (n1 c1 : Nat) (l : List S2) (r : Rt) (a2 : Option Addr) (n2 c2 : Nat) (a3 : Option Addr) (n3 c3 : Nat) (sigs : List Int) (name : Int) (w : World) (h1 : BG w a1 n1 l) (h2 : BI w a2 n2 r.ks) (h3 : BI w a3 n3 sigs) :
    Calls Tryz.prog 212 #[.slice a1 n1 c1, rv r.v a2 n2 c2 r.t, .slice a3 n3 c3, .int .i64 name] w fun e w' => e = .returned (.tuple #[.int .i64 (cntV l r sigs name), .int .i64 (cntE l r sigs)]) ∧ Below w.heap.size w w' := by
  have hw0 : Below w.heap.size w (w.alloc (.cells #[.int .i64 r.v, .slice a2 n2 c2, .int .i64 r.t] 63)) := (Below.refl _ _).alloc (Nat.le_refl _) _
  have b0 := hide (heap_alloc_last w (.cells #[.int .i64 r.v, .slice a2 n2 c2, .int .i64 r.t] 63))
  have HS := hide (fun W (hW : Below w.heap.size w W) => checkSigned_any a1 n1 c1 l W (h1.below hW))
  have HR : Hid (∀ W, Below w.heap.size w W → Calls Tryz.prog 146 #[rv r.v a2 n2 c2 r.t] W fun e w' => e = .returned (.int .i64 r.e) ∧ Below W.heap.size W w') := fun W hW => checkRoot_any r.v a2 n2 c2 r.t r.ks W (h2.below hW).at_ h2.len h2.max
  have HC := hide (fun W k (hW : Below w.heap.size w W) => contains_ints a3 n3 c3 sigs k W (h3.below hW))
  have HD := hide (fun W s (hW : Below w.heap.size w W) => contains_sigs a1 n1 c1 l s W (h1.below hW))
  have HI := hide h2.at_
  have HL2 := hide h2.len
  have HL3 := hide h3.len
  have m2 := h2.max
  have m3 := h3.max
  unfold maxLen at m2 m3
  unfold rv at HR ⊢
  unfold sv at HD
  clear h1 h2 h3
  by_cases z1 : sigE l = 0
  · rw [z1] at HS
    by_cases z2 : r.e = 0
    · rw [z2] at HR
      by_cases z3 : 50 < n3
      · have HE := hide (cntE_3 z1 z2 (sigs := sigs) (by rw [HL3.out]; exact z3))
        have HV := hide (cntV_1 (name := name) (by rw [HE.out]; decide))
        clear z1 z2
        go_enter Tryz.func212, Tryz.ntmps212
        go_wp2_with fail
        generalize w.alloc (.cells #[.int .i64 r.v, .slice a2 n2 c2, .int .i64 r.t] 63) = W at *
        refine (unhide HS _ hw0).mono ?_
        rintro e w1 ⟨rfl, hb1⟩
        replace b0 := hide (blk_below b0.out hb1)
        replace hw0 := hw0.trans (hb1.mono hw0.size)
        clear hb1
        have x0 := blk_cell b0.out 0 _ rfl
        have x1 := blk_cell b0.out 1 _ rfl
        have x2 := blk_cell b0.out 2 _ rfl
        go_wp2_with fail
        refine (unhide HR _ hw0).mono ?_
        rintro e w2 ⟨rfl, hb2⟩
        replace hw0 := hw0.trans (hb2.mono hw0.size)
        go_wp2_with fail
        go_ret2
        exact ⟨ret_ints HV.out.symm HE.out.symm, hw0⟩
      · have HE := hide (cntE_0 z1 z2 (sigs := sigs) (by rw [HL3.out]; exact z3))
        have HV := hide (cntV_0 (name := name) HE.out)
        clear z1 z2
        go_enter Tryz.func212, Tryz.ntmps212
        go_wp2_with fail
        generalize w.alloc (.cells #[.int .i64 r.v, .slice a2 n2 c2, .int .i64 r.t] 63) = W at *
        refine (unhide HS _ hw0).mono ?_
        rintro e w1 ⟨rfl, hb1⟩
        replace b0 := hide (blk_below b0.out hb1)
        replace hw0 := hw0.trans (hb1.mono hw0.size)
        clear hb1
        have x0 := blk_cell b0.out 0 _ rfl
        have x1 := blk_cell b0.out 1 _ rfl
        have x2 := blk_cell b0.out 2 _ rfl
        go_wp2_with fail
        refine (unhide HR _ hw0).mono ?_
        rintro e w2 ⟨rfl, hb2⟩
        replace b0 := hide (blk_below b0.out hb2)
        replace hw0 := hw0.trans (hb2.mono hw0.size)
        clear hb2 x0 x1 x2
        have x1 := blk_cell b0.out 1 _ rfl
        go_wp2_with fail
        go_loopw [12, 31] (fun p i wr => ∃ (k q : Nat), k ≤ n2 ∧ q ≤ k ∧ p = .int .i64 (q : Int) ∧ i = .int .i64 k ∧ Below w.heap.size w wr ∧ Hid (q = cntN l (r.ks.take k) sigs name)) (fun _ i _ => n2 - (intOf i).toNat)
        case atStart => exact ⟨0, 0, Nat.zero_le _, Nat.le_refl _, rfl, rfl, hw0, by show _ = _; simp [cntN]⟩
        case round =>
          clear x1 b0 hw0
          obtain ⟨wq, rfl⟩ : ∃ wq : World, wq = wr := ⟨_, rfl⟩
          obtain ⟨k, q, hk, hqk, rfl, rfl, hw, ht⟩ := hrel
          by_cases hlt : k < n2
          · have hkx : k < r.ks.length := by rw [HL2.out]; exact hlt
            have i1 := HI.out.below hw
            rcases i1 with h0 | ⟨bb, oo, rfl, hc0⟩
            · rw [h0] at hkx; simp at hkx
            have e0 := hc0 k hkx
            rw [show r.ks.getD k 0 = r.ks[k] by simp [hkx]] at e0
            have HQ := hide (cntN_step (l := l) (sigs := sigs) (name := name) hkx)
            clear hc0
            generalize r.ks[k] = x at *
            have HCx := hide (fun W hW => unhide HC W x hW)
            have HDx := hide (fun W hW => unhide HD W (x, name) hW)
            cases g1 : has sigs x
            · rw [g1] at HCx
              have HQ' := hide (show cntN l (r.ks.take (k + 1)) sigs name = q by rw [HQ.out, ← ht.out]; simp [hit, g1])
              clear g1
              go_wp2_with (go_at_call 221; refine (unhide HCx _ hw).mono ?_; rintro e w' ⟨rfl, rfl⟩)
              go_roundw
              case rel => exact ⟨k + 1, q, by omega, by omega, rfl, by go_num, hw, HQ'.out.symm⟩
              case measure => simp [intOf]; omega
            · rw [g1] at HCx
              cases g2 : has l (x, name)
              · rw [g2] at HDx
                have HQ' := hide (show cntN l (r.ks.take (k + 1)) sigs name = q by rw [HQ.out, ← ht.out]; simp [hit, g2])
                clear g1 g2
                go_wp2_with (first | (go_at_call 221; refine (unhide HCx _ hw).mono ?_; rintro e w' ⟨rfl, rfl⟩) | (go_at_call 222; refine (unhide HDx _ hw).mono ?_; rintro e w5 ⟨rfl, hb5⟩))
                replace hw := hw.trans (hb5.mono hw.size)
                go_roundw
                case rel => exact ⟨k + 1, q, by omega, by omega, rfl, by go_num, hw, HQ'.out.symm⟩
                case measure => simp [intOf]; omega
              · rw [g2] at HDx
                have HQ' := hide (show cntN l (r.ks.take (k + 1)) sigs name = q + 1 by rw [HQ.out, ← ht.out]; simp only [hit, g1, g2]; rfl)
                clear g1 g2
                go_wp2_with (first | (go_at_call 221; refine (unhide HCx _ hw).mono ?_; rintro e w' ⟨rfl, rfl⟩) | (go_at_call 222; refine (unhide HDx _ hw).mono ?_; rintro e w5 ⟨rfl, hb5⟩))
                replace hw := hw.trans (hb5.mono hw.size)
                go_roundw
                case rel => exact ⟨k + 1, q + 1, by omega, by omega, by go_num, by go_num, hw, HQ'.out.symm⟩
                case measure => simp [intOf]; omega
          · go_wp2_with fail
            go_ret2
            have hx := ht.out
            rw [List.take_of_length_le (by rw [HL2.out]; omega)] at hx
            exact ⟨ret_ints (by rw [HV.out, ← hx]) HE.out.symm, hw⟩
    · have HE := hide (cntE_2 (sigs := sigs) z1 z2)
      have HV := hide (cntV_1 (name := name) (sigs := sigs) (by rw [HE.out]; exact z2))
      have hb : (r.e != 0) = true := by simpa using z2
      clear z1 z2
      generalize r.e = q at *
      go_enter Tryz.func212, Tryz.ntmps212
      go_wp2_with fail
      generalize w.alloc (.cells #[.int .i64 r.v, .slice a2 n2 c2, .int .i64 r.t] 63) = W at *
      refine (unhide HS _ hw0).mono ?_
      rintro e w1 ⟨rfl, hb1⟩
      replace b0 := hide (blk_below b0.out hb1)
      replace hw0 := hw0.trans (hb1.mono hw0.size)
      clear hb1
      have x0 := blk_cell b0.out 0 _ rfl
      have x1 := blk_cell b0.out 1 _ rfl
      have x2 := blk_cell b0.out 2 _ rfl
      go_wp2_with fail
      refine (unhide HR _ hw0).mono ?_
      rintro e w2 ⟨rfl, hb2⟩
      replace hw0 := hw0.trans (hb2.mono hw0.size)
      go_wp2_with fail
      go_ret2
      exact ⟨ret_ints HV.out.symm HE.out.symm, hw0⟩
  · have HE := hide (cntE_1 (r := r) (sigs := sigs) z1)
    have HV := hide (cntV_1 (name := name) (r := r) (sigs := sigs) (by rw [HE.out]; exact z1))
    have hb : (sigE l != 0) = true := by simpa using z1
    clear z1
    generalize sigE l = q at *
    go_enter Tryz.func212, Tryz.ntmps212
    go_wp2_with fail
    generalize w.alloc (.cells #[.int .i64 r.v, .slice a2 n2 c2, .int .i64 r.t] 63) = W at *
    refine (unhide HS _ hw0).mono ?_
    rintro e w1 ⟨rfl, hb1⟩
    replace hw0 := hw0.trans (hb1.mono hw0.size)
    go_wp2_with fail
    go_ret2
    exact ⟨ret_ints HV.out.symm HE.out.symm, hw0⟩

theorem csE_1 {l : List S2} {r : Rt} {sigs : List Int} {name : Int} (h : cntE l r sigs ≠ 0) : csE l r sigs name = cntE l r sigs := by unfold csE; rw [if_neg h]
theorem csE_2 {l : List S2} {r : Rt} {sigs : List Int} {name : Int} (h : cntE l r sigs = 0) (h2 : (cntN l r.ks sigs name : Int) < r.t) : csE l r sigs name = 9 := by unfold csE; rw [if_pos h, if_pos h2]
theorem csE_0 {l : List S2} {r : Rt} {sigs : List Int} {name : Int} (h : cntE l r sigs = 0) (h2 : ¬ (cntN l r.ks sigs name : Int) < r.t) : csE l r sigs name = 0 := by unfold csE; rw [if_pos h, if_neg h2]

set_option maxHeartbeats 800000 in
set_option maxRecDepth 100000 in
theorem checkSigs_any (a1 : Option Addr) (n1 c1 : Nat) (l : List S2) (r : Rt) (a2 : Option Addr) (n2 c2 : Nat) (a3 : Option Addr) (n3 c3 : Nat) (sigs : List Int) (name : Int) (w : World) (h1 : BG w a1 n1 l) (h2 : BI w a2 n2 r.ks) (h3 : BI w a3 n3 sigs) :
    Calls Tryz.prog 186 #[.slice a1 n1 c1, rv r.v a2 n2 c2 r.t, .slice a3 n3 c3, .int .i64 name] w fun e w' => e = .returned (.int .i64 (csE l r sigs name)) ∧ Below w.heap.size w w' := by
  have hw0 : Below w.heap.size w (w.alloc (.cells #[.int .i64 r.v, .slice a2 n2 c2, .int .i64 r.t] 63)) := (Below.refl _ _).alloc (Nat.le_refl _) _
  have b0 := hide (heap_alloc_last w (.cells #[.int .i64 r.v, .slice a2 n2 c2, .int .i64 r.t] 63))
  have HC := hide (fun W (hW : Below w.heap.size w W) => count_any a1 n1 c1 l r a2 n2 c2 a3 n3 c3 sigs name W (h1.below hW) (h2.below hW) (h3.below hW))
  unfold rv at HC ⊢
  clear h1 h2 h3
  by_cases z1 : cntE l r sigs = 0
  · rw [z1, cntV_0 z1] at HC
    have HE2 := hide (csE_2 (name := name) z1)
    have HE0 := hide (csE_0 (name := name) z1)
    clear z1
    generalize (cntN l r.ks sigs name : Int) = q at *
    go_enter Tryz.func186, Tryz.ntmps186
    go_wp2_with fail
    generalize w.alloc (.cells #[.int .i64 r.v, .slice a2 n2 c2, .int .i64 r.t] 63) = W at *
    refine (unhide HC _ hw0).mono ?_
    rintro e w1 ⟨rfl, hb1⟩
    replace b0 := hide (blk_below b0.out hb1)
    replace hw0 := hw0.trans (hb1.mono hw0.size)
    clear hb1
    have x2 := blk_cell b0.out 2 _ rfl
    by_cases z2 : q < r.t
    · have HE := hide (HE2.out z2)
      go_wp2_with fail
      go_ret
      exact ⟨ret_int HE.out.symm, hw0⟩
    · have HE := hide (HE0.out (by omega))
      have hd : decide (q < r.t) = false := by simpa using z2
      clear z2
      go_wp2_with fail
      go_ret
      exact ⟨ret_int HE.out.symm, hw0⟩
  · have HE := hide (csE_1 (name := name) z1)
    have hb : (cntE l r sigs != 0) = true := by simpa using z1
    clear z1
    generalize cntE l r sigs = q at *
    generalize cntV l r sigs name = q2 at *
    go_enter Tryz.func186, Tryz.ntmps186
    go_wp2_with fail
    generalize w.alloc (.cells #[.int .i64 r.v, .slice a2 n2 c2, .int .i64 r.t] 63) = W at *
    refine (unhide HC _ hw0).mono ?_
    rintro e w1 ⟨rfl, hb1⟩
    replace hw0 := hw0.trans (hb1.mono hw0.size)
    go_wp2_with fail
    go_ret
    exact ⟨ret_int HE.out.symm, hw0⟩

end Go.Proofs.YtgngpmgjoifepaaGreatDoor

namespace Go.Proofs.YtgngpmgjoifepaaGreatDoor
open Go.RowKit

set_option maxHeartbeats 800000 in
set_option maxRecDepth 100000 in
theorem tTrusted_any (r : Rt) (a : Option Addr) (n c : Nat) (ver : Int) (w : World) (h : BI w a n r.ks) (hs : n ≤ 1000) :
    Calls Tryz.prog 141 #[rv r.v a n c r.t, .int .i64 ver] w fun e w' => e = .returned (trv r.v (some ⟨w.heap.size + 2, 0, none⟩) n n r.t ver) ∧ BI w' (some ⟨w.heap.size + 2, 0, none⟩) n r.ks ∧ Below w.heap.size w w' := by
  have hw0 : Below w.heap.size w (w.alloc (.cells #[.int .i64 r.v, .slice a n c, .int .i64 r.t] 63)) := (Below.refl _ _).alloc (Nat.le_refl _) _
  have hw1 := hw0.alloc hw0.size (.cells #[.int .i64 0, .slice none 0 0, .int .i64 0, .int .i64 0] 65)
  have i1 := h.at_.below hw1
  have hm := make_ints n ((w.alloc (.cells #[.int .i64 r.v, .slice a n c, .int .i64 r.t] 63)).alloc (.cells #[.int .i64 0, .slice none 0 0, .int .i64 0, .int .i64 0] 65)) (by omega)
  have hc := copy_ints a n c r.ks _ i1 h.len
  have HL := hide h.len
  have HM := hide h.max
  unfold rv trv
  clear h hw0 i1
  simp only [World.size_alloc] at hm hc
  go_enter Tryz.func141, Tryz.ntmps141
  go_wp2_with fail
  refine bodyPost_ret (v := .agg #[.int .i64 r.v, .slice (some ⟨w.heap.size + 2, 0, none⟩) n n, .int .i64 r.t, .int .i64 ver]) (by simp [results, Tryz.results141, go_sem]) rfl ⟨rfl, ?_⟩
  exact ⟨⟨isInts_at _ _ _ _ _ (by simp) rfl, HL.out, HM.out⟩, (((Below.refl _ _).alloc (Nat.le_refl _) _).alloc (by simp) _).alloc (by simp; omega) _⟩

end Go.Proofs.YtgngpmgjoifepaaGreatDoor
