/- The walk of wainwrightlaw.SlotHolds: it answers true, and nothing that was there has turned. -/
import Derived.Test.YtanpglfpopbfkaaSlotted
import Derived.Test.YtanpglfpopbfkaaParts
import Derived.Test.YtanpglfpopbfkaaSlotQ
namespace Go.Proofs.Ytanpglfpopbfkaa
open Go.RowKit
attribute [local go_sem ↓] Go.wp_at_zero Go.wp_at_succ

/-- A variable (block b) that holds a flash whose words lie elsewhere. -/
def GVar (w : World) (b : Nat) (ws : List Int) (fuel : Int) : Prop :=
  ∃ a n c, w.heap[b]? = some (.cells #[.slice a n c, .int .i64 fuel] 28 (0, 0)) ∧ IsInts w a ws ∧ ws.length = n ∧ n ≤ c ∧ ∀ x, a = some x → x.block ≠ b

theorem GVar.below {w w' : World} {b : Nat} {ws : List Int} {fuel : Int} (h : GVar w b ws fuel) (hb : Below w.heap.size w w') : GVar w' b ws fuel := by
  obtain ⟨a, n, c, h1, h2, h3, h4, h5⟩ := h
  exact ⟨a, n, c, blk_below h1 hb, h2.below hb, h3, h4, h5⟩

theorem IsInts.ne {w : World} {a : Option Addr} {xs : List Int} (h : IsInts w a xs) {b : Nat} (hne : ∀ x, a = some x → x.block ≠ b) (i : Nat) (v : Value) : IsInts (w.setCell ⟨b, i, none⟩ v) a xs := by
  rcases h with h | ⟨g, off, rfl, hc⟩
  · exact .inl h
  · have hg : g ≠ b := hne _ rfl
    refine .inr ⟨g, off, rfl, fun j hj => ?_⟩
    rw [World.cell?_of_block (w := w) (Below.heap_setCell w _ v g hg)]
    exact hc j hj

theorem GVar.fuel {w : World} {b : Nat} {ws : List Int} {fuel : Int} (h : GVar w b ws fuel) (f : Int) : GVar (w.setCell ⟨b, 1, none⟩ (.int .i64 f)) b ws f := by
  obtain ⟨a, n, c, h1, h2, h3, h4, h5⟩ := h
  refine ⟨a, n, c, ?_, h2.ne h5 1 _, h3, h4, h5⟩
  simp only [World.setCell, Array.getElem?_modify]
  simp [h1]

theorem gVar_new {w : World} {a : Option Addr} {n c : Nat} {ws : List Int} (fuel : Int) (h : IsInts w a ws) (hn : ws.length = n) (hc : n ≤ c) (h0 : 0 < n) :
    GVar (w.alloc (.cells #[.slice a n c, .int .i64 fuel] 28)) w.heap.size ws fuel := by
  refine ⟨a, n, c, heap_alloc_last _ _, h.alloc _, hn, hc, ?_⟩
  rcases h with rfl | ⟨b, off, rfl, hcl⟩
  · simp at hn; omega
  · intro x hx
    cases hx
    have := cell_lt (hcl 0 (by omega))
    exact Nat.ne_of_lt this

theorem gVar_stored {w : World} {B b : Nat} {v0 v1 : Value} {a : Option Addr} {n c : Nat} {ws : List Int} {fuel : Int} (hb : w.heap[b]? = some (.cells #[v0, v1] 28 (0, 0))) (hi : IsInts w a ws) (hf : FreshA B a) (hlt : b < B) (hn : ws.length = n) (hc : n ≤ c) :
    GVar ((w.setCell ⟨b, 0, none⟩ (.slice a n c)).setCell ⟨b, 1, none⟩ (.int .i64 fuel)) b ws fuel := by
  refine ⟨a, n, c, stored_two hb _ _, (hi.other hf hlt 0 _).other hf hlt 1 _, hn, hc, fun x hx => ?_⟩
  have := hf x hx
  omega

theorem imgS_len (ws : List Int) (f s : Int) (hl : ws.length = 192) : (imgS ws f s).1.length ≤ maxLen := by
  unfold imgS
  split
  · exact Nat.zero_le _
  · split
    · exact Nat.zero_le _
    · have : ((ws.drop (68 + 64 * s).toNat).take (ws.getD (64 + 64 * s).toNat 0).toNat).length ≤ 192 := by simp; omega
      exact Nat.le_trans this (by decide)

set_option maxRecDepth 100000 in
set_option maxHeartbeats 2000000 in
theorem slotHolds_any (a : Option Addr) (n c : Nat) (ws : List Int) (fuel wh : Int) (a2 : Option Addr) (n2 c2 : Nat) (words : List Int) (name fu : Int) (w : World)
    (h : IsInts w a ws) (hn : ws.length = n) (hm : n ≤ maxLen) (hcap : n ≤ c) (h2 : IsInts w a2 words) (hn2 : words.length = n2) (hc2 : n2 ≤ c2) (_hm2 : c2 ≤ maxLen) (hwh : -9223372036854775808 ≤ wh ∧ wh ≤ 9223372036854775807) (hfu : -9223372036854775808 ≤ fu ∧ fu ≤ 9223372036854775807) :
    Calls Try.prog 13 #[.agg #[.slice a n c, .int .i64 fuel], .int .i64 wh, .slice a2 n2 c2, .int .i64 name, .int .i64 fu] w fun e w' => e = .returned (.bool true) ∧ Below w.heap.size w w' := by
  have hw : Below w.heap.size w (w.alloc (.cells #[.slice a n c, .int .i64 (-1)] 28)) := (Below.refl _ _).alloc (Nat.le_refl _) _
  have V0 : FBox (w.alloc (.cells #[.slice a n c, .int .i64 (-1)] 28)) w.heap.size a n c (-1) := heap_alloc_last _ _
  have i0 := h.below hw
  have i2 := h2.below hw
  have HN := hide hn
  have HN2 := hide hn2
  clear hn hn2
  go_enter Try.func13, Try.ntmps13
  go_wp2_with fail
  generalize w.alloc (.cells #[.slice a n c, .int .i64 (-1)] 28) = W at *
  refine (at_any wh 2 _ (by decide) (by decide) hwh).mono ?_
  rintro e w1 ⟨rfl, rfl⟩
  have s0 := Int.emod_nonneg wh (show (2 : Int) ≠ 0 by decide)
  have s1 := Int.emod_lt_of_pos wh (show (0 : Int) < 2 by decide)
  generalize wh % 2 = s at *
  obtain ⟨sn, rfl⟩ := Int.eq_ofNat_of_zero_le s0
  have p1 : sn ≤ 1 := by omega
  clear s0 s1 hwh
  obtain ⟨m, hmm⟩ : ∃ m, m = min n2 40 := ⟨_, rfl⟩
  go_upto_region 3 with fail
  go_cut [2] (fun v2 wx => v2 = .slice a2 m c2 ∧ wx = w1)
  case first =>
    by_cases h40 : n2 ≤ 40
    · obtain rfl : m = n2 := by omega
      have hmin : min (m : Int) 40 = (m : Int) := by omega
      have z1 : (m : Int) ≤ (c2 : Int) := by omega
      clear hmm
      go_wp2_with fail
      go_meet
      case rel => exact ⟨rfl, rfl⟩
    · obtain rfl : m = 40 := by omega
      have hmin : min (n2 : Int) 40 = 40 := by omega
      have z1 : (40 : Int) ≤ (c2 : Int) := by omega
      clear hmm
      go_wp2_with fail
      go_meet
      case rel => exact ⟨rfl, rfl⟩
  case rest =>
  obtain ⟨rfl, hwc⟩ := hcut
  subst hwc
  obtain ⟨w1, rfl⟩ : ∃ w1 : World, w1 = wc := ⟨_, rfl⟩
  have hmn : m ≤ n2 := by omega
  have hm40 : m ≤ 40 := by omega
  clear hmm
  obtain ⟨zs, hzs⟩ : ∃ zs, zs = words.take m := ⟨_, rfl⟩
  have zl : zs.length = m := by rw [hzs]; have := HN2.out; simp; omega
  have HZ := hide (fun (W' : World) (hb : Below w.heap.size w W') => (show IsInts W' a2 zs by rw [hzs]; exact (h2.below hb).take m))
  have ZL := hide zl
  clear hzs zl i2
  have x0 : w1.cell? ⟨w.heap.size, 0, none⟩ = some (.slice a n c) := blk_cell V0 0 _ rfl
  have x1 : w1.cell? ⟨w.heap.size, 1, none⟩ = some (.int .i64 (-1)) := blk_cell V0 1 _ rfl
  have lt0 : w.heap.size < w1.heap.size := blk_lt V0
  go_wp2_with fail
  refine (clear_any a n c ws (-1) sn w1 i0 HN.out hm hcap).mono ?_
  intro e w2 hA
  by_cases e1 : (clrS ws (-1) sn).2.2 = 0
  rotate_left
  · obtain ⟨⟨ca, cn, cc, rfl, hiA, hnA, hcA, hfA⟩, hbA⟩ := hA
    have e1' : ((clrS ws (-1) sn).2.2 != 0) = true := by simpa using e1
    have hw1 := hw.trans (hbA.mono hw.size)
    clear hnA e1
    go_wp2_with fail
    refine (slotted_any _).mono ?_
    rintro e w3 ⟨rfl, hb3⟩
    go_wp2_with fail
    refine (slotted_any _).mono ?_
    rintro e w4 ⟨rfl, hb4⟩
    go_wp2
    go_ret
    exact ⟨rfl, ((hw1.alloc hw1.size _).trans (hb3.mono (by have := hw1.size; simp; omega))).trans (hb4.mono (by have := hw1.size; have := hb3.size; simp at this; omega))⟩
  obtain ⟨G0, hG0, hE0, hF0⟩ := clr_done (words := zs) p1 e1
  obtain ⟨ca, cn, cc, rfl, hiA, hnA, hcA, hfA, hbA⟩ := hA.opened hG0
  have hba := hbA.alloc hbA.size (.cells #[.slice ca cn cc, .int .i64 (-1)] 28)
  have VG := gVar_new (-1) hiA hnA hcA (by rw [← hnA, hF0.len]; decide)
  have lt2 : w.heap.size < w2.heap.size := Nat.lt_of_lt_of_le lt0 hbA.size
  replace V0 := V0.below hba
  replace hw := hw.trans (hba.mono hw.size)
  have HE0 := hide hE0
  clear hba hbA hiA hnA hcA hfA x0 x1 hA e1 hG0 hE0
  go_upto_region 5 with fail
  generalize w2.alloc (.cells #[.slice ca cn cc, .int .i64 (-1)] 28) = w3 at *
  go_wp2_with fail
  refine (slotted_any _).mono ?_
  rintro e w4 ⟨rfl, hb4⟩
  replace V0 := V0.below hb4
  replace VG := VG.below hb4
  replace hw := hw.trans (hb4.mono hw.size)
  clear hb4
  go_wp2_with fail
  clear i0
  go_loopw [13] (fun i wr => ∃ (k : Nat) (G : List Int), k ≤ m + 7 ∧ i = .int .i64 k ∧ GVar wr w2.heap.size G (-1) ∧ Hid (Fld ws zs sn (min k m) G) ∧ FBox wr w.heap.size a n c (-1) ∧ Below w.heap.size w wr) (fun i _ => m + 7 - (intOf i).toNat)
  case atStart => exact ⟨0, G0, Nat.zero_le _, rfl, VG, by rw [Nat.zero_min]; exact hF0, V0, hw⟩
  case round =>
    clear VG V0 hw hF0
    obtain ⟨k, G, hk, rfl, VG, hF, V0, hw⟩ := hrel
    by_cases hlt : k < m
    · obtain ⟨q, hq⟩ : ∃ q, q = min m (k + 8) := ⟨_, rfl⟩
      obtain ⟨l, hl⟩ : ∃ l, l = q - k := ⟨_, rfl⟩
      have hq1 : q ≤ m := by omega
      have hq2 : k < q := by omega
      have hq3 : min (k + 8) m = q := by omega
      have hF' := hF.out
      rw [Nat.min_eq_left (Nat.le_of_lt hlt)] at hF'
      obtain ⟨bz, oz, rfl⟩ : ∃ b off, a2 = some ⟨b, off, none⟩ := by
        rcases h2 with e | ⟨b, off, rfl, _⟩
        · rw [e] at HN2; have := HN2.out; simp at this; omega
        · exact ⟨b, off, rfl⟩
      have hst := fill_step (l := l) hF' p1 (by rw [ZL.out]; omega) (by rw [ZL.out]; exact hm40)
      rw [show k + l = q by omega] at hst
      have pl : ((zs.drop k).take l).length = l := by have := ZL.out; simp; omega
      obtain ⟨ag, ng, cg, bg, hig, hng, hcg, hneg⟩ := VG
      obtain rfl : ng = 192 := by rw [← hng, hF'.len]
      have HFl := hide (fun (W' : World) (hb : Below wr.heap.size wr W') => fill_any ag 192 cg G (-1) sn k (some ⟨bz, oz + k, none⟩) l (c2 - k) ((zs.drop k).take l) W' (hig.below hb) hng (by decide) ((((unhide HZ) wr hw).below hb |>.drop k).take l) pl (by unfold maxLen at *; omega))
      have HST := hide hst
      obtain ⟨r, hr⟩ : ∃ r, r = fillS G (-1) sn k ((zs.drop k).take l) := ⟨_, rfl⟩
      rw [← hr] at HFl HST
      clear hst pl hr hF' hng
      have x0 : wr.cell? ⟨w2.heap.size, 0, none⟩ = some (.slice ag 192 cg) := blk_cell bg 0 _ rfl
      have x1 : wr.cell? ⟨w2.heap.size, 1, none⟩ = some (.int .i64 (-1)) := blk_cell bg 1 _ rfl
      have ltg := blk_lt bg
      have BG := hide bg
      clear bg
      have z3 : ¬ c2 = k := by omega
      go_upto_region 10 with fail
      go_cut [12] (fun v12 wx => v12 = .int .i64 r.2.2 ∧ GVar wx w2.heap.size r.1 r.2.1 ∧ FBox wx w.heap.size a n c (-1) ∧ Below w.heap.size w wx)
      case first =>
        obtain ⟨k8, hk8⟩ : ∃ k8, k8 = k + 8 := ⟨_, rfl⟩
        have hwrap : IntKind.i64.wrap ((k : Int) + 8) = (k8 : Int) := by rw [IntKind.wrap_i64]; omega
        by_cases c8 : (k8 : Int) < (m : Int)
        · obtain rfl : l = k8 - k := by omega
          have z1 : (k : Int) ≤ (k8 : Int) := by omega
          have z2 : (k8 : Int) ≤ (c2 : Int) := by omega
          clear hl hq hk8
          go_region_with ((go_at_call 43; refine (unhide HFl _ ?_).mono ?_; exact (Below.refl _ _).drew; rintro e w6 ⟨⟨a6, n6, c6, rfl, hi6, hn6, hc6, hf6⟩, hb6⟩; have hb7 : Below wr.heap.size wr w6 := (Below.trans (Below.refl _ wr).drew hb6); have q0 := blk_cell (blk_below BG.out hb7) 0 _ rfl; have q1 := blk_cell (blk_below BG.out hb7) 1 _ rfl; have q2 := blk_free (blk_below BG.out hb7) 0; have q3 := blk_free (blk_below BG.out hb7) 1))
          all_goals
            go_wp2_with fail
            go_meet
            case rel =>
              refine ⟨rfl, gVar_stored (blk_below BG.out hb7) hi6 hf6 ltg hn6 hc6, ?_, ((hw.trans (hb7.mono hw.size)).setCell (p := ⟨w2.heap.size, 0, none⟩) (Nat.le_of_lt lt2) _).setCell (p := ⟨w2.heap.size, 1, none⟩) (Nat.le_of_lt lt2) _⟩
              have := V0.below hb7
              unfold FBox at *
              rw [Below.heap_setCell _ _ _ _ (by simp; omega), Below.heap_setCell _ _ _ _ (by simp; omega)]
              exact this
        · obtain rfl : l = m - k := by omega
          have c9 : (m : Int) ≤ (k8 : Int) := by omega
          have z1 : (k : Int) ≤ (m : Int) := by omega
          have z2 : (m : Int) ≤ (c2 : Int) := by omega
          clear hl hq c8 hk8
          go_region_with ((go_at_call 43; refine (unhide HFl _ ?_).mono ?_; exact (Below.refl _ _).drew; rintro e w6 ⟨⟨a6, n6, c6, rfl, hi6, hn6, hc6, hf6⟩, hb6⟩; have hb7 : Below wr.heap.size wr w6 := (Below.trans (Below.refl _ wr).drew hb6); have q0 := blk_cell (blk_below BG.out hb7) 0 _ rfl; have q1 := blk_cell (blk_below BG.out hb7) 1 _ rfl; have q2 := blk_free (blk_below BG.out hb7) 0; have q3 := blk_free (blk_below BG.out hb7) 1))
          all_goals
            go_wp2_with fail
            go_meet
            case rel =>
              refine ⟨rfl, gVar_stored (blk_below BG.out hb7) hi6 hf6 ltg hn6 hc6, ?_, ((hw.trans (hb7.mono hw.size)).setCell (p := ⟨w2.heap.size, 0, none⟩) (Nat.le_of_lt lt2) _).setCell (p := ⟨w2.heap.size, 1, none⟩) (Nat.le_of_lt lt2) _⟩
              have := V0.below hb7
              unfold FBox at *
              rw [Below.heap_setCell _ _ _ _ (by simp; omega), Below.heap_setCell _ _ _ _ (by simp; omega)]
              exact this
      case rest =>
        obtain ⟨rfl, VG, V0, hw⟩ := hcut
        rcases HST.out with ⟨-, e⟩ | ⟨-, G', e, hF'⟩
        · subst e
          go_wp2
          go_ret
          exact ⟨rfl, hw⟩
        · subst e
          have HF2 := hide hF'
          clear hF' HST HFl
          go_wp2
          go_roundw
          case rel => exact ⟨k + 8, G', by omega, by go_num, VG, by rw [hq3]; exact HF2, V0, hw⟩
          case measure => simp [intOf]; omega
    · have hkm : min k m = zs.length := by rw [ZL.out]; omega
      have HF := hide hF.out
      rw [hkm] at HF
      obtain ⟨-, hl, -, -⟩ := slotE_parts HE0.out
      obtain rfl : n = 192 := by rw [← HN.out, hl]
      clear hF hkm hl hk
      go_wp2_with fail
      refine (at_any fu 6 _ (by decide) (by decide) hfu).mono ?_
      rintro e wq ⟨rfl, rfl⟩
      have f0 := Int.emod_nonneg fu (show (6 : Int) ≠ 0 by decide)
      have f1 := Int.emod_lt_of_pos fu (show (0 : Int) < 6 by decide)
      generalize fu % 6 = ft at *
      clear hfu
      obtain ⟨ag, ng, cg, bg, hig, hng, hcg, hneg⟩ := id VG
      have x0 : wq.cell? ⟨w2.heap.size, 0, none⟩ = some (.slice ag ng cg) := blk_cell bg 0 _ rfl
      have x1 : wq.cell? ⟨w2.heap.size, 1, none⟩ = some (.int .i64 (-1)) := blk_cell bg 1 _ rfl
      have y1 := blk_free bg 1
      have V1 := VG.fuel ft
      have W1 := hw.setCell (p := ⟨w2.heap.size, 1, none⟩) (Nat.le_of_lt lt2) (.int .i64 ft)
      have U1 : FBox (wq.setCell ⟨w2.heap.size, 1, none⟩ (.int .i64 ft)) w.heap.size a 192 c (-1) := by
        unfold FBox at *
        rw [Below.heap_setCell _ _ _ _ (by simp; omega)]
        exact V0
      clear bg hig hng hcg hneg VG V0 hw
      go_upto_region 14 with fail
      generalize wq.setCell ⟨w2.heap.size, 1, none⟩ (.int .i64 ft) = wr at *
      obtain ⟨ag, ng, cg, bg, hig, hng, hcg, hneg⟩ := V1
      obtain rfl : ng = 192 := by rw [← hng, HF.out.len]
      clear x0 x1 y1
      have x0 : wr.cell? ⟨w2.heap.size, 0, none⟩ = some (.slice ag 192 cg) := blk_cell bg 0 _ rfl
      have x1 : wr.cell? ⟨w2.heap.size, 1, none⟩ = some (.int .i64 ft) := blk_cell bg 1 _ rfl
      have HS := hide (seal_any ag 192 cg G ft sn m name wr hig hng (by decide))
      have HSD := hide (seal_done (m := m) (name := name) (fu := ft) HF.out p1 f0 (by omega))
      clear bg hng hneg
      go_wp2_with fail
      refine (unhide HS).mono ?_
      intro e w5 hA
      rcases HSD.out with ⟨hB, hr⟩ | ⟨hB, H, hr, hH⟩
      · obtain ⟨ah, nh, ch, rfl, hiH, hnH, hcH, hfH, hbH⟩ := hA.opened hr
        have W2 := W1.trans (hbH.mono W1.size)
        clear hA hr HSD HS hB hnH
        go_wp2
        go_ret
        exact ⟨rfl, W2.alloc W2.size _⟩
      · obtain ⟨ah, nh, ch, rfl, hiH, hnH, hcH, hfH, hbH⟩ := hA.opened hr
        obtain rfl : nh = 192 := by rw [← hnH, hH.len]
        have hba := hbH.alloc hbH.size (.cells #[.slice ah 192 ch, .int .i64 (ft - (min 4 ft.toNat : Nat))] 28)
        have BH := hide (heap_alloc_last w5 (.cells #[.slice ah 192 ch, .int .i64 (ft - (min 4 ft.toNat : Nat))] 28))
        have iH := hiH.alloc (.cells #[.slice ah 192 ch, .int .i64 (ft - (min 4 ft.toNat : Nat))] 28)
        have W2 := W1.trans (hba.mono W1.size)
        have U2 := U1.below hba
        rw [← ZL.out] at hB hH
        have HB := hide hB
        have HH := hide hH
        have HNH := hide hnH
        obtain ⟨fr, hfr⟩ : ∃ fr, fr = ft - (min 4 ft.toNat : Nat) := ⟨_, rfl⟩
        obtain ⟨er, her⟩ : ∃ er, er = perr ft 4 := ⟨_, rfl⟩
        have hfr0 : -1 ≤ fr ∧ fr ≤ 100000 := by omega
        have hIm := seal_image (fu := fr) HF.out hH p1 (Nat.min_le_left _ _) hB hfr0.1 hfr0.2
        have hp4 := perr_four f0
        rw [← her] at hp4
        rw [← hfr] at BH iH W2 U2
        rw [← hfr, ← her]
        have HIm := hide hIm
        have HP4 := hide hp4
        clear hIm hp4 hfr her
        clear hA hr HSD HS hB hH hba hbH hiH hfH hnH W1 U1 x0 x1
        go_upto_region 15 with fail
        generalize w5.alloc (.cells #[.slice ah 192 ch, .int .i64 fr] 28) = w6 at *
        go_cut [91] (fun v91 wx => v91 = .bool false ∧ wx = w6)
        case first =>
          by_cases c4 : 4 ≤ ft
          · have e0 : (er != 0) = false := by have := HP4.out; rw [if_pos c4] at this; simp [this]
            clear c4
            go_wp2_with fail
            go_meet
            case rel => exact ⟨rfl, rfl⟩
          · have e0 : (er != 0) = true := by have := HP4.out; rw [if_neg c4] at this; simp [this]
            have e7 : (er != 7) = false := by have := HP4.out; rw [if_neg c4] at this; simp [this]
            clear c4
            go_wp2_with fail
            go_meet
            case rel => exact ⟨rfl, rfl⟩
        case rest =>
        obtain ⟨rfl, hwc⟩ := hcut
        subst hwc
        obtain ⟨w6, rfl⟩ : ∃ w6 : World, w6 = wc := ⟨_, rfl⟩
        have x0 : w6.cell? ⟨w5.heap.size, 0, none⟩ = some (.slice ah 192 ch) := blk_cell BH.out 0 _ rfl
        have x1 : w6.cell? ⟨w5.heap.size, 1, none⟩ = some (.int .i64 fr) := blk_cell BH.out 1 _ rfl
        go_wp2_with fail
        refine (image_any ah 192 ch H fr sn w6 iH HNH.out (by decide) hcH).mono ?_
        rintro e w7 ⟨⟨ai, ni, ci, rfl, hiI, hnI, hcI, hfI⟩, hb7⟩
        replace BH := hide (blk_below BH.out hb7)
        replace iH := iH.below hb7
        replace W2 := W2.trans (hb7.mono W2.size)
        replace U2 := U2.below hb7
        have HNI := hide hnI
        clear hnI hb7 x0 x1 hfI
        generalize imgS H fr sn = rI at *
        go_upto_region 18 with fail
        have iz7 := unhide HZ w7 W2
        go_cut [128] (fun v128 wx => v128 = .bool false ∧ ∃ q, wx = w7.drewN q)
        case first =>
          have hI := HIm.out
          have hp4 := HP4.out
          by_cases c4 : 4 ≤ ft
          · rw [if_pos c4] at hp4
            rw [if_pos (show min 4 ft.toNat = 4 by omega)] at hI
            have e0 : (er == 0) = true := by simpa using hp4
            have e1 : (rI.2.2 == 0) = true := by rw [hI]; rfl
            have e2 : (rI.2.1 != name) = false := by rw [hI]; simp
            have e3 : (rI.2.2 != 0) = false := by rw [hI]; rfl
            have HEq := hide (equal_at ai a2 ni m ci c2 rI.1 zs true w7 hiI iz7 HNI.out ZL.out (by rw [hI]; exact eqL_self _) (by rw [← HNI.out, hI]; show zs.length ≤ _; rw [ZL.out]; exact Nat.le_trans hm40 (by decide)) (Nat.le_trans hm40 (by decide)))
            clear hp4 hI c4
            go_wp2_with fail
            refine (unhide HEq).mono ?_
            rintro e w8 ⟨rfl, q, rfl⟩
            go_wp2_with fail
            go_meet
            case rel => exact ⟨rfl, q, rfl⟩
          · rw [if_neg c4] at hp4
            rw [if_neg (show ¬ min 4 ft.toNat = 4 by omega)] at hI
            have e0 : (er == 0) = false := by rw [hp4]; rfl
            have e1 : (rI.2.2 == 0) = false := by rw [hI]; rfl
            have e3 : (rI.2.2 != 0) = true := by rw [hI]; rfl
            have e4 : (rI.2.2 != 4) = false := by rw [hI]; rfl
            clear hp4 hI c4
            go_wp2_with fail
            go_meet
            case rel => exact ⟨rfl, 0, rfl⟩
        case rest =>
        obtain ⟨rfl, q7, hwc⟩ := hcut
        obtain ⟨w8, rfl⟩ : ∃ w8 : World, w8 = wc := ⟨_, rfl⟩
        have hb8 : Below w7.heap.size w7 w8 := by rw [hwc]; exact below_drewN (Below.refl _ _) q7
        replace BH := hide (blk_below BH.out hb8)
        replace iH := iH.below hb8
        replace W2 := W2.trans (hb8.mono W2.size)
        replace U2 := U2.below hb8
        clear hb8 hwc iz7 hiI HNI HIm HP4
        -- the other slot
        obtain ⟨t, ht⟩ : ∃ t : Nat, (t : Int) = 1 - (sn : Int) := ⟨1 - sn, by omega⟩
        have hout : ∀ i, i < 192 → (i < 64 + 64 * sn ∨ 128 + 64 * sn ≤ i) → H.getD i 0 = ws.getD i 0 := by
          intro i hi ho
          rw [HH.out.at' i hi, if_neg (by omega), HF.out.at' i hi, if_neg (by omega)]
        have hcW := (slotE_parts HE0.out).1
        have hkH : chk H fr = 0 := by
          apply chk_ok
          · rw [HH.out.len]; rfl
          · unfold rangeB; rw [HH.out.ok]; simp; omega
        have hsm : imgS H fr (1 - (sn : Int)) = imgS ws (-1) (1 - (sn : Int)) := by
          rw [← ht]
          exact img_same (slotE_ok hcW HN.out (by omega)) (slotE_ok hkH HH.out.len (by omega)) (by omega) HN.out HH.out.len (fun i h1 h2 => hout i (by omega) (by omega))
        have hrd : readS ws (-1) 0 64 = (ws.take 64, 0) := by
          unfold readS
          rw [if_neg (by simpa using hcW), if_neg (by rw [HN.out]; decide)]
          rfl
        have hrd2 : readS H fr 0 64 = (ws.take 64, 0) := by
          unfold readS
          rw [if_neg (by simpa using hkH), if_neg (by rw [HH.out.len]; decide)]
          have : H.take 64 = ws.take 64 := by
            apply ext_getD
            · simp [HN.out, HH.out.len]
            · intro i hi
              have hi2 : i < 64 := by simp at hi; omega
              have := hout i (by omega) (by omega)
              simpa [hi2] using this
          show ((H.drop 0).take 64, (0 : Int)) = _
          rw [List.drop_zero, this]
        have HSm := hide hsm
        have HRd := hide hrd
        have HRd2 := hide hrd2
        have hlt64 : (ws.take 64).length = 64 := by rw [List.length_take, HN.out]; rfl
        have HL64 := hide hlt64
        clear hsm hrd hrd2 hcW hkH hout ht hlt64
        have x0 : w8.cell? ⟨w.heap.size, 0, none⟩ = some (.slice a 192 c) := blk_cell U2 0 _ rfl
        have x1 : w8.cell? ⟨w.heap.size, 1, none⟩ = some (.int .i64 (-1)) := blk_cell U2 1 _ rfl
        go_wp2_with fail
        refine (image_any a 192 c ws (-1) (1 - (sn : Int)) w8 (h.below W2) HN.out (by decide) hcap).mono ?_
        rintro e w9 ⟨⟨aj, nj, cj, rfl, hiJ, hnJ, hcJ, hfJ⟩, hb9⟩
        replace BH := hide (blk_below BH.out hb9)
        replace iH := iH.below hb9
        replace W2 := W2.trans (hb9.mono W2.size)
        replace U2 := U2.below hb9
        have HNJ := hide hnJ
        clear hnJ hb9 x0 x1 hfJ
        have x0 : w9.cell? ⟨w5.heap.size, 0, none⟩ = some (.slice ah 192 ch) := blk_cell BH.out 0 _ rfl
        have x1 : w9.cell? ⟨w5.heap.size, 1, none⟩ = some (.int .i64 fr) := blk_cell BH.out 1 _ rfl
        have HI2 := hide (image_any ah 192 ch H fr (1 - (sn : Int)) w9 iH HNH.out (by decide) hcH)
        rw [HSm.out] at HI2
        have HLJ := hide (imgS_len ws (-1) (1 - (sn : Int)) HN.out)
        generalize imgS ws (-1) (1 - (sn : Int)) = rJ at *
        go_upto_region 21 with fail
        go_wp2_with fail
        refine (unhide HI2).mono ?_
        rintro e w10 ⟨⟨ak, nk, ck, rfl, hiK, hnK, hcK, hfK⟩, hb10⟩
        replace BH := hide (blk_below BH.out hb10)
        replace iH := iH.below hb10
        replace W2 := W2.trans (hb10.mono W2.size)
        replace U2 := U2.below hb10
        replace hiJ := hiJ.below hb10
        have HNK := hide hnK
        clear hnK hb10 x0 x1 hfK HI2
        have x0 : w10.cell? ⟨w.heap.size, 0, none⟩ = some (.slice a 192 c) := blk_cell U2 0 _ rfl
        have x1 : w10.cell? ⟨w.heap.size, 1, none⟩ = some (.int .i64 (-1)) := blk_cell U2 1 _ rfl
        go_upto_region 22 with fail
        go_wp2_with fail
        refine (read_any a 192 c ws (-1) 0 64 w10 (h.below W2) HN.out (by decide) hcap (by decide) (by decide)).mono ?_
        intro e w11 hA
        obtain ⟨al, nl, cl, rfl, hiL, hnL, hcL, hfL, hb11⟩ := hA.opened HRd.out
        obtain rfl : nl = 64 := by rw [← hnL]; exact HL64.out
        replace BH := hide (blk_below BH.out hb11)
        replace iH := iH.below hb11
        replace W2 := W2.trans (hb11.mono W2.size)
        replace hiJ := hiJ.below hb11
        replace hiK := hiK.below hb11
        clear hA hnL hb11 x0 x1 hfL U2
        have x0 : w11.cell? ⟨w5.heap.size, 0, none⟩ = some (.slice ah 192 ch) := blk_cell BH.out 0 _ rfl
        have x1 : w11.cell? ⟨w5.heap.size, 1, none⟩ = some (.int .i64 fr) := blk_cell BH.out 1 _ rfl
        go_upto_region 23 with fail
        go_wp2_with fail
        refine (read_any ah 192 ch H fr 0 64 w11 iH HNH.out (by decide) hcH (by decide) (by decide)).mono ?_
        intro e w12 hA
        obtain ⟨ao, no, co, rfl, hiO, hnO, hcO, hfO, hb12⟩ := hA.opened HRd2.out
        obtain rfl : no = 64 := by rw [← hnO]; exact HL64.out
        replace W2 := W2.trans (hb12.mono W2.size)
        replace hiJ := hiJ.below hb12
        replace hiK := hiK.below hb12
        replace hiL := hiL.below hb12
        clear hA hnO hb12 x0 x1 hfO
        have HQ1 := hide (equal_at aj ak nj nk cj ck rJ.1 rJ.1 true w12 hiJ hiK HNJ.out HNK.out (eqL_self _) (by rw [← HNJ.out]; exact HLJ.out) (by rw [← HNK.out]; exact HLJ.out))
        have HQ2 := hide (fun q => equal_at al ao 64 64 cl co (ws.take 64) (ws.take 64) true (w12.drewN q) (hiL.drewN q) (hiO.drewN q) HL64.out HL64.out (eqL_self _) (by decide) (by decide))
        go_wp2_with fail
        refine (unhide HQ1).mono ?_
        rintro e w13 ⟨rfl, q1, rfl⟩
        go_wp2_with fail
        refine (unhide HQ2 _).mono ?_
        rintro e w14 ⟨rfl, q2, rfl⟩
        go_wp2
        go_ret
        exact ⟨rfl, below_drewN W2 _⟩

end Go.Proofs.Ytanpglfpopbfkaa
