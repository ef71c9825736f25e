/- The walk of wainwrightlaw.FlashParts: it answers true, and nothing that was there has turned. -/
import Derived.Test.YtanpglfpopbfkaaBurnt
import Derived.Test.YtanpglfpopbfkaaParts0
import Derived.Deep.DeepCutAuto
namespace Go.Proofs.Ytanpglfpopbfkaa
open Go.RowKit
attribute [local go_sem ↓] Go.wp_at_zero Go.wp_at_succ

/-- Same of two that hold the same. -/
theorem same_yes (a : Option Addr) (n c : Nat) (xs : List Int) (fuel : Int) (a2 : Option Addr) (n2 c2 : Nat) (w : World) (h : IsInts w a xs) (hn : xs.length = n) (h2 : IsInts w a2 xs) (hn2 : xs.length = n2) (hm : xs.length ≤ maxLen) :
    Calls Try.prog 24 #[.agg #[.slice a n c, .int .i64 fuel], .agg #[.slice a2 n2 c2, .int .i64 fuel]] w fun e w' => e = .returned (.bool true) ∧ Below w.heap.size w w' := by
  refine (same_any a n c xs fuel a2 n2 c2 xs fuel w h hn (by omega) h2 hn2 (by omega)).mono ?_
  rintro e w' ⟨rfl, hb⟩
  exact ⟨ret_bool (by simp [eqL_self]), hb⟩

set_option maxRecDepth 100000 in
set_option maxHeartbeats 4000000 in
theorem parts_any (a : Option Addr) (n c : Nat) (ws : List Int) (fuel p : Int) (a2 : Option Addr) (n2 c2 : Nat) (words : List Int) (k : Int) (w : World)
    (h : IsInts w a ws) (hn : ws.length = n) (hm : n ≤ maxLen) (h2 : IsInts w a2 words) (hn2 : words.length = n2) (hc2 : n2 ≤ c2) (hrow : c2 = 0 ∨ ∃ b off, a2 = some ⟨b, off, none⟩) (hm2 : c2 * 8 ≤ 140737488351232) (hp : -9223372036854775808 ≤ p ∧ p ≤ 9223372036854775807) (hk : -9223372036854775808 ≤ k ∧ k ≤ 9223372036854775807) :
    Calls Try.prog 6 #[.agg #[.slice a n c, .int .i64 fuel], .int .i64 p, .slice a2 n2 c2, .int .i64 k] w fun e w' => e = .returned (.bool true) ∧ Below w.heap.size w w' := by
  have HN := hide hn
  have HN2 := hide hn2
  have hw : Below w.heap.size w (w.alloc (.cells #[.slice a n c, .int .i64 (-1)] 28)) := (Below.refl _ _).alloc (Nat.le_refl _) _
  have V0 : FBox (w.alloc (.cells #[.slice a n c, .int .i64 (-1)] 28)) w.heap.size a n c (-1) := heap_alloc_last _ _
  have i0 := h.below hw
  have i2 := h2.below hw
  clear hn hn2
  go_enter Try.func6, Try.ntmps6
  go_wp2_with fail
  generalize w.alloc (.cells #[.slice a n c, .int .i64 (-1)] 28) = W at *
  refine (program_any a n c ws (-1) p a2 n2 c2 words W i0 HN.out hm i2 HN2.out (by unfold maxLen; omega) hp).mono ?_
  intro e w1 hA
  by_cases e1 : (progS ws (-1) p words).2.2 = 0
  rotate_left
  · obtain ⟨⟨a1, n1, c1, rfl, hi1, hn1, hc1, hf1⟩, hb1⟩ := hA
    have e1' : ((progS ws (-1) p words).2.2 != 0) = true := by simpa using e1
    have hw1 := hw.trans (hb1.mono hw.size)
    clear hn1 e1
    go_wp2_with fail
    refine (burnt_any _).mono ?_
    rintro e w2 ⟨rfl, hb2⟩
    go_wp2_with fail
    refine (burnt_any _).mono ?_
    rintro e w3 ⟨rfl, hb3⟩
    go_wp2
    go_ret
    exact ⟨rfl, ((hw1.alloc hw1.size _).trans (hb2.mono (by have := hw1.size; simp; omega))).trans (hb3.mono (by have := hw1.size; have := hb2.size; simp at this; omega))⟩
  obtain ⟨q1, q2, q3, q4⟩ := prog_yes e1
  obtain ⟨pn, rfl⟩ := Int.eq_ofNat_of_zero_le q2
  have q3' : pn + words.length ≤ ws.length := by omega
  obtain ⟨a1, n1, c1, rfl, hi1, hn1, hc1, hf1, hb1⟩ := hA.opened (prog_full q1 q3' q4)
  have QP := chk_parts q1
  rw [HN.out] at QP
  have Q1 := hide q1
  have Q3 := hide q3'
  have Q4 := hide q4
  have HN1 : Hid (n1 = n) := by rw [chg_length, HN.out] at hn1; exact hn1.symm
  have hl : pn + n2 ≤ n := by rw [HN.out, HN2.out] at q3'; exact q3'
  have hw1 := hw.trans (hb1.mono hw.size)
  have V0' := V0.below hb1
  have HW1 := hide (show w.heap.size < w1.heap.size from blk_lt V0')
  have i2' := i2.below hb1
  have V1 := flVar_new (-1) hi1 hn1 hc1 (hf1.mono (show w.heap.size + 1 ≤ W.heap.size from blk_lt V0))
  have V0'' := V0'.below ((Below.refl _ _).alloc (Nat.le_refl _) (.cells #[.slice a1 n1 c1, .int .i64 (-1)] 28))
  have i2'' := i2'.alloc (.cells #[.slice a1 n1 c1, .int .i64 (-1)] 28)
  have hw2 := hw1.alloc hw1.size (.cells #[.slice a1 n1 c1, .int .i64 (-1)] 28)
  clear hA e1 q1 q2 q3 q3' q4 hn1 hi1 hf1 V0 V0' i0 i2 i2' hp hb1 hw
  go_wp2_with fail
  generalize w1.alloc (.cells #[.slice a1 n1 c1, .int .i64 (-1)] 28) = w2 at *
  refine (burnt_any _).mono ?_
  rintro e w3 ⟨rfl, hb3⟩
  have V0 := V0''.below hb3
  have V1' := V1.below hb3
  have i2 := i2''.below hb3
  have hw3 := hw2.trans (hb3.mono hw2.size)
  clear V0'' V1 i2'' hb3 hw2
  go_wp2_with fail
  refine (at_any k ((n2 : Int) + 1) _ (by omega) (by omega) hk).mono ?_
  rintro e w4 ⟨rfl, rfl⟩
  have j1 := Int.emod_nonneg k (show (n2 : Int) + 1 ≠ 0 by omega)
  have j2 := Int.emod_lt_of_pos k (show 0 < (n2 : Int) + 1 by omega)
  generalize k % ((n2 : Int) + 1) = kk at *
  obtain ⟨j, rfl⟩ := Int.eq_ofNat_of_zero_le j1
  have hj : j ≤ n2 := by omega
  have j3 : (j : Int) ≤ (c2 : Int) := by omega
  clear j1 j2 hk
  have tk := i2.take j
  have tl : (words.take j).length = j := by have := HN2.out; simp; omega
  have TL := hide tl
  clear tl
  have bf : w4.heap[w.heap.size]? = some (.cells #[.slice a n c, .int .i64 (-1)] 28 (0, 0)) := V0
  have EP : progS ws (-1) pn (words.take j) = (chg (andW (words.take j)) pn j ws, -1, 0) := by
    have := prog_full Q1.out (show pn + (words.take j).length ≤ ws.length by rw [TL.out]; rw [HN.out]; omega) (okL_take j Q4.out)
    rw [TL.out] at this; exact this
  have HP := hide (program_from w4 a n c ws (-1) pn a2 j c2 (words.take j) _ _ _ EP (h.below hw3) HN.out hm tk TL.out (by unfold maxLen; omega) (by omega))
  clear EP
  have ltf := blk_lt bf
  have x0 : w4.cell? ⟨w.heap.size, 0, none⟩ = some (.slice a n c) := blk_cell bf 0 _ rfl
  have x1 : w4.cell? ⟨w.heap.size, 1, none⟩ = some (.int .i64 (-1)) := blk_cell bf 1 _ rfl
  clear bf
  go_upto_region 6 with fail
  go_cut [11, 10] (fun v11 v10 wc => ∃ b, v11 = .pointer (some ⟨b, 0, none⟩) ∧ v10 = .int .i64 0 ∧ FlVar (w.heap.size + 1) wc b (chg (andW (words.take j)) pn j ws) (-1) ∧ Below w4.heap.size w4 wc)
  case first =>
    have nn := World.new_ne w4 ⟨w.heap.size, 0, none⟩ x0
    go_region_held3 (fun w' => w'.cell? ⟨w.heap.size, 0, none⟩ = some (.slice a n c) ∧ w'.cell? ⟨w.heap.size, 1, none⟩ = some (.int .i64 (-1))) (first | exact ⟨by assumption, by assumption⟩ | go_keep)
      ((go_at_call 19; refine (unhide HP _ ?_).mono ?_; (first | exact (Below.refl _ _).drew | exact ((Below.refl _ _).alloc (Nat.le_refl _) _).drew); rintro e w5 ⟨a5, n5, c5, rfl, hi5, hn5, hc5, hf5, hb5, hq5⟩; have z0 : w5.cell? ⟨w.heap.size, 0, none⟩ = some (.slice a n c) := (by rw [hq5.cell ltf]; exact x0); have z1 : w5.cell? ⟨w.heap.size, 1, none⟩ = some (.int .i64 (-1)) := (by rw [hq5.cell ltf]; exact x1); try (refine keepNew (v0 := .slice none 0 0) (v1 := .int .i64 0) (t := 28) hb5 (heap_alloc_last w4 _) ?_; intro y0 y1 y2 y3)))
    · go_wp2_with fail
      go_meet
      case rel => exact ⟨w5.heap.size, rfl, rfl, flVar_new (-1) hi5 hn5 hc5 (hf5.mono (by simp; omega)), hq5.alloc hq5.size _⟩
    · go_wp2_with fail
      go_meet
      case rel =>
        refine ⟨w4.heap.size, rfl, rfl, ?_, (hq5.setCell (Nat.le_refl _) _).setCell (Nat.le_refl _) _⟩
        exact flVar_stored (blk_below (k := w4.heap.size) (o := .cells #[.slice none 0 0, .int .i64 0] 28) (by exact heap_alloc_last w4 _) hb5) hi5 hf5 (by simp) hn5 hc5 (by simp; omega)
  case rest =>
    obtain ⟨b11, rfl, rfl, VA, hbc⟩ := hcut
    have V0a := V0.below hbc
    have V1a := V1'.below hbc
    have i2a := i2.below hbc
    have hw4 := hw3.trans (hbc.mono hw3.size)
    clear HP x0 x1 V0 V1' i2 hw3 hbc tk ltf
    obtain ⟨af, nf, cf, bf, hif, hnf, hcf, -⟩ := id VA
    have hmf : nf ≤ maxLen := by rw [← hnf, chg_length, HN.out]; exact hm
    have EP : progS (chg (andW (words.take j)) pn j ws) (-1) ((pn : Int) + (j : Int)) (words.drop j) = (chg (andW words) pn words.length ws, -1, 0) := by
      have hd : (words.drop j).length = words.length - j := by simp
      have := prog_full (p := pn + j) (words := words.drop j) (chk_chg Q1.out (andW (words.take j)) pn j (chg_ok (chk_parts Q1.out).2.2.2 (okL_take j Q4.out) (by rw [TL.out]; omega) (by rw [HN.out]; omega)) (by decide) (by decide)) (by rw [chg_length, hd]; have := Q3.out; have := HN2.out; omega) (okL_drop j Q4.out)
      rw [hd, parts_two (by rw [HN2.out]; exact hj)] at this
      rw [← this]; congr 1
    have dl : (words.drop j).length = n2 - j := by have := HN2.out; simp; omega
    have ltf := blk_lt bf
    have ltw := blk_lt V0a
    have x0 : wc.cell? ⟨b11, 0, none⟩ = some (.slice af nf cf) := blk_cell bf 0 _ rfl
    have x1 : wc.cell? ⟨b11, 1, none⟩ = some (.int .i64 (-1)) := blk_cell bf 1 _ rfl
    go_upto_region 7 with fail
    go_cut [12, 13] (fun v12 v13 wd => ∃ b, v12 = .pointer (some ⟨b, 0, none⟩) ∧ v13 = .int .i64 0 ∧ FlVar (w.heap.size + 1) wd b (chg (andW words) pn words.length ws) (-1) ∧ Below wc.heap.size wc wd)
    case first =>
      have nn := World.new_ne wc ⟨b11, 0, none⟩ x0
      have i3 : IntKind.i64.wrap ((pn : Int) + (j : Int)) = (pn : Int) + (j : Int) := by rw [IntKind.wrap_i64]; omega
      have BF := hide bf
      have HNF := hide hnf
      have HEP := hide EP
      have DL := hide dl
      clear bf hnf EP dl
      by_cases hjc : j = c2
      · have d0 : words.drop j = [] := List.drop_eq_nil_of_le (by have := HN2.out; omega)
        have HP := hide (program_from wc af nf cf _ (-1) ((pn : Int) + (j : Int)) a2 0 0 (words.drop j) _ _ _ HEP.out hif HNF.out hmf (.inl d0) (by rw [d0]; rfl) (by decide) (by omega))
        clear d0
        subst hjc
        go_region_held3 (fun w' => w'.cell? ⟨b11, 0, none⟩ = some (.slice af nf cf) ∧ w'.cell? ⟨b11, 1, none⟩ = some (.int .i64 (-1))) (first | exact ⟨by assumption, by assumption⟩ | go_keep)
          ((go_at_call 19; refine (unhide HP _ ?_).mono ?_; (first | exact (Below.refl _ _).drew | exact ((Below.refl _ _).alloc (Nat.le_refl _) _).drew); rintro e w5 ⟨a5, n5, c5, rfl, hi5, hn5, hc5, hf5, hb5, hq5⟩; have z0 : w5.cell? ⟨b11, 0, none⟩ = some (.slice af nf cf) := (by rw [hq5.cell ltf]; exact x0); have z1 : w5.cell? ⟨b11, 1, none⟩ = some (.int .i64 (-1)) := (by rw [hq5.cell ltf]; exact x1); try (refine keepNew (v0 := .slice none 0 0) (v1 := .int .i64 0) (t := 28) hb5 (heap_alloc_last wc _) ?_; intro y0 y1 y2 y3)))
        · go_wp2_with fail
          go_meet
          case rel => exact ⟨w5.heap.size, rfl, rfl, flVar_new (-1) hi5 hn5 hc5 (hf5.mono (by simp; omega)), hq5.alloc hq5.size _⟩
        · go_wp2_with fail
          go_meet
          case rel =>
            refine ⟨wc.heap.size, rfl, rfl, ?_, (hq5.setCell (Nat.le_refl _) _).setCell (Nat.le_refl _) _⟩
            exact flVar_stored (blk_below (k := wc.heap.size) (o := .cells #[.slice none 0 0, .int .i64 0] 28) (by exact heap_alloc_last wc _) hb5) hi5 hf5 (by simp) hn5 hc5 (by simp; omega)
      · obtain ⟨bb, off, rfl⟩ : ∃ b off, a2 = some ⟨b, off, none⟩ := by rcases hrow with e | e; (· omega); exact e
        have HP := hide (program_from wc af nf cf _ (-1) ((pn : Int) + (j : Int)) (some ⟨bb, off + j, none⟩) (n2 - j) (c2 - j) (words.drop j) _ _ _ HEP.out hif HNF.out hmf (i2a.drop j) DL.out (by unfold maxLen; omega) (by omega))
        have j4 : ¬ c2 = j := fun e => hjc e.symm
        have j5 : (j : Int) ≤ (n2 : Int) := by omega
        have j6 : (n2 : Int) ≤ (c2 : Int) := by omega
        go_region_held3 (fun w' => w'.cell? ⟨b11, 0, none⟩ = some (.slice af nf cf) ∧ w'.cell? ⟨b11, 1, none⟩ = some (.int .i64 (-1))) (first | exact ⟨by assumption, by assumption⟩ | go_keep)
          ((go_at_call 19; refine (unhide HP _ ?_).mono ?_; (first | exact (Below.refl _ _).drew | exact ((Below.refl _ _).alloc (Nat.le_refl _) _).drew); rintro e w5 ⟨a5, n5, c5, rfl, hi5, hn5, hc5, hf5, hb5, hq5⟩; have z0 : w5.cell? ⟨b11, 0, none⟩ = some (.slice af nf cf) := (by rw [hq5.cell ltf]; exact x0); have z1 : w5.cell? ⟨b11, 1, none⟩ = some (.int .i64 (-1)) := (by rw [hq5.cell ltf]; exact x1); try (refine keepNew (v0 := .slice none 0 0) (v1 := .int .i64 0) (t := 28) hb5 (heap_alloc_last wc _) ?_; intro y0 y1 y2 y3)))
        · go_wp2_with fail
          go_meet
          case rel => exact ⟨w5.heap.size, rfl, rfl, flVar_new (-1) hi5 hn5 hc5 (hf5.mono (by simp; omega)), hq5.alloc hq5.size _⟩
        · go_wp2_with fail
          go_meet
          case rel =>
            refine ⟨wc.heap.size, rfl, rfl, ?_, (hq5.setCell (Nat.le_refl _) _).setCell (Nat.le_refl _) _⟩
            exact flVar_stored (blk_below (k := wc.heap.size) (o := .cells #[.slice none 0 0, .int .i64 0] 28) (by exact heap_alloc_last wc _) hb5) hi5 hf5 (by simp) hn5 hc5 (by simp; omega)
    case rest =>
      obtain ⟨b12, rfl, rfl, VB, hbd⟩ := hcut
      have V0b := V0a.below hbd
      have V1b := V1a.below hbd
      have i2b := i2a.below hbd
      have hw5 := hw4.trans (hbd.mono hw4.size)
      clear bf hnf EP dl x0 x1 hif hcf hmf V0a V1a VA i2a hw4 hbd ltf af nf cf
      have hlen : (chg (andW words) pn words.length ws).length = n := by rw [chg_length, HN.out]
      have EP2 : progS (chg (andW words) pn words.length ws) (-1) pn words = (chg (andW words) pn words.length ws, -1, 0) := by
        rw [prog_full (chk_chg Q1.out (andW words) pn words.length (chg_ok (chk_parts Q1.out).2.2.2 Q4.out (Nat.le_refl _) Q3.out) (by decide) (by decide)) (by rw [chg_length]; exact Q3.out) Q4.out, parts_again (chk_parts Q1.out).2.2.2 Q4.out]
      have EP3 : progS ws n2 pn words = (chg (andW words) pn words.length ws, 0, 0) := by
        have := prog_just Q1.out Q3.out Q4.out
        rw [HN2.out] at this ⊢
        exact this
      generalize chg (andW words) pn words.length ws = gs at *
      have HE3 := hide EP3
      have HLen := hide hlen
      obtain ⟨ag, ng, cg, bg, hig, hng, hcg, -⟩ := id V1b
      have HP := hide (program_from wc ag ng cg gs (-1) pn a2 n2 c2 words _ _ _ EP2 hig hng (by rw [← hng, hlen]; exact hm) i2b HN2.out (by unfold maxLen; omega) (by omega) wc (Below.refl _ _))
      have x0 : wc.cell? ⟨w1.heap.size, 0, none⟩ = some (.slice ag ng cg) := blk_cell bg 0 _ rfl
      have x1 : wc.cell? ⟨w1.heap.size, 1, none⟩ = some (.int .i64 (-1)) := blk_cell bg 1 _ rfl
      clear EP2 EP3 hng bg hlen
      go_wp2_with fail
      refine (unhide HP).mono ?_
      rintro e w6 ⟨a6, n6, c6, rfl, hi6, hn6, hc6, hf6, hb6, -⟩
      have hb7 := hb6.alloc hb6.size (.cells #[.slice a6 n6 c6, .int .i64 (-1)] 28)
      have VC := flVar_new (-1) hi6 hn6 hc6 (hf6.mono (show w.heap.size + 1 ≤ _ from blk_lt V0b))
      have VBc := VB.below hb7
      have V1c := V1b.below hb7
      have V0c := V0b.below hb7
      have i2c := i2b.below hb7
      have hw7 := hw5.trans (hb7.mono hw5.size)
      clear VB V1b V0b i2b hw5 hb7 hb6 x0 x1 hig hcg hn6 hi6 hf6 HP
      go_upto_region 9 with fail
      generalize w6.alloc (.cells #[.slice a6 n6 c6, .int .i64 (-1)] 28) = w7 at *
      obtain ⟨ag', ng', cg', bg, hig, hng, hcg, -⟩ := id V1c
      obtain ⟨ab, nb, cb, bb, hib, hnb, hcb, -⟩ := id VBc
      obtain ⟨ac, nc, cc, bc, hic, hnc', hcc, -⟩ := id VC
      have g0 : w7.cell? ⟨w1.heap.size, 0, none⟩ = some (.slice ag' ng' cg') := blk_cell bg 0 _ rfl
      have g1 : w7.cell? ⟨w1.heap.size, 1, none⟩ = some (.int .i64 (-1)) := blk_cell bg 1 _ rfl
      have h0 : w7.cell? ⟨b12, 0, none⟩ = some (.slice ab nb cb) := blk_cell bb 0 _ rfl
      have h1 : w7.cell? ⟨b12, 1, none⟩ = some (.int .i64 (-1)) := blk_cell bb 1 _ rfl
      have HS1 := hide (same_yes ab nb cb gs (-1) ag' ng' cg' w7 hib hnb hig hng (by rw [HLen.out]; exact hm))
      clear hng hnb hnc' bg bb bc
      go_wp2_with fail
      refine (unhide HS1).mono ?_
      rintro e w8 ⟨rfl, hb8⟩
      replace VC := VC.below hb8
      replace V1c := V1c.below hb8
      replace V0c := V0c.below hb8
      replace i2c := i2c.below hb8
      replace hw7 := hw7.trans (hb8.mono hw7.size)
      clear g0 g1 h0 h1 hig hib hic hb8 HS1 hcg hcb hcc
      obtain ⟨ag2, ng2, cg2, bg, hig, hng, hcg, -⟩ := id V1c
      obtain ⟨ac2, nc2, cc2, bc, hic, hnc', hcc, -⟩ := id VC
      have g0 : w8.cell? ⟨w1.heap.size, 0, none⟩ = some (.slice ag2 ng2 cg2) := blk_cell bg 0 _ rfl
      have g1 : w8.cell? ⟨w1.heap.size, 1, none⟩ = some (.int .i64 (-1)) := blk_cell bg 1 _ rfl
      have h0 : w8.cell? ⟨w6.heap.size, 0, none⟩ = some (.slice ac2 nc2 cc2) := blk_cell bc 0 _ rfl
      have h1 : w8.cell? ⟨w6.heap.size, 1, none⟩ = some (.int .i64 (-1)) := blk_cell bc 1 _ rfl
      have HS1 := hide (same_yes ac2 nc2 cc2 gs (-1) ag2 ng2 cg2 w8 hic hnc' hig hng (by rw [HLen.out]; exact hm))
      clear hng hnc' bg bc
      go_wp2_with fail
      refine (unhide HS1).mono ?_
      rintro e w9 ⟨rfl, hb9⟩
      replace V1c := V1c.below hb9
      replace V0c := V0c.below hb9
      replace i2c := i2c.below hb9
      replace hw7 := hw7.trans (hb9.mono hw7.size)
      clear g0 g1 h0 h1 hig hic hb9 HS1 hcg hcc VC
      have g0 : w9.cell? ⟨w.heap.size, 0, none⟩ = some (.slice a n c) := blk_cell V0c 0 _ rfl
      have g1 : w9.cell? ⟨w.heap.size, 1, none⟩ = some (.int .i64 (-1)) := blk_cell V0c 1 _ rfl
      have g2 := blk_free V0c 1
      have hw9 := hw7.setCell (p := ⟨w.heap.size, 1, none⟩) (Nat.le_refl _) (.int .i64 n2)
      have hlt := blk_lt V0c
      have V1d := V1c.other (b' := w.heap.size) (by omega) (by have := HW1.out; omega) 1 (.int .i64 n2)
      have HP := hide (program_from (w9.setCell ⟨w.heap.size, 1, none⟩ (.int .i64 n2)) a n c ws n2 pn a2 n2 c2 words _ _ _ HE3.out (h.below hw9) HN.out hm (h2.below hw9) HN2.out (by unfold maxLen; omega) (by omega) _ (Below.refl _ _))
      go_wp2_with fail
      refine (unhide HP).mono ?_
      rintro e w10 ⟨a10, n10, c10, rfl, hi10, hn10, hc10, hf10, hb10, -⟩
      have HN10 := hide hn10
      clear hn10
      have hw10 := hw9.trans (hb10.mono hw9.size)
      have V1e := (V1d.below hb10).below ((Below.refl _ _).alloc (Nat.le_refl _) (.cells #[.slice a10 n10 c10, .int .i64 0] 28))
      have i10 := hi10.alloc (.cells #[.slice a10 n10 c10, .int .i64 0] 28)
      have hw11 := hw10.alloc hw10.size (.cells #[.slice a10 n10 c10, .int .i64 0] 28)
      have D0 := hide (heap_alloc_last w10 (.cells #[.slice a10 n10 c10, .int .i64 0] 28))
      clear g0 g1 g2 hb10 HP V1c V1d
      go_upto_region 13 with fail
      generalize w10.alloc (.cells #[.slice a10 n10 c10, .int .i64 0] 28) = w11 at *
      obtain ⟨ag3, ng3, cg3, bg, hig, hng, hcg, -⟩ := id V1e
      have g0 : w11.cell? ⟨w1.heap.size, 0, none⟩ = some (.slice ag3 ng3 cg3) := blk_cell bg 0 _ rfl
      have h0 : w11.cell? ⟨w10.heap.size, 0, none⟩ = some (.slice a10 n10 c10) := blk_cell D0.out 0 _ rfl
      have h1 : w11.cell? ⟨w10.heap.size, 1, none⟩ = some (.int .i64 0) := blk_cell D0.out 1 _ rfl
      have HS1 := hide (equal_at a10 ag3 n10 ng3 c10 cg3 gs gs true w11 i10 hig HN10.out hng (eqL_self gs) (by rw [← HN10.out, HLen.out]; exact hm) (by rw [← hng, HLen.out]; exact hm))
      clear hng bg
      go_wp2_with fail
      refine (unhide HS1).mono ?_
      rintro e w12 ⟨rfl, m, rfl⟩
      go_wp2
      go_ret
      exact ⟨rfl, below_drewN hw11 m⟩

end Go.Proofs.Ytanpglfpopbfkaa
