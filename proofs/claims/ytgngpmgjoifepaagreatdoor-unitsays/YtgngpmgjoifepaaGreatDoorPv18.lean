/- The contract of wainwrightref.Appended: the document's Append of a right log. -/
import Derived.Test.YtgngpmgjoifepaaGreatDoorPv17
namespace Go.Proofs.YtgngpmgjoifepaaGreatDoor
open Go.RowKit
attribute [local go_sem ↓] Go.wp_at_zero Go.wp_at_succ

set_option maxRecDepth 100000 in
set_option maxHeartbeats 16000000 in
theorem appended_any (a : Option Addr) (n c : Nat) (ws : List Int) (fuel : Int) (ar : Option Addr) (nr cr : Nat) (r : List Int) (ak : Option Addr) (nk ck : Nat) (keep : List (List Int)) (w : World) (h : IsInts w a ws) (hn : ws.length = n) (hcap : n ≤ c) (hk0 : lchk ws fuel = 0)
    (hr : IsInts w ar r) (hnr : r.length = nr) (hmr : nr ≤ maxLen) (hk : IsRecs w ak keep) (hnk : keep.length = nk) (hmk : nk ≤ maxLen) :
    Calls Tryz.prog 137 #[.agg #[.slice a n c, .int .i64 fuel], .slice ar nr cr, .slice ak nk ck] w (Answers w (appS ws fuel r keep)) := by
  obtain ⟨ii, hii, iz0, iz1, iz2⟩ := info_parts info_int
  have q := lchk_parts hk0
  rw [hn] at q
  have q64 := q.2.1
  have q192 := q.2.2.1
  have hrest := restS_few (by rw [hn]; exact q.2.1 : 64 ≤ ws.length)
  have hgn := genN_nonneg q.2.2.2.1 (by rw [hn]; exact q.2.1)
  have hg6 := q.2.2.2.2.2
  have qf := chk_parts q.1
  have b0 : ((w.alloc (.cells #[.slice a n c, .int .i64 fuel] 27)).alloc (.cells #[.slice none 0 0, .int .i64 0] 27)).heap[w.heap.size]? = some (.cells #[.slice a n c, .int .i64 fuel] 27 (0, 0)) :=
    blk_alloc (heap_alloc_last _ _) _
  have b2 : ((w.alloc (.cells #[.slice a n c, .int .i64 fuel] 27)).alloc (.cells #[.slice none 0 0, .int .i64 0] 27)).heap[w.heap.size + 1]? = some (.cells #[.slice none 0 0, .int .i64 0] 27 (0, 0)) :=
    by simpa using heap_alloc_last (w.alloc _) _
  have hw : Below w.heap.size w ((w.alloc (.cells #[.slice a n c, .int .i64 fuel] 27)).alloc (.cells #[.slice none 0 0, .int .i64 0] 27)) :=
    ((Below.refl _ _).alloc (Nat.le_refl _) _).alloc (by simp) _
  have i0 := h.below hw
  have i1 := hr.below hw
  have i2 := hk.below hw
  have B0 := hide b0
  have B2 := hide b2
  have HN := hide hn
  have HNR := hide hnr
  have HNK := hide hnk
  have HK0 := hide hk0
  have HR0 := hide hr
  have HKp := hide hk
  have HErr : Hid (∀ e, e ≠ 0 → laidA r keep = ([], e) → appS ws fuel r keep = ([], 0, e) ∨ recE r ≠ 0) := fun e he hla => by
    by_cases e2 : recE r = 0
    {
    left
    have : appErr ws fuel r keep = e := by unfold appErr; rw [if_neg (by simpa using hk0), if_neg (by simpa using e2), hla, if_pos he]
    unfold appS; rw [this, if_pos he]
    }
    { exact .inr e2 }
  have HRec : Hid (recE r ≠ 0 → appS ws fuel r keep = ([], 0, recE r)) := fun e2 => by
    have : appErr ws fuel r keep = recE r := by unfold appErr; rw [if_neg (by simpa using hk0), if_pos e2]
    unfold appS; rw [this, if_pos e2]
  clear b0 b2 hn hnr hnk h hr hk hk0 q
  go_enter Tryz.func137, Tryz.ntmps137
  go_wp2_with fail
  generalize (w.alloc (.cells #[.slice a n c, .int .i64 fuel] 27)).alloc (.cells #[.slice none 0 0, .int .i64 0] 27) = w1 at *
  have x0 := blk_cell B0.out 0 _ rfl
  have x1 := blk_cell B0.out 1 _ rfl
  have y0 := blk_cell B2.out 0 _ rfl
  have y1 := blk_cell B2.out 1 _ rfl
  have f0 := blk_free B2.out 0
  have f1 := blk_free B2.out 1
  have lt0 := blk_lt B0.out
  have lt1 := blk_lt B2.out
  refine (refCheckRecord_any ar nr cr r w1 i1 HNR.out hmr).mono ?_
  rintro e w' ⟨rfl, rfl⟩
  by_cases e2 : recE r = 0
  rotate_left
  {
  have e2' : (recE r != 0) = true := by simpa using e2
  have he := hide (HRec.out e2)
  clear e2
  go_wp2
  refine bodyPost_ret (v := .tuple #[.agg #[.slice none 0 0, .int .i64 0], .int .i64 (recE r)]) (by simp [results, Tryz.results137, go_sem, y0, y1]) rfl ?_
  exact answers_err he.out ((hw.setCell (by simp) _).setCell (by simp) _)
  }
  have e2' : (recE r != 0) = false := by simpa using e2
  have rr := recE_ok e2
  rw [HNR.out] at rr
  have E2 := hide e2
  replace HErr : Hid (∀ e, e ≠ 0 → laidA r keep = ([], e) → appS ws fuel r keep = ([], 0, e)) := fun e he hla => (HErr.out e he hla).resolve_right (by simpa using E2.out)
  obtain ⟨w1, rfl⟩ : ∃ w1 : World, w1 = w' := ⟨_, rfl⟩
  clear e2 HRec
  go_wp2
  go_loopw [9, 10] (fun v9 v10 wr => ∃ (i : Nat) (xs : List Int), i ≤ nk + 1 ∧ 2 * i ≤ xs.length ∧ v10 = .int .i64 i ∧ World.ownsRow wr w1.heap.size 3 1 v9 xs.length (vals xs) ∧ xs.length ≤ 31 ∧ Below w1.heap.size w1 wr ∧ Hid (laidA r keep = laidS ((keep ++ [r]).drop i) xs)) (fun _ v _ => nk + 1 - (intOf v).toNat)
  case atStart => exact ⟨0, [], Nat.zero_le _, by simp, rfl, World.ownsRow_nil _ _ _ _, by simp, Below.refl _ _, by show _ = _; rw [List.drop_zero]; rfl⟩
  case round =>
    obtain ⟨i, xs, hi, hi2, rfl, own, hx31, hbe, hl⟩ := hrel
    have hi15 : (i : Int) ≤ 15 := by omega
    have hwr := hw.trans (hbe.mono hw.size)
    by_cases hin : i ≤ nk
    {
    have zin : (i : Int) ≤ (nk : Int) := by omega
    have y0 := blk_cell (blk_below B2.out hbe) 0 _ rfl
    have y1 := blk_cell (blk_below B2.out hbe) 1 _ rfl
    have f0 := blk_free (blk_below B2.out hbe) 0
    have f1 := blk_free (blk_below B2.out hbe) 1
    by_cases hlt : i < nk
    {
    have zlt : (i : Int) < (nk : Int) := by omega
    have hkl : i < keep.length := by rw [HNK.out]; exact hlt
    have HKr := HKp.out
    rcases HKr with hh | ⟨bk, ok, rfl, hck⟩
    { rw [hh] at hkl; simp at hkl }
    obtain ⟨one, hone⟩ : ∃ one, one = keep[i] := ⟨_, rfl⟩
    obtain ⟨a1, c1, p1, p2, p3, p4⟩ := hck i one (by rw [hone]; exact List.getElem?_eq_getElem hkl)
    have HD : Hid ((keep ++ [r]).drop i = one :: (keep ++ [r]).drop (i + 1)) := by
      show _ = _
      rw [List.drop_eq_getElem_cons (by simp; omega), hone, List.getElem_append_left hkl]
    obtain ⟨n1, hn1⟩ : ∃ n1, n1 = one.length := ⟨_, rfl⟩
    rw [← hn1] at p1 p3
    have p1' : wr.cell? ⟨bk, ok + i, none⟩ = some (.slice a1 n1 c1) := by rw [hwr.cell (cell_lt p1)]; exact p1
    have HO1 := hide (p2.below hwr)
    have HO2 := hide hn1.symm
    have hO3 : n1 ≤ maxLen := Nat.le_trans p3 p4
    have hlow : Hid (∀ bo oo, a1 = some ⟨bo, oo, none⟩ → 0 < n1 → bo < w1.heap.size) := fun bo oo e h0 => by
      subst e
      have := p2.lt_of (by rw [HO2.out]; exact h0)
      have := hw.size
      omega
    clear hone hn1 hck p1 p2
    go_wp2_with fail
    refine (refCheckRecord_any a1 n1 c1 one wr HO1.out HO2.out hO3).mono ?_
    rintro e w' ⟨rfl, rfl⟩
    by_cases e1 : recE one = 0
    rotate_left
    {
    have e1' : (recE one != 0) = true := by simpa using e1
    have ha : addE xs one = recE one := by unfold addE; rw [if_pos e1]
    have he : Hid (appS ws fuel r keep = ([], 0, recE one)) := HErr.out (recE one) e1 (by rw [hl.out, HD.out, laidS_cons_no (by rw [ha]; exact e1), ha])
    clear e1 ha
    go_wp2
    refine bodyPost_ret (v := .tuple #[.agg #[.slice none 0 0, .int .i64 0], .int .i64 (recE one)]) (by simp [results, Tryz.results137, go_sem, y0, y1]) rfl ?_
    exact answers_err he.out ((hwr.setCell (by simp) _).setCell (by simp) _)
    }
    have e1' : (recE one != 0) = false := by simpa using e1
    have rr := recE_ok e1
    rw [HO2.out] at rr
    have E1 := hide e1
    obtain ⟨bo, oo, rfl⟩ := HO1.out.nonempty (by rw [HO2.out]; omega)
    have hbo := hlow.out bo oo rfl (by omega)
    have hsz := hbe.size
    have hge := ownBlock_ge own
    have zz : IntKind.i64.wrap (42240 + (n1 : Int)) = 42240 + (n1 : Int) := by rw [IntKind.wrap_i64]; omega
    clear e1
    go_wp2_with (at_builtin; refine wpList_append_lies _ rfl _ _ 25 rfl w1.heap.size 3 ii _ 1 8 Tryz.underlying25 hii iz0 iz1 iz2 rfl (by omega) _ xs.length (vals xs) rfl (ownsRow_below own ((Below.refl _ _).alloc (Nat.le_refl _) _)) ⟨w'.heap.size, 0, none⟩ 1 1 (vals [headS n1]) rfl rfl (headS_news _ _) (vals_one _) (by omega) (by unfold maxLen; omega) (by omega) (by simp; omega) (w'.heap.size + 1) (by simp) ?_)
    intro g1 cap1 wA own1 grow1 at1 lt1'
    have hB1 : Below w1.heap.size w' wA := ((Below.refl _ w').alloc (by omega) _).grown grow1 (by simp; omega) (fun k hk => hge k hk)
    have hnewsO := news_ints (HO1.out.low hB1 hbo)
    go_wp2_with (at_builtin; refine wpList_append_two _ rfl _ _ 25 133 rfl w1.heap.size 3 3 ii _ 1 8 Tryz.underlying25 Tryz.underlying133 hii iz0 iz1 iz2 rfl (by omega) _ (xs.length + 1) _ rfl own1 ⟨bo, oo, none⟩ n1 c1 (vals one) rfl (by rw [vals_length, HO2.out, Nat.mul_one]) hnewsO (vals_one one) (by omega) (by unfold maxLen; omega) (by omega) (by have := hB1.size; omega) wA.heap.size rfl ?_)
    intro g2 cap2 wB own2 grow2 at2 lt2
    have hB2 : Below w1.heap.size w' wB := hB1.grown grow2 (by have := hB1.size; omega) (fun k hk => by have := ownBlock_ge own1 k hk; omega)
    have O2 := hide (addL_own (by rw [List.append_assoc]; exact own2) HO2.out)
    have HL : Hid ((addL xs one).length = xs.length + 1 + n1) := by show _ = _; simp [addL, HO2.out]; omega
    have hbe2 := hbe.trans hB2
    clear own1 own2 grow1 grow2 hB1 hnewsO zz
    by_cases big : 31 < xs.length + 1 + n1
    {
    have ha : addE xs one = 8 := by unfold addE; rw [if_neg (by simpa using E1.out), HL.out, if_pos big]
    have he : Hid (appS ws fuel r keep = ([], 0, 8)) := HErr.out 8 (by decide) (by rw [hl.out, HD.out, laidS_cons_no (by rw [ha]; decide), ha])
    have big' : (31 : Int) < (xs.length : Int) + 1 + (n1 : Int) := by omega
    have y0' := blk_cell (blk_below B2.out hbe2) 0 _ rfl
    have y1' := blk_cell (blk_below B2.out hbe2) 1 _ rfl
    have f0' := blk_free (blk_below B2.out hbe2) 0
    have f1' := blk_free (blk_below B2.out hbe2) 1
    have hwr2 := hw.trans (hbe2.mono hw.size)
    clear ha
    go_wp2
    refine bodyPost_ret (v := .tuple #[.agg #[.slice none 0 0, .int .i64 0], .int .i64 8]) (by simp [results, Tryz.results137, go_sem, y0', y1']) rfl ?_
    exact answers_err he.out ((hwr2.setCell (by simp) _).setCell (by simp) _)
    }
    {
    have ha : addE xs one = 0 := by unfold addE; rw [if_neg (by simpa using E1.out), HL.out, if_neg big]
    have hl2 : Hid (laidA r keep = laidS ((keep ++ [r]).drop (i + 1)) (addL xs one)) := by show _ = _; rw [hl.out, HD.out, laidS_cons_ok ha]
    have big' : ¬ (31 : Int) < (xs.length : Int) + 1 + (n1 : Int) := by omega
    clear ha
    go_wp2
    go_roundw
    case rel => exact ⟨i + 1, addL xs one, by omega, by rw [HL.out]; omega, by go_num, O2.out, by rw [HL.out]; omega, hbe2, hl2⟩
    case measure => simp [intOf]; try omega
    }
    }
    {
    obtain rfl : i = nk := by omega
    have zlt : ¬ (i : Int) < (i : Int) := by omega
    have HD : Hid ((keep ++ [r]).drop i = r :: (keep ++ [r]).drop (i + 1)) := by
      show _ = _
      rw [List.drop_eq_getElem_cons (by simp [HNK.out]), List.getElem_append_right (by rw [HNK.out]; exact Nat.le_refl _)]
      simp
    have HO1 := hide (HR0.out.below hwr)
    have HO2 := HNR
    have hO3 := hmr
    have hlow : Hid (∀ bo oo, ar = some ⟨bo, oo, none⟩ → 0 < nr → bo < w1.heap.size) := fun bo oo e h0 => by
      subst e
      have := HR0.out.lt_of (by rw [HNR.out]; exact h0)
      have := hw.size
      omega
    go_wp2_with fail
    refine (refCheckRecord_any ar nr cr r wr HO1.out HO2.out hO3).mono ?_
    rintro e w' ⟨rfl, rfl⟩
    have e1 : recE r = 0 := E2.out
    have e1' : (recE r != 0) = false := by simpa using e1
    have rr := recE_ok e1
    rw [HO2.out] at rr
    have E1 := hide e1
    obtain ⟨bo, oo, rfl⟩ := HO1.out.nonempty (by rw [HO2.out]; omega)
    have hbo := hlow.out bo oo rfl (by omega)
    have hsz := hbe.size
    have hge := ownBlock_ge own
    have zz : IntKind.i64.wrap (42240 + (nr : Int)) = 42240 + (nr : Int) := by rw [IntKind.wrap_i64]; omega
    clear e1
    go_wp2_with (at_builtin; refine wpList_append_lies _ rfl _ _ 25 rfl w1.heap.size 3 ii _ 1 8 Tryz.underlying25 hii iz0 iz1 iz2 rfl (by omega) _ xs.length (vals xs) rfl (ownsRow_below own ((Below.refl _ _).alloc (Nat.le_refl _) _)) ⟨w'.heap.size, 0, none⟩ 1 1 (vals [headS nr]) rfl rfl (headS_news _ _) (vals_one _) (by omega) (by unfold maxLen; omega) (by omega) (by simp; omega) (w'.heap.size + 1) (by simp) ?_)
    intro g1 cap1 wA own1 grow1 at1 lt1'
    have hB1 : Below w1.heap.size w' wA := ((Below.refl _ w').alloc (by omega) _).grown grow1 (by simp; omega) (fun k hk => hge k hk)
    have hnewsO := news_ints (HO1.out.low hB1 hbo)
    go_wp2_with (at_builtin; refine wpList_append_two _ rfl _ _ 25 133 rfl w1.heap.size 3 3 ii _ 1 8 Tryz.underlying25 Tryz.underlying133 hii iz0 iz1 iz2 rfl (by omega) _ (xs.length + 1) _ rfl own1 ⟨bo, oo, none⟩ nr cr (vals r) rfl (by rw [vals_length, HO2.out, Nat.mul_one]) hnewsO (vals_one r) (by omega) (by unfold maxLen; omega) (by omega) (by have := hB1.size; omega) wA.heap.size rfl ?_)
    intro g2 cap2 wB own2 grow2 at2 lt2
    have hB2 : Below w1.heap.size w' wB := hB1.grown grow2 (by have := hB1.size; omega) (fun k hk => by have := ownBlock_ge own1 k hk; omega)
    have O2 := hide (addL_own (by rw [List.append_assoc]; exact own2) HO2.out)
    have HL : Hid ((addL xs r).length = xs.length + 1 + nr) := by show _ = _; simp [addL, HO2.out]; omega
    have hbe2 := hbe.trans hB2
    clear own1 own2 grow1 grow2 hB1 hnewsO zz
    by_cases big : 31 < xs.length + 1 + nr
    {
    have ha : addE xs r = 8 := by unfold addE; rw [if_neg (by simpa using E1.out), HL.out, if_pos big]
    have he : Hid (appS ws fuel r keep = ([], 0, 8)) := HErr.out 8 (by decide) (by rw [hl.out, HD.out, laidS_cons_no (by rw [ha]; decide), ha])
    have big' : (31 : Int) < (xs.length : Int) + 1 + (nr : Int) := by omega
    have y0' := blk_cell (blk_below B2.out hbe2) 0 _ rfl
    have y1' := blk_cell (blk_below B2.out hbe2) 1 _ rfl
    have f0' := blk_free (blk_below B2.out hbe2) 0
    have f1' := blk_free (blk_below B2.out hbe2) 1
    have hwr2 := hw.trans (hbe2.mono hw.size)
    clear ha
    go_wp2
    refine bodyPost_ret (v := .tuple #[.agg #[.slice none 0 0, .int .i64 0], .int .i64 8]) (by simp [results, Tryz.results137, go_sem, y0', y1']) rfl ?_
    exact answers_err he.out ((hwr2.setCell (by simp) _).setCell (by simp) _)
    }
    {
    have ha : addE xs r = 0 := by unfold addE; rw [if_neg (by simpa using E1.out), HL.out, if_neg big]
    have hl2 : Hid (laidA r keep = laidS ((keep ++ [r]).drop (i + 1)) (addL xs r)) := by show _ = _; rw [hl.out, HD.out, laidS_cons_ok ha]
    have big' : ¬ (31 : Int) < (xs.length : Int) + 1 + (nr : Int) := by omega
    clear ha
    go_wp2
    go_roundw
    case rel => exact ⟨i + 1, addL xs r, by omega, by rw [HL.out]; omega, by go_num, O2.out, by rw [HL.out]; omega, hbe2, hl2⟩
    case measure => simp [intOf]; try omega
    }
    }
    }
    {
    obtain rfl : i = nk + 1 := by omega
    have zin : ¬ ((nk + 1 : Nat) : Int) ≤ (nk : Int) := by omega
    have HLA : Hid (laidA r keep = (xs, 0)) := by show _ = _; rw [hl.out, List.drop_eq_nil_of_le (by simp [HNK.out])]; rfl
    have x0 := blk_cell (blk_below B0.out hbe) 0 _ rfl
    have x1 := blk_cell (blk_below B0.out hbe) 1 _ rfl
    have hxs := hide (ownInts_of own)
    have hxpos : 0 < xs.length := by omega
    clear own hl hi hi2 hi15
    go_wp2_with fail
    refine (refCounts_any a n c ws fuel wr (i0.below hbe) HN.out (by unfold maxLen; omega) q64).mono ?_
    rintro e w2 ⟨rfl, hb2⟩
    replace hbe := hbe.trans (hb2.mono hbe.size)
    replace hxs := hide (hxs.out.below2 hb2)
    have x0 := blk_cell (blk_below B0.out hbe) 0 _ rfl
    have x1 := blk_cell (blk_below B0.out hbe) 1 _ rfl
    clear hb2
    go_wp2_with fail
    refine (recordsOf_any a n c ws fuel w2 (i0.below hbe) HN.out hcap HK0.out).mono ?_
    rintro e w4 ⟨⟨ap, np, cp, rfl, _, _, _, _⟩, hb4⟩
    replace hbe := hbe.trans (hb4.mono hbe.size)
    replace hxs := hide (hxs.out.below2 hb4)
    clear hb4 x0 x1
    have x0 := blk_cell (blk_below B0.out hbe) 0 _ rfl
    have x1 := blk_cell (blk_below B0.out hbe) 1 _ rfl
    have lt0b := blk_lt (blk_below B0.out hbe)
    have lt1b := blk_lt (blk_below B2.out hbe)
    replace B2 := hide (blk_below B2.out hbe)
    replace B0 := hide (blk_below B0.out hbe)
    replace i0 := i0.below hbe
    replace i1 := i1.below hbe
    have y0 := blk_cell B2.out 0 _ rfl
    have y1 := blk_cell B2.out 1 _ rfl
    have f0 := blk_free B2.out 0
    have f1 := blk_free B2.out 1
    have HF : Hid (fitsA ws r = (cleanS (restS ws) && decide (nr < (restS ws).length))) := by show _ = _; unfold fitsA; rw [HNR.out]
    have HPos : Hid (posS ws = if cleanS (restS ws) = true then (headP ws : Int) else -1) := rfl
    have HHP : Hid (headP ws = (secN ws + 1) * 32 - (restS ws).length) := rfl
    have HA0 : Hid (fitsA ws r = true ∨ genN ws ≠ 60000 → appErr ws fuel r keep = 0) := fun hf => appErr_mk HK0.out E2.out (by rw [HLA.out]) hf
    have HA2 : Hid (fitsA ws r = false → genN ws = 60000 → appS ws fuel r keep = ([], 0, 8)) := fun hf hg => by
      have h8 : appErr ws fuel r keep = 8 := by unfold appErr; rw [if_neg (by simpa using HK0.out), if_neg (by simpa using E2.out), HLA.out, if_neg (by simp), if_pos ⟨hf, hg⟩]
      unfold appS; rw [h8, if_pos (by decide)]
    obtain ⟨g, hg⟩ : ∃ g, g = genN ws := ⟨_, rfl⟩
    rw [← hg] at HA2 hgn hg6 HA0 ⊢
    obtain ⟨m, hm⟩ : ∃ m, m = (restS ws).length := ⟨_, rfl⟩
    rw [← hm] at HF HHP hrest
    obtain ⟨hp, hhp⟩ : ∃ p, p = headP ws := ⟨_, rfl⟩
    rw [← hhp] at HPos HHP
    have hs01 := secN_01 ws
    obtain ⟨s, hs⟩ : ∃ s, s = secN ws := ⟨_, rfl⟩
    rw [← hs] at HHP hs01 ⊢
    have hhpa : hp + m ≤ (s + 1) * 32 := by have := HHP.out; omega
    have hhpb : (s + 1) * 32 ≤ hp + m := by have := HHP.out; omega
    have HSx : Hid (s = secN ws ∧ hp = headP ws ∧ g = genN ws) := ⟨hs, hhp, hg⟩
    obtain ⟨P, hP⟩ : ∃ P, P = posS ws := ⟨_, rfl⟩
    rw [← hP] at HPos ⊢
    clear hs hg hhp hm hP HHP
    go_upto_region 19 with fail
    go_cut [79] (fun v79 wx => v79 = .bool (fitsA ws r) ∧ wx = w4)
    case first =>
      cases hcl : cleanS (restS ws)
      {
      have hPm : P = -1 := by rw [HPos.out, hcl]; rfl
      have hFf : Hid (fitsA ws r = false) := by show _ = _; rw [HF.out, hcl]; rfl
      subst hPm
      clear hcl
      go_wp2
      go_meet
      case rel => exact ⟨congrArg Value.bool hFf.out.symm, rfl⟩
      }
      {
      have hPm : P = (hp : Int) := by rw [HPos.out, hcl]; rfl
      have hFf : Hid (fitsA ws r = decide (nr < m)) := by show _ = _; rw [HF.out, hcl]; rfl
      subst hPm
      clear hcl
      have w0 : (0 : Int) ≤ (hp : Int) := by omega
      have w1' : IntKind.i64.wrap ((hp : Int) + 1) = (hp : Int) + 1 := by rw [IntKind.wrap_i64]; omega
      have w2' : IntKind.i64.wrap ((hp : Int) + 1 + (nr : Int)) = (hp : Int) + 1 + (nr : Int) := by rw [IntKind.wrap_i64]; omega
      by_cases hlt : nr < m
      {
      have w3' : (hp : Int) + 1 + (nr : Int) ≤ 32 * (s : Int) + 32 := by omega
      have hd : Hid (decide (nr < m) = true) := decide_eq_true hlt
      clear hlt
      go_wp2
      go_meet
      case rel => exact ⟨congrArg Value.bool (by rw [hFf.out, hd.out]), rfl⟩
      }
      {
      have w3' : ¬ (hp : Int) + 1 + (nr : Int) ≤ 32 * (s : Int) + 32 := by omega
      have hd : Hid (decide (nr < m) = false) := decide_eq_false hlt
      clear hlt
      go_wp2
      go_meet
      case rel => exact ⟨congrArg Value.bool (by rw [hFf.out, hd.out]), rfl⟩
      }
      }
    case rest =>
      obtain ⟨rfl, hwc⟩ := hcut
      subst hwc
      obtain ⟨w4, rfl⟩ : ∃ w4 : World, w4 = wc := ⟨_, rfl⟩
      have HCh := hide (fun W al L cl cs (h : IsInts W a ws) (hl : IsChgs W al cs) (hL : cs.length = L) (hcl : L ≤ cl) (hL2 : L ≤ 100000) (hin : ∀ c ∈ cs, c.1 < n) => changed_any a n c ws fuel al L cl cs W h HN.out (by omega) (by omega) (by omega) hl hL hcl hL2 hin)
      have hW : Below w4.heap.size w4 w4 := Below.refl _ _
      cases hfA : fitsA ws r
      rotate_left
      {
      have hcl : cleanS (restS ws) = true ∧ nr < m := by have := HF.out; rw [hfA] at this; simpa using this.symm
      have hPm : P = (hp : Int) := by rw [HPos.out, hcl.1]; rfl
      subst hPm
      have hAE := HA0.out (.inl hfA)
      have HK1 : Hid (∀ cs5 cs6, ProL ((hp : Int) + 1).toNat r nr cs5 → ProL (hp : Int).toNat [42240 + (nr : Int)] 1 cs6 → chgS ws fuel (cs5 ++ cs6) = appS ws fuel r keep) := fun cs5 cs6 h5 h6 => by
        rw [app_chg hAE]
        unfold appC appSteps
        rw [if_pos hfA, ← HSx.out.2.1]
        refine chgS_key ?_ ws fuel
        rw [List.map_append, pro_key h5 HNR.out, pro_key h6 rfl]
        have e1 : ((hp : Int) + 1).toNat = hp + 1 := by omega
        simp [stC, e1, headS, HNR.out]
      have hlt := hcl.2
      have HIn : Hid (∀ cs5 cs6, ProL ((hp : Int) + 1).toNat r nr cs5 → ProL (hp : Int).toNat [42240 + (nr : Int)] 1 cs6 → ∀ c ∈ cs5 ++ cs6, c.1 < n) := fun cs5 cs6 h5 h6 c hc => by
        rcases List.mem_append.1 hc with hc | hc
        { have := h5.lt c hc; omega }
        { have := h6.lt c hc; omega }
      have wr1 : IntKind.i64.wrap ((hp : Int) + 1) = (hp : Int) + 1 := by rw [IntKind.wrap_i64]; omega
      have wr2 : IntKind.i64.wrap (42240 + (nr : Int)) = 42240 + (nr : Int) := by rw [IntKind.wrap_i64]; omega
      have hnr0 : 0 < nr := by omega
      have hnr100 : nr ≤ 100 := by omega
      have hpb1 : 0 ≤ (hp : Int) + 1 ∧ (hp : Int) + 1 ≤ 1000 := by omega
      have hpb0 : 0 ≤ (hp : Int) ∧ (hp : Int) ≤ 1000 := by omega
      have one_pos : 0 < 1 := by decide
      have one_100 : 1 ≤ 100 := by decide
      have hx45 : w4.heap.size ≤ w4.heap.size := Nat.le_refl _
      have nn := World.new_ne w4 ⟨w.heap.size, 0, none⟩ x0
      obtain ⟨ic, hic, hz0, hz1, hz2⟩ := info_parts info_change
      clear hfA HF HPos hcl hAE HA0 HA2
      go_wp2_with fail
      go_region_held3 (fun w' => w'.cell? ⟨w.heap.size, 0, none⟩ = some (.slice a n c) ∧ w'.cell? ⟨w.heap.size, 1, none⟩ = some (.int .i64 fuel)) (first | exact ⟨by assumption, by assumption⟩ | (refine keepBox ?_ lt0b x0 x1; (repeat (first | exact hW | exact Below.refl _ _ | refine Below.drew ?_ | refine Below.alloc ?_ (by have := hW.size; simp <;> omega) _)); done) | go_keep)
        ((first
          | (go_at_call_of 179 (Value.slice ar nr cr); refine (programsI_from ((hp : Int) + 1) ar nr cr r _ ?_ HNR.out hnr0 hnr100 hpb1).mono ?_; (first | exact i1.below (Below.refl _ _).drew | exact i1.below (((Below.refl _ _).alloc (Nat.le_refl _) _).drew)); rintro e w5 ⟨bb5, cl5, cs5, rfl, hc5, hl5, hpl5, hb5, hmk5⟩; have hc45 : Below w4.heap.size w4 w5 := (by first | exact hb5 | exact Below.trans ((Below.refl _ w4).drew) hb5 | exact Below.trans ((Below.refl _ w4).alloc (Nat.le_refl _) _) (hb5.mono (by simp)) | exact Below.trans (((Below.refl _ w4).alloc (Nat.le_refl _) _).drew) (hb5.mono (by simp))); have hx5 : w4.heap.size ≤ bb5 := Nat.le_trans (by first | exact Nat.le_refl _ | (simp; done) | (simp; omega)) (row_ge hmk5 (by rw [hpl5.1]; exact hnr0)); replace hW : Below w4.heap.size w4 w5 := hc45; (try (have p5 : w5.cell? ⟨w4.heap.size, 0, none⟩ = some (.int .i64 (42240 + (nr : Int))) := isInts_below_one (w := w4.alloc (.cells #[.int .i64 (42240 + (nr : Int))] 3)) (cell_last rfl rfl) (by first | exact hb5 | exact Below.trans (Below.refl _ _).drew hb5))); have z0 : w5.cell? ⟨w.heap.size, 0, none⟩ = some (.slice a n c) := (by rw [hW.cell lt0b]; exact x0); have z1 : w5.cell? ⟨w.heap.size, 1, none⟩ = some (.int .i64 fuel) := (by rw [hW.cell lt0b]; exact x1); have nnw5 := World.new_ne w5 ⟨w.heap.size, 0, none⟩ z0)
          | (go_at_call 179; refine (programsI_from (hp : Int) _ 1 1 [42240 + (nr : Int)] _ (isInts_one ?_) rfl one_pos one_100 hpb0).mono ?_; (first | exact p5 | exact cell_last rfl rfl | trace_state); rintro e w6 ⟨bb6, cl6, cs6, rfl, hc6, hl6, hpl6, hb6, hmk6⟩; have hc56 : Below w5.heap.size w5 w6 := (by first | exact hb6 | exact Below.trans ((Below.refl _ w5).drew) hb6 | exact Below.trans ((Below.refl _ w5).alloc (Nat.le_refl _) _) (hb6.mono (by simp)) | exact Below.trans (((Below.refl _ w5).alloc (Nat.le_refl _) _).drew) (hb6.mono (by simp))); replace hW : Below w4.heap.size w4 w6 := hW.trans (hc56.mono hW.size); have z0 : w6.cell? ⟨w.heap.size, 0, none⟩ = some (.slice a n c) := (by rw [hW.cell lt0b]; exact x0); have z1 : w6.cell? ⟨w.heap.size, 1, none⟩ = some (.int .i64 fuel) := (by rw [hW.cell lt0b]; exact x1); have nnw6 := World.new_ne w6 ⟨w.heap.size, 0, none⟩ z0)
          | (refine step_append_lies _ (by rfl) _ _ 195 (by rfl) _ 237 ic _ 2 16 Tryz.underlying195 hic hz0 hz1 hz2 rfl (by omega) _ _ _ (by rfl) (ownsRow_below hmk5.own hc56) ⟨bb6, 0, none⟩ 1 cl6 (cells2 cs6) (by rfl) (by rw [cells2_length, hpl6.1]) (chgs_news hl6) (cells2_one _) (by omega) (by rw [hpl5.1]; unfold maxLen; omega) (by rw [hpl5.1]; omega) (by have h1 := hmk5.below.size; have h2 := hc56.size; omega) w6.heap.size rfl ?_; intro g7 cap7 w7 own7 grow7 at7 lt7; have hG7 := two_lists hmk5 hc56 hmk6 own7 grow7; have hc67 : Below w4.heap.size w6 w7 := ((Below.refl _ w6).grown grow7 hW.size (fun k hk => by have hk' : bb5 = k := (by simpa [Value.ownBlock] using hk); omega)); replace hW : Below w4.heap.size w4 w7 := hW.trans hc67; have z0 : w7.cell? ⟨w.heap.size, 0, none⟩ = some (.slice a n c) := (by rw [hW.cell lt0b]; exact x0); have z1 : w7.cell? ⟨w.heap.size, 1, none⟩ = some (.int .i64 fuel) := (by rw [hW.cell lt0b]; exact x1); have nnw7 := World.new_ne w7 ⟨w.heap.size, 0, none⟩ z0)
          | (go_at_call 133; refine (unhide HCh _ _ _ _ _ (i0.below hW) hG7 (by rw [List.length_append, hpl6.1]) (own_cap own7) (by rw [hpl5.1]; omega) (HIn.out cs5 cs6 hpl5 hpl6)).mono ?_; rintro e w9 ⟨⟨a9, n9, c9, rfl, hi9, hn9, hc9, hf9⟩, hb9⟩; have hf9' : FreshA w4.heap.size a9 := FreshA.mono hf9 hW.size; replace hW : Below w4.heap.size w4 w9 := hW.trans (hb9.mono hW.size); have z0 : w9.cell? ⟨w.heap.size, 0, none⟩ = some (.slice a n c) := (by rw [hW.cell lt0b]; exact x0); have z1 : w9.cell? ⟨w.heap.size, 1, none⟩ = some (.int .i64 fuel) := (by rw [hW.cell lt0b]; exact x1); have nnw9 := World.new_ne w9 ⟨w.heap.size, 0, none⟩ z0; have q0 := blk_cell (blk_below B2.out hW) 0 _ rfl; have q1 := blk_cell (blk_below B2.out hW) 1 _ rfl; have q2 := blk_free (blk_below B2.out hW) 0; have q3 := blk_free (blk_below B2.out hW) 1)))
      all_goals
        have HKey := HK1.out cs5 cs6 hpl5 hpl6
        go_wp2
        refine bodyPost_ret (v := .tuple #[.agg #[.slice a9 n9 c9, .int .i64 (chgS ws fuel (cs5 ++ cs6)).2.1], .int .i64 (chgS ws fuel (cs5 ++ cs6)).2.2]) (by simp [results, Tryz.results137, go_sem, q0, q1]) rfl ?_
        rw [← HKey]
        have hw9 := hw.trans ((hbe.trans (hW.mono hbe.size)).mono hw.size)
        exact ⟨⟨a9, n9, c9, rfl, (hi9.other hf9' lt1b 0 _).other hf9' lt1b 1 _, hn9, hc9, FreshA.mono hf9' (Nat.le_trans hw.size hbe.size)⟩, (hw9.setCell (by simp) _).setCell (by simp) _⟩
      }
      {
      by_cases hg60 : g = 60000
      {
      have HRes := hide (HA2.out hfA hg60)
      subst hg60
      go_wp2
      refine bodyPost_ret (v := .tuple #[.agg #[.slice none 0 0, .int .i64 0], .int .i64 8]) (by simp [results, Tryz.results137, go_sem, y0, y1]) rfl ?_
      have hw9 := hw.trans (hbe.mono hw.size)
      exact answers_err HRes.out ((hw9.setCell (by simp) _).setCell (by simp) _)
      }
      {
      have hg60' : (g == 60000) = false := by simpa using hg60
      have wr2 : IntKind.i64.wrap (g + 1) = g + 1 := by rw [IntKind.wrap_i64]; omega
      have one_pos : 0 < 1 := by decide
      have one_100 : 1 ≤ 100 := by decide
      have hx100 : xs.length ≤ 100 := by omega
      have nn := World.new_ne w4 ⟨w.heap.size, 0, none⟩ x0
      obtain ⟨aL, cL, rfl, hiL, _⟩ := hxs.out
      clear hxs
      rcases hs01 with rfl | rfl
      {
      have hz00 : True := trivial
      have hAE := HA0.out (.inr hg60)
      have HK2 : Hid (∀ cs6 cs7, ProL 33 xs xs.length cs6 → ProL 32 [g + 1] 1 cs7 → chgS ws fuel (flL [eraL 1 32, cs6, cs7]) = appS ws fuel r keep) := fun cs6 cs7 h6 h7 => by
        rw [app_chg hAE]
        unfold appC appSteps
        rw [if_neg (by simp [hfA]), HLA.out, ← HSx.out.1, ← HSx.out.2.2]
        refine chgS_key ?_ ws fuel
        rw [flL3, List.map_append, List.map_append, pro_key h6 rfl, pro_key h7 rfl]
        simp [stC]
      have HIn2 : Hid (∀ cs6 cs7, ProL 33 xs xs.length cs6 → ProL 32 [g + 1] 1 cs7 → (flL [eraL 1 32, cs6, cs7]).length = 32 + xs.length + 1 ∧ ∀ c ∈ flL [eraL 1 32, cs6, cs7], c.1 < n) := fun cs6 cs7 h6 h7 => by
        rw [flL3]
        refine ⟨by simp [eraL_length, h6.1, h7.1]; omega, fun c hc => ?_⟩
        simp only [List.mem_append] at hc
        rcases hc with (hc | hc) | hc
        { simp only [eraL, List.mem_map, List.mem_range] at hc; obtain ⟨i, hi, rfl⟩ := hc; simp only; omega }
        { have := h6.lt c hc; omega }
        { have := h7.lt c hc; omega }
      clear hfA HF HPos hAE HA0 HA2 hg60
      go_wp2_with fail
      go_region_held3 (fun w' => w'.cell? ⟨w.heap.size, 0, none⟩ = some (.slice a n c) ∧ w'.cell? ⟨w.heap.size, 1, none⟩ = some (.int .i64 fuel)) (first | exact ⟨by assumption, by assumption⟩ | (refine keepBox ?_ lt0b x0 x1; (repeat (first | exact hW | exact Below.refl _ _ | refine Below.drew ?_ | refine Below.alloc ?_ (by have := hW.size; simp <;> omega) _)); done) | go_keep)
        ((first
          | (go_at_call 134; refine (erasesI_from 1 _ (by decide)).mono ?_; rintro e w5 ⟨bb5, cl5, rfl, hc5, hl5, hb5⟩; have hc45 : Below w4.heap.size w4 w5 := (by first | exact hb5 | exact Below.trans ((Below.refl _ w4).drew) hb5 | exact Below.trans ((Below.refl _ w4).alloc (Nat.le_refl _) _) (hb5.mono (by simp)) | exact Below.trans (((Below.refl _ w4).alloc (Nat.le_refl _) _).drew) (hb5.mono (by simp))); replace hW : Below w4.heap.size w4 w5 := hc45; (try (have p5 : w5.cell? ⟨w4.heap.size, 0, none⟩ = some (.int .i64 (g + 1)) := isInts_below_one (w := w4.alloc (.cells #[.int .i64 (g + 1)] 3)) (cell_last rfl rfl) (by first | exact hb5 | exact Below.trans (Below.refl _ _).drew hb5))); have z0 : w5.cell? ⟨w.heap.size, 0, none⟩ = some (.slice a n c) := (by rw [hW.cell lt0b]; exact x0); have z1 : w5.cell? ⟨w.heap.size, 1, none⟩ = some (.int .i64 fuel) := (by rw [hW.cell lt0b]; exact x1); have nnw5 := World.new_ne w5 ⟨w.heap.size, 0, none⟩ z0)
          | (go_at_call_of 179 (Value.slice aL xs.length cL); refine (programsI_from 33 aL xs.length cL xs _ ?_ rfl hxpos hx100 (by decide)).mono ?_; (first | exact hiL.below hW | exact (hiL.below hW).alloc _); rintro e w6 ⟨bb6, cl6, cs6, rfl, hc6, hl6, hpl6, hb6, hmk6⟩; have hc56 : Below w5.heap.size w5 w6 := (by first | exact hb6 | exact Below.trans ((Below.refl _ w5).drew) hb6 | exact Below.trans ((Below.refl _ w5).alloc (Nat.le_refl _) _) (hb6.mono (by simp)) | exact Below.trans (((Below.refl _ w5).alloc (Nat.le_refl _) _).drew) (hb6.mono (by simp))); replace hW : Below w4.heap.size w4 w6 := hW.trans (hc56.mono hW.size); (try (have p5 := isInts_below_one p5 hc56)); (try (have p6 : w6.cell? ⟨w5.heap.size, 0, none⟩ = some (.int .i64 (g + 1)) := isInts_below_one (w := w5.alloc (.cells #[.int .i64 (g + 1)] 3)) (cell_last rfl rfl) hb6)); have z0 : w6.cell? ⟨w.heap.size, 0, none⟩ = some (.slice a n c) := (by rw [hW.cell lt0b]; exact x0); have z1 : w6.cell? ⟨w.heap.size, 1, none⟩ = some (.int .i64 fuel) := (by rw [hW.cell lt0b]; exact x1); have nnw6 := World.new_ne w6 ⟨w.heap.size, 0, none⟩ z0)
          | (go_at_call 179; refine (programsI_from 32 _ 1 1 [g + 1] _ (isInts_one ?_) rfl one_pos one_100 (by decide)).mono ?_; (first | exact p6 | exact p5 | exact cell_last rfl rfl); rintro e w7 ⟨bb7, cl7, cs7, rfl, hc7, hl7, hpl7, hb7, hmk7⟩; have hc67 : Below w6.heap.size w6 w7 := (by first | exact hb7 | exact Below.trans ((Below.refl _ w6).drew) hb7 | exact Below.trans ((Below.refl _ w6).alloc (Nat.le_refl _) _) (hb7.mono (by simp)) | exact Below.trans (((Below.refl _ w6).alloc (Nat.le_refl _) _).drew) (hb7.mono (by simp))); replace hW : Below w4.heap.size w4 w7 := hW.trans (hc67.mono hW.size); have z0 : w7.cell? ⟨w.heap.size, 0, none⟩ = some (.slice a n c) := (by rw [hW.cell lt0b]; exact x0); have z1 : w7.cell? ⟨w.heap.size, 1, none⟩ = some (.int .i64 fuel) := (by rw [hW.cell lt0b]; exact x1); have nnw7 := World.new_ne w7 ⟨w.heap.size, 0, none⟩ z0)
          | (go_at_call 182; refine (concat_any _ 3 _ [eraL 1 32, cs6, cs7] _ (isChgL3 (cell_last rfl rfl) (cell_last rfl rfl) (cell_last rfl rfl) (((hl5.below hc56).below hc67).below ((Below.refl _ _).alloc (Nat.le_refl _) _)) ((hl6.below hc67).below ((Below.refl _ _).alloc (Nat.le_refl _) _)) (hl7.below ((Below.refl _ _).alloc (Nat.le_refl _) _)) (eraL_length _ _) hpl6.1 hpl7.1 (by decide) hxpos (by decide)) rfl (by decide) (by rw [(HIn2.out cs6 cs7 hpl6 hpl7).1]; omega) (by rw [(HIn2.out cs6 cs7 hpl6 hpl7).1]; omega)).mono ?_; rintro e w8 ⟨a8, c8, rfl, hc8, hl8, hb8⟩; have hc78 : Below w7.heap.size w7 w8 := (by first | exact hb8 | exact Below.trans ((Below.refl _ w7).drew) hb8 | exact Below.trans ((Below.refl _ w7).alloc (Nat.le_refl _) _) (hb8.mono (by simp)) | exact Below.trans (((Below.refl _ w7).alloc (Nat.le_refl _) _).drew) (hb8.mono (by simp))); replace hW : Below w4.heap.size w4 w8 := hW.trans (hc78.mono hW.size); have z0 : w8.cell? ⟨w.heap.size, 0, none⟩ = some (.slice a n c) := (by rw [hW.cell lt0b]; exact x0); have z1 : w8.cell? ⟨w.heap.size, 1, none⟩ = some (.int .i64 fuel) := (by rw [hW.cell lt0b]; exact x1); have nnw8 := World.new_ne w8 ⟨w.heap.size, 0, none⟩ z0)
          | (go_at_call 133; refine (unhide HCh _ _ _ _ _ (i0.below hW) hl8 rfl hc8 (by rw [(HIn2.out cs6 cs7 hpl6 hpl7).1]; omega) (HIn2.out cs6 cs7 hpl6 hpl7).2).mono ?_; rintro e w9 ⟨⟨a9, n9, c9, rfl, hi9, hn9, hc9, hf9⟩, hb9⟩; have hf9' : FreshA w4.heap.size a9 := FreshA.mono hf9 hW.size; replace hW : Below w4.heap.size w4 w9 := hW.trans (hb9.mono hW.size); have z0 : w9.cell? ⟨w.heap.size, 0, none⟩ = some (.slice a n c) := (by rw [hW.cell lt0b]; exact x0); have z1 : w9.cell? ⟨w.heap.size, 1, none⟩ = some (.int .i64 fuel) := (by rw [hW.cell lt0b]; exact x1); have nnw9 := World.new_ne w9 ⟨w.heap.size, 0, none⟩ z0; have q0 := blk_cell (blk_below B2.out hW) 0 _ rfl; have q1 := blk_cell (blk_below B2.out hW) 1 _ rfl; have q2 := blk_free (blk_below B2.out hW) 0; have q3 := blk_free (blk_below B2.out hW) 1)))
      all_goals
        have HKey := HK2.out cs6 cs7 hpl6 hpl7
        go_wp2
        refine bodyPost_ret (v := .tuple #[.agg #[.slice a9 n9 c9, .int .i64 (chgS ws fuel (flL [eraL 1 32, cs6, cs7])).2.1], .int .i64 (chgS ws fuel (flL [eraL 1 32, cs6, cs7])).2.2]) (by simp [results, Tryz.results137, go_sem, q0, q1]) rfl ?_
        rw [← HKey]
        have hw9 := hw.trans ((hbe.trans (hW.mono hbe.size)).mono hw.size)
        exact ⟨⟨a9, n9, c9, rfl, (hi9.other hf9' lt1b 0 _).other hf9' lt1b 1 _, hn9, hc9, FreshA.mono hf9' (Nat.le_trans hw.size hbe.size)⟩, (hw9.setCell (by simp) _).setCell (by simp) _⟩
      }
      {
      have hz00 : True := trivial
      have hAE := HA0.out (.inr hg60)
      have HK2 : Hid (∀ cs6 cs7, ProL 1 xs xs.length cs6 → ProL 0 [g + 1] 1 cs7 → chgS ws fuel (flL [eraL 0 32, cs6, cs7]) = appS ws fuel r keep) := fun cs6 cs7 h6 h7 => by
        rw [app_chg hAE]
        unfold appC appSteps
        rw [if_neg (by simp [hfA]), HLA.out, ← HSx.out.1, ← HSx.out.2.2]
        refine chgS_key ?_ ws fuel
        rw [flL3, List.map_append, List.map_append, pro_key h6 rfl, pro_key h7 rfl]
        simp [stC]
      have HIn2 : Hid (∀ cs6 cs7, ProL 1 xs xs.length cs6 → ProL 0 [g + 1] 1 cs7 → (flL [eraL 0 32, cs6, cs7]).length = 32 + xs.length + 1 ∧ ∀ c ∈ flL [eraL 0 32, cs6, cs7], c.1 < n) := fun cs6 cs7 h6 h7 => by
        rw [flL3]
        refine ⟨by simp [eraL_length, h6.1, h7.1]; omega, fun c hc => ?_⟩
        simp only [List.mem_append] at hc
        rcases hc with (hc | hc) | hc
        { simp only [eraL, List.mem_map, List.mem_range] at hc; obtain ⟨i, hi, rfl⟩ := hc; simp only; omega }
        { have := h6.lt c hc; omega }
        { have := h7.lt c hc; omega }
      clear hfA HF HPos hAE HA0 HA2 hg60
      go_wp2_with fail
      go_region_held3 (fun w' => w'.cell? ⟨w.heap.size, 0, none⟩ = some (.slice a n c) ∧ w'.cell? ⟨w.heap.size, 1, none⟩ = some (.int .i64 fuel)) (first | exact ⟨by assumption, by assumption⟩ | (refine keepBox ?_ lt0b x0 x1; (repeat (first | exact hW | exact Below.refl _ _ | refine Below.drew ?_ | refine Below.alloc ?_ (by have := hW.size; simp <;> omega) _)); done) | go_keep)
        ((first
          | (go_at_call 134; refine (erasesI_from 0 _ (by decide)).mono ?_; rintro e w5 ⟨bb5, cl5, rfl, hc5, hl5, hb5⟩; have hc45 : Below w4.heap.size w4 w5 := (by first | exact hb5 | exact Below.trans ((Below.refl _ w4).drew) hb5 | exact Below.trans ((Below.refl _ w4).alloc (Nat.le_refl _) _) (hb5.mono (by simp)) | exact Below.trans (((Below.refl _ w4).alloc (Nat.le_refl _) _).drew) (hb5.mono (by simp))); replace hW : Below w4.heap.size w4 w5 := hc45; (try (have p5 : w5.cell? ⟨w4.heap.size, 0, none⟩ = some (.int .i64 (g + 1)) := isInts_below_one (w := w4.alloc (.cells #[.int .i64 (g + 1)] 3)) (cell_last rfl rfl) (by first | exact hb5 | exact Below.trans (Below.refl _ _).drew hb5))); have z0 : w5.cell? ⟨w.heap.size, 0, none⟩ = some (.slice a n c) := (by rw [hW.cell lt0b]; exact x0); have z1 : w5.cell? ⟨w.heap.size, 1, none⟩ = some (.int .i64 fuel) := (by rw [hW.cell lt0b]; exact x1); have nnw5 := World.new_ne w5 ⟨w.heap.size, 0, none⟩ z0)
          | (go_at_call_of 179 (Value.slice aL xs.length cL); refine (programsI_from 1 aL xs.length cL xs _ ?_ rfl hxpos hx100 (by decide)).mono ?_; (first | exact hiL.below hW | exact (hiL.below hW).alloc _); rintro e w6 ⟨bb6, cl6, cs6, rfl, hc6, hl6, hpl6, hb6, hmk6⟩; have hc56 : Below w5.heap.size w5 w6 := (by first | exact hb6 | exact Below.trans ((Below.refl _ w5).drew) hb6 | exact Below.trans ((Below.refl _ w5).alloc (Nat.le_refl _) _) (hb6.mono (by simp)) | exact Below.trans (((Below.refl _ w5).alloc (Nat.le_refl _) _).drew) (hb6.mono (by simp))); replace hW : Below w4.heap.size w4 w6 := hW.trans (hc56.mono hW.size); (try (have p5 := isInts_below_one p5 hc56)); (try (have p6 : w6.cell? ⟨w5.heap.size, 0, none⟩ = some (.int .i64 (g + 1)) := isInts_below_one (w := w5.alloc (.cells #[.int .i64 (g + 1)] 3)) (cell_last rfl rfl) hb6)); have z0 : w6.cell? ⟨w.heap.size, 0, none⟩ = some (.slice a n c) := (by rw [hW.cell lt0b]; exact x0); have z1 : w6.cell? ⟨w.heap.size, 1, none⟩ = some (.int .i64 fuel) := (by rw [hW.cell lt0b]; exact x1); have nnw6 := World.new_ne w6 ⟨w.heap.size, 0, none⟩ z0)
          | (go_at_call 179; refine (programsI_from 0 _ 1 1 [g + 1] _ (isInts_one ?_) rfl one_pos one_100 (by decide)).mono ?_; (first | exact p6 | exact p5 | exact cell_last rfl rfl); rintro e w7 ⟨bb7, cl7, cs7, rfl, hc7, hl7, hpl7, hb7, hmk7⟩; have hc67 : Below w6.heap.size w6 w7 := (by first | exact hb7 | exact Below.trans ((Below.refl _ w6).drew) hb7 | exact Below.trans ((Below.refl _ w6).alloc (Nat.le_refl _) _) (hb7.mono (by simp)) | exact Below.trans (((Below.refl _ w6).alloc (Nat.le_refl _) _).drew) (hb7.mono (by simp))); replace hW : Below w4.heap.size w4 w7 := hW.trans (hc67.mono hW.size); have z0 : w7.cell? ⟨w.heap.size, 0, none⟩ = some (.slice a n c) := (by rw [hW.cell lt0b]; exact x0); have z1 : w7.cell? ⟨w.heap.size, 1, none⟩ = some (.int .i64 fuel) := (by rw [hW.cell lt0b]; exact x1); have nnw7 := World.new_ne w7 ⟨w.heap.size, 0, none⟩ z0)
          | (go_at_call 182; refine (concat_any _ 3 _ [eraL 0 32, cs6, cs7] _ (isChgL3 (cell_last rfl rfl) (cell_last rfl rfl) (cell_last rfl rfl) (((hl5.below hc56).below hc67).below ((Below.refl _ _).alloc (Nat.le_refl _) _)) ((hl6.below hc67).below ((Below.refl _ _).alloc (Nat.le_refl _) _)) (hl7.below ((Below.refl _ _).alloc (Nat.le_refl _) _)) (eraL_length _ _) hpl6.1 hpl7.1 (by decide) hxpos (by decide)) rfl (by decide) (by rw [(HIn2.out cs6 cs7 hpl6 hpl7).1]; omega) (by rw [(HIn2.out cs6 cs7 hpl6 hpl7).1]; omega)).mono ?_; rintro e w8 ⟨a8, c8, rfl, hc8, hl8, hb8⟩; have hc78 : Below w7.heap.size w7 w8 := (by first | exact hb8 | exact Below.trans ((Below.refl _ w7).drew) hb8 | exact Below.trans ((Below.refl _ w7).alloc (Nat.le_refl _) _) (hb8.mono (by simp)) | exact Below.trans (((Below.refl _ w7).alloc (Nat.le_refl _) _).drew) (hb8.mono (by simp))); replace hW : Below w4.heap.size w4 w8 := hW.trans (hc78.mono hW.size); have z0 : w8.cell? ⟨w.heap.size, 0, none⟩ = some (.slice a n c) := (by rw [hW.cell lt0b]; exact x0); have z1 : w8.cell? ⟨w.heap.size, 1, none⟩ = some (.int .i64 fuel) := (by rw [hW.cell lt0b]; exact x1); have nnw8 := World.new_ne w8 ⟨w.heap.size, 0, none⟩ z0)
          | (go_at_call 133; refine (unhide HCh _ _ _ _ _ (i0.below hW) hl8 rfl hc8 (by rw [(HIn2.out cs6 cs7 hpl6 hpl7).1]; omega) (HIn2.out cs6 cs7 hpl6 hpl7).2).mono ?_; rintro e w9 ⟨⟨a9, n9, c9, rfl, hi9, hn9, hc9, hf9⟩, hb9⟩; have hf9' : FreshA w4.heap.size a9 := FreshA.mono hf9 hW.size; replace hW : Below w4.heap.size w4 w9 := hW.trans (hb9.mono hW.size); have z0 : w9.cell? ⟨w.heap.size, 0, none⟩ = some (.slice a n c) := (by rw [hW.cell lt0b]; exact x0); have z1 : w9.cell? ⟨w.heap.size, 1, none⟩ = some (.int .i64 fuel) := (by rw [hW.cell lt0b]; exact x1); have nnw9 := World.new_ne w9 ⟨w.heap.size, 0, none⟩ z0; have q0 := blk_cell (blk_below B2.out hW) 0 _ rfl; have q1 := blk_cell (blk_below B2.out hW) 1 _ rfl; have q2 := blk_free (blk_below B2.out hW) 0; have q3 := blk_free (blk_below B2.out hW) 1)))
      all_goals
        have HKey := HK2.out cs6 cs7 hpl6 hpl7
        go_wp2
        refine bodyPost_ret (v := .tuple #[.agg #[.slice a9 n9 c9, .int .i64 (chgS ws fuel (flL [eraL 0 32, cs6, cs7])).2.1], .int .i64 (chgS ws fuel (flL [eraL 0 32, cs6, cs7])).2.2]) (by simp [results, Tryz.results137, go_sem, q0, q1]) rfl ?_
        rw [← HKey]
        have hw9 := hw.trans ((hbe.trans (hW.mono hbe.size)).mono hw.size)
        exact ⟨⟨a9, n9, c9, rfl, (hi9.other hf9' lt1b 0 _).other hf9' lt1b 1 _, hn9, hc9, FreshA.mono hf9' (Nat.le_trans hw.size hbe.size)⟩, (hw9.setCell (by simp) _).setCell (by simp) _⟩

      }
      }
      }
    }
end Go.Proofs.YtgngpmgjoifepaaGreatDoor
