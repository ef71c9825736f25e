/- The two closures of the ref's ReadRelease: the number of a text, and 'bad'. -/
import Derived.Test.YtanpglfpopbfkabGreatDoorPm15
import Derived.Lib.ParseIntBTie
namespace Go.Proofs.YtanpglfpopbfkabGreatDoor
open Go.RowKit

theorem formatInt_any (n : Int) (hn : I64 n) (w : World) (hT : Tab w) :
    Calls Tryz.prog 52 #[.int .i64 n, .int .i64 10] w fun e w' => e = .returned (.string (bs (Lib.itoa n))) ∧ Below w.heap.size w w' := by
  refine (Tryz.strconv_FormatInt_10 n hn.1 hn.2 w hT).mono ?_
  rintro e w' ⟨rfl, k, os, rfl⟩
  exact ⟨rfl, (below_drewN (Below.refl _ _) k).trans (grow_below (w.drewN k) os : Below (w.drewN k).heap.size _ _)⟩

set_option maxHeartbeats 1600000 in
set_option maxRecDepth 100000 in
theorem refNum_any (s : ByteArray) (hs : s.size ≤ 2000) (w : World) (hV : Vars w) :
    Calls Tryz.prog 50 #[.string s] w fun e w' => e = .returned (.tuple #[.int .i64 (numV s.data.toList), .bool (numB s.data.toList)]) ∧ Below w.heap.size w w' := by
  cases h : Lib.atoiAll s.data.toList with
  | ok v =>
    have HN := hide (show numV s.data.toList = v by unfold numV; rw [h])
    have HB := hide (numB_ok h)
    have HA := hide (Tryz.strconv_ParseInt_10_at64_ok s (by omega) v (by rw [Lib.parseIntB_64]; exact h) w)
    have hv := Lib.atoiAll_bounds h
    have HI := hide (fun W (hT : Tab W) => formatInt_any v hv W hT)
    clear h
    go_enter Tryz.func50, Tryz.ntmps50
    go_wp2_with fail
    refine (unhide HA).mono ?_
    rintro e w1 ⟨rfl, hw⟩
    have hb1 : Below w.heap.size w w1 := by
      rcases hw with rfl | ⟨t, rfl⟩
      · exact Below.refl _ _
      · exact Lib.bytesWorld_below _ _ _
    clear hw
    go_wp2_with fail
    refine (unhide HI _ (hV.tab.below hb1)).mono ?_
    rintro e w2 ⟨rfl, hb2⟩
    replace hb1 := hb1.trans (hb2.mono hb1.size)
    by_cases he : Lib.itoa v = s.data.toList
    · have hq : ((bs (Lib.itoa v)).toList == s.toList) = true := (Lib.bytes_beq_iff _ _).2 (by rw [he, bs_of])
      have HE := hide (show numB s.data.toList = true by rw [HB.out]; simp [he])
      clear he
      go_wp2_with fail
      go_ret2
      exact ⟨ret_num HN.out.symm HE.out.symm, hb1⟩
    · have hq : ((bs (Lib.itoa v)).toList == s.toList) = false := (Lib.bytes_beq_false_iff _ _).2 (fun e => he (by rw [← bs_data (Lib.itoa v), e]))
      have HE := hide (show numB s.data.toList = false by rw [HB.out]; simp [he])
      clear he
      go_wp2_with fail
      go_ret2
      exact ⟨ret_num HN.out.symm HE.out.symm, hb1⟩
  | «syntax» =>
    obtain ⟨tp, p, hvar⟩ := hV.syn
    have HN := hide (show numV s.data.toList = 0 by unfold numV; rw [h])
    have HB := hide (numB_no (l := s.data.toList) (fun v => by rw [h]; simp))
    have HA := hide (Tryz.strconv_ParseInt_10_at64_syntax_var s (by omega) (by rw [Lib.parseIntB_64]; exact h) tp p w hvar)
    clear h
    go_enter Tryz.func50, Tryz.ntmps50
    go_wp2_with fail
    refine (unhide HA).mono ?_
    rintro e w1 ⟨N, rfl, _, _, hb1⟩
    go_wp2_with fail
    go_ret2
    exact ⟨ret_num HN.out.symm HB.out.symm, hb1⟩
  | range =>
    obtain ⟨tp, p, hvar⟩ := hV.rng
    have HN := hide (show numV s.data.toList = Lib.atoiSat s.data.toList by unfold numV; rw [h])
    have HB := hide (numB_no (l := s.data.toList) (fun v => by rw [h]; simp))
    have HA := hide (Tryz.strconv_ParseInt_10_at64_range_var s (by omega) (by rw [Lib.parseIntB_64]; exact h) tp p w hvar)
    rw [Lib.intSat_64] at HA
    clear h
    generalize Lib.atoiSat s.data.toList = q at *
    go_enter Tryz.func50, Tryz.ntmps50
    go_wp2_with fail
    refine (unhide HA).mono ?_
    rintro e w1 ⟨N, rfl, _, _, hb1⟩
    go_wp2_with fail
    go_ret2
    exact ⟨ret_num HN.out.symm HB.out.symm, hb1⟩

set_option maxHeartbeats 800000 in
set_option maxRecDepth 100000 in
theorem refBad_any (w : World) :
    Calls Tryz.prog 49 #[] w fun e w' => e = .returned (.tuple #[.agg #[.int .i64 0, .int .i64 0, .slice none 0 0], .int .i64 1]) ∧ Below w.heap.size w w' := by
  have hw0 : Below w.heap.size w (w.alloc (.cells #[.int .i64 0, .int .i64 0, .slice none 0 0] 27)) := (Below.refl _ _).alloc (Nat.le_refl _) _
  have b0 := hide (heap_alloc_last w (.cells #[.int .i64 0, .int .i64 0, .slice none 0 0] 27))
  have u0 := blk_free b0.out 0
  have u1 := blk_free b0.out 1
  have u2 := blk_free b0.out 2
  have c0 := blk_cell b0.out 0 _ rfl
  have c1 := blk_cell b0.out 1 _ rfl
  have c2 := blk_cell b0.out 2 _ rfl
  have hwf := ((hw0.setCell (p := ⟨w.heap.size, 0, none⟩) (Nat.le_refl _) (.int .i64 0)).setCell (p := ⟨w.heap.size, 1, none⟩) (Nat.le_refl _) (.int .i64 0)).setCell (p := ⟨w.heap.size, 2, none⟩) (Nat.le_refl _) (.slice none 0 0)
  have bf := hide (set3 b0.out (.int .i64 0) (.int .i64 0) (.slice none 0 0))
  go_enter Tryz.func49, Tryz.ntmps49
  go_wp2_with fail
  have y0 := blk_cell bf.out 0 _ rfl
  have y1 := blk_cell bf.out 1 _ rfl
  have y2 := blk_cell bf.out 2 _ rfl
  refine bodyPost_ret (v := .tuple #[.agg #[.int .i64 0, .int .i64 0, .slice none 0 0], .int .i64 1]) (by simp [results, Tryz.results49, go_sem]) rfl ⟨rfl, ?_⟩
  first
    | exact hw0
    | exact hwf

end Go.Proofs.YtanpglfpopbfkabGreatDoor
