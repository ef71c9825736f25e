/- The contract of meta.ParseRelease. -/
import Derived.Test.YtanpglfpopbfkabGreatDoorPm17
namespace Go.Proofs.YtanpglfpopbfkabGreatDoor
open Go.RowKit

/-- What is read of a text: version, until, targets, error. -/
def parseS (l : List UInt8) : Int × Int × List T3 × Int :=
  if 2000 < l.length then (0, 0, [], 2) else match readR l with
  | none => (0, 0, [], 1)
  | some (v, u, ts) => if relE v u ts = 0 then (v, u, ts, 0) else (0, 0, [], relE v u ts)

def ParseAns (r : Int × Int × List T3 × Int) (w' : World) (e : Ending) : Prop :=
  ∃ a n c, e = .returned (.tuple #[relv r.1 r.2.1 a n c, .int .i64 r.2.2.2]) ∧ IsTgts w' a r.2.2.1 ∧ r.2.2.1.length = n ∧ n ≤ maxLen

theorem parse_zero {w' : World} {q : Int} {r : Int × Int × List T3 × Int} (h : r = (0, 0, [], q)) : ParseAns r w' (.returned (.tuple #[.agg #[.int .i64 0, .int .i64 0, .slice none 0 0], .int .i64 q])) := by
  subst h
  exact ⟨none, 0, 0, rfl, .inl rfl, rfl, by decide⟩

set_option maxHeartbeats 1600000 in
set_option maxRecDepth 100000 in
theorem parseRelease_any (s : ByteArray) (hz : s.size ≤ maxLen) (w : World) (hV : Vars w) :
    Calls Tryz.prog 12 #[.string s] w fun e w' => ParseAns (parseS s.data.toList) w' e ∧ Below w.heap.size w w' := by
  unfold maxLen at hz
  have hw0 : Below w.heap.size w (w.alloc (.cells #[.int .i64 0, .int .i64 0, .slice none 0 0] 27)) := (Below.refl _ _).alloc (Nat.le_refl _) _
  have b0 := hide (heap_alloc_last w (.cells #[.int .i64 0, .int .i64 0, .slice none 0 0] 27))
  by_cases hl : 2000 < s.size
  · have HP := hide (show parseS s.data.toList = (0, 0, [], 2) by unfold parseS; rw [if_pos (by rw [size_data]; exact hl)])
    have u0 := blk_free b0.out 0
    have u1 := blk_free b0.out 1
    have u2 := blk_free b0.out 2
    have c0 := blk_cell b0.out 0 _ rfl
    have c1 := blk_cell b0.out 1 _ rfl
    have c2 := blk_cell b0.out 2 _ rfl
    go_enter Tryz.func12, Tryz.ntmps12
    go_wp2_with fail
    refine bodyPost_ret (v := .tuple #[.agg #[.int .i64 0, .int .i64 0, .slice none 0 0], .int .i64 2]) (by simp [results, Tryz.results12, go_sem]) rfl ⟨parse_zero HP.out, ?_⟩
    first
      | exact hw0
      | exact ((hw0.setCell (p := ⟨w.heap.size, 0, none⟩) (Nat.le_refl _) _).setCell (p := ⟨w.heap.size, 1, none⟩) (Nat.le_refl _) _).setCell (p := ⟨w.heap.size, 2, none⟩) (Nat.le_refl _) _
  · have HR := hide (fun X (hX : Vars X) => readRelease_any s (by omega) X hX)
    have HP := hide (show parseS s.data.toList = (if relB s.data.toList then (if relE (hv (hdP s.data.toList)) (hu (hdP s.data.toList)) (rts s.data.toList) = 0 then (hv (hdP s.data.toList), hu (hdP s.data.toList), rts s.data.toList, 0) else (0, 0, [], relE (hv (hdP s.data.toList)) (hu (hdP s.data.toList)) (rts s.data.toList))) else (0, 0, [], 1)) by
      unfold parseS
      rw [if_neg (by rw [size_data]; exact hl), readR_eq]
      cases relB s.data.toList <;> rfl)
    go_enter Tryz.func12, Tryz.ntmps12
    go_wp2_with fail
    generalize w.alloc (.cells #[.int .i64 0, .int .i64 0, .slice none 0 0] 27) = W at *
    refine (unhide HR _ (hV.below hw0)).mono ?_
    rintro e w1 ⟨⟨a, n, c, rfl, hi, hn, hm, hfr⟩, hb1⟩
    have ltR : w.heap.size < W.heap.size := blk_lt b0.out
    replace hfr : ∀ ad, a = some ad → w.heap.size < ad.block := fun ad e => Nat.lt_trans ltR (hfr ad e)
    replace b0 := hide (blk_below b0.out hb1)
    replace hw0 := hw0.trans (hb1.mono hw0.size)
    clear hb1 HR
    have HCk := hide (fun X (hX : IsTgts X a (rts s.data.toList)) => checkRelease_any (hv (hdP s.data.toList)) (hu (hdP s.data.toList)) a n c (rts s.data.toList) X hX hn hm)
    have HN := hide hn
    clear hn
    generalize hv (hdP s.data.toList) = x at *
    generalize hu (hdP s.data.toList) = y at *
    generalize rts s.data.toList = ts at *
    unfold relv at HCk ⊢
    have hw1 := hw0.alloc hw0.size (.cells #[.int .i64 x, .int .i64 y, .slice a n c] 27)
    have b1 := hide (heap_alloc_last w1 (.cells #[.int .i64 x, .int .i64 y, .slice a n c] 27))
    replace b0 := hide (blk_alloc b0.out (.cells #[.int .i64 x, .int .i64 y, .slice a n c] 27))
    replace hi := hi.alloc (.cells #[.int .i64 x, .int .i64 y, .slice a n c] 27)
    clear hw0
    go_upto_region 4 with fail
    generalize w1.alloc (.cells #[.int .i64 x, .int .i64 y, .slice a n c] 27) = w2 at *
    have u0 := blk_free b0.out 0
    have u1 := blk_free b0.out 1
    have u2 := blk_free b0.out 2
    have c0 := blk_cell b0.out 0 _ rfl
    have c1 := blk_cell b0.out 1 _ rfl
    have c2 := blk_cell b0.out 2 _ rfl
    cases hrb : relB s.data.toList
    · rw [hrb] at HP
      have HP1 := hide (show parseS s.data.toList = (0, 0, [], 1) by rw [HP.out]; rfl)
      have hwf := ((hw1.setCell (p := ⟨w.heap.size, 0, none⟩) (Nat.le_refl _) (.int .i64 0)).setCell (p := ⟨w.heap.size, 1, none⟩) (Nat.le_refl _) (.int .i64 0)).setCell (p := ⟨w.heap.size, 2, none⟩) (Nat.le_refl _) (.slice none 0 0)
      have bf := hide (set3 b0.out (.int .i64 0) (.int .i64 0) (.slice none 0 0))
      go_wp2_with fail
      generalize ((w2.setCell ⟨w.heap.size, 0, none⟩ (.int .i64 0)).setCell ⟨w.heap.size, 1, none⟩ (.int .i64 0)).setCell ⟨w.heap.size, 2, none⟩ (.slice none 0 0) = wf at *
      have y0 := blk_cell bf.out 0 _ rfl
      have y1 := blk_cell bf.out 1 _ rfl
      have y2 := blk_cell bf.out 2 _ rfl
      refine bodyPost_ret (v := .tuple #[.agg #[.int .i64 0, .int .i64 0, .slice none 0 0], .int .i64 1]) (by simp [results, Tryz.results12, go_sem, y0, y1, y2]) rfl ⟨parse_zero HP1.out, hwf⟩
    · rw [hrb] at HP
      have d0 := blk_cell b1.out 0 _ rfl
      have d1 := blk_cell b1.out 1 _ rfl
      have d2 := blk_cell b1.out 2 _ rfl
      by_cases h0 : relE x y ts = 0
      · have HP1 := hide (show parseS s.data.toList = (x, y, ts, 0) by rw [HP.out]; simp [h0])
        rw [h0] at HCk
        clear h0
        go_wp2_with fail
        refine (unhide HCk _ hi).mono ?_
        rintro e w3 ⟨rfl, hb3⟩
        clear u0 u1 u2 c0 c1 c2 d0 d1 d2
        replace b0 := hide (blk_below b0.out hb3)
        replace b1 := hide (blk_below b1.out hb3)
        replace hi := hi.below hb3
        replace hw1 := hw1.trans (hb3.mono hw1.size)
        have u0 := blk_free b0.out 0
        have u1 := blk_free b0.out 1
        have u2 := blk_free b0.out 2
        have c0 := blk_cell b0.out 0 _ rfl
        have c1 := blk_cell b0.out 1 _ rfl
        have c2 := blk_cell b0.out 2 _ rfl
        have d0 := blk_cell b1.out 0 _ rfl
        have d1 := blk_cell b1.out 1 _ rfl
        have d2 := blk_cell b1.out 2 _ rfl
        have hwf := ((hw1.setCell (p := ⟨w.heap.size, 0, none⟩) (Nat.le_refl _) (.int .i64 x)).setCell (p := ⟨w.heap.size, 1, none⟩) (Nat.le_refl _) (.int .i64 y)).setCell (p := ⟨w.heap.size, 2, none⟩) (Nat.le_refl _) (.slice a n c)
        have bf := hide (set3 b0.out (.int .i64 x) (.int .i64 y) (.slice a n c))
        have hif := ((hi.setFar hfr 0 (.int .i64 x)).setFar hfr 1 (.int .i64 y)).setFar hfr 2 (.slice a n c)
        go_wp2_with fail
        generalize ((w3.setCell ⟨w.heap.size, 0, none⟩ (.int .i64 x)).setCell ⟨w.heap.size, 1, none⟩ (.int .i64 y)).setCell ⟨w.heap.size, 2, none⟩ (.slice a n c) = wf at *
        have y0 := blk_cell bf.out 0 _ rfl
        have y1 := blk_cell bf.out 1 _ rfl
        have y2 := blk_cell bf.out 2 _ rfl
        refine bodyPost_ret (v := .tuple #[.agg #[.int .i64 x, .int .i64 y, .slice a n c], .int .i64 0]) (by simp [results, Tryz.results12, go_sem, y0, y1, y2]) rfl ⟨?_, hwf⟩
        rw [HP1.out]
        exact ⟨a, n, c, rfl, hif, HN.out, hm⟩
      · have HP1 := hide (show parseS s.data.toList = (0, 0, [], relE x y ts) by rw [HP.out]; simp [h0])
        have hb : (relE x y ts != 0) = true := by simpa using h0
        clear h0
        generalize relE x y ts = g at *
        go_wp2_with fail
        refine (unhide HCk _ hi).mono ?_
        rintro e w3 ⟨rfl, hb3⟩
        clear u0 u1 u2 c0 c1 c2 d0 d1 d2
        replace b0 := hide (blk_below b0.out hb3)
        replace hw1 := hw1.trans (hb3.mono hw1.size)
        have u0 := blk_free b0.out 0
        have u1 := blk_free b0.out 1
        have u2 := blk_free b0.out 2
        have c0 := blk_cell b0.out 0 _ rfl
        have c1 := blk_cell b0.out 1 _ rfl
        have c2 := blk_cell b0.out 2 _ rfl
        have hwf := ((hw1.setCell (p := ⟨w.heap.size, 0, none⟩) (Nat.le_refl _) (.int .i64 0)).setCell (p := ⟨w.heap.size, 1, none⟩) (Nat.le_refl _) (.int .i64 0)).setCell (p := ⟨w.heap.size, 2, none⟩) (Nat.le_refl _) (.slice none 0 0)
        have bf := hide (set3 b0.out (.int .i64 0) (.int .i64 0) (.slice none 0 0))
        go_wp2_with fail
        generalize ((w3.setCell ⟨w.heap.size, 0, none⟩ (.int .i64 0)).setCell ⟨w.heap.size, 1, none⟩ (.int .i64 0)).setCell ⟨w.heap.size, 2, none⟩ (.slice none 0 0) = wf at *
        have y0 := blk_cell bf.out 0 _ rfl
        have y1 := blk_cell bf.out 1 _ rfl
        have y2 := blk_cell bf.out 2 _ rfl
        refine bodyPost_ret (v := .tuple #[.agg #[.int .i64 0, .int .i64 0, .slice none 0 0], .int .i64 g]) (by simp [results, Tryz.results12, go_sem, y0, y1, y2]) rfl ⟨parse_zero HP1.out, hwf⟩

end Go.Proofs.YtanpglfpopbfkabGreatDoor
