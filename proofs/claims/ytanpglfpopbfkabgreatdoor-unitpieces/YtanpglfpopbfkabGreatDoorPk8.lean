/- The contract of log.inTurn. -/
import Derived.Test.YtanpglfpopbfkabGreatDoorPk7
namespace Go.Proofs.YtanpglfpopbfkabGreatDoor
open Go.RowKit
attribute [local go_sem ↓] Go.wp_at_zero Go.wp_at_succ

/-- The variable (block B) of the flash so far, the k-th step to come. -/
def TurnSt (w : World) (B n k : Nat) (ws : List Int) (f : Int) (wr : World) : Prop :=
  ∃ a c, wr.heap[B]? = some (.cells #[.slice a n c, .int .i64 f] 48 (0, 0)) ∧ IsInts wr a ws ∧ ws.length = n ∧ (k = 0 ∨ (FreshA (w.heap.size + 2) a ∧ n ≤ c))

set_option maxRecDepth 100000 in
set_option maxHeartbeats 2000000 in
theorem inTurn_any (a : Option Addr) (n c : Nat) (ws : List Int) (fuel : Int) (al : Option Addr) (L cl : Nat) (sts : List Stp) (w : World) (h : IsInts w a ws) (hn : ws.length = n) (hm : n ≤ maxLen) (hst : IsSteps w al sts) (hL : sts.length = L) (hL1 : 1 ≤ L) (hL2 : L ≤ 100) :
    Calls Tryz.prog 131 #[.agg #[.slice a n c, .int .i64 fuel], .slice al L cl] w (Answers w (turnS sts ws fuel)) := by
  have hw : Below w.heap.size w ((w.alloc (.cells #[.slice a n c, .int .i64 fuel] 48)).alloc (.cells #[.slice none 0 0, .int .i64 0] 48)) :=
    ((Below.refl _ _).alloc (Nat.le_refl _) _).alloc (by simp) _
  have b0 := blk_alloc (heap_alloc_last w (.cells #[.slice a n c, .int .i64 fuel] 48)) (.cells #[.slice none 0 0, .int .i64 0] 48)
  have b1 : ((w.alloc (.cells #[.slice a n c, .int .i64 fuel] 48)).alloc (.cells #[.slice none 0 0, .int .i64 0] 48)).heap[w.heap.size + 1]? = some (.cells #[.slice none 0 0, .int .i64 0] 48 (0, 0)) :=
    by simpa using heap_alloc_last (w.alloc _) _
  have hstart : TurnSt w w.heap.size n 0 ws fuel ((w.alloc (.cells #[.slice a n c, .int .i64 fuel] 48)).alloc (.cells #[.slice none 0 0, .int .i64 0] 48)) := ⟨a, c, b0, h.below hw, hn, .inl rfl⟩
  have B1 := hide b1
  have HL := hide hL
  clear hL b0 b1 hn h
  obtain ⟨bs, rfl, hsteps⟩ := hst
  have HS := hide hsteps
  clear hsteps
  go_enter Tryz.func131, Tryz.ntmps131
  go_wp2
  generalize (w.alloc (.cells #[.slice a n c, .int .i64 fuel] 48)).alloc (.cells #[.slice none 0 0, .int .i64 0] 48) = W at *
  go_loopw [11] (fun i wr => ∃ (k : Nat) (us : List Int) (f : Int), k ≤ L ∧ i = .int .i64 k ∧ TurnSt w w.heap.size n k us f wr ∧ Hid (wr.heap[w.heap.size + 1]? = some (.cells #[.slice none 0 0, .int .i64 0] 48 (0, 0))) ∧ Below w.heap.size w wr ∧ Hid (turnS sts ws fuel = turnS (sts.drop k) us f)) (fun i _ => L - (intOf i).toNat)
  case atStart => exact ⟨0, ws, fuel, Nat.zero_le _, rfl, hstart, B1, hw, by show _ = _; rw [List.drop_zero]⟩
  case round =>
    obtain ⟨k, us, f, hk, rfl, ⟨a1, c1, hbox, hi, hlen, hfr⟩, hz, hbe, hl⟩ := hrel
    have x0 := blk_cell hbox 0 _ rfl
    have x1 := blk_cell hbox 1 _ rfl
    have HBox := hide hbox
    have HLen := hide hlen
    clear hbox hlen
    by_cases hlt : k < L
    · have hkl : k < sts.length := by rw [HL.out]; exact hlt
      obtain ⟨v, hv, hsv⟩ := HS.out k sts[k] (List.getElem?_eq_getElem hkl)
      have hd : Hid (sts.drop k = sts[k] :: sts.drop (k + 1)) := List.drop_eq_getElem_cons hkl
      have hv' : wr.cell? ⟨bs, k, none⟩ = some v := by rw [hbe.cell (cell_lt hv)]; exact hv
      replace hsv := hsv.below hbe
      obtain ⟨st, hst⟩ : ∃ st, st = sts[k] := ⟨_, rfl⟩
      rw [← hst] at hsv hd
      clear hst hv
      have HC : Hid (∃ fn caps, v = .func (.func fn) #[] caps ∧ (fn = 168 ∧ (∃ p, caps = #[p]) ∨ fn = 170 ∧ ∃ p q, caps = #[p, q]) ∧ Calls Tryz.prog fn (#[.agg #[.slice a1 n c1, .int .i64 f]] ++ caps) wr (Answers wr (doS st us f))) := by
        cases st with
        | inl s =>
          obtain ⟨b, h1, h2, h3⟩ := hsv
          exact ⟨_, _, h1, .inl ⟨rfl, _, rfl⟩, eraStep_any b s a1 n c1 us f wr h2 hi HLen.out hm⟩
        | inr q =>
          obtain ⟨p, words⟩ := q
          obtain ⟨p1, p2, a2, n2, c2, h1, h2, h3, h4, h5, h6, h7⟩ := hsv
          exact ⟨_, _, h1, .inr ⟨rfl, _, _, rfl⟩, prgStep_any p1 p2 p a2 n2 c2 words a1 n c1 us f wr h2 h3 h4 h5 h6 h7 hi HLen.out hm⟩
      obtain ⟨fn, caps, rfl, hcaps, hcall⟩ := HC.out
      have HCall := hide hcall
      clear HC hcall hsv
      have lt0 := blk_lt HBox.out
      have lt1 := blk_lt hz.out
      have z0 : (k : Int) < (L : Int) := by omega
      rcases hcaps with ⟨rfl, p, rfl⟩ | ⟨rfl, p, q, rfl⟩
      all_goals
        go_wp2_with fail
        refine (unhide HCall).mono ?_
        rintro e w1 ⟨⟨a2, n2, c2, rfl, hi2, hn2, hc2, hf2⟩, hb2⟩
        have y0 := blk_cell (blk_below HBox.out hb2) 0 _ rfl
        have y1 := blk_cell (blk_below HBox.out hb2) 1 _ rfl
        have y2 := blk_free (blk_below HBox.out hb2) 0
        have y3 := blk_free (blk_below HBox.out hb2) 1
        have u0 := blk_cell (blk_below hz.out hb2) 0 _ rfl
        have u1 := blk_cell (blk_below hz.out hb2) 1 _ rfl
        have u2 := blk_free (blk_below hz.out hb2) 0
        have u3 := blk_free (blk_below hz.out hb2) 1
        have hbe2 := hbe.trans (hb2.mono hbe.size)
        have HN2 := hide hn2
        have HI2 := hide hi2
        have HF2 := hide hf2
        clear hn2 hi2 hf2
        by_cases e1 : (doS st us f).2.2 = 0
        · have e1' : ((doS st us f).2.2 != 0) = false := by simpa using e1
          have hl2 : Hid (turnS sts ws fuel = turnS (sts.drop (k + 1)) (doS st us f).1 (doS st us f).2.1) := by show _ = _; rw [hl.out, hd.out, turnS_go e1]
          have hlen2 : Hid ((doS st us f).1.length = n) := by show _ = _; rw [doS_len e1]; exact HLen.out
          obtain rfl : n2 = n := by rw [← HN2.out, hlen2.out]
          rw [e1] at *
          clear e1
          go_wp2
          go_roundw
          case rel =>
            refine ⟨k + 1, (doS st us f).1, (doS st us f).2.1, by omega, by go_num, ⟨a2, c2, ?_, (HI2.out.other HF2.out lt0 0 _).other HF2.out lt0 1 _, hlen2.out, .inr ⟨FreshA.mono HF2.out (by omega), hc2⟩⟩, ?_, (hbe2.setCell (by simp) _).setCell (by simp) _, hl2⟩
            · have := blk_below HBox.out hb2
              simp only [World.setCell, Array.getElem?_modify]
              simp [this]
            · show _ = _
              rw [Below.heap_setCell _ _ _ _ (by simp), Below.heap_setCell _ _ _ _ (by simp)]
              exact blk_below hz.out hb2
          case measure => simp [intOf]; omega
        · have e1' : ((doS st us f).2.2 != 0) = true := by simpa using e1
          have hl2 : Hid (turnS sts ws fuel = doS st us f) := by show _ = _; rw [hl.out, hd.out, turnS_stop e1]
          clear e1
          go_wp2
          refine bodyPost_ret (v := .tuple #[.agg #[.slice a2 n2 c2, .int .i64 (doS st us f).2.1], .int .i64 (doS st us f).2.2]) (by simp [results, Tryz.results131, go_sem, u0, u1]) rfl ?_
          rw [hl2.out]
          exact ⟨⟨a2, n2, c2, rfl, (((HI2.out.other HF2.out lt0 0 _).other HF2.out lt0 1 _).other HF2.out lt1 0 _).other HF2.out lt1 1 _, HN2.out, hc2, FreshA.mono HF2.out (by omega)⟩, (((hbe2.setCell (by simp) _).setCell (by simp) _).setCell (by simp) _).setCell (by simp) _⟩
    · have hd : Hid (turnS sts ws fuel = (us, f, 0)) := by show _ = _; rw [hl.out, List.drop_eq_nil_of_le (by rw [HL.out]; omega)]; rfl
      obtain ⟨hf, hc⟩ := hfr.resolve_left (by omega)
      have HI := hide hi
      have u0 := blk_cell hz.out 0 _ rfl
      have u1 := blk_cell hz.out 1 _ rfl
      have u2 := blk_free hz.out 0
      have u3 := blk_free hz.out 1
      have z0 : ¬ (k : Int) < (L : Int) := by omega
      clear hi
      go_wp2
      refine bodyPost_ret (v := .tuple #[.agg #[.slice a1 n c1, .int .i64 f], .int .i64 0]) (by simp [results, Tryz.results131, go_sem, u0, u1]) rfl ?_
      rw [hd.out]
      exact ⟨⟨a1, n, c1, rfl, (HI.out.other hf (by omega) 0 _).other hf (by omega) 1 _, HLen.out, hc, FreshA.mono hf (by omega)⟩, (hbe.setCell (by simp) _).setCell (by simp) _⟩

end Go.Proofs.YtanpglfpopbfkabGreatDoor
