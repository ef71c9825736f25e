/- The contracts of flash.Erase and flash.Read. -/
import Derived.Test.YtanpglfpopbfkaaProg1
namespace Go.Proofs.Ytanpglfpopbfkaa
open Go.RowKit

/-- The document's Erase: the words, the fuel, the error. -/
def eraS (ws : List Int) (fuel : Int) (s : Int) : List Int × Int × Int :=
  if chk ws fuel ≠ 0 then ([], 0, chk ws fuel) else if ¬ (0 ≤ s ∧ s < (ws.length : Int) / 32) then ([], 0, 5)
  else (chg (fun _ _ => 65535) (s.toNat * 32) (cnt fuel 32) ws, burn fuel (cnt fuel 32), perr fuel 32)

set_option maxHeartbeats 1000000 in
theorem erase_any (a : Option Addr) (n c : Nat) (ws : List Int) (fuel s : Int) (w : World)
    (h : IsInts w a ws) (hn : ws.length = n) (hm : n ≤ maxLen) :
    Calls Try.prog 18 #[.agg #[.slice a n c, .int .i64 fuel], .int .i64 s] w (Answers w (eraS ws fuel s)) := by
  have HC := hide (fun W (h : IsInts W a ws) => check_any a n c ws fuel W h hn hm)
  have HN := hide hn
  clear hn
  have b0 : ((w.alloc (.cells #[.slice a n c, .int .i64 fuel] 28)).alloc (.cells #[.slice none 0 0, .int .i64 0] 28)).heap[w.heap.size]? = some (.cells #[.slice a n c, .int .i64 fuel] 28 (0, 0)) :=
    blk_alloc (heap_alloc_last _ _) _
  have b2 : ((w.alloc (.cells #[.slice a n c, .int .i64 fuel] 28)).alloc (.cells #[.slice none 0 0, .int .i64 0] 28)).heap[w.heap.size + 1]? = some (.cells #[.slice none 0 0, .int .i64 0] 28 (0, 0)) :=
    by simpa using heap_alloc_last (w.alloc _) _
  have hw : Below w.heap.size w ((w.alloc (.cells #[.slice a n c, .int .i64 fuel] 28)).alloc (.cells #[.slice none 0 0, .int .i64 0] 28)) :=
    ((Below.refl _ _).alloc (Nat.le_refl _) _).alloc (by simp) _
  have i0 := h.below hw
  have B0 := hide b0
  have B2 := hide b2
  clear b0 b2
  go_enter Try.func18, Try.ntmps18
  go_wp2_with fail
  generalize (w.alloc (.cells #[.slice a n c, .int .i64 fuel] 28)).alloc (.cells #[.slice none 0 0, .int .i64 0] 28) = W at *
  refine (unhide HC _ i0).mono ?_
  rintro e w1 ⟨rfl, hb1⟩
  replace B0 := hide (blk_below B0.out hb1)
  replace B2 := hide (blk_below B2.out hb1)
  replace i0 := i0.below hb1
  replace hw := hw.trans (hb1.mono hw.size)
  clear hb1
  have c00 := blk_cell B0.out 0 _ rfl
  have c01 := blk_cell B0.out 1 _ rfl
  have c20 := blk_cell B2.out 0 _ rfl
  have c21 := blk_cell B2.out 1 _ rfl
  have f20 := blk_free B2.out 0
  have f21 := blk_free B2.out 1
  by_cases e1 : chk ws fuel = 0
  rotate_left
  · have e1' : (chk ws fuel != 0) = true := by simpa using e1
    have hr : Hid (eraS ws fuel s = ([], 0, chk ws fuel)) := by show _ = _; unfold eraS; rw [if_pos e1]
    go_wp2
    refine bodyPost_ret (v := .tuple #[.agg #[.slice none 0 0, .int .i64 0], .int .i64 (chk ws fuel)]) (by simp [results, Try.results18, go_sem, c20, c21]) rfl ?_
    exact answers_err hr.out ((hw.setCell (by simp) _).setCell (by simp) _)
  have e1' : (chk ws fuel != 0) = false := by simpa using e1
  have E1 := hide e1
  clear e1
  have parts := chk_parts E1.out
  rw [HN.out] at parts
  by_cases s0 : s < 0
  · have hr : Hid (eraS ws fuel s = ([], 0, 5)) := by show _ = _; unfold eraS; rw [if_neg (by simpa using E1.out), if_pos (by omega)]
    go_wp2
    refine bodyPost_ret (v := .tuple #[.agg #[.slice none 0 0, .int .i64 0], .int .i64 5]) (by simp [results, Try.results18, go_sem, c20, c21]) rfl ?_
    exact answers_err hr.out ((hw.setCell (by simp) _).setCell (by simp) _)
  by_cases s1 : s < (n : Int) / 32
  rotate_left
  · have hr : Hid (eraS ws fuel s = ([], 0, 5)) := by show _ = _; unfold eraS; rw [if_neg (by simpa using E1.out), HN.out, if_pos (by omega)]
    go_wp2
    refine bodyPost_ret (v := .tuple #[.agg #[.slice none 0 0, .int .i64 0], .int .i64 5]) (by simp [results, Try.results18, go_sem, c20, c21]) rfl ?_
    exact answers_err hr.out ((hw.setCell (by simp) _).setCell (by simp) _)
  have hr : Hid (eraS ws fuel s = (chg (fun _ _ => 65535) (s.toNat * 32) (cnt fuel 32) ws, burn fuel (cnt fuel 32), perr fuel 32)) := by
    show _ = _; unfold eraS; rw [if_neg (by simpa using E1.out), HN.out, if_neg (by omega)]
  obtain ⟨k, rfl⟩ := Int.eq_ofNat_of_zero_le (show 0 ≤ s by omega)
  have s1' : decide ((n : Int) / 32 ≤ (k : Int)) = false := by simp; omega
  go_wp2_with fail
  refine (twin_any a n c ws fuel _ i0 HN.out (by omega)).mono ?_
  rintro e w4 ⟨g, hg, rfl, ho, hb4⟩
  have lt2 := blk_lt B2.out
  have lg := ho.lt
  have hb5 : Below w1.heap.size w1 (w4.alloc (.cells #[.slice (some ⟨g, 0, none⟩) n n, .int .i64 fuel] 28)) := hb4.alloc hb4.size _
  have hbox : Box (w4.alloc (.cells #[.slice (some ⟨g, 0, none⟩) n n, .int .i64 fuel] 28)) w4.heap.size g n fuel := heap_alloc_last _ _
  have hown : OwnInts (w4.alloc (.cells #[.slice (some ⟨g, 0, none⟩) n n, .int .i64 fuel] 28)) g ws := blk_alloc ho _
  clear c00 c01 c20 c21 f20 f21
  go_wp2_with fail
  generalize w4.alloc (.cells #[.slice (some ⟨g, 0, none⟩) n n, .int .i64 fuel] 28) = w5 at *
  have hcc := change_any 55 #[] (fun _ _ => 65535) w1.heap.size w4.heap.size g n (k * 32) 32 fuel ws w5 (.inl ⟨rfl, rfl⟩) hbox hown HN.out (by omega) (by omega) (by omega) hb4.size hg (by omega) (by omega) (fun i old w6 _ _ => eraseFn_any i old w6)
  rw [show ((k * 32 : Nat) : Int) = (k : Int) * 32 from by omega] at hcc
  refine Calls.mono hcc ?_
  clear hcc
  rintro e w6 ⟨rfl, hbox6, hown6, hb6⟩
  have h6 : Below w1.heap.size w1 w6 := hb5.trans hb6
  have D3 := hide (blk_below B2.out h6)
  have x0 := hbox6.cell0
  have x1 := hbox6.cell1
  have c20 := blk_cell D3.out 0 _ rfl
  have c21 := blk_cell D3.out 1 _ rfl
  have f20 := blk_free D3.out 0
  have f21 := blk_free D3.out 1
  have hw6 : Below w.heap.size w w6 := hw.trans (h6.mono hw.size)
  have hne : g ≠ w.heap.size + 1 := by omega
  clear hbox hown hb4 hb5 hb6
  go_wp2
  refine bodyPost_ret (v := .tuple #[.agg #[.slice (some ⟨g, 0, none⟩) n n, .int .i64 (burn fuel (cnt fuel 32))], .int .i64 (perr fuel 32)]) (by simp [results, Try.results18, go_sem, c20, c21]) rfl ?_
  refine ⟨⟨some ⟨g, 0, none⟩, n, n, by rw [hr.out], ?_, by rw [hr.out, chg_length, HN.out], Nat.le_refl _, FreshA.here (by have := hw.size; omega) 0⟩, (hw6.setCell (by simp) _).setCell (by simp) _⟩
  rw [hr.out, Int.toNat_natCast]
  exact ((hown6.other _ 0 _ hne).other _ 1 _ hne).isInts

end Go.Proofs.Ytanpglfpopbfkaa
