/- The contract of wainwrightlaw.burnt (the closed fact: it answers true). -/
import Derived.Test.YtanpglfpopbfkaaNew
import Derived.Test.YtanpglfpopbfkaaBurnt0
namespace Go.Proofs.Ytanpglfpopbfkaa
open Go.RowKit

def burntW : List Int := [65535, 65535, 65535, 65535, 7, 8] ++ List.replicate 26 65535
theorem burnt_prog : progS (List.replicate 32 65535) 2 4 [7, 8, 9] = (burntW, 0, 7) := by decide +kernel
theorem burnt_read : readS burntW 0 4 3 = ([7, 8, 65535], 0) := by decide +kernel

set_option maxHeartbeats 400000 in
theorem burnt_any (w : World) : Calls Try.prog 22 #[] w fun e w' => e = .returned (.bool true) ∧ Below w.heap.size w w' := by
  go_enter Try.func22, Try.ntmps22
  go_wp2_with fail
  refine (new_any 1 _).mono ?_
  intro e w1 hA
  obtain ⟨a, n, c, rfl, hi, hn, hc, -, hb⟩ := hA.opened (show newS 1 = (List.replicate 32 65535, -1, 0) from rfl)
  clear hA
  obtain rfl : 32 = n := hn
  have hw : Below w.heap.size w ((w1.alloc (.cells #[.slice a 32 c, .int .i64 2] 28)).alloc (.cells #[.int .i64 7, .int .i64 8, .int .i64 9] 3)) :=
    (hb.alloc hb.size _).alloc (by have := hb.size; simp; omega) _
  have D0 := hide (blk_alloc (heap_alloc_last w1 (.cells #[.slice a 32 c, .int .i64 2] 28)) (.cells #[.int .i64 7, .int .i64 8, .int .i64 9] 3))
  have i1 := (hi.alloc (.cells #[.slice a 32 c, .int .i64 2] 28)).alloc (.cells #[.int .i64 7, .int .i64 8, .int .i64 9] 3)
  have i2 := isInts_at (w1.alloc (.cells #[.slice a 32 c, .int .i64 2] 28)) (w1.heap.size + 1) [7, 8, 9] #[.int .i64 7, .int .i64 8, .int .i64 9] 3 (by simp) rfl
  go_wp2_with fail
  generalize (w1.alloc (.cells #[.slice a 32 c, .int .i64 2] 28)).alloc (.cells #[.int .i64 7, .int .i64 8, .int .i64 9] 3) = W1 at *
  refine (program_any a 32 c _ 2 4 _ 3 3 _ W1 i1 rfl (by decide) i2 rfl (by decide) (by decide)).mono ?_
  intro e w2 hA
  obtain ⟨a2, n2, c2, rfl, hi2, hn2, hc2, hf2, hb2⟩ := hA.opened burnt_prog
  clear hA
  obtain rfl : 32 = n2 := hn2
  have D1 := hide (blk_below D0.out hb2)
  have x0 := blk_cell D1.out 0 _ rfl
  have x1 := blk_cell D1.out 1 _ rfl
  have f0 := blk_free D1.out 0
  have f1 := blk_free D1.out 1
  have hw2 := hw.trans (hb2.mono hw.size)
  have lt := blk_lt D1.out
  have lt0 := blk_lt D0.out
  have i3 := (hi2.other hf2 lt0 0 (.slice a2 32 c2)).other hf2 lt0 1 (.int .i64 0)
  have hw3 := (hw2.setCell (p := ⟨w1.heap.size, 0, none⟩) hb.size (.slice a2 32 c2)).setCell (p := ⟨w1.heap.size, 1, none⟩) hb.size (.int .i64 0)
  have D2 : Hid (((w2.setCell ⟨w1.heap.size, 0, none⟩ (.slice a2 32 c2)).setCell ⟨w1.heap.size, 1, none⟩ (.int .i64 0)).heap[w1.heap.size]? = some (.cells #[.slice a2 32 c2, .int .i64 0] 28 (0, 0))) := by
    show _ = _
    have := D1.out
    simp only [World.setCell, Array.getElem?_modify]
    simp [this]
  go_wp2_with fail
  generalize (w2.setCell ⟨w1.heap.size, 0, none⟩ (.slice a2 32 c2)).setCell ⟨w1.heap.size, 1, none⟩ (.int .i64 0) = w3 at *
  refine (read_any a2 32 c2 _ 0 4 3 w3 i3 rfl (by decide) hc2 (by decide) (by decide)).mono ?_
  intro e w4 hA
  obtain ⟨a4, n4, c4, rfl, hi4, hn4, hc4, hf4, hb4⟩ := hA.opened burnt_read
  clear hA
  obtain rfl : 3 = n4 := hn4
  have D3 := hide (blk_below D2.out hb4)
  have y0 := blk_cell D3.out 0 _ rfl
  have y1 := blk_cell D3.out 1 _ rfl
  have hw4 := hw3.trans (hb4.mono hw3.size)
  go_wp2_with fail
  refine (equal_at a4 _ 3 3 c4 3 [7, 8, 65535] [7, 8, 65535] true _ (hi4.alloc _) (isInts_at _ _ _ _ _ rfl rfl) rfl rfl (by decide) (by decide) (by decide)).mono ?_
  rintro e w5 ⟨rfl, m, rfl⟩
  go_wp2
  go_ret
  exact ⟨rfl, below_drewN (hw4.alloc hw4.size _) m⟩

end Go.Proofs.Ytanpglfpopbfkaa
