/- The contract of wainwrightlaw.slotted (the closed fact: it answers true). -/
import Derived.Test.YtanpglfpopbfkaaImg
namespace Go.Proofs.Ytanpglfpopbfkaa
open Go.RowKit

theorem stored_two {w : World} {b : Nat} {v0 v1 : Value} {t : TypeId} (h : w.heap[b]? = some (.cells #[v0, v1] t (0, 0))) (u0 u1 : Value) : ((w.setCell ⟨b, 0, none⟩ u0).setCell ⟨b, 1, none⟩ u1).heap[b]? = some (.cells #[u0, u1] t (0, 0)) := by
  simp only [World.setCell, Array.getElem?_modify]
  simp [h]

theorem Shows.opened {w : World} {r : List Int × Int × Int} {e : Ending} {w' : World} {ws : List Int} {name err : Int} (h : Shows w r e w') (hr : r = (ws, name, err)) :
    ∃ a n c, e = .returned (.tuple #[.slice a n c, .int .i64 name, .int .i64 err]) ∧ IsInts w' a ws ∧ ws.length = n ∧ n ≤ c ∧ FreshA w.heap.size a ∧ Below w.heap.size w w' := by
  subst hr
  obtain ⟨⟨a, n, c, h1, h2, h3, h4, h6⟩, h5⟩ := h
  exact ⟨a, n, c, h1, h2, h3, h4, h6, h5⟩

def sw1 : List Int := List.replicate 132 65535 ++ [3, 4] ++ List.replicate 58 65535
def sw2 : List Int := List.replicate 128 65535 ++ [2, 9, 65533, 65526, 3, 4] ++ List.replicate 58 65535
theorem sl_fill : fillS (List.replicate 192 65535) (-1) 1 0 [3, 4] = (sw1, -1, 0) := by decide +kernel
theorem sl_none : imgS sw1 (-1) 1 = ([], 0, 4) := by decide +kernel
theorem sl_seal : sealS sw1 (-1) 1 2 9 = (sw2, -1, 0) := by decide +kernel
theorem sl_img : imgS sw2 (-1) 1 = ([3, 4], 9, 0) := by decide +kernel

set_option maxRecDepth 100000 in
set_option maxHeartbeats 2000000 in
theorem slotted_of (l0 l1 l2 : List Int) (hn6 : newS 6 = (l0, -1, 0)) (hfi : fillS l0 (-1) 1 0 [3, 4] = (l1, -1, 0)) (hno : imgS l1 (-1) 1 = ([], 0, 4)) (hse : sealS l1 (-1) 1 2 9 = (l2, -1, 0)) (him : imgS l2 (-1) 1 = ([3, 4], 9, 0)) (len0 : l0.length = 192) (len1 : l1.length = 192) (len2 : l2.length = 192) (w : World) :
    Calls Try.prog 48 #[] w fun e w' => e = .returned (.bool true) ∧ Below w.heap.size w w' := by
  have L0 := hide len0
  have L1 := hide len1
  have L2 := hide len2
  have N6 := hide hn6
  have FI := hide hfi
  have NO := hide hno
  have SE := hide hse
  have IM := hide him
  clear len0 len1 len2 hn6 hfi hno hse him
  go_enter Try.func48, Try.ntmps48
  go_wp2_with fail
  refine (new_any 6 _).mono ?_
  intro e w1 hA
  obtain ⟨a, n, c, rfl, hi, hn, hc, -, hb⟩ := hA.opened N6.out
  clear hA
  obtain rfl : 192 = n := L0.out.symm.trans hn
  have hw0 : Below w.heap.size w ((w1.alloc (.cells #[.slice a 192 c, .int .i64 (-1)] 28)).alloc (.cells #[.int .i64 3, .int .i64 4] 3)) := (hb.alloc hb.size _).alloc (by have := hb.size; simp; omega) _
  have D0 := hide (blk_alloc (heap_alloc_last w1 (.cells #[.slice a 192 c, .int .i64 (-1)] 28)) (.cells #[.int .i64 3, .int .i64 4] 3))
  have i1 := (hi.alloc (.cells #[.slice a 192 c, .int .i64 (-1)] 28)).alloc (.cells #[.int .i64 3, .int .i64 4] 3)
  have i2 := isInts_at (w1.alloc (.cells #[.slice a 192 c, .int .i64 (-1)] 28)) (w1.heap.size + 1) [3, 4] #[.int .i64 3, .int .i64 4] 3 (by simp) rfl
  go_wp2_with fail
  generalize (w1.alloc (.cells #[.slice a 192 c, .int .i64 (-1)] 28)).alloc (.cells #[.int .i64 3, .int .i64 4] 3) = W0 at *
  refine (fill_any a 192 c l0 (-1) 1 0 _ 2 2 [3, 4] W0 i1 L0.out (by decide) i2 rfl (by decide)).mono ?_
  intro e w2 hA
  obtain ⟨a2, n2, c2, rfl, hi2, hn2, hc2, hf2, hb2⟩ := hA.opened FI.out
  clear hA
  obtain rfl : 192 = n2 := L1.out.symm.trans hn2
  have D2 := hide (blk_below D0.out hb2)
  have x0 := blk_cell D2.out 0 _ rfl
  have x1 := blk_cell D2.out 1 _ rfl
  have f0 := blk_free D2.out 0
  have f1 := blk_free D2.out 1
  have lt0 := blk_lt D0.out
  have i3 := (hi2.other hf2 lt0 0 (.slice a2 192 c2)).other hf2 lt0 1 (.int .i64 (-1))
  have hv2 := ((hw0.trans (hb2.mono hw0.size)).setCell (p := ⟨w1.heap.size, 0, none⟩) hb.size (.slice a2 192 c2)).setCell (p := ⟨w1.heap.size, 1, none⟩) hb.size (.int .i64 (-1))
  have E2 := hide (stored_two D2.out (.slice a2 192 c2) (.int .i64 (-1)))
  clear i1 i2 hn hn2 hi hi2
  go_wp2_with fail
  generalize (w2.setCell ⟨w1.heap.size, 0, none⟩ (.slice a2 192 c2)).setCell ⟨w1.heap.size, 1, none⟩ (.int .i64 (-1)) = W2 at *
  refine (image_any a2 192 c2 l1 (-1) 1 W2 i3 L1.out (by decide) hc2).mono ?_
  intro e w3 hA
  obtain ⟨a3, n3, c3, rfl, hi3, hn3, hc3, hf3, hb3⟩ := hA.opened NO.out
  clear hA
  obtain rfl : 0 = n3 := hn3
  have D3 := hide (blk_below E2.out hb3)
  have i4 := i3.below hb3
  have hw3 := hv2.trans (hb3.mono hv2.size)
  clear x0 x1 f0 f1
  have x0 := blk_cell D3.out 0 _ rfl
  have x1 := blk_cell D3.out 1 _ rfl
  have f0 := blk_free D3.out 0
  have f1 := blk_free D3.out 1
  go_wp2_with fail
  refine (seal_any a2 192 c2 l1 (-1) 1 2 9 w3 i4 L1.out (by decide)).mono ?_
  intro e w4 hA
  obtain ⟨a4, n4, c4, rfl, hi4, hn4, hc4, hf4, hb4⟩ := hA.opened SE.out
  clear hA
  obtain rfl : 192 = n4 := L2.out.symm.trans hn4
  have D4 := hide (blk_below D3.out hb4)
  have lt3 := blk_lt D3.out
  clear x0 x1 f0 f1
  have x0 := blk_cell D4.out 0 _ rfl
  have x1 := blk_cell D4.out 1 _ rfl
  have f0 := blk_free D4.out 0
  have f1 := blk_free D4.out 1
  have i5 := (hi4.other hf4 lt3 0 (.slice a4 192 c4)).other hf4 lt3 1 (.int .i64 (-1))
  have hw4 := ((hw3.trans (hb4.mono hw3.size)).setCell (p := ⟨w1.heap.size, 0, none⟩) hb.size (.slice a4 192 c4)).setCell (p := ⟨w1.heap.size, 1, none⟩) hb.size (.int .i64 (-1))
  have E4 := hide (stored_two D4.out (.slice a4 192 c4) (.int .i64 (-1)))
  clear hn4 hi4
  go_wp2_with fail
  generalize (w4.setCell ⟨w1.heap.size, 0, none⟩ (.slice a4 192 c4)).setCell ⟨w1.heap.size, 1, none⟩ (.int .i64 (-1)) = W4 at *
  refine (image_any a4 192 c4 l2 (-1) 1 W4 i5 L2.out (by decide) hc4).mono ?_
  intro e w5 hA
  obtain ⟨a5, n5, c5, rfl, hi5, hn5, hc5, hf5, hb5⟩ := hA.opened IM.out
  clear hA
  obtain rfl : 2 = n5 := hn5
  have hw5 := hw4.trans (hb5.mono hw4.size)
  go_wp2_with fail
  refine (equal_at a5 _ 2 2 c5 2 [3, 4] [3, 4] true _ (hi5.alloc _) (isInts_at _ _ _ _ _ rfl rfl) rfl rfl (by decide) (by decide) (by decide)).mono ?_
  rintro e w6 ⟨rfl, m, rfl⟩
  go_wp2
  go_ret
  exact ⟨rfl, below_drewN (hw5.alloc hw5.size _) m⟩

theorem slotted_any (w : World) : Calls Try.prog 48 #[] w fun e w' => e = .returned (.bool true) ∧ Below w.heap.size w w' :=
  slotted_of (List.replicate 192 65535) sw1 sw2 rfl sl_fill sl_none sl_seal sl_img (by decide +kernel) (by decide +kernel) (by decide +kernel) w

end Go.Proofs.Ytanpglfpopbfkaa
