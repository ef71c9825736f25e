/- The contract of wainwrightlaw.logged (the closed fact: it answers true). -/
import Derived.Test.YtanpglfpopbfkaaApnd
import Derived.Test.YtanpglfpopbfkaaSameR
namespace Go.Proofs.Ytanpglfpopbfkaa
open Go.RowKit

def lw1 : List Int := 1 :: List.replicate 63 65535
def lw2 : List Int := 1 :: 42241 :: 5 :: List.replicate 61 65535
def lw3 : List Int := 1 :: 42241 :: 5 :: 42242 :: 6 :: 7 :: List.replicate 58 65535
theorem lg_fmt : fmtS (List.replicate 64 65535) (-1) = (lw1, -1, 0) := by decide +kernel
theorem lg_app1 : appS lw1 (-1) [5] [] = (lw2, -1, 0) := by decide +kernel
theorem lg_app2 : appS lw2 (-1) [6, 7] [] = (lw3, -1, 0) := by decide +kernel
theorem lg_recs : recsS lw3 (-1) = ([[5], [6, 7]], 0) := by decide +kernel

theorem RecsAns.opened {w : World} {r : List (List Int) × Int} {e : Ending} {w' : World} {rs : List (List Int)} {err : Int} (h : RecsAns w r e w') (hr : r = (rs, err)) :
    ∃ a n c, e = .returned (.tuple #[.slice a n c, .int .i64 err]) ∧ IsRecs w' a rs ∧ rs.length = n ∧ n ≤ c ∧ c ≤ maxLen ∧ Below w.heap.size w w' := by
  subst hr
  obtain ⟨⟨a, n, c, h1, h2, h3, h4, h5⟩, h6⟩ := h
  exact ⟨a, n, c, h1, h2, h3, h4, h5, h6⟩

theorem isRecs2 {w : World} {b : Nat} {v0 v1 : Option Addr} {c0 c1 : Nat} {r0 r1 : List Int} (h0 : w.cell? ⟨b, 0, none⟩ = some (.slice v0 r0.length c0)) (h1 : w.cell? ⟨b, 1, none⟩ = some (.slice v1 r1.length c1)) (k0 : IsInts w v0 r0) (k1 : IsInts w v1 r1) (l0 : r0.length ≤ c0 ∧ c0 ≤ maxLen) (l1 : r1.length ≤ c1 ∧ c1 ≤ maxLen) : IsRecs w (some ⟨b, 0, none⟩) [r0, r1] := by
  refine .inr ⟨b, 0, rfl, fun i r hi => ?_⟩
  match i, hi with
  | 0, hi => simp at hi; subst hi; exact ⟨v0, c0, h0, k0, l0⟩
  | 1, hi => simp at hi; subst hi; exact ⟨v1, c1, h1, k1, l1⟩

set_option maxRecDepth 100000 in
set_option maxHeartbeats 2000000 in
theorem logged_of (l0 l1 l2 l3 : List Int) (hn2 : newS 2 = (l0, -1, 0)) (hfm : fmtS l0 (-1) = (l1, -1, 0)) (ha1 : appS l1 (-1) [5] [] = (l2, -1, 0)) (ha2 : appS l2 (-1) [6, 7] [] = (l3, -1, 0)) (hre : recsS l3 (-1) = ([[5], [6, 7]], 0)) (len0 : l0.length = 64) (len1 : l1.length = 64) (len2 : l2.length = 64) (len3 : l3.length = 64) (hw1 : l3.getD 1 0 = 42241) (w : World) :
    Calls Try.prog 34 #[] w fun e w' => e = .returned (.bool true) ∧ Below w.heap.size w w' := by
  have L0 := hide len0
  have L1 := hide len1
  have L2 := hide len2
  have L3 := hide len3
  have N2 := hide hn2
  have FM := hide hfm
  have A1 := hide ha1
  have A2 := hide ha2
  have RE := hide hre
  have HW1 := hide hw1
  clear len0 len1 len2 len3 hn2 hfm ha1 ha2 hre hw1
  go_enter Try.func34, Try.ntmps34
  go_wp2_with fail
  refine (new_any 2 _).mono ?_
  intro e w1 hA
  obtain ⟨a, n, c, rfl, hi, hn, hc, -, hb⟩ := hA.opened N2.out
  clear hA
  obtain rfl : 64 = n := L0.out.symm.trans hn
  have hw0 : Below w.heap.size w (w1.alloc (.cells #[.slice a 64 c, .int .i64 (-1)] 28)) := hb.alloc hb.size _
  have D0 := hide (heap_alloc_last w1 (.cells #[.slice a 64 c, .int .i64 (-1)] 28))
  have i1 := hi.alloc (.cells #[.slice a 64 c, .int .i64 (-1)] 28)
  go_wp2_with fail
  generalize w1.alloc (.cells #[.slice a 64 c, .int .i64 (-1)] 28) = W0 at *
  refine (format_any a 64 c l0 (-1) W0 i1 L0.out (by decide)).mono ?_
  intro e w2 hA
  obtain ⟨a2, n2, c2, rfl, hi2, hn2, hc2, hf2, hb2⟩ := hA.opened FM.out
  clear hA
  obtain rfl : 64 = n2 := L1.out.symm.trans hn2
  have D2 := hide (blk_below D0.out hb2)
  have x0 := blk_cell D2.out 0 _ rfl
  have x1 := blk_cell D2.out 1 _ rfl
  have f0 := blk_free D2.out 0
  have f1 := blk_free D2.out 1
  have hw2 := hw0.trans (hb2.mono hw0.size)
  have lt2 := blk_lt D0.out
  have i2 := (hi2.other hf2 lt2 0 (.slice a2 64 c2)).other hf2 lt2 1 (.int .i64 (-1))
  have hv2 := (hw2.setCell (p := ⟨w1.heap.size, 0, none⟩) hb.size (.slice a2 64 c2)).setCell (p := ⟨w1.heap.size, 1, none⟩) hb.size (.int .i64 (-1))
  have E2 : Hid (((w2.setCell ⟨w1.heap.size, 0, none⟩ (.slice a2 64 c2)).setCell ⟨w1.heap.size, 1, none⟩ (.int .i64 (-1))).heap[w1.heap.size]? = some (.cells #[.slice a2 64 c2, .int .i64 (-1)] 28 (0, 0))) := by
    show _ = _
    have := D2.out
    simp only [World.setCell, Array.getElem?_modify]
    simp [this]

  go_wp2_with fail
  have j3 := isInts_at ((w2.setCell ⟨w1.heap.size, 0, none⟩ (.slice a2 64 c2)).setCell ⟨w1.heap.size, 1, none⟩ (.int .i64 (-1))) w2.heap.size [5] #[.int .i64 5] 3 (by simp [World.setCell]) rfl
  generalize (w2.setCell ⟨w1.heap.size, 0, none⟩ (.slice a2 64 c2)).setCell ⟨w1.heap.size, 1, none⟩ (.int .i64 (-1)) = V2 at *
  have D3 := hide (blk_alloc E2.out (.cells #[.int .i64 5] 3))
  have hw3 := hv2.alloc hv2.size (.cells #[.int .i64 5] 3)
  have i3 := i2.alloc (.cells #[.int .i64 5] 3)
  generalize V2.alloc (.cells #[.int .i64 5] 3) = W3 at *
  refine (append_any a2 64 c2 l1 (-1) _ 1 1 [5] none 0 0 [] W3 i3 L1.out hc2 (by decide) j3 rfl (by decide) (.inl rfl) rfl (by decide)).mono ?_
  intro e w4 hA
  obtain ⟨a4, n4, c4, rfl, hi4, hn4, hc4, hf4, hb4⟩ := hA.opened A1.out
  clear hA
  obtain rfl : 64 = n4 := L2.out.symm.trans hn4
  have D4 := hide (blk_below D3.out hb4)
  have x0 := blk_cell D4.out 0 _ rfl
  have x1 := blk_cell D4.out 1 _ rfl
  have f0 := blk_free D4.out 0
  have f1 := blk_free D4.out 1
  have hw4 := hw3.trans (hb4.mono hw3.size)
  have lt4 := blk_lt D3.out
  have i4 := (hi4.other hf4 lt4 0 (.slice a4 64 c4)).other hf4 lt4 1 (.int .i64 (-1))
  have hv4 := (hw4.setCell (p := ⟨w1.heap.size, 0, none⟩) hb.size (.slice a4 64 c4)).setCell (p := ⟨w1.heap.size, 1, none⟩) hb.size (.int .i64 (-1))
  have E4 : Hid (((w4.setCell ⟨w1.heap.size, 0, none⟩ (.slice a4 64 c4)).setCell ⟨w1.heap.size, 1, none⟩ (.int .i64 (-1))).heap[w1.heap.size]? = some (.cells #[.slice a4 64 c4, .int .i64 (-1)] 28 (0, 0))) := by
    show _ = _
    have := D4.out
    simp only [World.setCell, Array.getElem?_modify]
    simp [this]

  go_wp2_with fail
  have j5 := isInts_at ((w4.setCell ⟨w1.heap.size, 0, none⟩ (.slice a4 64 c4)).setCell ⟨w1.heap.size, 1, none⟩ (.int .i64 (-1))) w4.heap.size [6, 7] #[.int .i64 6, .int .i64 7] 3 (by simp [World.setCell]) rfl
  generalize (w4.setCell ⟨w1.heap.size, 0, none⟩ (.slice a4 64 c4)).setCell ⟨w1.heap.size, 1, none⟩ (.int .i64 (-1)) = V4 at *
  have D5 := hide (blk_alloc E4.out (.cells #[.int .i64 6, .int .i64 7] 3))
  have hw5 := hv4.alloc hv4.size (.cells #[.int .i64 6, .int .i64 7] 3)
  have i5 := i4.alloc (.cells #[.int .i64 6, .int .i64 7] 3)
  generalize V4.alloc (.cells #[.int .i64 6, .int .i64 7] 3) = W5 at *
  refine (append_any a4 64 c4 l2 (-1) _ 2 2 [6, 7] none 0 0 [] W5 i5 L2.out hc4 (by decide) j5 rfl (by decide) (.inl rfl) rfl (by decide)).mono ?_
  intro e w6 hA
  obtain ⟨a6, n6, c6, rfl, hi6, hn6, hc6, hf6, hb6⟩ := hA.opened A2.out
  clear hA
  obtain rfl : 64 = n6 := L3.out.symm.trans hn6
  have D6 := hide (blk_below D5.out hb6)
  have x0 := blk_cell D6.out 0 _ rfl
  have x1 := blk_cell D6.out 1 _ rfl
  have f0 := blk_free D6.out 0
  have f1 := blk_free D6.out 1
  have hw6 := hw5.trans (hb6.mono hw5.size)
  have lt6 := blk_lt D5.out
  have i6 := (hi6.other hf6 lt6 0 (.slice a6 64 c6)).other hf6 lt6 1 (.int .i64 (-1))
  have hv6 := (hw6.setCell (p := ⟨w1.heap.size, 0, none⟩) hb.size (.slice a6 64 c6)).setCell (p := ⟨w1.heap.size, 1, none⟩) hb.size (.int .i64 (-1))
  have E6 : Hid (((w6.setCell ⟨w1.heap.size, 0, none⟩ (.slice a6 64 c6)).setCell ⟨w1.heap.size, 1, none⟩ (.int .i64 (-1))).heap[w1.heap.size]? = some (.cells #[.slice a6 64 c6, .int .i64 (-1)] 28 (0, 0))) := by
    show _ = _
    have := D6.out
    simp only [World.setCell, Array.getElem?_modify]
    simp [this]

  go_wp2_with fail
  generalize (w6.setCell ⟨w1.heap.size, 0, none⟩ (.slice a6 64 c6)).setCell ⟨w1.heap.size, 1, none⟩ (.int .i64 (-1)) = V6 at *
  refine (records_any a6 64 c6 l3 (-1) V6 i6 L3.out hc6 (by decide)).mono ?_
  intro e w7 hA
  obtain ⟨a7, n7, c7, rfl, hi7, hn7, hc7, hm7, hb7⟩ := hA.opened RE.out
  clear hA
  obtain rfl : 2 = n7 := hn7
  have D7 := hide (blk_below E6.out hb7)
  have hw7 := hv6.trans (hb7.mono hv6.size)
  have i7 := i6.below hb7
  have bb : Below w7.heap.size w7 (((w7.alloc (.cells #[.int .i64 5] 3)).alloc (.cells #[.int .i64 6, .int .i64 7] 3)).alloc (.cells #[.slice (some ⟨w7.heap.size, 0, none⟩) 1 1, .slice (some ⟨w7.heap.size + 1, 0, none⟩) 2 2] 43)) :=
    (((Below.refl _ _).alloc (Nat.le_refl _) _).alloc (by simp) _).alloc (by simp; omega) _
  have r7 : IsRecs (((w7.alloc (.cells #[.int .i64 5] 3)).alloc (.cells #[.int .i64 6, .int .i64 7] 3)).alloc (.cells #[.slice (some ⟨w7.heap.size, 0, none⟩) 1 1, .slice (some ⟨w7.heap.size + 1, 0, none⟩) 2 2] 43)) (some ⟨w7.heap.size + 1 + 1, 0, none⟩) [[5], [6, 7]] := by
    refine isRecs2 (v0 := some ⟨w7.heap.size, 0, none⟩) (c0 := 1) (v1 := some ⟨w7.heap.size + 1, 0, none⟩) (c1 := 2) (cell_last (by simp) rfl) (cell_last (by simp) rfl) ?_ ?_ (by decide) (by decide)
    · exact ((isInts_at w7 w7.heap.size [5] _ 3 rfl rfl).alloc _).alloc _
    · exact (isInts_at (w7.alloc (.cells #[.int .i64 5] 3)) (w7.heap.size + 1) [6, 7] _ 3 (by simp) rfl).alloc _
  have hi7' := hi7.below bb
  have D8 := hide (blk_below D7.out bb)
  have hw8 := hw7.trans (bb.mono hw7.size)
  have i8 := i7.below bb
  have R7 := hide r7
  have RI7 := hide hi7'
  clear r7 hi7' hi7
  go_wp2_with fail
  generalize ((w7.alloc (.cells #[.int .i64 5] 3)).alloc (.cells #[.int .i64 6, .int .i64 7] 3)).alloc (.cells #[.slice (some ⟨w7.heap.size, 0, none⟩) 1 1, .slice (some ⟨w7.heap.size + 1, 0, none⟩) 2 2] 43) = W8 at *
  refine (sameRecs_any a7 _ 2 2 c7 2 [[5], [6, 7]] [[5], [6, 7]] W8 RI7.out R7.out rfl rfl (by decide) (by decide)).mono ?_
  rintro e w9 ⟨rfl, m, rfl⟩
  have hq : eqR [[5], [6, 7]] [[5], [6, 7]] = true := rfl
  rw [hq]
  have y0 := blk_cell D8.out 0 _ rfl
  have y1 := blk_cell D8.out 1 _ rfl
  rcases i8 with h | ⟨b8, o8, rfl, hc8⟩
  · have := L3.out; rw [h] at this; simp at this
  have z1 : W8.cell? ⟨b8, o8 + 1, none⟩ = some (.int .i64 42241) := by rw [← HW1.out]; exact hc8 1 (by rw [L3.out]; decide)
  clear hc8
  go_wp2
  go_ret
  exact ⟨rfl, below_drewN hw8 m⟩

theorem logged_any (w : World) : Calls Try.prog 34 #[] w fun e w' => e = .returned (.bool true) ∧ Below w.heap.size w w' :=
  logged_of (List.replicate 64 65535) lw1 lw2 lw3 (by decide +kernel) lg_fmt lg_app1 lg_app2 lg_recs (by decide +kernel) (by decide +kernel) (by decide +kernel) (by decide +kernel) (by decide +kernel) w

end Go.Proofs.Ytanpglfpopbfkaa
