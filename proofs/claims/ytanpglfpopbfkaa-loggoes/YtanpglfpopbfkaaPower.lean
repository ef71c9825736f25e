/- The walk of wainwrightlaw.LogPower: it answers true, and nothing that was there has turned. -/
import Derived.Test.YtanpglfpopbfkaaLogP
import Derived.Test.YtanpglfpopbfkaaLogged
namespace Go.Proofs.Ytanpglfpopbfkaa
open Go.RowKit
attribute [local go_sem ↓] Go.wp_at_zero Go.wp_at_succ

/-- The three arguments of an Append, as they lie in a world. -/
structure AppArgs (w : World) (a : Option Addr) (n c : Nat) (ws : List Int) (ar : Option Addr) (nr : Nat) (r : List Int) (ak : Option Addr) (nk : Nat) (keep : List (List Int)) : Prop where
  h : IsInts w a ws
  hn : ws.length = n
  hcap : n ≤ c
  hm : n ≤ maxLen
  hr : IsInts w ar r
  hnr : r.length = nr
  hmr : nr ≤ maxLen
  hk : IsRecs w ak keep
  hnk : keep.length = nk
  hmk : nk ≤ maxLen

/-- Append, called in a world X that has grown out of w. -/
theorem append_from {w : World} {a : Option Addr} {n c : Nat} {ws : List Int} {ar : Option Addr} {nr : Nat} {r : List Int} {ak : Option Addr} {nk : Nat} {keep : List (List Int)} (A : AppArgs w a n c ws ar nr r ak nk keep) (cr ck : Nat) (fuel : Int) (u : List Int) (f e0 : Int) (hres : appS ws fuel r keep = (u, f, e0)) (X : World) (hb : Below w.heap.size w X) :
    Calls Try.prog 32 #[.agg #[.slice a n c, .int .i64 fuel], .slice ar nr cr, .slice ak nk ck] X fun e w' =>
      ∃ a' n' c', e = .returned (.tuple #[.agg #[.slice a' n' c', .int .i64 f], .int .i64 e0]) ∧ IsInts w' a' u ∧ u.length = n' ∧ n' ≤ c' ∧ FreshA X.heap.size a' ∧ Below X.heap.size X w' ∧ Below w.heap.size w w' := by
  refine (append_any a n c ws fuel ar nr cr r ak nk ck keep X (A.h.below hb) A.hn A.hcap A.hm (A.hr.below hb) A.hnr A.hmr (A.hk.below hb) A.hnk A.hmk).mono ?_
  intro e w' hA
  obtain ⟨a', n', c', h1, h2, h3, h4, h5, h6⟩ := hA.opened hres
  exact ⟨a', n', c', h1, h2, h3, h4, h5, h6, hb.trans (h6.mono hb.size)⟩

theorem app_yes {ws : List Int} {f : Int} {r : List Int} {keep : List (List Int)} (h : (appS ws f r keep).2.2 = 0) : appErr ws f r keep = 0 := by
  by_cases e : appErr ws f r keep = 0
  · exact e
  · rw [app_err e] at h; exact h

theorem fbox_fuel {w : World} {b : Nat} {a : Option Addr} {n c : Nat} {f : Int} (h : FBox w b a n c f) (f' : Int) : FBox (w.setCell ⟨b, 1, none⟩ (.int .i64 f')) b a n c f' := by
  unfold FBox at *
  simp only [World.setCell, Array.getElem?_modify]
  simp [h]

theorem FlVar.fuel1 {B : Nat} {w : World} {b : Nat} {ws : List Int} {fuel : Int} (h : FlVar B w b ws fuel) : w.cell? ⟨b, 1, none⟩ = some (.int .i64 fuel) := by
  obtain ⟨a, n, c, h1, _⟩ := h
  exact blk_cell h1 1 _ rfl

set_option maxRecDepth 100000 in
set_option maxHeartbeats 4000000 in
theorem power_any (a : Option Addr) (n c : Nat) (ws : List Int) (fuel : Int) (ar : Option Addr) (nr cr : Nat) (r : List Int) (ak : Option Addr) (nk ck : Nat) (keep : List (List Int)) (w : World) (A : AppArgs w a n c ws ar nr r ak nk keep) :
    Calls Try.prog 11 #[.agg #[.slice a n c, .int .i64 fuel], .slice ar nr cr, .slice ak nk ck] w fun e w' => e = .returned (.bool true) ∧ Below w.heap.size w w' := by
  have hw : Below w.heap.size w (w.alloc (.cells #[.slice a n c, .int .i64 (-1)] 28)) := (Below.refl _ _).alloc (Nat.le_refl _) _
  have V0 : FBox (w.alloc (.cells #[.slice a n c, .int .i64 (-1)] 28)) w.heap.size a n c (-1) := heap_alloc_last _ _
  have HA := hide A
  clear A
  go_enter Try.func11, Try.ntmps11
  go_wp2_with fail
  generalize w.alloc (.cells #[.slice a n c, .int .i64 (-1)] 28) = W at *
  refine (append_from HA.out cr ck (-1) _ _ _ (show appS ws (-1) r keep = ((appS ws (-1) r keep).1, (appS ws (-1) r keep).2.1, (appS ws (-1) r keep).2.2) from rfl) W hw).mono ?_
  rintro e w1 ⟨a1, n1, c1, rfl, hi1, hn1, hc1, hf1, hb1, hw1⟩
  by_cases e1 : (appS ws (-1) r keep).2.2 = 0
  rotate_left
  · have e1' : ((appS ws (-1) r keep).2.2 != 0) = true := by simpa using e1
    clear hn1 e1
    go_wp2_with fail
    refine (logged_any _).mono ?_
    rintro e w2 ⟨rfl, hb2⟩
    go_wp2_with fail
    refine (logged_any _).mono ?_
    rintro e w3 ⟨rfl, hb3⟩
    go_wp2
    go_ret
    exact ⟨rfl, ((hw1.alloc hw1.size _).trans (hb2.mono (by have := hw1.size; simp; omega))).trans (hb3.mono (by have := hw1.size; have := hb2.size; simp at this; omega))⟩
  have E1 := hide (app_yes e1)
  have e1' : ((appS ws (-1) r keep).2.2 != 0) = false := by simpa using e1
  have hneg := app_neg E1.out
  have few := appC_few (ws := ws) (keep := keep) (appErr_ok E1.out).2.1
  obtain ⟨U, hU⟩ : ∃ U, U = applyL (appC ws r keep) ws := ⟨_, rfl⟩
  obtain ⟨N, hN⟩ : ∃ N, N = (appC ws r keep).length := ⟨_, rfl⟩
  rw [← hN] at few
  have P200 : Hid (appS ws 200 r keep = (U, 200 - (N : Int), 0)) := by show _ = _; rw [hU, hN]; exact app_pow 200 (by decide) E1.out (by omega)
  have PN : Hid (appS ws (N : Int) r keep = (U, 0, 0)) := by
    show _ = _
    have := app_pow N (by omega) E1.out (by omega)
    rw [this, hU, hN]
    simp
  have PL : Hid ((appS ws ((N : Int) - 1) r keep).2.2 = 7) := by
    show _ = _
    have := app_less (N - 1) (by omega) E1.out (by omega)
    rw [show ((N - 1 : Nat) : Int) = (N : Int) - 1 by omega] at this
    exact this
  rw [hneg] at hi1 hn1 e1' ⊢
  rw [← hU] at hi1 hn1 ⊢
  have HUn : Hid (U.length = n) := by show _ = _; rw [hU, applyL_length]; exact HA.out.hn
  have hmn := HA.out.hm
  clear e1 e1' hneg hU hN E1
  simp only at hi1 hn1
  have V0' := V0.below hb1
  have V1 := flVar_new (-1) hi1 hn1 hc1 (hf1.mono (show w.heap.size + 1 ≤ W.heap.size from blk_lt V0))
  have V0'' := V0'.below ((Below.refl _ _).alloc (Nat.le_refl _) (.cells #[.slice a1 n1 c1, .int .i64 (-1)] 28))
  have hw2 := hw1.alloc hw1.size (.cells #[.slice a1 n1 c1, .int .i64 (-1)] 28)
  have ltg : w.heap.size < w1.heap.size := blk_lt V0'
  clear hn1 hi1 hf1 V0 V0' hb1 hw hw1
  go_wp2_with fail
  generalize w1.alloc (.cells #[.slice a1 n1 c1, .int .i64 (-1)] 28) = w2 at *
  refine (logged_any _).mono ?_
  rintro e w3 ⟨rfl, hb3⟩
  have W0 := V0''.below hb3
  have W1 := V1.below hb3
  have hw3 := hw2.trans (hb3.mono hw2.size)
  clear V0'' V1 hb3 hw2
  have x0 := blk_cell W0 0 _ rfl
  have x1 := blk_cell W0 1 _ rfl
  have f1 := blk_free W0 1
  have X0 := fbox_fuel W0 200
  have X1 := W1.other (b' := w.heap.size) (by omega) (by omega) 1 (.int .i64 200)
  have hw4 := hw3.setCell (p := ⟨w.heap.size, 1, none⟩) (Nat.le_refl _) (.int .i64 200)
  clear W0 W1 hw3
  go_wp2_with fail
  generalize w3.setCell ⟨w.heap.size, 1, none⟩ (.int .i64 200) = w4 at *
  refine (append_from HA.out cr ck 200 _ _ _ P200.out w4 hw4).mono ?_
  rintro e w5 ⟨a5, n5, c5, rfl, hi5, hn5, hc5, hf5, hb5, hw5⟩
  have Y0 := (X0.below hb5).below ((Below.refl _ _).alloc (Nat.le_refl _) (.cells #[.slice a5 n5 c5, .int .i64 (200 - (N : Int))] 28))
  have Y1 := (X1.below hb5).below ((Below.refl _ _).alloc (Nat.le_refl _) (.cells #[.slice a5 n5 c5, .int .i64 (200 - (N : Int))] 28))
  have Y5 := flVar_new (200 - (N : Int)) hi5 hn5 hc5 (hf5.mono (show w.heap.size + 1 ≤ w4.heap.size from blk_lt X0))
  have hw6 := hw5.alloc hw5.size (.cells #[.slice a5 n5 c5, .int .i64 (200 - (N : Int))] 28)
  have lt5 : w.heap.size < w5.heap.size := blk_lt (X0.below hb5)
  have lt15 : w1.heap.size < w5.heap.size := (X1.below hb5).lt
  obtain ⟨F2, hF2⟩ : ∃ F2, F2 = 200 - (N : Int) := ⟨_, rfl⟩
  have hu : (200 : Int) - F2 = (N : Int) := by omega
  rw [← hF2] at Y0 Y1 Y5 hw6 ⊢
  clear hF2 hi5 hn5 hf5 X0 X1 hb5 hw4 hw5 x0 x1 f1
  obtain ⟨ag, ng, cg, bg, hig, hng, hcg, -⟩ := id Y1
  obtain ⟨ah, nh, ch, bh, hih, hnh, hch, -⟩ := id Y5
  have g0 := blk_cell bg 0 _ rfl
  have g1 := blk_cell bg 1 _ rfl
  have h0 := blk_cell bh 0 _ rfl
  have h1 := blk_cell bh 1 _ rfl
  have y0 := blk_cell Y0 0 _ rfl
  have y1 := blk_cell Y0 1 _ rfl
  have y2 := blk_free Y0 1
  have HIg := hide hig
  have HIh := hide hih
  have HNg := hide hng
  have HNh := hide hnh
  clear bg bh hig hih hng hnh
  go_upto_region 7 with fail
  generalize w5.alloc (.cells #[.slice a5 n5 c5, .int .i64 F2] 28) = w6 at *
  go_wp2_with fail
  refine (equal_at ah ag nh ng ch cg U U true w6 HIh.out HIg.out HNh.out HNg.out (eqL_self U) (by rw [← HNh.out, HUn.out]; exact hmn) (by rw [← HNg.out, HUn.out]; exact hmn)).mono ?_
  rintro e w7 ⟨rfl, m, rfl⟩
  have Z0 := Y0.below (below_drewN (Below.refl _ _) m)
  have Z1 := Y1.below (below_drewN (Below.refl _ _) m)
  have hw7 := below_drewN hw6 m
  have h1' : (w6.drewN m).cell? ⟨w5.heap.size, 1, none⟩ = some (.int .i64 F2) := (Y5.below (below_drewN (Below.refl _ _) m)).fuel1
  have lt5b : w5.heap.size < (w6.drewN m).heap.size := (Y5.below (below_drewN (Below.refl _ _) m)).lt
  clear Y0 Y1 Y5 hw6 g0 g1 h0 h1 y0 y1 y2 HIg HIh HNg HNh
  generalize w6.drewN m = w7 at *
  have y0 := blk_cell Z0 0 _ rfl
  have y1 := blk_cell Z0 1 _ rfl
  have y2 := blk_free Z0 1
  have hne : ¬ w5.heap.size = w.heap.size := by omega
  have hN2 : (2 : Int) ≤ (N : Int) := by omega
  have hN64 : (N : Int) ≤ 64 := by omega
  have X0 := fbox_fuel Z0 (N : Int)
  have X1 := Z1.other (b' := w.heap.size) (by omega) (by omega) 1 (.int .i64 (N : Int))
  have hw8 := hw7.setCell (p := ⟨w.heap.size, 1, none⟩) (Nat.le_refl _) (.int .i64 (N : Int))
  clear Z0 Z1 hw7
  go_wp2_with fail
  generalize w7.setCell ⟨w.heap.size, 1, none⟩ (.int .i64 (N : Int)) = w8 at *
  refine (append_from HA.out cr ck (N : Int) _ _ _ PN.out w8 hw8).mono ?_
  rintro e w9 ⟨a9, n9, c9, rfl, hi9, hn9, hc9, hf9, hb9, hw9⟩
  have lt9 : w.heap.size < w9.heap.size := blk_lt (X0.below hb9)
  have k0 := blk_cell (X0.below hb9) 0 _ rfl
  have k1 := blk_cell (X0.below hb9) 1 _ rfl
  have k2 := blk_free (X0.below hb9) 1
  have nn9 := World.new_ne w9 ⟨w.heap.size, 0, none⟩ k0
  have P4 : Hid (appS ws ((N : Int) - 1) r keep = ((appS ws ((N : Int) - 1) r keep).1, (appS ws ((N : Int) - 1) r keep).2.1, 7)) := by show _ = _; rw [← PL.out]
  have hwr : IntKind.i64.wrap ((N : Int) - 1) = (N : Int) - 1 := by rw [IntKind.wrap_i64]; omega
  have hs10 : (w9.setCell ⟨w.heap.size, 1, none⟩ (.int .i64 ((N : Int) - 1))).heap.size = w9.heap.size := by simp [World.setCell]
  have hi10 := hi9.other hf9 (show w.heap.size < w8.heap.size from blk_lt X0) 1 (.int .i64 ((N : Int) - 1))
  have X9 := flVar_new (0 : Int) hi10 hn9 hc9 (hf9.mono (show w.heap.size + 1 ≤ w8.heap.size from blk_lt X0))
  rw [hs10] at X9
  have Z1 := ((X1.below hb9).other (b' := w.heap.size) (by omega) (by omega) 1 (.int .i64 ((N : Int) - 1))).below ((Below.refl _ _).alloc (Nat.le_refl _) (.cells #[.slice a9 n9 c9, .int .i64 0] 28))
  have hw11 := (hw9.setCell (p := ⟨w.heap.size, 1, none⟩) (Nat.le_refl _) (.int .i64 ((N : Int) - 1))).alloc (by rw [hs10]; exact hw9.size) (.cells #[.slice a9 n9 c9, .int .i64 0] 28)
  clear hi9 hi10 hn9 hf9 X0 X1 hb9 hw8 hw9 y0 y1 y2 hs10
  go_wp2_with fail
  generalize (w9.setCell ⟨w.heap.size, 1, none⟩ (.int .i64 ((N : Int) - 1))).alloc (.cells #[.slice a9 n9 c9, .int .i64 0] 28) = w11 at *
  refine (append_from HA.out cr ck ((N : Int) - 1) _ _ _ P4.out w11 hw11).mono ?_
  rintro e w12 ⟨a12, n12, c12, rfl, hi12, hn12, hc12, hf12, hb12, hw12⟩
  obtain ⟨F3, hF3⟩ : ∃ F3, F3 = (appS ws ((N : Int) - 1) r keep).2.1 := ⟨_, rfl⟩
  rw [← hF3]
  have Y1 := (Z1.below hb12).below ((Below.refl _ _).alloc (Nat.le_refl _) (.cells #[.slice a12 n12 c12, .int .i64 F3] 28))
  have Y9 := (X9.below hb12).below ((Below.refl _ _).alloc (Nat.le_refl _) (.cells #[.slice a12 n12 c12, .int .i64 F3] 28))
  have hw13 := hw12.alloc hw12.size (.cells #[.slice a12 n12 c12, .int .i64 F3] 28)
  clear hF3 hi12 hn12 hf12 Z1 X9 hb12 hw11 hw12 k0 k1 k2 nn9
  obtain ⟨ag, ng, cg, bg, hig, hng, hcg, -⟩ := Y1
  obtain ⟨ah, nh, ch, bh, hih, hnh, hch, -⟩ := Y9
  have g0 := blk_cell bg 0 _ rfl
  have g1 := blk_cell bg 1 _ rfl
  have h0 := blk_cell bh 0 _ rfl
  have h1 := blk_cell bh 1 _ rfl
  have HIg := hide hig
  have HIh := hide hih
  have HNg := hide hng
  have HNh := hide hnh
  clear bg bh hig hih hng hnh
  go_upto_region 16 with fail
  generalize w12.alloc (.cells #[.slice a12 n12 c12, .int .i64 F3] 28) = w13 at *
  go_wp2_with fail
  refine (equal_at ah ag nh ng ch cg U U true w13 HIh.out HIg.out HNh.out HNg.out (eqL_self U) (by rw [← HNh.out, HUn.out]; exact hmn) (by rw [← HNg.out, HUn.out]; exact hmn)).mono ?_
  rintro e w14 ⟨rfl, m, rfl⟩
  go_wp2
  go_ret
  exact ⟨rfl, below_drewN hw13 m⟩

end Go.Proofs.Ytanpglfpopbfkaa
