/- The closed fact 'trusted'. -/
import Derived.Test.YtanpglfpopbfkabDoorTFac
namespace Go.Proofs.YtanpglfpopbfkabDoor
open Go.RowKit

theorem blk3_alloc {W : World} {B : Nat} {o0 o1 o2 : Obj} (h : TB3 W B o0 o1 o2) (o : Obj) : TB3 (W.alloc o) B o0 o1 o2 := h.below ((Below.refl _ _).alloc (Nat.le_refl _) _)

set_option maxHeartbeats 6400000 in
set_option maxRecDepth 100000 in
theorem lawTrusted_any (w : World) (hT : Tab w) : Calls Tryd.prog 27 #[] w fun e w' => e = .returned (.bool true) ∧ Below w.heap.size w w' := by
  go_enter Tryd.func27, Tryd.ntmps27
  go_wp2_with fail
  refine (lawSimple_any _).mono ?_
  rintro e w1 ⟨ab, a1, a2, m, rfl, hS, hw1⟩
  have hT1 := hT.below hw1
  have HA : Hid (∀ (W : World) (t : Tr) (a : Option Addr) (n c : Nat) (o : Of) (m : OA) (now : Int) (q : Int), Below w1.heap.size w1 W → BI W a n t.r.ks → BO W m o → takeE tbk tsl t o now 1 = q → Calls Tryd.prog 24 #[.agg #[.slice ab 4 4], .slice a1 4 4, .agg #[.int .i64 t.r.v, .slice a n c, .int .i64 t.r.t, .int .i64 t.ver], .agg #[.slice m.a1 m.n1 m.c1, .slice m.a2 m.n2 m.c2, .int .i64 o.v, .int .i64 o.u, .slice m.a3 m.n3 m.c3, .slice m.a4 m.n4 m.c4, .slice m.a5 m.n5 m.c5], .int .i64 now, .int .i64 1] W fun e w' => (∃ a n c, e = .returned (.tuple #[.agg #[.int .i64 (takeT q t o).r.v, .slice a n c, .int .i64 (takeT q t o).r.t, .int .i64 (takeT q t o).ver], .int .i64 q]) ∧ BI w' a n (takeT q t o).r.ks) ∧ Below W.heap.size W w') := by
    intro W t a n c o m' now q hW hi ho hq
    subst hq
    exact (take_any ab 4 4 tbk a1 4 4 tsl t a n c o m' now 1 W (hS.1.below hW) (hS.2.1.below hW) hi ho (hT1.below hW)).mono fun e w' h => ⟨by obtain ⟨a, n, c, h1, h2, _⟩ := h.1; exact ⟨a, n, c, h1, h2⟩, h.2⟩
  have HR : Hid (∀ (W : World) (t : Tr) (a : Option Addr) (n c : Nat) (o : Of) (m : OA) (now : Int) (q : Int), Below w1.heap.size w1 W → BI W a n t.r.ks → BO W m o → takeE tbk tsl t o now 1 = q → Calls Tryd.prog 24 #[.agg #[.slice ab 4 4], .slice a1 4 4, .agg #[.int .i64 t.r.v, .slice a n c, .int .i64 t.r.t, .int .i64 t.ver], .agg #[.slice m.a1 m.n1 m.c1, .slice m.a2 m.n2 m.c2, .int .i64 o.v, .int .i64 o.u, .slice m.a3 m.n3 m.c3, .slice m.a4 m.n4 m.c4, .slice m.a5 m.n5 m.c5], .int .i64 now, .int .i64 1] W fun e w' => (∃ v0 a n c v2 v3, e = .returned (.tuple #[.agg #[.int .i64 v0, .slice a n c, .int .i64 v2, .int .i64 v3], .int .i64 q])) ∧ Below W.heap.size W w') := by
    intro W t a n c o m' now q hW hi ho hq
    exact (HA.out W t a n c o m' now q hW hi ho hq).mono fun e w' h => ⟨by obtain ⟨a, n, c, h1, _⟩ := h.1; exact ⟨_, a, n, c, _, _, h1⟩, h.2⟩
  have hS2 := hide hS.2.2.1
  have hS3 := hide hS.2.2.2
  clear hS hT1
  have hwA : Below w1.heap.size w1 (((w1.alloc (bkO ab 4 4)).alloc (trO tt0 a2 1 1)).alloc (ofO 1 5 m)) := (((Below.refl _ _).alloc (Nat.le_refl _) _).alloc (by simp) _).alloc (by simp; omega) _
  have tb : Hid (TB3 (((w1.alloc (bkO ab 4 4)).alloc (trO tt0 a2 1 1)).alloc (ofO 1 5 m)) w1.heap.size (bkO ab 4 4) (trO tt0 a2 1 1) (ofO 1 5 m)) :=
    ⟨blk_alloc (blk_alloc (heap_alloc_last _ _) _) _, blk_alloc (last1 _ _ _) _, last2 _ _ _ _⟩
  have H1 : Hid (∀ W, Below w1.heap.size w1 W → _) := fun W hW => HA.out W tt0 a2 1 1 to1 m 5 0 hW (hS2.out.below hW) (hS3.out.below hW) f_1
  have hx : (takeT 0 tt0 to1) = ⟨⟨1, [3], 1⟩, 1⟩ := rfl
  rw [hx] at H1
  unfold bkO trO ofO at hwA tb
  simp only [tt0, to1] at hwA tb H1
  go_wp2_with fail
  generalize ((w1.alloc (.cells #[.slice ab 4 4] 24)).alloc (.cells #[.int .i64 1, .slice a2 1 1, .int .i64 1, .int .i64 0] 53)).alloc (.cells #[.slice m.a1 m.n1 m.c1, .slice m.a2 m.n2 m.c2, .int .i64 1, .int .i64 5, .slice m.a3 m.n3 m.c3, .slice m.a4 m.n4 m.c4, .slice m.a5 m.n5 m.c5] 57) = WA at *
  refine (unhide H1 _ hwA).mono ?_
  rintro e w2 ⟨⟨xa, xn, xc, rfl, hxi⟩, hb⟩
  replace tb := hide (blk3_alloc (tb.out.below hb) (.cells #[.int .i64 1, .slice xa xn xc, .int .i64 1, .int .i64 1] 53))
  replace hwA := below_new (hwA.trans (hb.mono hwA.size)) (.cells #[.int .i64 1, .slice xa xn xc, .int .i64 1, .int .i64 1] 53)
  have bx := hide (heap_alloc_last w2 (.cells #[.int .i64 1, .slice xa xn xc, .int .i64 1, .int .i64 1] 53))
  replace hxi := hxi.below ((Below.refl _ _).alloc (Nat.le_refl _) (.cells #[.int .i64 1, .slice xa xn xc, .int .i64 1, .int .i64 1] 53))
  clear hb H1
  have p0 := blk_cell tb.out.b1 0 _ rfl
  have p1 := blk_cell tb.out.b1 1 _ rfl
  have p2 := blk_cell tb.out.b1 2 _ rfl
  have p3 := blk_cell tb.out.b1 3 _ rfl
  have o0 := blk_cell tb.out.b2 0 _ rfl
  have o1 := blk_cell tb.out.b2 1 _ rfl
  have o2 := blk_cell tb.out.b2 2 _ rfl
  have o3 := blk_cell tb.out.b2 3 _ rfl
  have o4 := blk_cell tb.out.b2 4 _ rfl
  have o5 := blk_cell tb.out.b2 5 _ rfl
  have o6 := blk_cell tb.out.b2 6 _ rfl
  have k0 := blk_cell tb.out.b0 0 _ rfl
  go_wp2_with fail
  generalize w2.alloc (.cells #[.int .i64 1, .slice xa xn xc, .int .i64 1, .int .i64 1] 53) = WB at *
  have H2 := hide (HR.out WB ⟨⟨1, [3], 1⟩, 1⟩ xa xn xc to1 m 5 10 hwA hxi (hS3.out.below hwA) f_2)
  simp only [to1] at H2
  refine (unhide H2).mono ?_
  rintro e w3 ⟨⟨y30, y3a, y3n, y3c, y32, y33, rfl⟩, hb⟩
  clear H2 hxi
  obtain ⟨X, hX⟩ : ∃ X, X = w2.heap.size := ⟨_, rfl⟩
  rw [← hX] at bx ⊢
  clear hX
  replace tb := hide (blk3_alloc (tb.out.below hb) (.cells #[.int .i64 y30, .slice y3a y3n y3c, .int .i64 y32, .int .i64 y33] 53))
  replace bx := hide (blk_alloc (blk_below bx.out hb) (.cells #[.int .i64 y30, .slice y3a y3n y3c, .int .i64 y32, .int .i64 y33] 53))
  replace hwA := below_new (hwA.trans (hb.mono hwA.size)) (.cells #[.int .i64 y30, .slice y3a y3n y3c, .int .i64 y32, .int .i64 y33] 53)
  clear p0 p1 p2 p3 o0 o1 o2 o3 o4 o5 o6 k0
  have p0 := blk_cell tb.out.b1 0 _ rfl
  have p1 := blk_cell tb.out.b1 1 _ rfl
  have p2 := blk_cell tb.out.b1 2 _ rfl
  have p3 := blk_cell tb.out.b1 3 _ rfl
  have o0 := blk_cell tb.out.b2 0 _ rfl
  have o1 := blk_cell tb.out.b2 1 _ rfl
  have o2 := blk_cell tb.out.b2 2 _ rfl
  have o3 := blk_cell tb.out.b2 3 _ rfl
  have o4 := blk_cell tb.out.b2 4 _ rfl
  have o5 := blk_cell tb.out.b2 5 _ rfl
  have o6 := blk_cell tb.out.b2 6 _ rfl
  have k0 := blk_cell tb.out.b0 0 _ rfl
  go_wp2_with fail
  generalize w3.alloc (.cells #[.int .i64 y30, .slice y3a y3n y3c, .int .i64 y32, .int .i64 y33] 53) = WC at *
  have H3 := hide (HR.out WC tt0 a2 1 1 to1 m 6 11 hwA (hS2.out.below hwA) (hS3.out.below hwA) f_3)
  simp only [to1, tt0] at H3
  refine (unhide H3).mono ?_
  rintro e w4 ⟨⟨y40, y4a, y4n, y4c, y42, y43, rfl⟩, hb⟩
  clear H3
  have hlt4 := blk_lt (tb.out.below hb).b2
  replace tb := hide (blk3_alloc (blk3_alloc (tb.out.below hb) (.cells #[.int .i64 y40, .slice y4a y4n y4c, .int .i64 y42, .int .i64 y43] 53)) (.cells #[.int .i64 4] 3))
  replace bx := hide (blk_alloc (blk_alloc (blk_below bx.out hb) (.cells #[.int .i64 y40, .slice y4a y4n y4c, .int .i64 y42, .int .i64 y43] 53)) (.cells #[.int .i64 4] 3))
  replace hwA := below_new (below_new (hwA.trans (hb.mono hwA.size)) (.cells #[.int .i64 y40, .slice y4a y4n y4c, .int .i64 y42, .int .i64 y43] 53)) (.cells #[.int .i64 4] 3)
  have hX1 : X ≠ w1.heap.size + 1 + 1 := fun e => by
    have h1 := bx.out
    have h2 := tb.out.b2
    rw [e, h2] at h1
    exact absurd h1 (by simp)
  have i4 : BI ((w4.alloc (.cells #[.int .i64 y40, .slice y4a y4n y4c, .int .i64 y42, .int .i64 y43] 53)).alloc (.cells #[.int .i64 4] 3)) (some ⟨w4.heap.size + 1, 0, none⟩) 1 [4] := ⟨isInts_at _ _ _ _ _ (by simp) rfl, rfl, by decide⟩
  have hwD := hwA.setCell (p := ⟨w1.heap.size + 1 + 1, 5, none⟩) (by show w1.heap.size ≤ w1.heap.size + 1 + 1; omega) (.slice (some ⟨w4.heap.size + 1, 0, none⟩) 1 1)
  have tbD : Hid (TB3 (((w4.alloc (.cells #[.int .i64 y40, .slice y4a y4n y4c, .int .i64 y42, .int .i64 y43] 53)).alloc (.cells #[.int .i64 4] 3)).setCell ⟨w1.heap.size + 1 + 1, 5, none⟩ (.slice (some ⟨w4.heap.size + 1, 0, none⟩) 1 1)) w1.heap.size (bkO ab 4 4) (trO tt0 a2 1 1) (ofO 1 5 ⟨m.a1, m.n1, m.c1, m.a2, m.n2, m.c2, m.a3, m.n3, m.c3, some ⟨w4.heap.size + 1, 0, none⟩, 1, 1, m.a5, m.n5, m.c5⟩)) := ⟨by rw [Below.heap_setCell _ _ _ _ (by show w1.heap.size ≠ w1.heap.size + 1 + 1; omega)]; exact tb.out.b0, by rw [Below.heap_setCell _ _ _ _ (by show w1.heap.size + 1 ≠ w1.heap.size + 1 + 1; omega)]; exact tb.out.b1, blk_set1 tb.out.b2⟩
  have bxD := hide ((Below.heap_setCell _ ⟨w1.heap.size + 1 + 1, 5, none⟩ (.slice (some ⟨w4.heap.size + 1, 0, none⟩) 1 1) X hX1).trans bx.out)
  have i4D := i4.set (w1.heap.size + 1 + 1) 5 (.slice (some ⟨w4.heap.size + 1, 0, none⟩) 1 1) (by omega)
  unfold bkO trO ofO at tbD
  simp only [tt0] at tbD
  clear p0 p1 p2 p3 o0 o1 o2 o3 o4 o5 o6 k0
  have p0 := blk_cell tb.out.b1 0 _ rfl
  have p1 := blk_cell tb.out.b1 1 _ rfl
  have p2 := blk_cell tb.out.b1 2 _ rfl
  have p3 := blk_cell tb.out.b1 3 _ rfl
  have o0 := blk_cell tb.out.b2 0 _ rfl
  have o1 := blk_cell tb.out.b2 1 _ rfl
  have o2 := blk_cell tb.out.b2 2 _ rfl
  have o3 := blk_cell tb.out.b2 3 _ rfl
  have o4 := blk_cell tb.out.b2 4 _ rfl
  have o5 := blk_cell tb.out.b2 5 _ rfl
  have o6 := blk_cell tb.out.b2 6 _ rfl
  have k0 := blk_cell tb.out.b0 0 _ rfl
  have fo5 := blk_free tb.out.b2 5
  go_wp2_with fail
  generalize (((w4.alloc (.cells #[.int .i64 y40, .slice y4a y4n y4c, .int .i64 y42, .int .i64 y43] 53)).alloc (.cells #[.int .i64 4] 3)).setCell ⟨w1.heap.size + 1 + 1, 5, none⟩ (.slice (some ⟨w4.heap.size + 1, 0, none⟩) 1 1)) = WD at *
  obtain ⟨G4, hG4⟩ : ∃ G, G = w4.heap.size + 1 := ⟨_, rfl⟩
  rw [← hG4] at tbD i4D ⊢
  have hG4n : G4 ≠ w1.heap.size + 1 + 1 := by omega
  have tb := tbD
  have bx := bxD
  have hwA := hwD
  clear hlt4 tbD bxD hwD hG4 fo5 i4
  have H4 := hide (HR.out WD tt0 a2 1 1 ⟨[], [], 1, 5, [(0, 2, 2)], [4], [[8, 8]]⟩ ⟨m.a1, m.n1, m.c1, m.a2, m.n2, m.c2, m.a3, m.n3, m.c3, some ⟨G4, 0, none⟩, 1, 1, m.a5, m.n5, m.c5⟩ 5 9 hwA (hS2.out.below hwA) ⟨(hS3.out.below hwA).roots, (hS3.out.below hwA).rsigs, (hS3.out.below hwA).tgts, i4D, (hS3.out.below hwA).imgs⟩ f_4)
  simp only [tt0] at H4
  refine (unhide H4).mono ?_
  rintro e w5 ⟨⟨y50, y5a, y5n, y5c, y52, y53, rfl⟩, hb⟩
  clear H4
  have hlt5 := blk_lt (tb.out.below hb).b2
  replace tb := hide (blk3_alloc (blk3_alloc (blk3_alloc (blk3_alloc (blk3_alloc (tb.out.below hb) (.cells #[.int .i64 y50, .slice y5a y5n y5c, .int .i64 y52, .int .i64 y53] 53)) (.cells #[.int .i64 4] 3)) (.cells #[.int .i64 2, .slice (some ⟨w5.heap.size + 1, 0, none⟩) 1 1, .int .i64 1] 51)) (.cells #[.int .i64 3, .int .i64 4] 3)) (.cells #[.slice (some ⟨w5.heap.size + 1 + 1 + 1, 0, none⟩) 2 2] 25))
  replace bx := hide (blk_alloc (blk_alloc (blk_alloc (blk_alloc (blk_alloc (blk_below bx.out hb) (.cells #[.int .i64 y50, .slice y5a y5n y5c, .int .i64 y52, .int .i64 y53] 53)) (.cells #[.int .i64 4] 3)) (.cells #[.int .i64 2, .slice (some ⟨w5.heap.size + 1, 0, none⟩) 1 1, .int .i64 1] 51)) (.cells #[.int .i64 3, .int .i64 4] 3)) (.cells #[.slice (some ⟨w5.heap.size + 1 + 1 + 1, 0, none⟩) 2 2] 25))
  replace hwA := (below_new (below_new (below_new (below_new (below_new (hwA.trans (hb.mono hwA.size)) (.cells #[.int .i64 y50, .slice y5a y5n y5c, .int .i64 y52, .int .i64 y53] 53)) (.cells #[.int .i64 4] 3)) (.cells #[.int .i64 2, .slice (some ⟨w5.heap.size + 1, 0, none⟩) 1 1, .int .i64 1] 51)) (.cells #[.int .i64 3, .int .i64 4] 3)) (.cells #[.slice (some ⟨w5.heap.size + 1 + 1 + 1, 0, none⟩) 2 2] 25))
  have i4E := i4D.below (((below_new (below_new (below_new (below_new (below_new (hb) (.cells #[.int .i64 y50, .slice y5a y5n y5c, .int .i64 y52, .int .i64 y53] 53)) (.cells #[.int .i64 4] 3)) (.cells #[.int .i64 2, .slice (some ⟨w5.heap.size + 1, 0, none⟩) 1 1, .int .i64 1] 51)) (.cells #[.int .i64 3, .int .i64 4] 3)) (.cells #[.slice (some ⟨w5.heap.size + 1 + 1 + 1, 0, none⟩) 2 2] 25))) : Below WD.heap.size WD _)
  have j1 : BI (((((w5.alloc (.cells #[.int .i64 y50, .slice y5a y5n y5c, .int .i64 y52, .int .i64 y53] 53)).alloc (.cells #[.int .i64 4] 3)).alloc (.cells #[.int .i64 2, .slice (some ⟨w5.heap.size + 1, 0, none⟩) 1 1, .int .i64 1] 51)).alloc (.cells #[.int .i64 3, .int .i64 4] 3)).alloc (.cells #[.slice (some ⟨w5.heap.size + 1 + 1 + 1, 0, none⟩) 2 2] 25)) (some ⟨w5.heap.size + 1, 0, none⟩) 1 [4] := ⟨isInts_blk (t := 3) (blk_alloc (blk_alloc (blk_alloc (last_at (by simp)) _) _) _), rfl, by decide⟩
  have j3 : BI (((((w5.alloc (.cells #[.int .i64 y50, .slice y5a y5n y5c, .int .i64 y52, .int .i64 y53] 53)).alloc (.cells #[.int .i64 4] 3)).alloc (.cells #[.int .i64 2, .slice (some ⟨w5.heap.size + 1, 0, none⟩) 1 1, .int .i64 1] 51)).alloc (.cells #[.int .i64 3, .int .i64 4] 3)).alloc (.cells #[.slice (some ⟨w5.heap.size + 1 + 1 + 1, 0, none⟩) 2 2] 25)) (some ⟨w5.heap.size + 1 + 1 + 1, 0, none⟩) 2 [3, 4] := ⟨isInts_blk (t := 3) (blk_alloc (last_at (by simp)) _), rfl, by decide⟩
  have j2 : (((((w5.alloc (.cells #[.int .i64 y50, .slice y5a y5n y5c, .int .i64 y52, .int .i64 y53] 53)).alloc (.cells #[.int .i64 4] 3)).alloc (.cells #[.int .i64 2, .slice (some ⟨w5.heap.size + 1, 0, none⟩) 1 1, .int .i64 1] 51)).alloc (.cells #[.int .i64 3, .int .i64 4] 3)).alloc (.cells #[.slice (some ⟨w5.heap.size + 1 + 1 + 1, 0, none⟩) 2 2] 25)).heap[w5.heap.size + 1 + 1]? = some (.cells #[.int .i64 2, .slice (some ⟨w5.heap.size + 1, 0, none⟩) 1 1, .int .i64 1] 51) := blk_alloc (blk_alloc (last_at (by simp)) _) _
  have j4 : (((((w5.alloc (.cells #[.int .i64 y50, .slice y5a y5n y5c, .int .i64 y52, .int .i64 y53] 53)).alloc (.cells #[.int .i64 4] 3)).alloc (.cells #[.int .i64 2, .slice (some ⟨w5.heap.size + 1, 0, none⟩) 1 1, .int .i64 1] 51)).alloc (.cells #[.int .i64 3, .int .i64 4] 3)).alloc (.cells #[.slice (some ⟨w5.heap.size + 1 + 1 + 1, 0, none⟩) 2 2] 25)).heap[w5.heap.size + 1 + 1 + 1 + 1]? = some (.cells #[.slice (some ⟨w5.heap.size + 1 + 1 + 1, 0, none⟩) 2 2] 25) := last_at (by simp)
  have hwD := (hwA.setCell (p := ⟨w1.heap.size + 1 + 1, 0, none⟩) (by show w1.heap.size ≤ w1.heap.size + 1 + 1; omega) (.slice (some ⟨w5.heap.size + 1 + 1, 0, none⟩) 1 1)).setCell (p := ⟨w1.heap.size + 1 + 1, 1, none⟩) (by show w1.heap.size ≤ w1.heap.size + 1 + 1; omega) (.slice (some ⟨w5.heap.size + 1 + 1 + 1 + 1, 0, none⟩) 1 1)
  have tbD : Hid (TB3 (((((((w5.alloc (.cells #[.int .i64 y50, .slice y5a y5n y5c, .int .i64 y52, .int .i64 y53] 53)).alloc (.cells #[.int .i64 4] 3)).alloc (.cells #[.int .i64 2, .slice (some ⟨w5.heap.size + 1, 0, none⟩) 1 1, .int .i64 1] 51)).alloc (.cells #[.int .i64 3, .int .i64 4] 3)).alloc (.cells #[.slice (some ⟨w5.heap.size + 1 + 1 + 1, 0, none⟩) 2 2] 25)).setCell ⟨w1.heap.size + 1 + 1, 0, none⟩ (.slice (some ⟨w5.heap.size + 1 + 1, 0, none⟩) 1 1)).setCell ⟨w1.heap.size + 1 + 1, 1, none⟩ (.slice (some ⟨w5.heap.size + 1 + 1 + 1 + 1, 0, none⟩) 1 1)) w1.heap.size (bkO ab 4 4) (trO tt0 a2 1 1) (ofO 1 5 ⟨some ⟨w5.heap.size + 1 + 1, 0, none⟩, 1, 1, some ⟨w5.heap.size + 1 + 1 + 1 + 1, 0, none⟩, 1, 1, m.a3, m.n3, m.c3, some ⟨G4, 0, none⟩, 1, 1, m.a5, m.n5, m.c5⟩)) := ⟨by rw [Below.heap_setCell _ _ _ _ (by show w1.heap.size ≠ w1.heap.size + 1 + 1; omega), Below.heap_setCell _ _ _ _ (by show w1.heap.size ≠ w1.heap.size + 1 + 1; omega)]; exact tb.out.b0, by rw [Below.heap_setCell _ _ _ _ (by show w1.heap.size + 1 ≠ w1.heap.size + 1 + 1; omega), Below.heap_setCell _ _ _ _ (by show w1.heap.size + 1 ≠ w1.heap.size + 1 + 1; omega)]; exact tb.out.b1, blk_set1 (blk_set1 tb.out.b2)⟩
  have bxD : Hid ((((((((w5.alloc (.cells #[.int .i64 y50, .slice y5a y5n y5c, .int .i64 y52, .int .i64 y53] 53)).alloc (.cells #[.int .i64 4] 3)).alloc (.cells #[.int .i64 2, .slice (some ⟨w5.heap.size + 1, 0, none⟩) 1 1, .int .i64 1] 51)).alloc (.cells #[.int .i64 3, .int .i64 4] 3)).alloc (.cells #[.slice (some ⟨w5.heap.size + 1 + 1 + 1, 0, none⟩) 2 2] 25)).setCell ⟨w1.heap.size + 1 + 1, 0, none⟩ (.slice (some ⟨w5.heap.size + 1 + 1, 0, none⟩) 1 1)).setCell ⟨w1.heap.size + 1 + 1, 1, none⟩ (.slice (some ⟨w5.heap.size + 1 + 1 + 1 + 1, 0, none⟩) 1 1)).heap[X]? = _) := (Below.heap_setCell _ _ _ X hX1).trans ((Below.heap_setCell _ _ _ X hX1).trans bx.out)
  have i4F := (i4E.set (w1.heap.size + 1 + 1) 0 (.slice (some ⟨w5.heap.size + 1 + 1, 0, none⟩) 1 1) hG4n).set (w1.heap.size + 1 + 1) 1 (.slice (some ⟨w5.heap.size + 1 + 1 + 1 + 1, 0, none⟩) 1 1) hG4n
  replace j1 := (j1.set (w1.heap.size + 1 + 1) 0 (.slice (some ⟨w5.heap.size + 1 + 1, 0, none⟩) 1 1) (by omega)).set (w1.heap.size + 1 + 1) 1 (.slice (some ⟨w5.heap.size + 1 + 1 + 1 + 1, 0, none⟩) 1 1) (by omega)
  replace j3 := (j3.set (w1.heap.size + 1 + 1) 0 (.slice (some ⟨w5.heap.size + 1 + 1, 0, none⟩) 1 1) (by omega)).set (w1.heap.size + 1 + 1) 1 (.slice (some ⟨w5.heap.size + 1 + 1 + 1 + 1, 0, none⟩) 1 1) (by omega)
  replace j2 : (((((((w5.alloc (.cells #[.int .i64 y50, .slice y5a y5n y5c, .int .i64 y52, .int .i64 y53] 53)).alloc (.cells #[.int .i64 4] 3)).alloc (.cells #[.int .i64 2, .slice (some ⟨w5.heap.size + 1, 0, none⟩) 1 1, .int .i64 1] 51)).alloc (.cells #[.int .i64 3, .int .i64 4] 3)).alloc (.cells #[.slice (some ⟨w5.heap.size + 1 + 1 + 1, 0, none⟩) 2 2] 25)).setCell ⟨w1.heap.size + 1 + 1, 0, none⟩ (.slice (some ⟨w5.heap.size + 1 + 1, 0, none⟩) 1 1)).setCell ⟨w1.heap.size + 1 + 1, 1, none⟩ (.slice (some ⟨w5.heap.size + 1 + 1 + 1 + 1, 0, none⟩) 1 1)).heap[w5.heap.size + 1 + 1]? = some (.cells #[.int .i64 2, .slice (some ⟨w5.heap.size + 1, 0, none⟩) 1 1, .int .i64 1] 51) := (Below.heap_setCell _ _ _ _ (by show w5.heap.size + 1 + 1 ≠ w1.heap.size + 1 + 1; omega)).trans ((Below.heap_setCell _ _ _ _ (by show w5.heap.size + 1 + 1 ≠ w1.heap.size + 1 + 1; omega)).trans j2)
  replace j4 : (((((((w5.alloc (.cells #[.int .i64 y50, .slice y5a y5n y5c, .int .i64 y52, .int .i64 y53] 53)).alloc (.cells #[.int .i64 4] 3)).alloc (.cells #[.int .i64 2, .slice (some ⟨w5.heap.size + 1, 0, none⟩) 1 1, .int .i64 1] 51)).alloc (.cells #[.int .i64 3, .int .i64 4] 3)).alloc (.cells #[.slice (some ⟨w5.heap.size + 1 + 1 + 1, 0, none⟩) 2 2] 25)).setCell ⟨w1.heap.size + 1 + 1, 0, none⟩ (.slice (some ⟨w5.heap.size + 1 + 1, 0, none⟩) 1 1)).setCell ⟨w1.heap.size + 1 + 1, 1, none⟩ (.slice (some ⟨w5.heap.size + 1 + 1 + 1 + 1, 0, none⟩) 1 1)).heap[w5.heap.size + 1 + 1 + 1 + 1]? = some (.cells #[.slice (some ⟨w5.heap.size + 1 + 1 + 1, 0, none⟩) 2 2] 25) := (Below.heap_setCell _ _ _ _ (by show w5.heap.size + 1 + 1 + 1 + 1 ≠ w1.heap.size + 1 + 1; omega)).trans ((Below.heap_setCell _ _ _ _ (by show w5.heap.size + 1 + 1 + 1 + 1 ≠ w1.heap.size + 1 + 1; omega)).trans j4)
  have k2 : BR (((((((w5.alloc (.cells #[.int .i64 y50, .slice y5a y5n y5c, .int .i64 y52, .int .i64 y53] 53)).alloc (.cells #[.int .i64 4] 3)).alloc (.cells #[.int .i64 2, .slice (some ⟨w5.heap.size + 1, 0, none⟩) 1 1, .int .i64 1] 51)).alloc (.cells #[.int .i64 3, .int .i64 4] 3)).alloc (.cells #[.slice (some ⟨w5.heap.size + 1 + 1 + 1, 0, none⟩) 2 2] 25)).setCell ⟨w1.heap.size + 1 + 1, 0, none⟩ (.slice (some ⟨w5.heap.size + 1 + 1, 0, none⟩) 1 1)).setCell ⟨w1.heap.size + 1 + 1, 1, none⟩ (.slice (some ⟨w5.heap.size + 1 + 1 + 1 + 1, 0, none⟩) 1 1)) (some ⟨w5.heap.size + 1 + 1, 0, none⟩) 1 [⟨2, [4], 1⟩] := ⟨isRoot_blk (r := ⟨2, [4], 1⟩) j2 j1 (by decide) (by decide), rfl, by decide⟩
  have k4 : BL (((((((w5.alloc (.cells #[.int .i64 y50, .slice y5a y5n y5c, .int .i64 y52, .int .i64 y53] 53)).alloc (.cells #[.int .i64 4] 3)).alloc (.cells #[.int .i64 2, .slice (some ⟨w5.heap.size + 1, 0, none⟩) 1 1, .int .i64 1] 51)).alloc (.cells #[.int .i64 3, .int .i64 4] 3)).alloc (.cells #[.slice (some ⟨w5.heap.size + 1 + 1 + 1, 0, none⟩) 2 2] 25)).setCell ⟨w1.heap.size + 1 + 1, 0, none⟩ (.slice (some ⟨w5.heap.size + 1 + 1, 0, none⟩) 1 1)).setCell ⟨w1.heap.size + 1 + 1, 1, none⟩ (.slice (some ⟨w5.heap.size + 1 + 1 + 1 + 1, 0, none⟩) 1 1)) (some ⟨w5.heap.size + 1 + 1 + 1 + 1, 0, none⟩) 1 [[3, 4]] := ⟨isList_blk j4 j3 (by decide) (by decide), rfl, by decide⟩
  unfold bkO trO ofO at tbD
  simp only [tt0] at tbD
  clear j1 j2 j3 j4 i4E i4D hb
  clear p0 p1 p2 p3 o0 o1 o2 o3 o4 o5 o6 k0
  have p0 := blk_cell tb.out.b1 0 _ rfl
  have p1 := blk_cell tb.out.b1 1 _ rfl
  have p2 := blk_cell tb.out.b1 2 _ rfl
  have p3 := blk_cell tb.out.b1 3 _ rfl
  have o0 := blk_cell tb.out.b2 0 _ rfl
  have o1 := blk_cell tb.out.b2 1 _ rfl
  have o2 := blk_cell tb.out.b2 2 _ rfl
  have o3 := blk_cell tb.out.b2 3 _ rfl
  have o4 := blk_cell tb.out.b2 4 _ rfl
  have o5 := blk_cell tb.out.b2 5 _ rfl
  have o6 := blk_cell tb.out.b2 6 _ rfl
  have k0 := blk_cell tb.out.b0 0 _ rfl
  have fo0 := blk_free tb.out.b2 0
  have fo1 := blk_free tb.out.b2 1
  go_wp2_with fail
  generalize (((((((w5.alloc (.cells #[.int .i64 y50, .slice y5a y5n y5c, .int .i64 y52, .int .i64 y53] 53)).alloc (.cells #[.int .i64 4] 3)).alloc (.cells #[.int .i64 2, .slice (some ⟨w5.heap.size + 1, 0, none⟩) 1 1, .int .i64 1] 51)).alloc (.cells #[.int .i64 3, .int .i64 4] 3)).alloc (.cells #[.slice (some ⟨w5.heap.size + 1 + 1 + 1, 0, none⟩) 2 2] 25)).setCell ⟨w1.heap.size + 1 + 1, 0, none⟩ (.slice (some ⟨w5.heap.size + 1 + 1, 0, none⟩) 1 1)).setCell ⟨w1.heap.size + 1 + 1, 1, none⟩ (.slice (some ⟨w5.heap.size + 1 + 1 + 1 + 1, 0, none⟩) 1 1)) = WE at *
  have hz5 : takeT 0 tt0 ⟨[⟨2, [4], 1⟩], [[3, 4]], 1, 5, [(0, 2, 2)], [4], [[8, 8]]⟩ = ⟨⟨2, [4], 1⟩, 1⟩ := rfl
  have H5 := hide (HA.out WE tt0 a2 1 1 ⟨[⟨2, [4], 1⟩], [[3, 4]], 1, 5, [(0, 2, 2)], [4], [[8, 8]]⟩ ⟨some ⟨w5.heap.size + 1 + 1, 0, none⟩, 1, 1, some ⟨w5.heap.size + 1 + 1 + 1 + 1, 0, none⟩, 1, 1, m.a3, m.n3, m.c3, some ⟨G4, 0, none⟩, 1, 1, m.a5, m.n5, m.c5⟩ 5 0 hwD (hS2.out.below hwD) ⟨k2, k4, (hS3.out.below hwD).tgts, i4F, (hS3.out.below hwD).imgs⟩ f_5)
  rw [hz5] at H5
  simp only [tt0] at H5
  refine (unhide H5).mono ?_
  rintro e w6 ⟨⟨za, zn, zc, rfl, hzi⟩, hb⟩
  have hwF := below_new (hwD.trans (hb.mono hwD.size)) (.cells #[.int .i64 2, .slice za zn zc, .int .i64 1, .int .i64 1] 53)
  have bxF := hide (blk_alloc (blk_below bxD.out hb) (.cells #[.int .i64 2, .slice za zn zc, .int .i64 1, .int .i64 1] 53))
  have xv := blk_cell bxF.out 3 _ rfl
  clear H5 hb hzi
  clear p0 p1 p2 p3 o0 o1 o2 o3 o4 o5 o6 k0
  clear fo0 fo1
  go_wp2_with fail
  go_ret
  exact ⟨rfl, hw1.trans (hwF.mono hw1.size)⟩

end Go.Proofs.YtanpglfpopbfkabDoor
