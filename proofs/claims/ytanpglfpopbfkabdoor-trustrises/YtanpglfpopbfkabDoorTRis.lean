/- The law TrustRises, walked. -/
import Derived.Test.YtanpglfpopbfkabDoorTSam
import Derived.Test.YtanpglfpopbfkabDoorTFct
namespace Go.Proofs.YtanpglfpopbfkabDoor
open Go.RowKit

set_option maxHeartbeats 6400000 in
set_option maxRecDepth 100000 in
theorem trustRises_walk (ab : Option Addr) (nb cb : Nat) (ss : List ByteArray) (a1 : Option Addr) (n1 c1 : Nat) (l : List S2) (t : Tr) (a2 : Option Addr) (n2 c2 : Nat) (o : Of) (m : OA) (now units : Int) (w : World)
    (h0 : BB w ab nb cb ss) (h1 : BG w a1 n1 l) (h2 : BI w a2 n2 t.r.ks) (h3 : BO w m o) (hT : Tab w) :
    Calls Tryd.prog 7 #[bookv ab nb cb, .slice a1 n1 c1, trv t.r.v a2 n2 c2 t.r.t t.ver, offv o.v o.u m, .int .i64 now, .int .i64 units] w fun e w' => e = .returned (.bool true) ∧ Below w.heap.size w w' := by
  have hw0 : Below w.heap.size w (((w.alloc (bkO ab nb cb)).alloc (trO t a2 n2 c2)).alloc (ofO o.v o.u m)) := (((Below.refl _ _).alloc (Nat.le_refl _) _).alloc (by simp) _).alloc (by simp; omega) _
  have tb : Hid (TB3 (((w.alloc (bkO ab nb cb)).alloc (trO t a2 n2 c2)).alloc (ofO o.v o.u m)) w.heap.size (bkO ab nb cb) (trO t a2 n2 c2) (ofO o.v o.u m)) :=
    ⟨blk_alloc (blk_alloc (heap_alloc_last _ _) _) _, blk_alloc (last1 _ _ _) _, last2 _ _ _ _⟩
  have HA := hide (fun W (hW : Below w.heap.size w W) => take_any ab nb cb ss a1 n1 c1 l t a2 n2 c2 o m now units W (h0.below hW) (h1.below hW) (h2.below hW) (h3.below hW) (hT.below hW))
  have HB := hide (fun W (t : Tr) a n c (o : Of) m (hW : Below w.heap.size w W) (hi : BI W a n t.r.ks) (ho : BO W m o) => take_any ab nb cb ss a1 n1 c1 l t a n c o m now units W (h0.below hW) (h1.below hW) hi ho (hT.below hW))
  have HF := hide (fun W (hW : Below w.heap.size w W) => lawTrusted_any W (hT.below hW))
  have HR := hide (fun W (hW : Below w.heap.size w W) => releaseText_any o.v o.u m.a3 m.n3 m.c3 o.ts W (h3.below hW).tgts.at_ h3.tgts.len h3.tgts.max (hT.below hW))
  have HN := hide (fun W s (hW : Below w.heap.size w W) => name_any ab nb cb ss s W (h0.below hW).at_ h0.len h0.cap h0.max h0.short)
  have HC := hide (fun W (r : Rt) a n c name (hW : Below w.heap.size w W) (hr : BI W a n r.ks) => count_any a1 n1 c1 l r a n c m.a4 m.n4 m.c4 o.sigs name W (h1.below hW) hr (h3.below hW).sigs)
  have H3 := hide h3
  unfold trv rv relv bookv offv TAns at *
  unfold trv at HA HB
  clear h0 h1 h2 h3 hT
  unfold bkO trO ofO at hw0 tb
  go_enter Tryd.func7, Tryd.ntmps7
  go_wp2_with fail
  generalize ((w.alloc (.cells #[.slice ab nb cb] 24)).alloc (.cells #[.int .i64 t.r.v, .slice a2 n2 c2, .int .i64 t.r.t, .int .i64 t.ver] 53)).alloc (.cells #[.slice m.a1 m.n1 m.c1, .slice m.a2 m.n2 m.c2, .int .i64 o.v, .int .i64 o.u, .slice m.a3 m.n3 m.c3, .slice m.a4 m.n4 m.c4, .slice m.a5 m.n5 m.c5] 57) = W at *
  refine (unhide HA _ hw0).mono ?_
  clear HA
  rintro e w1 ⟨⟨xa, xn, xc, rfl, hxi, hxf⟩, hb⟩
  by_cases z1 : takeE ss l t o now units = 0
  rotate_left
  · have hq : (takeE ss l t o now units != 0) = true := by simpa using z1
    clear HB HR HN HC z1
    generalize takeE ss l t o now units = q at *
    generalize takeT q t o = X at *
    replace hw0 := below_new (hw0.trans (hb.mono hw0.size)) (.cells #[.int .i64 X.r.v, .slice xa xn xc, .int .i64 X.r.t, .int .i64 X.ver] 53)
    go_wp2_with fail
    refine (unhide HF _ hw0).mono ?_
    rintro e w2 ⟨rfl, hb2⟩
    replace hw0 := hw0.trans (hb2.mono hw0.size)
    go_wp2_with fail
    refine (unhide HF _ hw0).mono ?_
    rintro e w3 ⟨rfl, hb3⟩
    go_wp2_with fail
    go_ret
    exact ⟨rfl, hw0.trans (hb3.mono hw0.size)⟩
  obtain ⟨k1, k2, k3, k4⟩ := takeE_ok z1
  obtain ⟨g1, g2, g3⟩ := crE_ok k3
  obtain ⟨r1, r2, r3, r4, r5⟩ := restE_ok k4
  have R1 := hide (rises_1 z1)
  have R2 := hide (rises_2 z1)
  have R3 := hide (rises_3 z1)
  have hname := csE_name g3
  obtain ⟨q1, q2⟩ := csE_ok g3
  have hv := turnsE_v (allE_ok k2).2.2 (allE_ok k2).2.1
  have hlen := (allE_ok k2).1
  have hrv := (rootE_ok (trE_ok k1).2).1
  rw [H3.out.roots.len] at hv hlen
  rw [H3.out.tgts.len] at r3
  have hX : takeT 0 t o = ⟨lastR t.r o.roots, o.v⟩ := rfl
  rw [z1, hX] at hxi
  rw [z1, hX]
  generalize lastR t.r o.roots = L at *
  have hwr : IntKind.i64.wrap (t.r.v + (m.n1 : Int)) = L.v := by rw [IntKind.wrap_i64]; omega
  replace HR := hide (fun W hW => HR.out W hW)
  rw [g1, show relTx o.v o.u o.ts = relT o.v o.u o.ts by unfold relTx; rw [if_pos g1]] at HR
  generalize bs (relT o.v o.u o.ts) = sx at *
  replace HN := hide (fun W hW => HN.out W sx hW)
  rw [g2, show nameE ss sx = (nameN ss sx : Int) by unfold nameE; rw [if_pos g2]] at HN
  replace HC := hide (fun W hW hr => HC.out W L xa xn xc (nameN ss sx) hW hr)
  rw [cntV_0 q1, q1] at HC
  generalize (nameN ss sx : Int) = nm at *
  generalize (cntN l L.ks o.sigs nm : Int) = cn at *
  have d1 : (nm == 0) = false := by simpa using hname
  have d2 : decide (cn < L.t) = false := by simp; omega
  have d3 : decide (o.v ≤ t.ver) = false := by simp; omega
  have d4 : decide (o.u < now) = false := by simp; omega
  have d5 : ((m.n3 : Int) != units) = false := by simpa using r3
  clear k1 k2 k3 k4 g1 g2 g3 r1 r2 r3 r4 r5 hname q1 q2 hv hlen hrv z1 hX
  have hfar : ∀ ad, xa = some ad → ad.block ≠ w.heap.size + 1 + 1 := fun ad e => by have h1 := hxf ad e; have h2 := blk_lt tb.out.b2; omega
  replace tb := hide (blk3_alloc (tb.out.below hb) (.cells #[.int .i64 L.v, .slice xa xn xc, .int .i64 L.t, .int .i64 o.v] 53))
  have bx := hide (heap_alloc_last w1 (.cells #[.int .i64 L.v, .slice xa xn xc, .int .i64 L.t, .int .i64 o.v] 53))
  replace hw0 := below_new (hw0.trans (hb.mono hw0.size)) (.cells #[.int .i64 L.v, .slice xa xn xc, .int .i64 L.t, .int .i64 o.v] 53)
  replace hxi := hxi.below ((Below.refl _ _).alloc (Nat.le_refl _) (.cells #[.int .i64 L.v, .slice xa xn xc, .int .i64 L.t, .int .i64 o.v] 53))
  clear hb hxf
  go_wp2_with fail
  generalize w1.alloc (.cells #[.int .i64 L.v, .slice xa xn xc, .int .i64 L.t, .int .i64 o.v] 53) = WA at *
  obtain ⟨X, hXe⟩ : ∃ X, X = w1.heap.size := ⟨_, rfl⟩
  rw [← hXe] at bx ⊢
  clear hXe
  refine (unhide HF _ hw0).mono ?_
  rintro e w2 ⟨rfl, hb⟩
  replace tb := hide (tb.out.below hb)
  replace bx := hide (blk_below bx.out hb)
  replace hw0 := hw0.trans (hb.mono hw0.size)
  replace hxi := hxi.below hb
  clear hb
  have o2 := blk_cell tb.out.b2 2 _ rfl
  have o3 := blk_cell tb.out.b2 3 _ rfl
  have o4 := blk_cell tb.out.b2 4 _ rfl
  go_wp2_with fail
  refine (unhide HR _ hw0).mono ?_
  rintro e w3 ⟨rfl, hb⟩
  replace tb := hide (tb.out.below hb)
  replace bx := hide (blk_below bx.out hb)
  replace hw0 := hw0.trans (hb.mono hw0.size)
  replace hxi := hxi.below hb
  clear hb
  clear o2 o3 o4
  have k0 := blk_cell tb.out.b0 0 _ rfl
  go_wp2_with fail
  refine (unhide HN _ hw0).mono ?_
  rintro e w4 ⟨rfl, hb⟩
  replace tb := hide (tb.out.below hb)
  replace bx := hide (blk_below bx.out hb)
  replace hw0 := hw0.trans (hb.mono hw0.size)
  replace hxi := hxi.below hb
  clear hb
  clear k0
  have x0 := blk_cell bx.out 0 _ rfl
  have x1 := blk_cell bx.out 1 _ rfl
  have x2 := blk_cell bx.out 2 _ rfl
  have o5 := blk_cell tb.out.b2 5 _ rfl
  go_wp2_with fail
  refine (unhide HC _ hw0 hxi).mono ?_
  rintro e w5 ⟨rfl, hb⟩
  replace tb := hide (tb.out.below hb)
  replace bx := hide (blk_below bx.out hb)
  replace hw0 := hw0.trans (hb.mono hw0.size)
  replace hxi := hxi.below hb
  clear hb
  clear x0 x1 x2 o5 HR HN HC HF
  have hX2 : X ≠ w.heap.size + 1 + 1 := fun e => by
    have h1 := bx.out
    have h2 := tb.out.b2
    rw [e, h2] at h1
    exact absurd h1 (by simp)
  have k0 := blk_cell tb.out.b0 0 _ rfl
  have p0 := blk_cell tb.out.b1 0 _ rfl
  have p3 := blk_cell tb.out.b1 3 _ rfl
  have o0 := blk_cell tb.out.b2 0 _ rfl
  have o1 := blk_cell tb.out.b2 1 _ rfl
  have o2 := blk_cell tb.out.b2 2 _ rfl
  have o3 := blk_cell tb.out.b2 3 _ rfl
  have o4 := blk_cell tb.out.b2 4 _ rfl
  have o5 := blk_cell tb.out.b2 5 _ rfl
  have o6 := blk_cell tb.out.b2 6 _ rfl
  have x0 := blk_cell bx.out 0 _ rfl
  have x1 := blk_cell bx.out 1 _ rfl
  have x2 := blk_cell bx.out 2 _ rfl
  have x3 := blk_cell bx.out 3 _ rfl
  have fo0 := blk_free tb.out.b2 0
  have fo1 := blk_free tb.out.b2 1
  have hwD := (hw0.setCell (p := ⟨w.heap.size + 1 + 1, 0, none⟩) (by show w.heap.size ≤ w.heap.size + 1 + 1; omega) (.slice none 0 0)).setCell (p := ⟨w.heap.size + 1 + 1, 1, none⟩) (by show w.heap.size ≤ w.heap.size + 1 + 1; omega) (.slice none 0 0)
  have tbD : Hid (TB3 ((w5.setCell ⟨w.heap.size + 1 + 1, 0, none⟩ (.slice none 0 0)).setCell ⟨w.heap.size + 1 + 1, 1, none⟩ (.slice none 0 0)) w.heap.size (bkO ab nb cb) (trO t a2 n2 c2) (ofO o.v o.u ⟨none, 0, 0, none, 0, 0, m.a3, m.n3, m.c3, m.a4, m.n4, m.c4, m.a5, m.n5, m.c5⟩)) := ⟨by rw [Below.heap_setCell _ _ _ _ (by show w.heap.size ≠ w.heap.size + 1 + 1; omega), Below.heap_setCell _ _ _ _ (by show w.heap.size ≠ w.heap.size + 1 + 1; omega)]; exact tb.out.b0, by rw [Below.heap_setCell _ _ _ _ (by show w.heap.size + 1 ≠ w.heap.size + 1 + 1; omega), Below.heap_setCell _ _ _ _ (by show w.heap.size + 1 ≠ w.heap.size + 1 + 1; omega)]; exact tb.out.b1, blk_set1 (blk_set1 tb.out.b2)⟩
  have bxD : Hid (((w5.setCell ⟨w.heap.size + 1 + 1, 0, none⟩ (.slice none 0 0)).setCell ⟨w.heap.size + 1 + 1, 1, none⟩ (.slice none 0 0)).heap[X]? = _) := (Below.heap_setCell _ _ _ X hX2).trans ((Below.heap_setCell _ _ _ X hX2).trans bx.out)
  have hxD := (hxi.set2 (w.heap.size + 1 + 1) 0 (.slice none 0 0) (.inr hfar)).set2 (w.heap.size + 1 + 1) 1 (.slice none 0 0) (.inr hfar)
  unfold bkO trO ofO at tbD
  go_wp2_with fail
  generalize ((w5.setCell ⟨w.heap.size + 1 + 1, 0, none⟩ (.slice none 0 0)).setCell ⟨w.heap.size + 1 + 1, 1, none⟩ (.slice none 0 0)) = WD at *
  clear tb bx hw0 hxi k0 p0 p3 o0 o1 o2 o3 o4 o5 o6 x0 x1 x2 x3 fo0 fo1
  have tb := tbD
  have bx := bxD
  have hw0 := hwD
  have hxi := hxD
  clear tbD bxD hwD hxD
  have H1 := hide (HB.out WD ⟨L, o.v⟩ xa xn xc (bare o) ⟨none, 0, 0, none, 0, 0, m.a3, m.n3, m.c3, m.a4, m.n4, m.c4, m.a5, m.n5, m.c5⟩ hw0 hxi ⟨⟨.inl rfl, rfl, ml0⟩, ⟨.inl rfl, rfl, ml0⟩, (H3.out.below hw0).tgts, (H3.out.below hw0).sigs, (H3.out.below hw0).imgs⟩)
  rw [R1.out] at H1
  refine (unhide H1).mono ?_
  rintro e w6 ⟨⟨ja, jn, jc, rfl, _, _⟩, hb⟩
  generalize takeT 10 ⟨L, o.v⟩ (bare o) = J at *
  have p3 := blk_cell (blk3_alloc (tb.out.below hb) (.cells #[.int .i64 L.v, .slice xa xn xc, .int .i64 L.t, .int .i64 o.v] 53)).b1 3 _ rfl
  replace tb := hide (blk3_alloc (tb.out.below hb) (.cells #[.int .i64 L.v, .slice xa xn xc, .int .i64 L.t, .int .i64 t.ver] 53))
  replace bx := hide (blk_below bx.out hb)
  have x0 := blk_cell bx.out 0 _ rfl
  have x1 := blk_cell bx.out 1 _ rfl
  have x2 := blk_cell bx.out 2 _ rfl
  have x3 := blk_cell bx.out 3 _ rfl
  replace bx := hide (blk_alloc bx.out (.cells #[.int .i64 L.v, .slice xa xn xc, .int .i64 L.t, .int .i64 t.ver] 53))
  have bY := hide (heap_alloc_last w6 (.cells #[.int .i64 L.v, .slice xa xn xc, .int .i64 L.t, .int .i64 t.ver] 53))
  replace hw0 := below_new (hw0.trans (hb.mono hw0.size)) (.cells #[.int .i64 L.v, .slice xa xn xc, .int .i64 L.t, .int .i64 t.ver] 53)
  replace hxi := hxi.below (below_new hb (.cells #[.int .i64 L.v, .slice xa xn xc, .int .i64 L.t, .int .i64 t.ver] 53))
  have k0 := blk_cell tb.out.b0 0 _ rfl
  have o0 := blk_cell tb.out.b2 0 _ rfl
  have o1 := blk_cell tb.out.b2 1 _ rfl
  have o2 := blk_cell tb.out.b2 2 _ rfl
  have o3 := blk_cell tb.out.b2 3 _ rfl
  have o4 := blk_cell tb.out.b2 4 _ rfl
  have o5 := blk_cell tb.out.b2 5 _ rfl
  have o6 := blk_cell tb.out.b2 6 _ rfl
  clear hb H1
  go_wp2_with fail
  generalize w6.alloc (.cells #[.int .i64 L.v, .slice xa xn xc, .int .i64 L.t, .int .i64 t.ver] 53) = WF at *
  obtain ⟨Y, hYe⟩ : ∃ Y, Y = w6.heap.size := ⟨_, rfl⟩
  rw [← hYe] at bY ⊢
  clear hYe k0 o0 o1 o2 o3 o4 o5 o6 x0 x1 x2 x3 p3
  have H2 := hide (HB.out WF ⟨L, t.ver⟩ xa xn xc (bare o) ⟨none, 0, 0, none, 0, 0, m.a3, m.n3, m.c3, m.a4, m.n4, m.c4, m.a5, m.n5, m.c5⟩ hw0 hxi ⟨⟨.inl rfl, rfl, ml0⟩, ⟨.inl rfl, rfl, ml0⟩, (H3.out.below hw0).tgts, (H3.out.below hw0).sigs, (H3.out.below hw0).imgs⟩)
  have hz2 : takeT 0 ⟨L, t.ver⟩ (bare o) = ⟨L, o.v⟩ := rfl
  rw [R2.out, hz2] at H2
  refine (unhide H2).mono ?_
  rintro e w7 ⟨⟨za, zn, zc, rfl, hzi, hzf⟩, hb⟩
  have hzfar : ∀ ad, za = some ad → ad.block ≠ w.heap.size + 1 + 1 := fun ad e => by have h1 := hzf ad e; have h2 := blk_lt tb.out.b2; omega
  have hYn : Y ≠ w.heap.size + 1 + 1 := fun e => by
    have h1 := bY.out
    have h2 := tb.out.b2
    rw [e, h2] at h1
    exact absurd h1 (by simp)
  replace tb := hide (blk3_alloc (tb.out.below hb) (.cells #[.int .i64 L.v, .slice za zn zc, .int .i64 L.t, .int .i64 o.v] 53))
  have hZn : w7.heap.size ≠ w.heap.size + 1 + 1 := fun e => by
    have h1 := heap_alloc_last w7 (.cells #[.int .i64 L.v, .slice za zn zc, .int .i64 L.t, .int .i64 o.v] 53)
    have h2 := tb.out.b2
    rw [e, h2] at h1
    exact absurd h1 (by simp)
  replace bx := hide (blk_alloc (blk_below bx.out hb) (.cells #[.int .i64 L.v, .slice za zn zc, .int .i64 L.t, .int .i64 o.v] 53))
  replace bY := hide (blk_alloc (blk_below bY.out hb) (.cells #[.int .i64 L.v, .slice za zn zc, .int .i64 L.t, .int .i64 o.v] 53))
  have bZ := hide (heap_alloc_last w7 (.cells #[.int .i64 L.v, .slice za zn zc, .int .i64 L.t, .int .i64 o.v] 53))
  replace hw0 := below_new (hw0.trans (hb.mono hw0.size)) (.cells #[.int .i64 L.v, .slice za zn zc, .int .i64 L.t, .int .i64 o.v] 53)
  replace hxi := hxi.below (below_new hb (.cells #[.int .i64 L.v, .slice za zn zc, .int .i64 L.t, .int .i64 o.v] 53))
  replace hzi := hzi.below ((Below.refl _ _).alloc (Nat.le_refl _) (.cells #[.int .i64 L.v, .slice za zn zc, .int .i64 L.t, .int .i64 o.v] 53))
  have o5 := blk_cell tb.out.b2 5 _ rfl
  have fo5 := blk_free tb.out.b2 5
  have tbE : Hid (TB3 ((w7.alloc (.cells #[.int .i64 L.v, .slice za zn zc, .int .i64 L.t, .int .i64 o.v] 53)).setCell ⟨w.heap.size + 1 + 1, 5, none⟩ (.slice none 0 0)) w.heap.size (bkO ab nb cb) (trO t a2 n2 c2) (ofO o.v o.u ⟨none, 0, 0, none, 0, 0, m.a3, m.n3, m.c3, none, 0, 0, m.a5, m.n5, m.c5⟩)) := ⟨by rw [Below.heap_setCell _ _ _ _ (by show w.heap.size ≠ w.heap.size + 1 + 1; omega)]; exact tb.out.b0, by rw [Below.heap_setCell _ _ _ _ (by show w.heap.size + 1 ≠ w.heap.size + 1 + 1; omega)]; exact tb.out.b1, blk_set1 tb.out.b2⟩
  have bxE : Hid (((w7.alloc (.cells #[.int .i64 L.v, .slice za zn zc, .int .i64 L.t, .int .i64 o.v] 53)).setCell ⟨w.heap.size + 1 + 1, 5, none⟩ (.slice none 0 0)).heap[X]? = _) := (Below.heap_setCell _ _ _ X hX2).trans bx.out
  have bYE : Hid (((w7.alloc (.cells #[.int .i64 L.v, .slice za zn zc, .int .i64 L.t, .int .i64 o.v] 53)).setCell ⟨w.heap.size + 1 + 1, 5, none⟩ (.slice none 0 0)).heap[Y]? = _) := (Below.heap_setCell _ _ _ Y hYn).trans bY.out
  have bZE : Hid (((w7.alloc (.cells #[.int .i64 L.v, .slice za zn zc, .int .i64 L.t, .int .i64 o.v] 53)).setCell ⟨w.heap.size + 1 + 1, 5, none⟩ (.slice none 0 0)).heap[w7.heap.size]? = _) := (Below.heap_setCell _ _ _ _ hZn).trans bZ.out
  have hwE := hw0.setCell (p := ⟨w.heap.size + 1 + 1, 5, none⟩) (by show w.heap.size ≤ w.heap.size + 1 + 1; omega) (.slice none 0 0)
  have hxE := hxi.set2 (w.heap.size + 1 + 1) 5 (.slice none 0 0) (.inr hfar)
  have hzE := hzi.set2 (w.heap.size + 1 + 1) 5 (.slice none 0 0) (.inr hzfar)
  unfold bkO trO ofO at tbE
  have k0 := blk_cell tbE.out.b0 0 _ rfl
  have y0 := blk_cell bYE.out 0 _ rfl
  have y1 := blk_cell bYE.out 1 _ rfl
  have y2 := blk_cell bYE.out 2 _ rfl
  have y3 := blk_cell bYE.out 3 _ rfl
  have e0 := blk_cell tbE.out.b2 0 _ rfl
  have e1 := blk_cell tbE.out.b2 1 _ rfl
  have e2 := blk_cell tbE.out.b2 2 _ rfl
  have e3 := blk_cell tbE.out.b2 3 _ rfl
  have e4 := blk_cell tbE.out.b2 4 _ rfl
  have e5 := blk_cell tbE.out.b2 5 _ rfl
  have e6 := blk_cell tbE.out.b2 6 _ rfl
  clear hb H2
  go_wp2_with fail
  generalize ((w7.alloc (.cells #[.int .i64 L.v, .slice za zn zc, .int .i64 L.t, .int .i64 o.v] 53)).setCell ⟨w.heap.size + 1 + 1, 5, none⟩ (.slice none 0 0)) = WG at *
  obtain ⟨Z, hZe⟩ : ∃ Z, Z = w7.heap.size := ⟨_, rfl⟩
  rw [← hZe] at bZE ⊢
  clear hZe hZn k0 y0 y1 y2 y3 e0 e1 e2 e3 e4 e5 e6 o5 fo5 tb bx bY bZ hw0 hxi hzi
  have H4 := hide (HB.out WG ⟨L, t.ver⟩ xa xn xc (unsigned o) ⟨none, 0, 0, none, 0, 0, m.a3, m.n3, m.c3, none, 0, 0, m.a5, m.n5, m.c5⟩ hwE hxE ⟨⟨.inl rfl, rfl, ml0⟩, ⟨.inl rfl, rfl, ml0⟩, (H3.out.below hwE).tgts, ⟨.inl rfl, rfl, ml0⟩, (H3.out.below hwE).imgs⟩)
  rw [R3.out] at H4
  refine (unhide H4).mono ?_
  rintro e w8 ⟨⟨ia, in_, ic, rfl, _, _⟩, hb⟩
  generalize takeT 9 ⟨L, t.ver⟩ (unsigned o) = I9 at *
  have bx := hide (blk_below bxE.out hb)
  have bZ := hide (blk_below bZE.out hb)
  have hw0 := hwE.trans (hb.mono hwE.size)
  have HS := hide (sameTrust_any ⟨L, o.v⟩ ⟨L, o.v⟩ za zn zc xa xn xc w8 (hzE.below hb) (hxE.below hb))
  rw [sameT_refl] at HS
  unfold trv at HS
  have x0 := blk_cell bx.out 0 _ rfl
  have x1 := blk_cell bx.out 1 _ rfl
  have x2 := blk_cell bx.out 2 _ rfl
  have x3 := blk_cell bx.out 3 _ rfl
  have z0 := blk_cell bZ.out 0 _ rfl
  have z1 := blk_cell bZ.out 1 _ rfl
  have z2 := blk_cell bZ.out 2 _ rfl
  have z3 := blk_cell bZ.out 3 _ rfl
  clear hb H4
  go_wp2_with fail
  refine (unhide HS).mono ?_
  rintro e w9 ⟨rfl, hb⟩
  go_wp2_with fail
  go_ret
  exact ⟨rfl, hw0.trans (hb.mono hw0.size)⟩

end Go.Proofs.YtanpglfpopbfkabDoor
