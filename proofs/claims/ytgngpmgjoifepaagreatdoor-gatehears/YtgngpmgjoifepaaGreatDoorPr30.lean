/- The closed fact: a campaign is begun, voted for, decided, ended (wainwrightlaw.gated). The ref's SameTrust. -/
import Derived.Test.YtgngpmgjoifepaaGreatDoorPr29
import Derived.Laws.StructEq
import Derived.Test.YtgngpmgjoifepaaGreatDoorPr24
import Derived.Test.YtgngpmgjoifepaaGreatDoorPr0
namespace Go.Proofs.YtgngpmgjoifepaaGreatDoor
open Go.RowKit
attribute [local go_sem ↓] Go.wp_at_zero Go.wp_at_succ

theorem bools_turns {w w' : World} {B : Nat} {a : Option Addr} {bs : List Bool} (h : IsBools w a bs) (hg : w.grownBy w' (some B)) (ho : Off B a) : IsBools w' a bs := by
  rcases h with h | ⟨b, off, rfl, hc⟩
  · exact .inl h
  · exact .inr ⟨b, off, rfl, fun i hi => hg.cell (hc i hi) (fun e => ho _ rfl (by cases e; rfl))⟩
theorem GIn.turns {w w' : World} {B F : Nat} {m : GA} {g : Gt} (h : GIn w m g) (hf : GFr F m) (hB : B < F) (hg : w.grownBy w' (some B)) : GIn w' m g :=
  ⟨h.ws.turns hg (off_fresh hf.a hB), h.ks.turns hg (off_fresh hf.ak hB), ⟨bools_turns h.vo.at_ hg (off_fresh hf.av hB), h.vo.len, h.vo.cap, h.vo.max⟩, ⟨bools_turns h.di.at_ hg (off_fresh hf.ad hB), h.di.len, h.di.cap, h.di.max⟩⟩
theorem gt_set9 {W : World} {B : Nat} {c0 c1 c2 c3 c4 c5 c6 c7 c8 v0 v1 v2 v3 v4 v5 v6 v7 v8 : Value} {t : TypeId} (h : W.heap[B]? = some (.cells #[c0, c1, c2, c3, c4, c5, c6, c7, c8] t (0, 0))) :
    (((((((((W.setCell ⟨B, 0, none⟩ v0).setCell ⟨B, 1, none⟩ v1).setCell ⟨B, 2, none⟩ v2).setCell ⟨B, 3, none⟩ v3).setCell ⟨B, 4, none⟩ v4).setCell ⟨B, 5, none⟩ v5).setCell ⟨B, 6, none⟩ v6).setCell ⟨B, 7, none⟩ v7).setCell ⟨B, 8, none⟩ v8).heap[B]? = some (.cells #[v0, v1, v2, v3, v4, v5, v6, v7, v8] t (0, 0)) := by
  simp only [World.setCell, Array.getElem?_modify]
  simp [h]

set_option maxHeartbeats 12800000 in
set_option maxRecDepth 100000 in
theorem lawGated_any (w : World) (hT : Tab w) : Calls Tryz.prog 36 #[] w fun e w' => e = .returned (.bool true) ∧ Below w.heap.size w w' := by
  have HTb := hide hT
  clear hT
  go_enter Tryz.func36, Tryz.ntmps36
  go_wp2_with fail
  refine (lawSimple_any _).mono ?_
  rintro e w1 ⟨ab, a1, a2, m, rfl, hS, hw⟩
  have HS := hide hS
  clear hS
  go_upto_region 2 with fail
  have hb : Below w1.heap.size w1 (((w1.alloc (.cells #[.slice ab 4 4] 24)).alloc (.cells #[.int .i64 1, .slice a2 1 1, .int .i64 1, .int .i64 0] 65)).alloc (.cells #[.slice m.a1 m.n1 m.c1, .slice m.a2 m.n2 m.c2, .int .i64 1, .int .i64 5, .slice m.a3 m.n3 m.c3, .slice m.a4 m.n4 m.c4, .slice m.a5 m.n5 m.c5] 75)) := (((Below.refl _ _).alloc (Nat.le_refl _) _).alloc (by simp) _).alloc (by simp; omega) _
  have b0 : Hid ((((w1.alloc (.cells #[.slice ab 4 4] 24)).alloc (.cells #[.int .i64 1, .slice a2 1 1, .int .i64 1, .int .i64 0] 65)).alloc (.cells #[.slice m.a1 m.n1 m.c1, .slice m.a2 m.n2 m.c2, .int .i64 1, .int .i64 5, .slice m.a3 m.n3 m.c3, .slice m.a4 m.n4 m.c4, .slice m.a5 m.n5 m.c5] 75)).heap[w1.heap.size]? = some (.cells #[.slice ab 4 4] 24 (0, 0))) := bk3.1
  have b1 : Hid ((((w1.alloc (.cells #[.slice ab 4 4] 24)).alloc (.cells #[.int .i64 1, .slice a2 1 1, .int .i64 1, .int .i64 0] 65)).alloc (.cells #[.slice m.a1 m.n1 m.c1, .slice m.a2 m.n2 m.c2, .int .i64 1, .int .i64 5, .slice m.a3 m.n3 m.c3, .slice m.a4 m.n4 m.c4, .slice m.a5 m.n5 m.c5] 75)).heap[w1.heap.size + 1]? = some (.cells #[.int .i64 1, .slice a2 1 1, .int .i64 1, .int .i64 0] 65 (0, 0))) := bk3.2.1
  have b2 : Hid ((((w1.alloc (.cells #[.slice ab 4 4] 24)).alloc (.cells #[.int .i64 1, .slice a2 1 1, .int .i64 1, .int .i64 0] 65)).alloc (.cells #[.slice m.a1 m.n1 m.c1, .slice m.a2 m.n2 m.c2, .int .i64 1, .int .i64 5, .slice m.a3 m.n3 m.c3, .slice m.a4 m.n4 m.c4, .slice m.a5 m.n5 m.c5] 75)).heap[w1.heap.size + 1 + 1]? = some (.cells #[.slice m.a1 m.n1 m.c1, .slice m.a2 m.n2 m.c2, .int .i64 1, .int .i64 5, .slice m.a3 m.n3 m.c3, .slice m.a4 m.n4 m.c4, .slice m.a5 m.n5 m.c5] 75 (0, 0))) := bk3.2.2
  replace HS := hide (HS.out.below hb)
  replace hw := hw.trans (hb.mono hw.size)
  replace HTb := hide (HTb.out.below hw)
  clear hb
  generalize (((w1.alloc (.cells #[.slice ab 4 4] 24)).alloc (.cells #[.int .i64 1, .slice a2 1 1, .int .i64 1, .int .i64 0] 65)).alloc (.cells #[.slice m.a1 m.n1 m.c1, .slice m.a2 m.n2 m.c2, .int .i64 1, .int .i64 5, .slice m.a3 m.n3 m.c3, .slice m.a4 m.n4 m.c4, .slice m.a5 m.n5 m.c5] 75)) = W1 at *
  generalize w1.heap.size = K at *
  have t0 := blk_cell b1.out 0 _ rfl
  have t1 := blk_cell b1.out 1 _ rfl
  have t2 := blk_cell b1.out 2 _ rfl
  have hN := hide (gateNew_any fr1 a2 1 1 1 W1 HS.out.2.2.1)
  rw [fg_new] at hN
  unfold fr1 at hN
  go_wp2_with fail
  refine (unhide hN).mono ?_
  rintro e w2 ⟨⟨k, rfl, hg, hfr⟩, hb⟩
  clear hN t0 t1 t2
  dsimp only at hg ⊢
  have bG := hide (heap_alloc_last w2 (.cells #[.slice k.a k.n k.c, .int .i64 fg0.fu, .bool fg0.up, .int .i64 fg0.t.r.v, .slice k.ak k.nk k.ck, .int .i64 fg0.t.r.t, .int .i64 fg0.t.ver, .slice k.av k.nv k.cv, .slice k.ad k.nd k.cd] 68))
  have hb2 : Below w2.heap.size w2 (w2.alloc (.cells #[.slice k.a k.n k.c, .int .i64 fg0.fu, .bool fg0.up, .int .i64 fg0.t.r.v, .slice k.ak k.nk k.ck, .int .i64 fg0.t.r.t, .int .i64 fg0.t.ver, .slice k.av k.nv k.cv, .slice k.ad k.nd k.cd] 68)) := below_new (Below.refl _ _) _
  have HG := hide (hg.below hb2)
  have hS := hb.trans (hb2.mono hb.size)
  have hGK := hb.size
  clear hg hb hb2 hfr
  unfold gtv
  go_upto_region 3 with fail
  generalize w2.alloc (.cells #[.slice k.a k.n k.c, .int .i64 fg0.fu, .bool fg0.up, .int .i64 fg0.t.r.v, .slice k.ak k.nk k.ck, .int .i64 fg0.t.r.t, .int .i64 fg0.t.ver, .slice k.av k.nv k.cv, .slice k.ad k.nd k.cd] 68) = W2 at *
  generalize w2.heap.size = G at *
  have hB := hide (gateBegin_any ab 4 4 tbk a1 4 4 tsl fg0 k to1 m 0 W2 (HS.out.below hS).1 (HS.out.below hS).2.1 HG.out (HS.out.below hS).2.2.2 (HTb.out.below hS))
  rw [fg_beg] at hB
  unfold bookv gtv offv at hB
  simp only [show to1.v = 1 from rfl, show to1.u = 5 from rfl] at hB
  have k0 := blk_cell (blk_below b0.out hS) 0 _ rfl
  have o0 := blk_cell (blk_below b2.out hS) 0 _ rfl
  have o1 := blk_cell (blk_below b2.out hS) 1 _ rfl
  have o2 := blk_cell (blk_below b2.out hS) 2 _ rfl
  have o3 := blk_cell (blk_below b2.out hS) 3 _ rfl
  have o4 := blk_cell (blk_below b2.out hS) 4 _ rfl
  have o5 := blk_cell (blk_below b2.out hS) 5 _ rfl
  have o6 := blk_cell (blk_below b2.out hS) 6 _ rfl
  have x0 := blk_cell bG.out 0 _ rfl
  have x1 := blk_cell bG.out 1 _ rfl
  have x2 := blk_cell bG.out 2 _ rfl
  have x3 := blk_cell bG.out 3 _ rfl
  have x4 := blk_cell bG.out 4 _ rfl
  have x5 := blk_cell bG.out 5 _ rfl
  have x6 := blk_cell bG.out 6 _ rfl
  have x7 := blk_cell bG.out 7 _ rfl
  have x8 := blk_cell bG.out 8 _ rfl
  go_wp2_with fail
  refine (unhide hB).mono ?_
  rintro e w3 ⟨⟨k1, rfl, hg, hfr⟩, hb⟩
  dsimp only at hg ⊢
  clear hB HG k0 o0 o1 o2 o3 o4 o5 o6 x0 x1 x2 x3 x4 x5 x6 x7 x8
  have hG2 := blk_lt bG.out
  replace bG := hide (blk_below bG.out hb)
  replace hS := hS.trans (hb.mono hS.size)
  have HG := hide hg
  have HF := hide hfr
  clear hg hfr hb
  unfold gtv
  have x0 := blk_cell bG.out 0 _ rfl
  have x1 := blk_cell bG.out 1 _ rfl
  have x2 := blk_cell bG.out 2 _ rfl
  have x3 := blk_cell bG.out 3 _ rfl
  have x4 := blk_cell bG.out 4 _ rfl
  have x5 := blk_cell bG.out 5 _ rfl
  have x6 := blk_cell bG.out 6 _ rfl
  have x7 := blk_cell bG.out 7 _ rfl
  have x8 := blk_cell bG.out 8 _ rfl
  have f0 := blk_free bG.out 0
  have f1 := blk_free bG.out 1
  have f2 := blk_free bG.out 2
  have f3 := blk_free bG.out 3
  have f4 := blk_free bG.out 4
  have f5 := blk_free bG.out 5
  have f6 := blk_free bG.out 6
  have f7 := blk_free bG.out 7
  have f8 := blk_free bG.out 8
  go_upto_region 4 with fail
  have hT := turns_set (turns_set (turns_set (turns_set (turns_set (turns_set (turns_set (turns_set (turns_set (World.grownBy.refl w3 (some G)) 0 (.slice k1.a k1.n k1.c)) 1 (.int .i64 fg1.fu)) 2 (.bool fg1.up)) 3 (.int .i64 fg1.t.r.v)) 4 (.slice k1.ak k1.nk k1.ck)) 5 (.int .i64 fg1.t.r.t)) 6 (.int .i64 fg1.t.ver)) 7 (.slice k1.av k1.nv k1.cv)) 8 (.slice k1.ad k1.nd k1.cd)
  have bN : Hid ((((((((((w3.setCell ⟨G, 0, none⟩ (.slice k1.a k1.n k1.c)).setCell ⟨G, 1, none⟩ (.int .i64 fg1.fu)).setCell ⟨G, 2, none⟩ (.bool fg1.up)).setCell ⟨G, 3, none⟩ (.int .i64 fg1.t.r.v)).setCell ⟨G, 4, none⟩ (.slice k1.ak k1.nk k1.ck)).setCell ⟨G, 5, none⟩ (.int .i64 fg1.t.r.t)).setCell ⟨G, 6, none⟩ (.int .i64 fg1.t.ver)).setCell ⟨G, 7, none⟩ (.slice k1.av k1.nv k1.cv)).setCell ⟨G, 8, none⟩ (.slice k1.ad k1.nd k1.cd)).heap[G]? = some (.cells #[.slice k1.a k1.n k1.c, .int .i64 fg1.fu, .bool fg1.up, .int .i64 fg1.t.r.v, .slice k1.ak k1.nk k1.ck, .int .i64 fg1.t.r.t, .int .i64 fg1.t.ver, .slice k1.av k1.nv k1.cv, .slice k1.ad k1.nd k1.cd] 68 (0, 0))) := gt_set9 bG.out
  replace HG := hide (HG.out.turns HF.out hG2 hT)
  replace hS := turns_below hS hT hGK hS.size
  clear x0 x1 x2 x3 x4 x5 x6 x7 x8 f0 f1 f2 f3 f4 f5 f6 f7 f8 bG hT HF hG2
  generalize (((((((((w3.setCell ⟨G, 0, none⟩ (.slice k1.a k1.n k1.c)).setCell ⟨G, 1, none⟩ (.int .i64 fg1.fu)).setCell ⟨G, 2, none⟩ (.bool fg1.up)).setCell ⟨G, 3, none⟩ (.int .i64 fg1.t.r.v)).setCell ⟨G, 4, none⟩ (.slice k1.ak k1.nk k1.ck)).setCell ⟨G, 5, none⟩ (.int .i64 fg1.t.r.t)).setCell ⟨G, 6, none⟩ (.int .i64 fg1.t.ver)).setCell ⟨G, 7, none⟩ (.slice k1.av k1.nv k1.cv)).setCell ⟨G, 8, none⟩ (.slice k1.ad k1.nd k1.cd)) = W3 at *
  have bG := bN
  clear bN
  have o2 := blk_cell (blk_below b2.out hS) 2 _ rfl
  have o3 := blk_cell (blk_below b2.out hS) 3 _ rfl
  have o4 := blk_cell (blk_below b2.out hS) 4 _ rfl
  have o6 := blk_cell (blk_below b2.out hS) 6 _ rfl
  have x0 := blk_cell bG.out 0 _ rfl
  have x1 := blk_cell bG.out 1 _ rfl
  have x2 := blk_cell bG.out 2 _ rfl
  have x3 := blk_cell bG.out 3 _ rfl
  have x4 := blk_cell bG.out 4 _ rfl
  have x5 := blk_cell bG.out 5 _ rfl
  have x6 := blk_cell bG.out 6 _ rfl
  have x7 := blk_cell bG.out 7 _ rfl
  have x8 := blk_cell bG.out 8 _ rfl
  obtain ⟨dl, hdl, hd2⟩ := fg_due
  have hD := hide (gateDue_any fg1 k1 1 1 5 ⟨m.a3, m.n3, m.c3, m.a5, m.n5, m.c5⟩ [(0, 2, 2)] [[8, 8]] 0 W3 HG.out (HS.out.below hS).2.2.2.tgts (HS.out.below hS).2.2.2.imgs)
  rw [hdl] at hD
  unfold gtv cpv at hD
  clear hdl
  go_wp2_with fail
  refine (unhide hD).mono ?_
  rintro e w4 ⟨⟨al, nl, cl, rfl, -, hnl, -, -⟩, hb⟩
  obtain rfl : nl = 2 := by rw [← hnl]; exact hd2
  clear hD hnl hd2 o2 o3 o4 o6 x0 x1 x2 x3 x4 x5 x6 x7 x8
  replace bG := hide (blk_below bG.out hb)
  replace hS := hS.trans (hb.mono hS.size)
  replace HG := hide (HG.out.below hb)
  clear hb HS b0 b1 b2 HTb
  dsimp only
  go_upto_region 5 with fail
  have hH := hide (gateHear_any fg1 k1 fv1 none 0 0 _ HG.out)
  rw [fg_vote] at hH
  unfold gtv msv at hH
  simp only [show fv1.k = 3 from rfl, show fv1.u = 0 from rfl, show fv1.n = 1 from rfl, show fv1.at' = 0 from rfl, show fv1.im = 0 from rfl, show fv1.y = true from rfl] at hH
  have x0 := blk_cell bG.out 0 _ rfl
  have x1 := blk_cell bG.out 1 _ rfl
  have x2 := blk_cell bG.out 2 _ rfl
  have x3 := blk_cell bG.out 3 _ rfl
  have x4 := blk_cell bG.out 4 _ rfl
  have x5 := blk_cell bG.out 5 _ rfl
  have x6 := blk_cell bG.out 6 _ rfl
  have x7 := blk_cell bG.out 7 _ rfl
  have x8 := blk_cell bG.out 8 _ rfl
  go_wp2_with fail
  refine (unhide hH).mono ?_
  rintro e w5 ⟨⟨k2, am, nm, cm, rfl, hg, hfr, -, -, -, -⟩, hb⟩
  dsimp only at hg ⊢
  clear hH HG x0 x1 x2 x3 x4 x5 x6 x7 x8
  have hG2 := blk_lt bG.out
  replace bG := hide (blk_below bG.out hb)
  replace hS := hS.trans (hb.mono hS.size)
  have HG := hide hg
  have HF := hide hfr
  clear hg hfr hb
  unfold gtv
  have x0 := blk_cell bG.out 0 _ rfl
  have x1 := blk_cell bG.out 1 _ rfl
  have x2 := blk_cell bG.out 2 _ rfl
  have x3 := blk_cell bG.out 3 _ rfl
  have x4 := blk_cell bG.out 4 _ rfl
  have x5 := blk_cell bG.out 5 _ rfl
  have x6 := blk_cell bG.out 6 _ rfl
  have x7 := blk_cell bG.out 7 _ rfl
  have x8 := blk_cell bG.out 8 _ rfl
  have f0 := blk_free bG.out 0
  have f1 := blk_free bG.out 1
  have f2 := blk_free bG.out 2
  have f3 := blk_free bG.out 3
  have f4 := blk_free bG.out 4
  have f5 := blk_free bG.out 5
  have f6 := blk_free bG.out 6
  have f7 := blk_free bG.out 7
  have f8 := blk_free bG.out 8
  go_upto_region 6 with fail
  have hT := turns_set (turns_set (turns_set (turns_set (turns_set (turns_set (turns_set (turns_set (turns_set (World.grownBy.refl w5 (some G)) 0 (.slice k2.a k2.n k2.c)) 1 (.int .i64 fg2.fu)) 2 (.bool fg2.up)) 3 (.int .i64 fg2.t.r.v)) 4 (.slice k2.ak k2.nk k2.ck)) 5 (.int .i64 fg2.t.r.t)) 6 (.int .i64 fg2.t.ver)) 7 (.slice k2.av k2.nv k2.cv)) 8 (.slice k2.ad k2.nd k2.cd)
  have bN : Hid ((((((((((w5.setCell ⟨G, 0, none⟩ (.slice k2.a k2.n k2.c)).setCell ⟨G, 1, none⟩ (.int .i64 fg2.fu)).setCell ⟨G, 2, none⟩ (.bool fg2.up)).setCell ⟨G, 3, none⟩ (.int .i64 fg2.t.r.v)).setCell ⟨G, 4, none⟩ (.slice k2.ak k2.nk k2.ck)).setCell ⟨G, 5, none⟩ (.int .i64 fg2.t.r.t)).setCell ⟨G, 6, none⟩ (.int .i64 fg2.t.ver)).setCell ⟨G, 7, none⟩ (.slice k2.av k2.nv k2.cv)).setCell ⟨G, 8, none⟩ (.slice k2.ad k2.nd k2.cd)).heap[G]? = some (.cells #[.slice k2.a k2.n k2.c, .int .i64 fg2.fu, .bool fg2.up, .int .i64 fg2.t.r.v, .slice k2.ak k2.nk k2.ck, .int .i64 fg2.t.r.t, .int .i64 fg2.t.ver, .slice k2.av k2.nv k2.cv, .slice k2.ad k2.nd k2.cd] 68 (0, 0))) := gt_set9 bG.out
  replace HG := hide (HG.out.turns HF.out hG2 hT)
  replace hS := turns_below hS hT hGK hS.size
  clear x0 x1 x2 x3 x4 x5 x6 x7 x8 f0 f1 f2 f3 f4 f5 f6 f7 f8 bG hT HF hG2
  generalize (((((((((w5.setCell ⟨G, 0, none⟩ (.slice k2.a k2.n k2.c)).setCell ⟨G, 1, none⟩ (.int .i64 fg2.fu)).setCell ⟨G, 2, none⟩ (.bool fg2.up)).setCell ⟨G, 3, none⟩ (.int .i64 fg2.t.r.v)).setCell ⟨G, 4, none⟩ (.slice k2.ak k2.nk k2.ck)).setCell ⟨G, 5, none⟩ (.int .i64 fg2.t.r.t)).setCell ⟨G, 6, none⟩ (.int .i64 fg2.t.ver)).setCell ⟨G, 7, none⟩ (.slice k2.av k2.nv k2.cv)).setCell ⟨G, 8, none⟩ (.slice k2.ad k2.nd k2.cd)) = W5 at *
  have bG := bN
  clear bN
  have hR := hide (gateRead_any fg2 k2 _ HG.out)
  rw [fg_read2] at hR
  unfold gtv at hR
  have x0 := blk_cell bG.out 0 _ rfl
  have x1 := blk_cell bG.out 1 _ rfl
  have x2 := blk_cell bG.out 2 _ rfl
  have x3 := blk_cell bG.out 3 _ rfl
  have x4 := blk_cell bG.out 4 _ rfl
  have x5 := blk_cell bG.out 5 _ rfl
  have x6 := blk_cell bG.out 6 _ rfl
  have x7 := blk_cell bG.out 7 _ rfl
  have x8 := blk_cell bG.out 8 _ rfl
  go_wp2_with fail
  refine (unhide hR).mono ?_
  rintro e w6 ⟨rfl, hb⟩
  clear hR x0 x1 x2 x3 x4 x5 x6 x7 x8
  unfold gsv
  dsimp only
  have bP := hide (heap_alloc_last w6 (.cells #[.int .i64 1, .int .i64 1, .bool true, .bool false, .bool false] 82))
  have hb2 : Below W5.heap.size W5 (w6.alloc (.cells #[.int .i64 1, .int .i64 1, .bool true, .bool false, .bool false] 82)) := below_new hb _
  replace bG := hide (blk_below bG.out hb2)
  replace HG := hide (HG.out.below hb2)
  replace hS := hS.trans (hb2.mono hS.size)
  go_upto_region 7 with fail
  clear hb hb2
  generalize w6.alloc (.cells #[.int .i64 1, .int .i64 1, .bool true, .bool false, .bool false] 82) = W6 at *
  generalize w6.heap.size = P at *
  have hPG : P ≠ G := by intro e; have h1 := bP.out; rw [e, bG.out] at h1; exact absurd h1 (by simp)
  have hH := hide (gateHear_any fg2 k2 fd1 none 0 0 _ HG.out)
  rw [fg_done] at hH
  unfold gtv msv at hH
  simp only [show fd1.k = 6 from rfl, show fd1.u = 0 from rfl, show fd1.n = 1 from rfl, show fd1.at' = 0 from rfl, show fd1.im = 0 from rfl, show fd1.y = false from rfl] at hH
  have x0 := blk_cell bG.out 0 _ rfl
  have x1 := blk_cell bG.out 1 _ rfl
  have x2 := blk_cell bG.out 2 _ rfl
  have x3 := blk_cell bG.out 3 _ rfl
  have x4 := blk_cell bG.out 4 _ rfl
  have x5 := blk_cell bG.out 5 _ rfl
  have x6 := blk_cell bG.out 6 _ rfl
  have x7 := blk_cell bG.out 7 _ rfl
  have x8 := blk_cell bG.out 8 _ rfl
  go_wp2_with fail
  refine (unhide hH).mono ?_
  rintro e w7 ⟨⟨k3, am, nm, cm, rfl, hg, hfr, -, -, -, -⟩, hb⟩
  dsimp only at hg ⊢
  clear hH HG x0 x1 x2 x3 x4 x5 x6 x7 x8
  replace bP := hide (blk_below bP.out hb)
  have hG2 := blk_lt bG.out
  replace bG := hide (blk_below bG.out hb)
  replace hS := hS.trans (hb.mono hS.size)
  have HG := hide hg
  have HF := hide hfr
  clear hg hfr hb
  unfold gtv
  have x0 := blk_cell bG.out 0 _ rfl
  have x1 := blk_cell bG.out 1 _ rfl
  have x2 := blk_cell bG.out 2 _ rfl
  have x3 := blk_cell bG.out 3 _ rfl
  have x4 := blk_cell bG.out 4 _ rfl
  have x5 := blk_cell bG.out 5 _ rfl
  have x6 := blk_cell bG.out 6 _ rfl
  have x7 := blk_cell bG.out 7 _ rfl
  have x8 := blk_cell bG.out 8 _ rfl
  have f0 := blk_free bG.out 0
  have f1 := blk_free bG.out 1
  have f2 := blk_free bG.out 2
  have f3 := blk_free bG.out 3
  have f4 := blk_free bG.out 4
  have f5 := blk_free bG.out 5
  have f6 := blk_free bG.out 6
  have f7 := blk_free bG.out 7
  have f8 := blk_free bG.out 8
  go_upto_region 8 with fail
  have hT := turns_set (turns_set (turns_set (turns_set (turns_set (turns_set (turns_set (turns_set (turns_set (World.grownBy.refl w7 (some G)) 0 (.slice k3.a k3.n k3.c)) 1 (.int .i64 fg3.fu)) 2 (.bool fg3.up)) 3 (.int .i64 fg3.t.r.v)) 4 (.slice k3.ak k3.nk k3.ck)) 5 (.int .i64 fg3.t.r.t)) 6 (.int .i64 fg3.t.ver)) 7 (.slice k3.av k3.nv k3.cv)) 8 (.slice k3.ad k3.nd k3.cd)
  replace bP := hide (blk_turns bP.out hT hPG)
  have bN : Hid ((((((((((w7.setCell ⟨G, 0, none⟩ (.slice k3.a k3.n k3.c)).setCell ⟨G, 1, none⟩ (.int .i64 fg3.fu)).setCell ⟨G, 2, none⟩ (.bool fg3.up)).setCell ⟨G, 3, none⟩ (.int .i64 fg3.t.r.v)).setCell ⟨G, 4, none⟩ (.slice k3.ak k3.nk k3.ck)).setCell ⟨G, 5, none⟩ (.int .i64 fg3.t.r.t)).setCell ⟨G, 6, none⟩ (.int .i64 fg3.t.ver)).setCell ⟨G, 7, none⟩ (.slice k3.av k3.nv k3.cv)).setCell ⟨G, 8, none⟩ (.slice k3.ad k3.nd k3.cd)).heap[G]? = some (.cells #[.slice k3.a k3.n k3.c, .int .i64 fg3.fu, .bool fg3.up, .int .i64 fg3.t.r.v, .slice k3.ak k3.nk k3.ck, .int .i64 fg3.t.r.t, .int .i64 fg3.t.ver, .slice k3.av k3.nv k3.cv, .slice k3.ad k3.nd k3.cd] 68 (0, 0))) := gt_set9 bG.out
  replace HG := hide (HG.out.turns HF.out hG2 hT)
  replace hS := turns_below hS hT hGK hS.size
  clear x0 x1 x2 x3 x4 x5 x6 x7 x8 f0 f1 f2 f3 f4 f5 f6 f7 f8 bG hT HF hG2 hPG
  generalize (((((((((w7.setCell ⟨G, 0, none⟩ (.slice k3.a k3.n k3.c)).setCell ⟨G, 1, none⟩ (.int .i64 fg3.fu)).setCell ⟨G, 2, none⟩ (.bool fg3.up)).setCell ⟨G, 3, none⟩ (.int .i64 fg3.t.r.v)).setCell ⟨G, 4, none⟩ (.slice k3.ak k3.nk k3.ck)).setCell ⟨G, 5, none⟩ (.int .i64 fg3.t.r.t)).setCell ⟨G, 6, none⟩ (.int .i64 fg3.t.ver)).setCell ⟨G, 7, none⟩ (.slice k3.av k3.nv k3.cv)).setCell ⟨G, 8, none⟩ (.slice k3.ad k3.nd k3.cd)) = W7 at *
  have bG := bN
  clear bN
  have hR := hide (gateRead_any fg3 k3 _ HG.out)
  rw [fg_read3] at hR
  unfold gtv at hR
  have x0 := blk_cell bG.out 0 _ rfl
  have x1 := blk_cell bG.out 1 _ rfl
  have x2 := blk_cell bG.out 2 _ rfl
  have x3 := blk_cell bG.out 3 _ rfl
  have x4 := blk_cell bG.out 4 _ rfl
  have x5 := blk_cell bG.out 5 _ rfl
  have x6 := blk_cell bG.out 6 _ rfl
  have x7 := blk_cell bG.out 7 _ rfl
  have x8 := blk_cell bG.out 8 _ rfl
  go_wp2_with fail
  refine (unhide hR).mono ?_
  rintro e w8 ⟨rfl, hb⟩
  clear hR x0 x1 x2 x3 x4 x5 x6 x7 x8
  unfold gsv
  dsimp only
  have bQ := hide (heap_alloc_last w8 (.cells #[.int .i64 1, .int .i64 1, .bool true, .bool false, .bool true] 82))
  have hb2 : Below W7.heap.size W7 (w8.alloc (.cells #[.int .i64 1, .int .i64 1, .bool true, .bool false, .bool true] 82)) := below_new hb _
  replace bP := hide (blk_below bP.out hb2)
  replace hS := hS.trans (hb2.mono hS.size)
  go_upto_region 9 with fail
  generalize w8.alloc (.cells #[.int .i64 1, .int .i64 1, .bool true, .bool false, .bool true] 82) = W8 at *
  generalize w8.heap.size = Q at *
  have p0 := blk_cell bP.out 0 _ rfl
  have p1 := blk_cell bP.out 1 _ rfl
  have p2 := blk_cell bP.out 2 _ rfl
  have p3 := blk_cell bP.out 3 _ rfl
  have p4 := blk_cell bP.out 4 _ rfl
  have q0 := blk_cell bQ.out 0 _ rfl
  have q1 := blk_cell bQ.out 1 _ rfl
  have q2 := blk_cell bQ.out 2 _ rfl
  have q3 := blk_cell bQ.out 3 _ rfl
  have q4 := blk_cell bQ.out 4 _ rfl
  go_wp2_with fail
  go_ret
  exact ⟨rfl, hw.trans (hS.mono hw.size)⟩

end Go.Proofs.YtgngpmgjoifepaaGreatDoor

namespace Go.Proofs.YtgngpmgjoifepaaGreatDoor
open Go.RowKit

set_option maxHeartbeats 1600000 in
set_option maxRecDepth 100000 in
theorem sameTrust_any (x y : Tr) (a0 : Option Addr) (n0 c0 : Nat) (a1 : Option Addr) (n1 c1 : Nat) (w : World) (h0 : BI w a0 n0 x.r.ks) (h1 : BI w a1 n1 y.r.ks) :
    Calls Tryz.prog 92 #[trv x.r.v a0 n0 c0 x.r.t x.ver, trv y.r.v a1 n1 c1 y.r.t y.ver] w fun e w' => e = .returned (.bool (sameT x y)) ∧ Below w.heap.size w w' := by
  have hw0 : Below w.heap.size w ((w.alloc (.cells #[.int .i64 x.r.v, .slice a0 n0 c0, .int .i64 x.r.t, .int .i64 x.ver] 65)).alloc (.cells #[.int .i64 y.r.v, .slice a1 n1 c1, .int .i64 y.r.t, .int .i64 y.ver] 65)) := ((Below.refl _ _).alloc (Nat.le_refl _) _).alloc (by simp) _
  have HQ := hide (fun W (hW : Below w.heap.size w W) => equal_at a0 a1 n0 n1 c0 c1 x.r.ks y.r.ks (eqL x.r.ks y.r.ks) W (h0.below hW).at_ (h1.below hW).at_ h0.len h1.len rfl h0.max h1.max)
  unfold trv
  clear h0 h1
  by_cases d1 : x.ver = y.ver
  rotate_left
  · have HE := hide (show sameT x y = false by unfold sameT; simp [d1])
    have e1 : (x.ver == y.ver) = false := by simpa using d1
    clear d1 HQ
    go_enter Tryz.func92, Tryz.ntmps92
    go_wp2_with fail
    go_ret
    exact ⟨ret_bool HE.out.symm, hw0⟩
  have e1 : (x.ver == y.ver) = true := by simpa using d1
  by_cases d2 : x.r.v = y.r.v
  rotate_left
  · have HE := hide (show sameT x y = false by unfold sameT; simp [d2])
    have e2 : (x.r.v == y.r.v) = false := by simpa using d2
    clear d1 d2 HQ
    go_enter Tryz.func92, Tryz.ntmps92
    go_wp2_with fail
    go_ret
    exact ⟨ret_bool HE.out.symm, hw0⟩
  have e2 : (x.r.v == y.r.v) = true := by simpa using d2
  by_cases d3 : x.r.t = y.r.t
  rotate_left
  · have HE := hide (show sameT x y = false by unfold sameT; simp [d3])
    have e3 : (x.r.t == y.r.t) = false := by simpa using d3
    clear d1 d2 d3 HQ
    go_enter Tryz.func92, Tryz.ntmps92
    go_wp2_with fail
    go_ret
    exact ⟨ret_bool HE.out.symm, hw0⟩
  have e3 : (x.r.t == y.r.t) = true := by simpa using d3
  have HE := hide (show sameT x y = eqL x.r.ks y.r.ks by unfold sameT; simp [d1, d2, d3])
  clear d1 d2 d3
  generalize eqL x.r.ks y.r.ks = q at *
  go_enter Tryz.func92, Tryz.ntmps92
  go_wp2_with fail
  refine (unhide HQ _ hw0).mono ?_
  rintro e w' ⟨rfl, n, rfl⟩
  go_wp2_with fail
  go_ret
  exact ⟨ret_bool HE.out.symm, below_drewN hw0 _⟩

end Go.Proofs.YtgngpmgjoifepaaGreatDoor
