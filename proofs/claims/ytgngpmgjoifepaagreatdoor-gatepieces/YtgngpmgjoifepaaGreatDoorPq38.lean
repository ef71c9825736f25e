/- The closed fact: a campaign is begun, voted for, decided, ended (wainwrightlaw.gated). How a law's arguments that are books, releases, roots, texts or slices of ints are opened. -/
import Derived.Test.YtgngpmgjoifepaaGreatDoorPq37
import Derived.Laws.StructEq
import Derived.Test.YtgngpmgjoifepaaGreatDoorPq11
import Derived.ProofKit
import Derived.Lib.SmallJoins
import Derived.SliceStrings
import Derived.Deep.Slices
import Derived.ChangeMaps5
namespace Go.Proofs.YtgngpmgjoifepaaGreatDoor
open Go.RowKit
attribute [local go_sem ↓] Go.wp_at_zero Go.wp_at_succ

theorem bools_turns {w w' : World} {B : Nat} {a : Option Addr} {bs : List Bool} (h : IsBools w a bs) (hg : w.grownBy w' (some B)) (ho : Off B a) : IsBools w' a bs := by
  rcases h with h | ⟨b, off, rfl, hc⟩
  · exact .inl h
  · exact .inr ⟨b, off, rfl, fun i hi => hg.cell (hc i hi) (fun e => ho _ rfl (by cases e; rfl))⟩
theorem GIn.turns {w w' : World} {B F : Nat} {m : GA} {g : Gt} (h : GIn w m g) (hf : GFr F m) (hB : B < F) (hg : w.grownBy w' (some B)) : GIn w' m g :=
  ⟨h.ws.turns hg (off_fresh hf.a hB), h.ks.turns hg (off_fresh hf.ak hB), ⟨bools_turns h.vo.at_ hg (off_fresh hf.av hB), h.vo.len, h.vo.cap, h.vo.max⟩, ⟨bools_turns h.di.at_ hg (off_fresh hf.ad hB), h.di.len, h.di.cap, h.di.max⟩⟩
theorem gt_set9 {W : World} {B : Nat} {c0 c1 c2 c3 c4 c5 c6 c7 c8 v0 v1 v2 v3 v4 v5 v6 v7 v8 : Value} {t : TypeId} (h : W.heap[B]? = some (.cells #[c0, c1, c2, c3, c4, c5, c6, c7, c8] t (0, 0))) :
    (((((((((W.setCell ⟨B, 0, none⟩ v0).setCell ⟨B, 1, none⟩ v1).setCell ⟨B, 2, none⟩ v2).setCell ⟨B, 3, none⟩ v3).setCell ⟨B, 4, none⟩ v4).setCell ⟨B, 5, none⟩ v5).setCell ⟨B, 6, none⟩ v6).setCell ⟨B, 7, none⟩ v7).setCell ⟨B, 8, none⟩ v8).heap[B]? = some (.cells #[v0, v1, v2, v3, v4, v5, v6, v7, v8] t (0, 0)) := by
  simp only [World.setCell, Array.getElem?_modify]
  simp [h]

set_option maxHeartbeats 12800000 in
set_option maxRecDepth 100000 in
theorem lawGated_any (w : World) (hT : Tab w) : Calls Tryz.prog 36 #[] w fun e w' => e = .returned (.bool true) ∧ Below w.heap.size w w' := by
  have HTb := hide hT
  clear hT
  go_enter Tryz.func36, Tryz.ntmps36
  go_wp2_with fail
  refine (lawSimple_any _).mono ?_
  rintro e w1 ⟨ab, a1, a2, m, rfl, hS, hw⟩
  have HS := hide hS
  clear hS
  go_upto_region 2 with fail
  have hb : Below w1.heap.size w1 (((w1.alloc (.cells #[.slice ab 4 4] 24)).alloc (.cells #[.int .i64 1, .slice a2 1 1, .int .i64 1, .int .i64 0] 65)).alloc (.cells #[.slice m.a1 m.n1 m.c1, .slice m.a2 m.n2 m.c2, .int .i64 1, .int .i64 5, .slice m.a3 m.n3 m.c3, .slice m.a4 m.n4 m.c4, .slice m.a5 m.n5 m.c5] 75)) := (((Below.refl _ _).alloc (Nat.le_refl _) _).alloc (by simp) _).alloc (by simp; omega) _
  have b0 : Hid ((((w1.alloc (.cells #[.slice ab 4 4] 24)).alloc (.cells #[.int .i64 1, .slice a2 1 1, .int .i64 1, .int .i64 0] 65)).alloc (.cells #[.slice m.a1 m.n1 m.c1, .slice m.a2 m.n2 m.c2, .int .i64 1, .int .i64 5, .slice m.a3 m.n3 m.c3, .slice m.a4 m.n4 m.c4, .slice m.a5 m.n5 m.c5] 75)).heap[w1.heap.size]? = some (.cells #[.slice ab 4 4] 24 (0, 0))) := bk3.1
  have b1 : Hid ((((w1.alloc (.cells #[.slice ab 4 4] 24)).alloc (.cells #[.int .i64 1, .slice a2 1 1, .int .i64 1, .int .i64 0] 65)).alloc (.cells #[.slice m.a1 m.n1 m.c1, .slice m.a2 m.n2 m.c2, .int .i64 1, .int .i64 5, .slice m.a3 m.n3 m.c3, .slice m.a4 m.n4 m.c4, .slice m.a5 m.n5 m.c5] 75)).heap[w1.heap.size + 1]? = some (.cells #[.int .i64 1, .slice a2 1 1, .int .i64 1, .int .i64 0] 65 (0, 0))) := bk3.2.1
  have b2 : Hid ((((w1.alloc (.cells #[.slice ab 4 4] 24)).alloc (.cells #[.int .i64 1, .slice a2 1 1, .int .i64 1, .int .i64 0] 65)).alloc (.cells #[.slice m.a1 m.n1 m.c1, .slice m.a2 m.n2 m.c2, .int .i64 1, .int .i64 5, .slice m.a3 m.n3 m.c3, .slice m.a4 m.n4 m.c4, .slice m.a5 m.n5 m.c5] 75)).heap[w1.heap.size + 1 + 1]? = some (.cells #[.slice m.a1 m.n1 m.c1, .slice m.a2 m.n2 m.c2, .int .i64 1, .int .i64 5, .slice m.a3 m.n3 m.c3, .slice m.a4 m.n4 m.c4, .slice m.a5 m.n5 m.c5] 75 (0, 0))) := bk3.2.2
  replace HS := hide (HS.out.below hb)
  replace hw := hw.trans (hb.mono hw.size)
  replace HTb := hide (HTb.out.below hw)
  clear hb
  generalize (((w1.alloc (.cells #[.slice ab 4 4] 24)).alloc (.cells #[.int .i64 1, .slice a2 1 1, .int .i64 1, .int .i64 0] 65)).alloc (.cells #[.slice m.a1 m.n1 m.c1, .slice m.a2 m.n2 m.c2, .int .i64 1, .int .i64 5, .slice m.a3 m.n3 m.c3, .slice m.a4 m.n4 m.c4, .slice m.a5 m.n5 m.c5] 75)) = W1 at *
  generalize w1.heap.size = K at *
  have t0 := blk_cell b1.out 0 _ rfl
  have t1 := blk_cell b1.out 1 _ rfl
  have t2 := blk_cell b1.out 2 _ rfl
  have hN := hide (gateNew_any fr1 a2 1 1 1 W1 HS.out.2.2.1)
  rw [fg_new] at hN
  unfold fr1 at hN
  go_wp2_with fail
  refine (unhide hN).mono ?_
  rintro e w2 ⟨⟨k, rfl, hg, hfr⟩, hb⟩
  clear hN t0 t1 t2
  dsimp only at hg ⊢
  have bG := hide (heap_alloc_last w2 (.cells #[.slice k.a k.n k.c, .int .i64 fg0.fu, .bool fg0.up, .int .i64 fg0.t.r.v, .slice k.ak k.nk k.ck, .int .i64 fg0.t.r.t, .int .i64 fg0.t.ver, .slice k.av k.nv k.cv, .slice k.ad k.nd k.cd] 68))
  have hb2 : Below w2.heap.size w2 (w2.alloc (.cells #[.slice k.a k.n k.c, .int .i64 fg0.fu, .bool fg0.up, .int .i64 fg0.t.r.v, .slice k.ak k.nk k.ck, .int .i64 fg0.t.r.t, .int .i64 fg0.t.ver, .slice k.av k.nv k.cv, .slice k.ad k.nd k.cd] 68)) := below_new (Below.refl _ _) _
  have HG := hide (hg.below hb2)
  have hS := hb.trans (hb2.mono hb.size)
  have hGK := hb.size
  clear hg hb hb2 hfr
  unfold gtv
  go_upto_region 3 with fail
  generalize w2.alloc (.cells #[.slice k.a k.n k.c, .int .i64 fg0.fu, .bool fg0.up, .int .i64 fg0.t.r.v, .slice k.ak k.nk k.ck, .int .i64 fg0.t.r.t, .int .i64 fg0.t.ver, .slice k.av k.nv k.cv, .slice k.ad k.nd k.cd] 68) = W2 at *
  generalize w2.heap.size = G at *
  have hB := hide (gateBegin_any ab 4 4 tbk a1 4 4 tsl fg0 k to1 m 0 W2 (HS.out.below hS).1 (HS.out.below hS).2.1 HG.out (HS.out.below hS).2.2.2 (HTb.out.below hS))
  rw [fg_beg] at hB
  unfold bookv gtv offv at hB
  simp only [show to1.v = 1 from rfl, show to1.u = 5 from rfl] at hB
  have k0 := blk_cell (blk_below b0.out hS) 0 _ rfl
  have o0 := blk_cell (blk_below b2.out hS) 0 _ rfl
  have o1 := blk_cell (blk_below b2.out hS) 1 _ rfl
  have o2 := blk_cell (blk_below b2.out hS) 2 _ rfl
  have o3 := blk_cell (blk_below b2.out hS) 3 _ rfl
  have o4 := blk_cell (blk_below b2.out hS) 4 _ rfl
  have o5 := blk_cell (blk_below b2.out hS) 5 _ rfl
  have o6 := blk_cell (blk_below b2.out hS) 6 _ rfl
  have x0 := blk_cell bG.out 0 _ rfl
  have x1 := blk_cell bG.out 1 _ rfl
  have x2 := blk_cell bG.out 2 _ rfl
  have x3 := blk_cell bG.out 3 _ rfl
  have x4 := blk_cell bG.out 4 _ rfl
  have x5 := blk_cell bG.out 5 _ rfl
  have x6 := blk_cell bG.out 6 _ rfl
  have x7 := blk_cell bG.out 7 _ rfl
  have x8 := blk_cell bG.out 8 _ rfl
  go_wp2_with fail
  refine (unhide hB).mono ?_
  rintro e w3 ⟨⟨k1, rfl, hg, hfr⟩, hb⟩
  dsimp only at hg ⊢
  clear hB HG k0 o0 o1 o2 o3 o4 o5 o6 x0 x1 x2 x3 x4 x5 x6 x7 x8
  have hG2 := blk_lt bG.out
  replace bG := hide (blk_below bG.out hb)
  replace hS := hS.trans (hb.mono hS.size)
  have HG := hide hg
  have HF := hide hfr
  clear hg hfr hb
  unfold gtv
  have x0 := blk_cell bG.out 0 _ rfl
  have x1 := blk_cell bG.out 1 _ rfl
  have x2 := blk_cell bG.out 2 _ rfl
  have x3 := blk_cell bG.out 3 _ rfl
  have x4 := blk_cell bG.out 4 _ rfl
  have x5 := blk_cell bG.out 5 _ rfl
  have x6 := blk_cell bG.out 6 _ rfl
  have x7 := blk_cell bG.out 7 _ rfl
  have x8 := blk_cell bG.out 8 _ rfl
  have f0 := blk_free bG.out 0
  have f1 := blk_free bG.out 1
  have f2 := blk_free bG.out 2
  have f3 := blk_free bG.out 3
  have f4 := blk_free bG.out 4
  have f5 := blk_free bG.out 5
  have f6 := blk_free bG.out 6
  have f7 := blk_free bG.out 7
  have f8 := blk_free bG.out 8
  go_upto_region 4 with fail
  have hT := turns_set (turns_set (turns_set (turns_set (turns_set (turns_set (turns_set (turns_set (turns_set (World.grownBy.refl w3 (some G)) 0 (.slice k1.a k1.n k1.c)) 1 (.int .i64 fg1.fu)) 2 (.bool fg1.up)) 3 (.int .i64 fg1.t.r.v)) 4 (.slice k1.ak k1.nk k1.ck)) 5 (.int .i64 fg1.t.r.t)) 6 (.int .i64 fg1.t.ver)) 7 (.slice k1.av k1.nv k1.cv)) 8 (.slice k1.ad k1.nd k1.cd)
  have bN : Hid ((((((((((w3.setCell ⟨G, 0, none⟩ (.slice k1.a k1.n k1.c)).setCell ⟨G, 1, none⟩ (.int .i64 fg1.fu)).setCell ⟨G, 2, none⟩ (.bool fg1.up)).setCell ⟨G, 3, none⟩ (.int .i64 fg1.t.r.v)).setCell ⟨G, 4, none⟩ (.slice k1.ak k1.nk k1.ck)).setCell ⟨G, 5, none⟩ (.int .i64 fg1.t.r.t)).setCell ⟨G, 6, none⟩ (.int .i64 fg1.t.ver)).setCell ⟨G, 7, none⟩ (.slice k1.av k1.nv k1.cv)).setCell ⟨G, 8, none⟩ (.slice k1.ad k1.nd k1.cd)).heap[G]? = some (.cells #[.slice k1.a k1.n k1.c, .int .i64 fg1.fu, .bool fg1.up, .int .i64 fg1.t.r.v, .slice k1.ak k1.nk k1.ck, .int .i64 fg1.t.r.t, .int .i64 fg1.t.ver, .slice k1.av k1.nv k1.cv, .slice k1.ad k1.nd k1.cd] 68 (0, 0))) := gt_set9 bG.out
  replace HG := hide (HG.out.turns HF.out hG2 hT)
  replace hS := turns_below hS hT hGK hS.size
  clear x0 x1 x2 x3 x4 x5 x6 x7 x8 f0 f1 f2 f3 f4 f5 f6 f7 f8 bG hT HF hG2
  generalize (((((((((w3.setCell ⟨G, 0, none⟩ (.slice k1.a k1.n k1.c)).setCell ⟨G, 1, none⟩ (.int .i64 fg1.fu)).setCell ⟨G, 2, none⟩ (.bool fg1.up)).setCell ⟨G, 3, none⟩ (.int .i64 fg1.t.r.v)).setCell ⟨G, 4, none⟩ (.slice k1.ak k1.nk k1.ck)).setCell ⟨G, 5, none⟩ (.int .i64 fg1.t.r.t)).setCell ⟨G, 6, none⟩ (.int .i64 fg1.t.ver)).setCell ⟨G, 7, none⟩ (.slice k1.av k1.nv k1.cv)).setCell ⟨G, 8, none⟩ (.slice k1.ad k1.nd k1.cd)) = W3 at *
  have bG := bN
  clear bN
  have o2 := blk_cell (blk_below b2.out hS) 2 _ rfl
  have o3 := blk_cell (blk_below b2.out hS) 3 _ rfl
  have o4 := blk_cell (blk_below b2.out hS) 4 _ rfl
  have o6 := blk_cell (blk_below b2.out hS) 6 _ rfl
  have x0 := blk_cell bG.out 0 _ rfl
  have x1 := blk_cell bG.out 1 _ rfl
  have x2 := blk_cell bG.out 2 _ rfl
  have x3 := blk_cell bG.out 3 _ rfl
  have x4 := blk_cell bG.out 4 _ rfl
  have x5 := blk_cell bG.out 5 _ rfl
  have x6 := blk_cell bG.out 6 _ rfl
  have x7 := blk_cell bG.out 7 _ rfl
  have x8 := blk_cell bG.out 8 _ rfl
  obtain ⟨dl, hdl, hd2⟩ := fg_due
  have hD := hide (gateDue_any fg1 k1 1 1 5 ⟨m.a3, m.n3, m.c3, m.a5, m.n5, m.c5⟩ [(0, 2, 2)] [[8, 8]] 0 W3 HG.out (HS.out.below hS).2.2.2.tgts (HS.out.below hS).2.2.2.imgs)
  rw [hdl] at hD
  unfold gtv cpv at hD
  clear hdl
  go_wp2_with fail
  refine (unhide hD).mono ?_
  rintro e w4 ⟨⟨al, nl, cl, rfl, -, hnl, -, -⟩, hb⟩
  obtain rfl : nl = 2 := by rw [← hnl]; exact hd2
  clear hD hnl hd2 o2 o3 o4 o6 x0 x1 x2 x3 x4 x5 x6 x7 x8
  replace bG := hide (blk_below bG.out hb)
  replace hS := hS.trans (hb.mono hS.size)
  replace HG := hide (HG.out.below hb)
  clear hb HS b0 b1 b2 HTb
  dsimp only
  go_upto_region 5 with fail
  have hH := hide (gateHear_any fg1 k1 fv1 none 0 0 _ HG.out)
  rw [fg_vote] at hH
  unfold gtv msv at hH
  simp only [show fv1.k = 3 from rfl, show fv1.u = 0 from rfl, show fv1.n = 1 from rfl, show fv1.at' = 0 from rfl, show fv1.im = 0 from rfl, show fv1.y = true from rfl] at hH
  have x0 := blk_cell bG.out 0 _ rfl
  have x1 := blk_cell bG.out 1 _ rfl
  have x2 := blk_cell bG.out 2 _ rfl
  have x3 := blk_cell bG.out 3 _ rfl
  have x4 := blk_cell bG.out 4 _ rfl
  have x5 := blk_cell bG.out 5 _ rfl
  have x6 := blk_cell bG.out 6 _ rfl
  have x7 := blk_cell bG.out 7 _ rfl
  have x8 := blk_cell bG.out 8 _ rfl
  go_wp2_with fail
  refine (unhide hH).mono ?_
  rintro e w5 ⟨⟨k2, am, nm, cm, rfl, hg, hfr, -, -, -, -⟩, hb⟩
  dsimp only at hg ⊢
  clear hH HG x0 x1 x2 x3 x4 x5 x6 x7 x8
  have hG2 := blk_lt bG.out
  replace bG := hide (blk_below bG.out hb)
  replace hS := hS.trans (hb.mono hS.size)
  have HG := hide hg
  have HF := hide hfr
  clear hg hfr hb
  unfold gtv
  have x0 := blk_cell bG.out 0 _ rfl
  have x1 := blk_cell bG.out 1 _ rfl
  have x2 := blk_cell bG.out 2 _ rfl
  have x3 := blk_cell bG.out 3 _ rfl
  have x4 := blk_cell bG.out 4 _ rfl
  have x5 := blk_cell bG.out 5 _ rfl
  have x6 := blk_cell bG.out 6 _ rfl
  have x7 := blk_cell bG.out 7 _ rfl
  have x8 := blk_cell bG.out 8 _ rfl
  have f0 := blk_free bG.out 0
  have f1 := blk_free bG.out 1
  have f2 := blk_free bG.out 2
  have f3 := blk_free bG.out 3
  have f4 := blk_free bG.out 4
  have f5 := blk_free bG.out 5
  have f6 := blk_free bG.out 6
  have f7 := blk_free bG.out 7
  have f8 := blk_free bG.out 8
  go_upto_region 6 with fail
  have hT := turns_set (turns_set (turns_set (turns_set (turns_set (turns_set (turns_set (turns_set (turns_set (World.grownBy.refl w5 (some G)) 0 (.slice k2.a k2.n k2.c)) 1 (.int .i64 fg2.fu)) 2 (.bool fg2.up)) 3 (.int .i64 fg2.t.r.v)) 4 (.slice k2.ak k2.nk k2.ck)) 5 (.int .i64 fg2.t.r.t)) 6 (.int .i64 fg2.t.ver)) 7 (.slice k2.av k2.nv k2.cv)) 8 (.slice k2.ad k2.nd k2.cd)
  have bN : Hid ((((((((((w5.setCell ⟨G, 0, none⟩ (.slice k2.a k2.n k2.c)).setCell ⟨G, 1, none⟩ (.int .i64 fg2.fu)).setCell ⟨G, 2, none⟩ (.bool fg2.up)).setCell ⟨G, 3, none⟩ (.int .i64 fg2.t.r.v)).setCell ⟨G, 4, none⟩ (.slice k2.ak k2.nk k2.ck)).setCell ⟨G, 5, none⟩ (.int .i64 fg2.t.r.t)).setCell ⟨G, 6, none⟩ (.int .i64 fg2.t.ver)).setCell ⟨G, 7, none⟩ (.slice k2.av k2.nv k2.cv)).setCell ⟨G, 8, none⟩ (.slice k2.ad k2.nd k2.cd)).heap[G]? = some (.cells #[.slice k2.a k2.n k2.c, .int .i64 fg2.fu, .bool fg2.up, .int .i64 fg2.t.r.v, .slice k2.ak k2.nk k2.ck, .int .i64 fg2.t.r.t, .int .i64 fg2.t.ver, .slice k2.av k2.nv k2.cv, .slice k2.ad k2.nd k2.cd] 68 (0, 0))) := gt_set9 bG.out
  replace HG := hide (HG.out.turns HF.out hG2 hT)
  replace hS := turns_below hS hT hGK hS.size
  clear x0 x1 x2 x3 x4 x5 x6 x7 x8 f0 f1 f2 f3 f4 f5 f6 f7 f8 bG hT HF hG2
  generalize (((((((((w5.setCell ⟨G, 0, none⟩ (.slice k2.a k2.n k2.c)).setCell ⟨G, 1, none⟩ (.int .i64 fg2.fu)).setCell ⟨G, 2, none⟩ (.bool fg2.up)).setCell ⟨G, 3, none⟩ (.int .i64 fg2.t.r.v)).setCell ⟨G, 4, none⟩ (.slice k2.ak k2.nk k2.ck)).setCell ⟨G, 5, none⟩ (.int .i64 fg2.t.r.t)).setCell ⟨G, 6, none⟩ (.int .i64 fg2.t.ver)).setCell ⟨G, 7, none⟩ (.slice k2.av k2.nv k2.cv)).setCell ⟨G, 8, none⟩ (.slice k2.ad k2.nd k2.cd)) = W5 at *
  have bG := bN
  clear bN
  have hR := hide (gateRead_any fg2 k2 _ HG.out)
  rw [fg_read2] at hR
  unfold gtv at hR
  have x0 := blk_cell bG.out 0 _ rfl
  have x1 := blk_cell bG.out 1 _ rfl
  have x2 := blk_cell bG.out 2 _ rfl
  have x3 := blk_cell bG.out 3 _ rfl
  have x4 := blk_cell bG.out 4 _ rfl
  have x5 := blk_cell bG.out 5 _ rfl
  have x6 := blk_cell bG.out 6 _ rfl
  have x7 := blk_cell bG.out 7 _ rfl
  have x8 := blk_cell bG.out 8 _ rfl
  go_wp2_with fail
  refine (unhide hR).mono ?_
  rintro e w6 ⟨rfl, hb⟩
  clear hR x0 x1 x2 x3 x4 x5 x6 x7 x8
  unfold gsv
  dsimp only
  have bP := hide (heap_alloc_last w6 (.cells #[.int .i64 1, .int .i64 1, .bool true, .bool false, .bool false] 82))
  have hb2 : Below W5.heap.size W5 (w6.alloc (.cells #[.int .i64 1, .int .i64 1, .bool true, .bool false, .bool false] 82)) := below_new hb _
  replace bG := hide (blk_below bG.out hb2)
  replace HG := hide (HG.out.below hb2)
  replace hS := hS.trans (hb2.mono hS.size)
  go_upto_region 7 with fail
  clear hb hb2
  generalize w6.alloc (.cells #[.int .i64 1, .int .i64 1, .bool true, .bool false, .bool false] 82) = W6 at *
  generalize w6.heap.size = P at *
  have hPG : P ≠ G := by intro e; have h1 := bP.out; rw [e, bG.out] at h1; exact absurd h1 (by simp)
  have hH := hide (gateHear_any fg2 k2 fd1 none 0 0 _ HG.out)
  rw [fg_done] at hH
  unfold gtv msv at hH
  simp only [show fd1.k = 6 from rfl, show fd1.u = 0 from rfl, show fd1.n = 1 from rfl, show fd1.at' = 0 from rfl, show fd1.im = 0 from rfl, show fd1.y = false from rfl] at hH
  have x0 := blk_cell bG.out 0 _ rfl
  have x1 := blk_cell bG.out 1 _ rfl
  have x2 := blk_cell bG.out 2 _ rfl
  have x3 := blk_cell bG.out 3 _ rfl
  have x4 := blk_cell bG.out 4 _ rfl
  have x5 := blk_cell bG.out 5 _ rfl
  have x6 := blk_cell bG.out 6 _ rfl
  have x7 := blk_cell bG.out 7 _ rfl
  have x8 := blk_cell bG.out 8 _ rfl
  go_wp2_with fail
  refine (unhide hH).mono ?_
  rintro e w7 ⟨⟨k3, am, nm, cm, rfl, hg, hfr, -, -, -, -⟩, hb⟩
  dsimp only at hg ⊢
  clear hH HG x0 x1 x2 x3 x4 x5 x6 x7 x8
  replace bP := hide (blk_below bP.out hb)
  have hG2 := blk_lt bG.out
  replace bG := hide (blk_below bG.out hb)
  replace hS := hS.trans (hb.mono hS.size)
  have HG := hide hg
  have HF := hide hfr
  clear hg hfr hb
  unfold gtv
  have x0 := blk_cell bG.out 0 _ rfl
  have x1 := blk_cell bG.out 1 _ rfl
  have x2 := blk_cell bG.out 2 _ rfl
  have x3 := blk_cell bG.out 3 _ rfl
  have x4 := blk_cell bG.out 4 _ rfl
  have x5 := blk_cell bG.out 5 _ rfl
  have x6 := blk_cell bG.out 6 _ rfl
  have x7 := blk_cell bG.out 7 _ rfl
  have x8 := blk_cell bG.out 8 _ rfl
  have f0 := blk_free bG.out 0
  have f1 := blk_free bG.out 1
  have f2 := blk_free bG.out 2
  have f3 := blk_free bG.out 3
  have f4 := blk_free bG.out 4
  have f5 := blk_free bG.out 5
  have f6 := blk_free bG.out 6
  have f7 := blk_free bG.out 7
  have f8 := blk_free bG.out 8
  go_upto_region 8 with fail
  have hT := turns_set (turns_set (turns_set (turns_set (turns_set (turns_set (turns_set (turns_set (turns_set (World.grownBy.refl w7 (some G)) 0 (.slice k3.a k3.n k3.c)) 1 (.int .i64 fg3.fu)) 2 (.bool fg3.up)) 3 (.int .i64 fg3.t.r.v)) 4 (.slice k3.ak k3.nk k3.ck)) 5 (.int .i64 fg3.t.r.t)) 6 (.int .i64 fg3.t.ver)) 7 (.slice k3.av k3.nv k3.cv)) 8 (.slice k3.ad k3.nd k3.cd)
  replace bP := hide (blk_turns bP.out hT hPG)
  have bN : Hid ((((((((((w7.setCell ⟨G, 0, none⟩ (.slice k3.a k3.n k3.c)).setCell ⟨G, 1, none⟩ (.int .i64 fg3.fu)).setCell ⟨G, 2, none⟩ (.bool fg3.up)).setCell ⟨G, 3, none⟩ (.int .i64 fg3.t.r.v)).setCell ⟨G, 4, none⟩ (.slice k3.ak k3.nk k3.ck)).setCell ⟨G, 5, none⟩ (.int .i64 fg3.t.r.t)).setCell ⟨G, 6, none⟩ (.int .i64 fg3.t.ver)).setCell ⟨G, 7, none⟩ (.slice k3.av k3.nv k3.cv)).setCell ⟨G, 8, none⟩ (.slice k3.ad k3.nd k3.cd)).heap[G]? = some (.cells #[.slice k3.a k3.n k3.c, .int .i64 fg3.fu, .bool fg3.up, .int .i64 fg3.t.r.v, .slice k3.ak k3.nk k3.ck, .int .i64 fg3.t.r.t, .int .i64 fg3.t.ver, .slice k3.av k3.nv k3.cv, .slice k3.ad k3.nd k3.cd] 68 (0, 0))) := gt_set9 bG.out
  replace HG := hide (HG.out.turns HF.out hG2 hT)
  replace hS := turns_below hS hT hGK hS.size
  clear x0 x1 x2 x3 x4 x5 x6 x7 x8 f0 f1 f2 f3 f4 f5 f6 f7 f8 bG hT HF hG2 hPG
  generalize (((((((((w7.setCell ⟨G, 0, none⟩ (.slice k3.a k3.n k3.c)).setCell ⟨G, 1, none⟩ (.int .i64 fg3.fu)).setCell ⟨G, 2, none⟩ (.bool fg3.up)).setCell ⟨G, 3, none⟩ (.int .i64 fg3.t.r.v)).setCell ⟨G, 4, none⟩ (.slice k3.ak k3.nk k3.ck)).setCell ⟨G, 5, none⟩ (.int .i64 fg3.t.r.t)).setCell ⟨G, 6, none⟩ (.int .i64 fg3.t.ver)).setCell ⟨G, 7, none⟩ (.slice k3.av k3.nv k3.cv)).setCell ⟨G, 8, none⟩ (.slice k3.ad k3.nd k3.cd)) = W7 at *
  have bG := bN
  clear bN
  have hR := hide (gateRead_any fg3 k3 _ HG.out)
  rw [fg_read3] at hR
  unfold gtv at hR
  have x0 := blk_cell bG.out 0 _ rfl
  have x1 := blk_cell bG.out 1 _ rfl
  have x2 := blk_cell bG.out 2 _ rfl
  have x3 := blk_cell bG.out 3 _ rfl
  have x4 := blk_cell bG.out 4 _ rfl
  have x5 := blk_cell bG.out 5 _ rfl
  have x6 := blk_cell bG.out 6 _ rfl
  have x7 := blk_cell bG.out 7 _ rfl
  have x8 := blk_cell bG.out 8 _ rfl
  go_wp2_with fail
  refine (unhide hR).mono ?_
  rintro e w8 ⟨rfl, hb⟩
  clear hR x0 x1 x2 x3 x4 x5 x6 x7 x8
  unfold gsv
  dsimp only
  have bQ := hide (heap_alloc_last w8 (.cells #[.int .i64 1, .int .i64 1, .bool true, .bool false, .bool true] 82))
  have hb2 : Below W7.heap.size W7 (w8.alloc (.cells #[.int .i64 1, .int .i64 1, .bool true, .bool false, .bool true] 82)) := below_new hb _
  replace bP := hide (blk_below bP.out hb2)
  replace hS := hS.trans (hb2.mono hS.size)
  go_upto_region 9 with fail
  generalize w8.alloc (.cells #[.int .i64 1, .int .i64 1, .bool true, .bool false, .bool true] 82) = W8 at *
  generalize w8.heap.size = Q at *
  have p0 := blk_cell bP.out 0 _ rfl
  have p1 := blk_cell bP.out 1 _ rfl
  have p2 := blk_cell bP.out 2 _ rfl
  have p3 := blk_cell bP.out 3 _ rfl
  have p4 := blk_cell bP.out 4 _ rfl
  have q0 := blk_cell bQ.out 0 _ rfl
  have q1 := blk_cell bQ.out 1 _ rfl
  have q2 := blk_cell bQ.out 2 _ rfl
  have q3 := blk_cell bQ.out 3 _ rfl
  have q4 := blk_cell bQ.out 4 _ rfl
  go_wp2_with fail
  go_ret
  exact ⟨rfl, hw.trans (hS.mono hw.size)⟩

end Go.Proofs.YtgngpmgjoifepaaGreatDoor

namespace Go.Proofs.YtgngpmgjoifepaaGreatDoor
open Go.ChangeShapes Go.WideShapes Go.ChangeAt Go.RowKit Go.Joins

set_option maxRecDepth 100000 in
theorem own : ownKnob Tryz.prog.godebug = none := by kernel_rfl
set_option maxRecDepth 100000 in
theorem laidOut : laidOutB Tryz.prog = true := by kernel_rfl
set_option maxRecDepth 100000 in
theorem cells_int : Tryz.prog.cellsOf 3 = 1 := by kernel_rfl
/-- What is known of a slice of ints that came in. -/
structure InInts (W : World) (a : Option Addr) (n c : Nat) (xs : List Int) : Prop where
  ints : IsInts W a xs
  len : xs.length = n
  cap : n ≤ c
  max : n ≤ maxLen

/-- .. of targets. -/
structure InTgts (W : World) (a : Option Addr) (n c : Nat) (ts : List T3) : Prop where
  tgts : IsTgts W a ts
  len : ts.length = n
  cap : n ≤ c
  max : n ≤ maxLen

theorem ad_spot {W : World} {ad : Addr} {v : Value} (h : W.cell? (ad.add 0) = some v) : ad.spot = none := by
  simpa [Addr.add] using World.cell?_spot h

theorem ad_cell {W : World} {b off i : Nat} {v : Value} (h : W.cell? ((⟨b, off, none⟩ : Addr).add i) = some v) : W.cell? ⟨b, off + i, none⟩ = some v := by
  by_cases hi0 : i = 0
  · subst hi0; simpa [Addr.add] using h
  · simpa [Addr.add, hi0] using h

set_option maxRecDepth 100000 in
theorem open_ints_cells {H : Type} {enc : TypeId × Value → H} {W : World} {fuel : Nat} {v : Value} {x : DataW H × List MemPlace}
    (h : DataW.trod enc Tryz.prog W 0 (fun _ => true) true fuel 25 [v] = some x) :
    ∃ a n c xs, v = .slice a n c ∧ InInts W a n c xs := by
  rcases open_ints Tryz.underlying25 Tryz.underlying3 cells_int h with ⟨hcs, hx⟩ | ⟨ad, len, cap, zs, hcs, _, hl, hm, hz, hx, hcell, _⟩
  · simp at hcs
    subst hcs hx
    exact ⟨none, 0, 0, [], rfl, ⟨.inl rfl, rfl, Nat.le_refl _, by decide⟩⟩
  · simp at hcs hz
    subst hcs hx
    refine ⟨some ad, len, cap, zs.take len, rfl, ?_, by simp; omega, hl, Nat.le_trans hl hm⟩
    by_cases h0 : len = 0
    · exact .inl (by simp [h0])
    obtain ⟨b, off, spot⟩ := ad
    have hs : spot = none := ad_spot (hcell 0 (by omega))
    subst hs
    refine .inr ⟨b, off, rfl, fun i hi => ?_⟩
    simp at hi
    rw [ad_cell (hcell i (by omega))]
    simp [show i < len by omega]

set_option maxRecDepth 100000 in
theorem cells_tgt : Tryz.prog.cellsOf 104 = 3 := by kernel_rfl

set_option maxRecDepth 100000 in
theorem open_tgt {H : Type} {enc : TypeId × Value → H} {W : World} {n : Nat} {cs : List Value} {x : DataW H × List MemPlace} (h : DataW.trod enc Tryz.prog W 0 (fun _ => true) true n 104 cs = some x) :
    ∃ t : T3, cs = tcells t := by
  obtain ⟨xs, k, hk, hxy, hl, hxl, hf⟩ := DataW.trod_struct Tryz.underlying104 h
  rw [cells_tgt] at hl
  match cs, hl with
  | [v0, v1, v2], _ =>
    match xs, hxl with
    | [y0, y1, y2], _ =>
      have g0 := hf 0 _ rfl
      have g1 := hf 1 _ rfl
      have g2 := hf 2 _ rfl
      simp [cells_int] at g0 g1 g2
      obtain ⟨z0, e0, _⟩ := DataW.trod_int Tryz.underlying3 g0
      obtain ⟨z1, e1, _⟩ := DataW.trod_int Tryz.underlying3 g1
      obtain ⟨z2, e2, _⟩ := DataW.trod_int Tryz.underlying3 g2
      simp at e0 e1 e2
      exact ⟨(z0, z1, z2), by rw [e0, e1, e2]; rfl⟩

set_option maxRecDepth 100000 in
theorem open_tgts_cells {H : Type} {enc : TypeId × Value → H} {W : World} {fuel : Nat} {v : Value} {x : DataW H × List MemPlace}
    (h : DataW.trod enc Tryz.prog W 0 (fun _ => true) true fuel 71 [v] = some x) :
    ∃ a n c ts, v = .slice a n c ∧ InTgts W a n c ts := by
  rcases Go.Deep.open_slice Tryz.underlying71 h with ⟨hcs, hx⟩ | ⟨ad, len, cap, m, n, D, Pl, hcs, _, hl, hm, hmm, hx, hV⟩
  · simp at hcs
    subst hcs
    exact ⟨none, 0, 0, [], rfl, ⟨.inl rfl, rfl, Nat.le_refl _, by decide⟩⟩
  · simp at hcs hmm
    subst hcs hmm
    have hone : ∀ i, ∃ t : T3, i < len → ∀ j u, (tcells t)[j]? = some u → W.cell? ((ad.add (i * 3)).add j) = some u := by
      intro i
      by_cases hi : i < len
      · obtain ⟨cs', h1, h2⟩ := hV i (by omega)
        obtain ⟨t, rfl⟩ := open_tgt h2
        rw [cells_tgt] at h1
        obtain ⟨_, hlen, hcell⟩ := World.cells?_some h1
        refine ⟨t, fun _ j u hj => ?_⟩
        have hj3 : j < 3 := by
          have := (List.getElem?_eq_some_iff.1 hj).1
          simpa [tcells] using this
        rw [hcell j (by simpa [tcells] using hj3)]
        exact hj
      · exact ⟨(0, 0, 0), fun h => absurd h hi⟩
    obtain ⟨R, hR⟩ := Classical.axiomOfChoice hone
    refine ⟨some ad, len, m, (List.range len).map R, rfl, ?_, by simp, hl, Nat.le_trans hl hm⟩
    by_cases h0 : len = 0
    · exact .inl (by simp [h0])
    obtain ⟨b, off, spot⟩ := ad
    have hs : spot = none := by
      have := hR 0 (by omega) 0 _ rfl
      rw [Nat.zero_mul] at this
      have := World.cell?_spot this
      simpa [Addr.add] using this
    subst hs
    refine .inr ⟨b, off, rfl, fun i t hi => ?_⟩
    have hi2 : i < len := by
      have := (List.getElem?_eq_some_iff.1 hi).1
      simpa using this
    have hri : R i = t := by simpa [hi2] using hi
    have hc := hR i hi2
    rw [hri] at hc
    have hadd : (⟨b, off, none⟩ : Addr).add (i * 3) = ⟨b, off + i * 3, none⟩ := by unfold Addr.add; split <;> simp_all
    rw [hadd] at hc
    exact ⟨by simpa [Addr.add] using hc 0 _ rfl, ad_cell (hc 1 _ rfl), ad_cell (hc 2 _ rfl)⟩

end Go.Proofs.YtgngpmgjoifepaaGreatDoor
