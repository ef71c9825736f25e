/- The closed fact: a campaign is begun, voted for, decided, ended (wainwrightlaw.gated). How a law's arguments that are books, releases, roots, texts or slices of ints are opened. How a law's arguments that are signatures, what is trusted, or offers are opened. -/
import Derived.Test.YtgngpmgjoifepaaGreatDoorPg36
import Derived.Laws.StructEq
import Derived.Test.YtgngpmgjoifepaaGreatDoorPg9
import Derived.ProofKit
import Derived.Lib.SmallJoins
import Derived.SliceStrings
import Derived.Deep.Slices
import Derived.ChangeMaps5
import Derived.Test.YtgngpmgjoifepaaGreatDoorPg27
namespace Go.Proofs.YtgngpmgjoifepaaGreatDoor
open Go.RowKit
attribute [local go_sem ↓] Go.wp_at_zero Go.wp_at_succ

theorem bools_turns {w w' : World} {B : Nat} {a : Option Addr} {bs : List Bool} (h : IsBools w a bs) (hg : w.grownBy w' (some B)) (ho : Off B a) : IsBools w' a bs := by
  rcases h with h | ⟨b, off, rfl, hc⟩
  · exact .inl h
  · exact .inr ⟨b, off, rfl, fun i hi => hg.cell (hc i hi) (fun e => ho _ rfl (by cases e; rfl))⟩
theorem GIn.turns {w w' : World} {B F : Nat} {m : GA} {g : Gt} (h : GIn w m g) (hf : GFr F m) (hB : B < F) (hg : w.grownBy w' (some B)) : GIn w' m g :=
  ⟨h.ws.turns hg (off_fresh hf.a hB), h.ks.turns hg (off_fresh hf.ak hB), ⟨bools_turns h.vo.at_ hg (off_fresh hf.av hB), h.vo.len, h.vo.cap, h.vo.max⟩, ⟨bools_turns h.di.at_ hg (off_fresh hf.ad hB), h.di.len, h.di.cap, h.di.max⟩⟩
theorem gt_set9 {W : World} {B : Nat} {c0 c1 c2 c3 c4 c5 c6 c7 c8 v0 v1 v2 v3 v4 v5 v6 v7 v8 : Value} {t : TypeId} (h : W.heap[B]? = some (.cells #[c0, c1, c2, c3, c4, c5, c6, c7, c8] t (0, 0))) :
    (((((((((W.setCell ⟨B, 0, none⟩ v0).setCell ⟨B, 1, none⟩ v1).setCell ⟨B, 2, none⟩ v2).setCell ⟨B, 3, none⟩ v3).setCell ⟨B, 4, none⟩ v4).setCell ⟨B, 5, none⟩ v5).setCell ⟨B, 6, none⟩ v6).setCell ⟨B, 7, none⟩ v7).setCell ⟨B, 8, none⟩ v8).heap[B]? = some (.cells #[v0, v1, v2, v3, v4, v5, v6, v7, v8] t (0, 0)) := by
  simp only [World.setCell, Array.getElem?_modify]
  simp [h]

set_option maxHeartbeats 12800000 in
set_option maxRecDepth 100000 in
theorem lawGated_any (w : World) (hT : Tab w) : Calls Tryz.prog 36 #[] w fun e w' => e = .returned (.bool true) ∧ Below w.heap.size w w' := by
  have HTb := hide hT
  clear hT
  go_enter Tryz.func36, Tryz.ntmps36
  go_wp2_with fail
  refine (lawSimple_any _).mono ?_
  rintro e w1 ⟨ab, a1, a2, m, rfl, hS, hw⟩
  have HS := hide hS
  clear hS
  go_upto_region 2 with fail
  have hb : Below w1.heap.size w1 (((w1.alloc (.cells #[.slice ab 4 4] 24)).alloc (.cells #[.int .i64 1, .slice a2 1 1, .int .i64 1, .int .i64 0] 65)).alloc (.cells #[.slice m.a1 m.n1 m.c1, .slice m.a2 m.n2 m.c2, .int .i64 1, .int .i64 5, .slice m.a3 m.n3 m.c3, .slice m.a4 m.n4 m.c4, .slice m.a5 m.n5 m.c5] 75)) := (((Below.refl _ _).alloc (Nat.le_refl _) _).alloc (by simp) _).alloc (by simp; omega) _
  have b0 : Hid ((((w1.alloc (.cells #[.slice ab 4 4] 24)).alloc (.cells #[.int .i64 1, .slice a2 1 1, .int .i64 1, .int .i64 0] 65)).alloc (.cells #[.slice m.a1 m.n1 m.c1, .slice m.a2 m.n2 m.c2, .int .i64 1, .int .i64 5, .slice m.a3 m.n3 m.c3, .slice m.a4 m.n4 m.c4, .slice m.a5 m.n5 m.c5] 75)).heap[w1.heap.size]? = some (.cells #[.slice ab 4 4] 24 (0, 0))) := bk3.1
  have b1 : Hid ((((w1.alloc (.cells #[.slice ab 4 4] 24)).alloc (.cells #[.int .i64 1, .slice a2 1 1, .int .i64 1, .int .i64 0] 65)).alloc (.cells #[.slice m.a1 m.n1 m.c1, .slice m.a2 m.n2 m.c2, .int .i64 1, .int .i64 5, .slice m.a3 m.n3 m.c3, .slice m.a4 m.n4 m.c4, .slice m.a5 m.n5 m.c5] 75)).heap[w1.heap.size + 1]? = some (.cells #[.int .i64 1, .slice a2 1 1, .int .i64 1, .int .i64 0] 65 (0, 0))) := bk3.2.1
  have b2 : Hid ((((w1.alloc (.cells #[.slice ab 4 4] 24)).alloc (.cells #[.int .i64 1, .slice a2 1 1, .int .i64 1, .int .i64 0] 65)).alloc (.cells #[.slice m.a1 m.n1 m.c1, .slice m.a2 m.n2 m.c2, .int .i64 1, .int .i64 5, .slice m.a3 m.n3 m.c3, .slice m.a4 m.n4 m.c4, .slice m.a5 m.n5 m.c5] 75)).heap[w1.heap.size + 1 + 1]? = some (.cells #[.slice m.a1 m.n1 m.c1, .slice m.a2 m.n2 m.c2, .int .i64 1, .int .i64 5, .slice m.a3 m.n3 m.c3, .slice m.a4 m.n4 m.c4, .slice m.a5 m.n5 m.c5] 75 (0, 0))) := bk3.2.2
  replace HS := hide (HS.out.below hb)
  replace hw := hw.trans (hb.mono hw.size)
  replace HTb := hide (HTb.out.below hw)
  clear hb
  generalize (((w1.alloc (.cells #[.slice ab 4 4] 24)).alloc (.cells #[.int .i64 1, .slice a2 1 1, .int .i64 1, .int .i64 0] 65)).alloc (.cells #[.slice m.a1 m.n1 m.c1, .slice m.a2 m.n2 m.c2, .int .i64 1, .int .i64 5, .slice m.a3 m.n3 m.c3, .slice m.a4 m.n4 m.c4, .slice m.a5 m.n5 m.c5] 75)) = W1 at *
  generalize w1.heap.size = K at *
  have t0 := blk_cell b1.out 0 _ rfl
  have t1 := blk_cell b1.out 1 _ rfl
  have t2 := blk_cell b1.out 2 _ rfl
  have hN := hide (gateNew_any fr1 a2 1 1 1 W1 HS.out.2.2.1)
  rw [fg_new] at hN
  unfold fr1 at hN
  go_wp2_with fail
  refine (unhide hN).mono ?_
  rintro e w2 ⟨⟨k, rfl, hg, hfr⟩, hb⟩
  clear hN t0 t1 t2
  dsimp only at hg ⊢
  have bG := hide (heap_alloc_last w2 (.cells #[.slice k.a k.n k.c, .int .i64 fg0.fu, .bool fg0.up, .int .i64 fg0.t.r.v, .slice k.ak k.nk k.ck, .int .i64 fg0.t.r.t, .int .i64 fg0.t.ver, .slice k.av k.nv k.cv, .slice k.ad k.nd k.cd] 68))
  have hb2 : Below w2.heap.size w2 (w2.alloc (.cells #[.slice k.a k.n k.c, .int .i64 fg0.fu, .bool fg0.up, .int .i64 fg0.t.r.v, .slice k.ak k.nk k.ck, .int .i64 fg0.t.r.t, .int .i64 fg0.t.ver, .slice k.av k.nv k.cv, .slice k.ad k.nd k.cd] 68)) := below_new (Below.refl _ _) _
  have HG := hide (hg.below hb2)
  have hS := hb.trans (hb2.mono hb.size)
  have hGK := hb.size
  clear hg hb hb2 hfr
  unfold gtv
  go_upto_region 3 with fail
  generalize w2.alloc (.cells #[.slice k.a k.n k.c, .int .i64 fg0.fu, .bool fg0.up, .int .i64 fg0.t.r.v, .slice k.ak k.nk k.ck, .int .i64 fg0.t.r.t, .int .i64 fg0.t.ver, .slice k.av k.nv k.cv, .slice k.ad k.nd k.cd] 68) = W2 at *
  generalize w2.heap.size = G at *
  have hB := hide (gateBegin_any ab 4 4 tbk a1 4 4 tsl fg0 k to1 m 0 W2 (HS.out.below hS).1 (HS.out.below hS).2.1 HG.out (HS.out.below hS).2.2.2 (HTb.out.below hS))
  rw [fg_beg] at hB
  unfold bookv gtv offv at hB
  simp only [show to1.v = 1 from rfl, show to1.u = 5 from rfl] at hB
  have k0 := blk_cell (blk_below b0.out hS) 0 _ rfl
  have o0 := blk_cell (blk_below b2.out hS) 0 _ rfl
  have o1 := blk_cell (blk_below b2.out hS) 1 _ rfl
  have o2 := blk_cell (blk_below b2.out hS) 2 _ rfl
  have o3 := blk_cell (blk_below b2.out hS) 3 _ rfl
  have o4 := blk_cell (blk_below b2.out hS) 4 _ rfl
  have o5 := blk_cell (blk_below b2.out hS) 5 _ rfl
  have o6 := blk_cell (blk_below b2.out hS) 6 _ rfl
  have x0 := blk_cell bG.out 0 _ rfl
  have x1 := blk_cell bG.out 1 _ rfl
  have x2 := blk_cell bG.out 2 _ rfl
  have x3 := blk_cell bG.out 3 _ rfl
  have x4 := blk_cell bG.out 4 _ rfl
  have x5 := blk_cell bG.out 5 _ rfl
  have x6 := blk_cell bG.out 6 _ rfl
  have x7 := blk_cell bG.out 7 _ rfl
  have x8 := blk_cell bG.out 8 _ rfl
  go_wp2_with fail
  refine (unhide hB).mono ?_
  rintro e w3 ⟨⟨k1, rfl, hg, hfr⟩, hb⟩
  dsimp only at hg ⊢
  clear hB HG k0 o0 o1 o2 o3 o4 o5 o6 x0 x1 x2 x3 x4 x5 x6 x7 x8
  have hG2 := blk_lt bG.out
  replace bG := hide (blk_below bG.out hb)
  replace hS := hS.trans (hb.mono hS.size)
  have HG := hide hg
  have HF := hide hfr
  clear hg hfr hb
  unfold gtv
  have x0 := blk_cell bG.out 0 _ rfl
  have x1 := blk_cell bG.out 1 _ rfl
  have x2 := blk_cell bG.out 2 _ rfl
  have x3 := blk_cell bG.out 3 _ rfl
  have x4 := blk_cell bG.out 4 _ rfl
  have x5 := blk_cell bG.out 5 _ rfl
  have x6 := blk_cell bG.out 6 _ rfl
  have x7 := blk_cell bG.out 7 _ rfl
  have x8 := blk_cell bG.out 8 _ rfl
  have f0 := blk_free bG.out 0
  have f1 := blk_free bG.out 1
  have f2 := blk_free bG.out 2
  have f3 := blk_free bG.out 3
  have f4 := blk_free bG.out 4
  have f5 := blk_free bG.out 5
  have f6 := blk_free bG.out 6
  have f7 := blk_free bG.out 7
  have f8 := blk_free bG.out 8
  go_upto_region 4 with fail
  have hT := turns_set (turns_set (turns_set (turns_set (turns_set (turns_set (turns_set (turns_set (turns_set (World.grownBy.refl w3 (some G)) 0 (.slice k1.a k1.n k1.c)) 1 (.int .i64 fg1.fu)) 2 (.bool fg1.up)) 3 (.int .i64 fg1.t.r.v)) 4 (.slice k1.ak k1.nk k1.ck)) 5 (.int .i64 fg1.t.r.t)) 6 (.int .i64 fg1.t.ver)) 7 (.slice k1.av k1.nv k1.cv)) 8 (.slice k1.ad k1.nd k1.cd)
  have bN : Hid ((((((((((w3.setCell ⟨G, 0, none⟩ (.slice k1.a k1.n k1.c)).setCell ⟨G, 1, none⟩ (.int .i64 fg1.fu)).setCell ⟨G, 2, none⟩ (.bool fg1.up)).setCell ⟨G, 3, none⟩ (.int .i64 fg1.t.r.v)).setCell ⟨G, 4, none⟩ (.slice k1.ak k1.nk k1.ck)).setCell ⟨G, 5, none⟩ (.int .i64 fg1.t.r.t)).setCell ⟨G, 6, none⟩ (.int .i64 fg1.t.ver)).setCell ⟨G, 7, none⟩ (.slice k1.av k1.nv k1.cv)).setCell ⟨G, 8, none⟩ (.slice k1.ad k1.nd k1.cd)).heap[G]? = some (.cells #[.slice k1.a k1.n k1.c, .int .i64 fg1.fu, .bool fg1.up, .int .i64 fg1.t.r.v, .slice k1.ak k1.nk k1.ck, .int .i64 fg1.t.r.t, .int .i64 fg1.t.ver, .slice k1.av k1.nv k1.cv, .slice k1.ad k1.nd k1.cd] 68 (0, 0))) := gt_set9 bG.out
  replace HG := hide (HG.out.turns HF.out hG2 hT)
  replace hS := turns_below hS hT hGK hS.size
  clear x0 x1 x2 x3 x4 x5 x6 x7 x8 f0 f1 f2 f3 f4 f5 f6 f7 f8 bG hT HF hG2
  generalize (((((((((w3.setCell ⟨G, 0, none⟩ (.slice k1.a k1.n k1.c)).setCell ⟨G, 1, none⟩ (.int .i64 fg1.fu)).setCell ⟨G, 2, none⟩ (.bool fg1.up)).setCell ⟨G, 3, none⟩ (.int .i64 fg1.t.r.v)).setCell ⟨G, 4, none⟩ (.slice k1.ak k1.nk k1.ck)).setCell ⟨G, 5, none⟩ (.int .i64 fg1.t.r.t)).setCell ⟨G, 6, none⟩ (.int .i64 fg1.t.ver)).setCell ⟨G, 7, none⟩ (.slice k1.av k1.nv k1.cv)).setCell ⟨G, 8, none⟩ (.slice k1.ad k1.nd k1.cd)) = W3 at *
  have bG := bN
  clear bN
  have o2 := blk_cell (blk_below b2.out hS) 2 _ rfl
  have o3 := blk_cell (blk_below b2.out hS) 3 _ rfl
  have o4 := blk_cell (blk_below b2.out hS) 4 _ rfl
  have o6 := blk_cell (blk_below b2.out hS) 6 _ rfl
  have x0 := blk_cell bG.out 0 _ rfl
  have x1 := blk_cell bG.out 1 _ rfl
  have x2 := blk_cell bG.out 2 _ rfl
  have x3 := blk_cell bG.out 3 _ rfl
  have x4 := blk_cell bG.out 4 _ rfl
  have x5 := blk_cell bG.out 5 _ rfl
  have x6 := blk_cell bG.out 6 _ rfl
  have x7 := blk_cell bG.out 7 _ rfl
  have x8 := blk_cell bG.out 8 _ rfl
  obtain ⟨dl, hdl, hd2⟩ := fg_due
  have hD := hide (gateDue_any fg1 k1 1 1 5 ⟨m.a3, m.n3, m.c3, m.a5, m.n5, m.c5⟩ [(0, 2, 2)] [[8, 8]] 0 W3 HG.out (HS.out.below hS).2.2.2.tgts (HS.out.below hS).2.2.2.imgs)
  rw [hdl] at hD
  unfold gtv cpv at hD
  clear hdl
  go_wp2_with fail
  refine (unhide hD).mono ?_
  rintro e w4 ⟨⟨al, nl, cl, rfl, -, hnl, -, -⟩, hb⟩
  obtain rfl : nl = 2 := by rw [← hnl]; exact hd2
  clear hD hnl hd2 o2 o3 o4 o6 x0 x1 x2 x3 x4 x5 x6 x7 x8
  replace bG := hide (blk_below bG.out hb)
  replace hS := hS.trans (hb.mono hS.size)
  replace HG := hide (HG.out.below hb)
  clear hb HS b0 b1 b2 HTb
  dsimp only
  go_upto_region 5 with fail
  have hH := hide (gateHear_any fg1 k1 fv1 none 0 0 _ HG.out)
  rw [fg_vote] at hH
  unfold gtv msv at hH
  simp only [show fv1.k = 3 from rfl, show fv1.u = 0 from rfl, show fv1.n = 1 from rfl, show fv1.at' = 0 from rfl, show fv1.im = 0 from rfl, show fv1.y = true from rfl] at hH
  have x0 := blk_cell bG.out 0 _ rfl
  have x1 := blk_cell bG.out 1 _ rfl
  have x2 := blk_cell bG.out 2 _ rfl
  have x3 := blk_cell bG.out 3 _ rfl
  have x4 := blk_cell bG.out 4 _ rfl
  have x5 := blk_cell bG.out 5 _ rfl
  have x6 := blk_cell bG.out 6 _ rfl
  have x7 := blk_cell bG.out 7 _ rfl
  have x8 := blk_cell bG.out 8 _ rfl
  go_wp2_with fail
  refine (unhide hH).mono ?_
  rintro e w5 ⟨⟨k2, am, nm, cm, rfl, hg, hfr, -, -, -, -⟩, hb⟩
  dsimp only at hg ⊢
  clear hH HG x0 x1 x2 x3 x4 x5 x6 x7 x8
  have hG2 := blk_lt bG.out
  replace bG := hide (blk_below bG.out hb)
  replace hS := hS.trans (hb.mono hS.size)
  have HG := hide hg
  have HF := hide hfr
  clear hg hfr hb
  unfold gtv
  have x0 := blk_cell bG.out 0 _ rfl
  have x1 := blk_cell bG.out 1 _ rfl
  have x2 := blk_cell bG.out 2 _ rfl
  have x3 := blk_cell bG.out 3 _ rfl
  have x4 := blk_cell bG.out 4 _ rfl
  have x5 := blk_cell bG.out 5 _ rfl
  have x6 := blk_cell bG.out 6 _ rfl
  have x7 := blk_cell bG.out 7 _ rfl
  have x8 := blk_cell bG.out 8 _ rfl
  have f0 := blk_free bG.out 0
  have f1 := blk_free bG.out 1
  have f2 := blk_free bG.out 2
  have f3 := blk_free bG.out 3
  have f4 := blk_free bG.out 4
  have f5 := blk_free bG.out 5
  have f6 := blk_free bG.out 6
  have f7 := blk_free bG.out 7
  have f8 := blk_free bG.out 8
  go_upto_region 6 with fail
  have hT := turns_set (turns_set (turns_set (turns_set (turns_set (turns_set (turns_set (turns_set (turns_set (World.grownBy.refl w5 (some G)) 0 (.slice k2.a k2.n k2.c)) 1 (.int .i64 fg2.fu)) 2 (.bool fg2.up)) 3 (.int .i64 fg2.t.r.v)) 4 (.slice k2.ak k2.nk k2.ck)) 5 (.int .i64 fg2.t.r.t)) 6 (.int .i64 fg2.t.ver)) 7 (.slice k2.av k2.nv k2.cv)) 8 (.slice k2.ad k2.nd k2.cd)
  have bN : Hid ((((((((((w5.setCell ⟨G, 0, none⟩ (.slice k2.a k2.n k2.c)).setCell ⟨G, 1, none⟩ (.int .i64 fg2.fu)).setCell ⟨G, 2, none⟩ (.bool fg2.up)).setCell ⟨G, 3, none⟩ (.int .i64 fg2.t.r.v)).setCell ⟨G, 4, none⟩ (.slice k2.ak k2.nk k2.ck)).setCell ⟨G, 5, none⟩ (.int .i64 fg2.t.r.t)).setCell ⟨G, 6, none⟩ (.int .i64 fg2.t.ver)).setCell ⟨G, 7, none⟩ (.slice k2.av k2.nv k2.cv)).setCell ⟨G, 8, none⟩ (.slice k2.ad k2.nd k2.cd)).heap[G]? = some (.cells #[.slice k2.a k2.n k2.c, .int .i64 fg2.fu, .bool fg2.up, .int .i64 fg2.t.r.v, .slice k2.ak k2.nk k2.ck, .int .i64 fg2.t.r.t, .int .i64 fg2.t.ver, .slice k2.av k2.nv k2.cv, .slice k2.ad k2.nd k2.cd] 68 (0, 0))) := gt_set9 bG.out
  replace HG := hide (HG.out.turns HF.out hG2 hT)
  replace hS := turns_below hS hT hGK hS.size
  clear x0 x1 x2 x3 x4 x5 x6 x7 x8 f0 f1 f2 f3 f4 f5 f6 f7 f8 bG hT HF hG2
  generalize (((((((((w5.setCell ⟨G, 0, none⟩ (.slice k2.a k2.n k2.c)).setCell ⟨G, 1, none⟩ (.int .i64 fg2.fu)).setCell ⟨G, 2, none⟩ (.bool fg2.up)).setCell ⟨G, 3, none⟩ (.int .i64 fg2.t.r.v)).setCell ⟨G, 4, none⟩ (.slice k2.ak k2.nk k2.ck)).setCell ⟨G, 5, none⟩ (.int .i64 fg2.t.r.t)).setCell ⟨G, 6, none⟩ (.int .i64 fg2.t.ver)).setCell ⟨G, 7, none⟩ (.slice k2.av k2.nv k2.cv)).setCell ⟨G, 8, none⟩ (.slice k2.ad k2.nd k2.cd)) = W5 at *
  have bG := bN
  clear bN
  have hR := hide (gateRead_any fg2 k2 _ HG.out)
  rw [fg_read2] at hR
  unfold gtv at hR
  have x0 := blk_cell bG.out 0 _ rfl
  have x1 := blk_cell bG.out 1 _ rfl
  have x2 := blk_cell bG.out 2 _ rfl
  have x3 := blk_cell bG.out 3 _ rfl
  have x4 := blk_cell bG.out 4 _ rfl
  have x5 := blk_cell bG.out 5 _ rfl
  have x6 := blk_cell bG.out 6 _ rfl
  have x7 := blk_cell bG.out 7 _ rfl
  have x8 := blk_cell bG.out 8 _ rfl
  go_wp2_with fail
  refine (unhide hR).mono ?_
  rintro e w6 ⟨rfl, hb⟩
  clear hR x0 x1 x2 x3 x4 x5 x6 x7 x8
  unfold gsv
  dsimp only
  have bP := hide (heap_alloc_last w6 (.cells #[.int .i64 1, .int .i64 1, .bool true, .bool false, .bool false] 82))
  have hb2 : Below W5.heap.size W5 (w6.alloc (.cells #[.int .i64 1, .int .i64 1, .bool true, .bool false, .bool false] 82)) := below_new hb _
  replace bG := hide (blk_below bG.out hb2)
  replace HG := hide (HG.out.below hb2)
  replace hS := hS.trans (hb2.mono hS.size)
  go_upto_region 7 with fail
  clear hb hb2
  generalize w6.alloc (.cells #[.int .i64 1, .int .i64 1, .bool true, .bool false, .bool false] 82) = W6 at *
  generalize w6.heap.size = P at *
  have hPG : P ≠ G := by intro e; have h1 := bP.out; rw [e, bG.out] at h1; exact absurd h1 (by simp)
  have hH := hide (gateHear_any fg2 k2 fd1 none 0 0 _ HG.out)
  rw [fg_done] at hH
  unfold gtv msv at hH
  simp only [show fd1.k = 6 from rfl, show fd1.u = 0 from rfl, show fd1.n = 1 from rfl, show fd1.at' = 0 from rfl, show fd1.im = 0 from rfl, show fd1.y = false from rfl] at hH
  have x0 := blk_cell bG.out 0 _ rfl
  have x1 := blk_cell bG.out 1 _ rfl
  have x2 := blk_cell bG.out 2 _ rfl
  have x3 := blk_cell bG.out 3 _ rfl
  have x4 := blk_cell bG.out 4 _ rfl
  have x5 := blk_cell bG.out 5 _ rfl
  have x6 := blk_cell bG.out 6 _ rfl
  have x7 := blk_cell bG.out 7 _ rfl
  have x8 := blk_cell bG.out 8 _ rfl
  go_wp2_with fail
  refine (unhide hH).mono ?_
  rintro e w7 ⟨⟨k3, am, nm, cm, rfl, hg, hfr, -, -, -, -⟩, hb⟩
  dsimp only at hg ⊢
  clear hH HG x0 x1 x2 x3 x4 x5 x6 x7 x8
  replace bP := hide (blk_below bP.out hb)
  have hG2 := blk_lt bG.out
  replace bG := hide (blk_below bG.out hb)
  replace hS := hS.trans (hb.mono hS.size)
  have HG := hide hg
  have HF := hide hfr
  clear hg hfr hb
  unfold gtv
  have x0 := blk_cell bG.out 0 _ rfl
  have x1 := blk_cell bG.out 1 _ rfl
  have x2 := blk_cell bG.out 2 _ rfl
  have x3 := blk_cell bG.out 3 _ rfl
  have x4 := blk_cell bG.out 4 _ rfl
  have x5 := blk_cell bG.out 5 _ rfl
  have x6 := blk_cell bG.out 6 _ rfl
  have x7 := blk_cell bG.out 7 _ rfl
  have x8 := blk_cell bG.out 8 _ rfl
  have f0 := blk_free bG.out 0
  have f1 := blk_free bG.out 1
  have f2 := blk_free bG.out 2
  have f3 := blk_free bG.out 3
  have f4 := blk_free bG.out 4
  have f5 := blk_free bG.out 5
  have f6 := blk_free bG.out 6
  have f7 := blk_free bG.out 7
  have f8 := blk_free bG.out 8
  go_upto_region 8 with fail
  have hT := turns_set (turns_set (turns_set (turns_set (turns_set (turns_set (turns_set (turns_set (turns_set (World.grownBy.refl w7 (some G)) 0 (.slice k3.a k3.n k3.c)) 1 (.int .i64 fg3.fu)) 2 (.bool fg3.up)) 3 (.int .i64 fg3.t.r.v)) 4 (.slice k3.ak k3.nk k3.ck)) 5 (.int .i64 fg3.t.r.t)) 6 (.int .i64 fg3.t.ver)) 7 (.slice k3.av k3.nv k3.cv)) 8 (.slice k3.ad k3.nd k3.cd)
  replace bP := hide (blk_turns bP.out hT hPG)
  have bN : Hid ((((((((((w7.setCell ⟨G, 0, none⟩ (.slice k3.a k3.n k3.c)).setCell ⟨G, 1, none⟩ (.int .i64 fg3.fu)).setCell ⟨G, 2, none⟩ (.bool fg3.up)).setCell ⟨G, 3, none⟩ (.int .i64 fg3.t.r.v)).setCell ⟨G, 4, none⟩ (.slice k3.ak k3.nk k3.ck)).setCell ⟨G, 5, none⟩ (.int .i64 fg3.t.r.t)).setCell ⟨G, 6, none⟩ (.int .i64 fg3.t.ver)).setCell ⟨G, 7, none⟩ (.slice k3.av k3.nv k3.cv)).setCell ⟨G, 8, none⟩ (.slice k3.ad k3.nd k3.cd)).heap[G]? = some (.cells #[.slice k3.a k3.n k3.c, .int .i64 fg3.fu, .bool fg3.up, .int .i64 fg3.t.r.v, .slice k3.ak k3.nk k3.ck, .int .i64 fg3.t.r.t, .int .i64 fg3.t.ver, .slice k3.av k3.nv k3.cv, .slice k3.ad k3.nd k3.cd] 68 (0, 0))) := gt_set9 bG.out
  replace HG := hide (HG.out.turns HF.out hG2 hT)
  replace hS := turns_below hS hT hGK hS.size
  clear x0 x1 x2 x3 x4 x5 x6 x7 x8 f0 f1 f2 f3 f4 f5 f6 f7 f8 bG hT HF hG2 hPG
  generalize (((((((((w7.setCell ⟨G, 0, none⟩ (.slice k3.a k3.n k3.c)).setCell ⟨G, 1, none⟩ (.int .i64 fg3.fu)).setCell ⟨G, 2, none⟩ (.bool fg3.up)).setCell ⟨G, 3, none⟩ (.int .i64 fg3.t.r.v)).setCell ⟨G, 4, none⟩ (.slice k3.ak k3.nk k3.ck)).setCell ⟨G, 5, none⟩ (.int .i64 fg3.t.r.t)).setCell ⟨G, 6, none⟩ (.int .i64 fg3.t.ver)).setCell ⟨G, 7, none⟩ (.slice k3.av k3.nv k3.cv)).setCell ⟨G, 8, none⟩ (.slice k3.ad k3.nd k3.cd)) = W7 at *
  have bG := bN
  clear bN
  have hR := hide (gateRead_any fg3 k3 _ HG.out)
  rw [fg_read3] at hR
  unfold gtv at hR
  have x0 := blk_cell bG.out 0 _ rfl
  have x1 := blk_cell bG.out 1 _ rfl
  have x2 := blk_cell bG.out 2 _ rfl
  have x3 := blk_cell bG.out 3 _ rfl
  have x4 := blk_cell bG.out 4 _ rfl
  have x5 := blk_cell bG.out 5 _ rfl
  have x6 := blk_cell bG.out 6 _ rfl
  have x7 := blk_cell bG.out 7 _ rfl
  have x8 := blk_cell bG.out 8 _ rfl
  go_wp2_with fail
  refine (unhide hR).mono ?_
  rintro e w8 ⟨rfl, hb⟩
  clear hR x0 x1 x2 x3 x4 x5 x6 x7 x8
  unfold gsv
  dsimp only
  have bQ := hide (heap_alloc_last w8 (.cells #[.int .i64 1, .int .i64 1, .bool true, .bool false, .bool true] 82))
  have hb2 : Below W7.heap.size W7 (w8.alloc (.cells #[.int .i64 1, .int .i64 1, .bool true, .bool false, .bool true] 82)) := below_new hb _
  replace bP := hide (blk_below bP.out hb2)
  replace hS := hS.trans (hb2.mono hS.size)
  go_upto_region 9 with fail
  generalize w8.alloc (.cells #[.int .i64 1, .int .i64 1, .bool true, .bool false, .bool true] 82) = W8 at *
  generalize w8.heap.size = Q at *
  have p0 := blk_cell bP.out 0 _ rfl
  have p1 := blk_cell bP.out 1 _ rfl
  have p2 := blk_cell bP.out 2 _ rfl
  have p3 := blk_cell bP.out 3 _ rfl
  have p4 := blk_cell bP.out 4 _ rfl
  have q0 := blk_cell bQ.out 0 _ rfl
  have q1 := blk_cell bQ.out 1 _ rfl
  have q2 := blk_cell bQ.out 2 _ rfl
  have q3 := blk_cell bQ.out 3 _ rfl
  have q4 := blk_cell bQ.out 4 _ rfl
  go_wp2_with fail
  go_ret
  exact ⟨rfl, hw.trans (hS.mono hw.size)⟩

end Go.Proofs.YtgngpmgjoifepaaGreatDoor

namespace Go.Proofs.YtgngpmgjoifepaaGreatDoor
open Go.ChangeShapes Go.WideShapes Go.ChangeAt Go.RowKit Go.Joins

set_option maxRecDepth 100000 in
theorem own : ownKnob Tryz.prog.godebug = none := by kernel_rfl
set_option maxRecDepth 100000 in
theorem laidOut : laidOutB Tryz.prog = true := by kernel_rfl
set_option maxRecDepth 100000 in
theorem cells_int : Tryz.prog.cellsOf 3 = 1 := by kernel_rfl
set_option maxRecDepth 100000 in
theorem cells_str : Tryz.prog.cellsOf 9 = 1 := by kernel_rfl

/-- What is known of a slice of ints that came in. -/
structure InInts (W : World) (a : Option Addr) (n c : Nat) (xs : List Int) : Prop where
  ints : IsInts W a xs
  len : xs.length = n
  cap : n ≤ c
  max : n ≤ maxLen

/-- .. of texts. -/
structure InStrs (W : World) (a : Option Addr) (n c : Nat) (ss : List ByteArray) : Prop where
  strs : IsStrs W a ss
  len : ss.length = n
  cap : n ≤ c
  max : n ≤ maxLen
  short : ∀ s ∈ ss, s.size ≤ maxLen

/-- .. of targets. -/
structure InTgts (W : World) (a : Option Addr) (n c : Nat) (ts : List T3) : Prop where
  tgts : IsTgts W a ts
  len : ts.length = n
  cap : n ≤ c
  max : n ≤ maxLen

theorem ad_spot {W : World} {ad : Addr} {v : Value} (h : W.cell? (ad.add 0) = some v) : ad.spot = none := by
  simpa [Addr.add] using World.cell?_spot h

theorem ad_cell {W : World} {b off i : Nat} {v : Value} (h : W.cell? ((⟨b, off, none⟩ : Addr).add i) = some v) : W.cell? ⟨b, off + i, none⟩ = some v := by
  by_cases hi0 : i = 0
  · subst hi0; simpa [Addr.add] using h
  · simpa [Addr.add, hi0] using h

set_option maxRecDepth 100000 in
theorem open_ints_cells {H : Type} {enc : TypeId × Value → H} {W : World} {fuel : Nat} {v : Value} {x : DataW H × List MemPlace}
    (h : DataW.trod enc Tryz.prog W 0 (fun _ => true) true fuel 25 [v] = some x) :
    ∃ a n c xs, v = .slice a n c ∧ InInts W a n c xs := by
  rcases open_ints Tryz.underlying25 Tryz.underlying3 cells_int h with ⟨hcs, hx⟩ | ⟨ad, len, cap, zs, hcs, _, hl, hm, hz, hx, hcell, _⟩
  · simp at hcs
    subst hcs hx
    exact ⟨none, 0, 0, [], rfl, ⟨.inl rfl, rfl, Nat.le_refl _, by decide⟩⟩
  · simp at hcs hz
    subst hcs hx
    refine ⟨some ad, len, cap, zs.take len, rfl, ?_, by simp; omega, hl, Nat.le_trans hl hm⟩
    by_cases h0 : len = 0
    · exact .inl (by simp [h0])
    obtain ⟨b, off, spot⟩ := ad
    have hs : spot = none := ad_spot (hcell 0 (by omega))
    subst hs
    refine .inr ⟨b, off, rfl, fun i hi => ?_⟩
    simp at hi
    rw [ad_cell (hcell i (by omega))]
    simp [show i < len by omega]

set_option maxRecDepth 100000 in
theorem open_strs_cells {H : Type} {enc : TypeId × Value → H} {W : World} {fuel : Nat} {v : Value} {x : DataW H × List MemPlace}
    (h : DataW.trod enc Tryz.prog W 0 (fun _ => true) true fuel 22 [v] = some x) :
    ∃ a n c ss, v = .slice a n c ∧ InStrs W a n c ss := by
  rcases open_strings Tryz.underlying22 Tryz.underlying9 cells_str h with ⟨hcs, hx⟩ | ⟨ad, len, cap, zs, hcs, _, hl, hm, hz, hx, hcell, hsz⟩
  · simp at hcs
    subst hcs hx
    exact ⟨none, 0, 0, [], rfl, ⟨.inl rfl, rfl, Nat.le_refl _, by decide, by simp⟩⟩
  · simp at hcs hz
    subst hcs hx
    refine ⟨some ad, len, cap, zs.take len, rfl, ?_, by simp; omega, hl, Nat.le_trans hl hm, fun s hs => hsz s (List.mem_of_mem_take hs)⟩
    by_cases h0 : len = 0
    · exact .inl (by simp [h0])
    obtain ⟨b, off, spot⟩ := ad
    have hs : spot = none := ad_spot (hcell 0 (by omega))
    subst hs
    refine .inr ⟨b, off, rfl, fun i hi => ?_⟩
    simp at hi
    rw [ad_cell (hcell i (by omega))]
    simp [show i < len by omega]

set_option maxRecDepth 100000 in
theorem cells_tgt : Tryz.prog.cellsOf 104 = 3 := by kernel_rfl

set_option maxRecDepth 100000 in
theorem open_tgt {H : Type} {enc : TypeId × Value → H} {W : World} {n : Nat} {cs : List Value} {x : DataW H × List MemPlace} (h : DataW.trod enc Tryz.prog W 0 (fun _ => true) true n 104 cs = some x) :
    ∃ t : T3, cs = tcells t := by
  obtain ⟨xs, k, hk, hxy, hl, hxl, hf⟩ := DataW.trod_struct Tryz.underlying104 h
  rw [cells_tgt] at hl
  match cs, hl with
  | [v0, v1, v2], _ =>
    match xs, hxl with
    | [y0, y1, y2], _ =>
      have g0 := hf 0 _ rfl
      have g1 := hf 1 _ rfl
      have g2 := hf 2 _ rfl
      simp [cells_int] at g0 g1 g2
      obtain ⟨z0, e0, _⟩ := DataW.trod_int Tryz.underlying3 g0
      obtain ⟨z1, e1, _⟩ := DataW.trod_int Tryz.underlying3 g1
      obtain ⟨z2, e2, _⟩ := DataW.trod_int Tryz.underlying3 g2
      simp at e0 e1 e2
      exact ⟨(z0, z1, z2), by rw [e0, e1, e2]; rfl⟩

set_option maxRecDepth 100000 in
theorem open_tgts_cells {H : Type} {enc : TypeId × Value → H} {W : World} {fuel : Nat} {v : Value} {x : DataW H × List MemPlace}
    (h : DataW.trod enc Tryz.prog W 0 (fun _ => true) true fuel 71 [v] = some x) :
    ∃ a n c ts, v = .slice a n c ∧ InTgts W a n c ts := by
  rcases Go.Deep.open_slice Tryz.underlying71 h with ⟨hcs, hx⟩ | ⟨ad, len, cap, m, n, D, Pl, hcs, _, hl, hm, hmm, hx, hV⟩
  · simp at hcs
    subst hcs
    exact ⟨none, 0, 0, [], rfl, ⟨.inl rfl, rfl, Nat.le_refl _, by decide⟩⟩
  · simp at hcs hmm
    subst hcs hmm
    have hone : ∀ i, ∃ t : T3, i < len → ∀ j u, (tcells t)[j]? = some u → W.cell? ((ad.add (i * 3)).add j) = some u := by
      intro i
      by_cases hi : i < len
      · obtain ⟨cs', h1, h2⟩ := hV i (by omega)
        obtain ⟨t, rfl⟩ := open_tgt h2
        rw [cells_tgt] at h1
        obtain ⟨_, hlen, hcell⟩ := World.cells?_some h1
        refine ⟨t, fun _ j u hj => ?_⟩
        have hj3 : j < 3 := by
          have := (List.getElem?_eq_some_iff.1 hj).1
          simpa [tcells] using this
        rw [hcell j (by simpa [tcells] using hj3)]
        exact hj
      · exact ⟨(0, 0, 0), fun h => absurd h hi⟩
    obtain ⟨R, hR⟩ := Classical.axiomOfChoice hone
    refine ⟨some ad, len, m, (List.range len).map R, rfl, ?_, by simp, hl, Nat.le_trans hl hm⟩
    by_cases h0 : len = 0
    · exact .inl (by simp [h0])
    obtain ⟨b, off, spot⟩ := ad
    have hs : spot = none := by
      have := hR 0 (by omega) 0 _ rfl
      rw [Nat.zero_mul] at this
      have := World.cell?_spot this
      simpa [Addr.add] using this
    subst hs
    refine .inr ⟨b, off, rfl, fun i t hi => ?_⟩
    have hi2 : i < len := by
      have := (List.getElem?_eq_some_iff.1 hi).1
      simpa using this
    have hri : R i = t := by simpa [hi2] using hi
    have hc := hR i hi2
    rw [hri] at hc
    have hadd : (⟨b, off, none⟩ : Addr).add (i * 3) = ⟨b, off + i * 3, none⟩ := by unfold Addr.add; split <;> simp_all
    rw [hadd] at hc
    exact ⟨by simpa [Addr.add] using hc 0 _ rfl, ad_cell (hc 1 _ rfl), ad_cell (hc 2 _ rfl)⟩

set_option maxRecDepth 100000 in
theorem open_book {H : Type} {enc : TypeId × Value → H} {W : World} {r : Reach} {b0 : Nat} {v : Value} {d : DataW H} {p : List MemPlace}
    (hv : Value.okWide Tryz.prog W r b0 24 v) (h : DataW.Trod enc Tryz.prog W 0 (fun _ => true) true 24 v d p) :
    ∃ a n c ss, v = bookv a n c ∧ InStrs W a n c ss := by
  obtain ⟨cs, rfl, hsz⟩ := okWide_struct Tryz.underlying24 hv
  have hC : Tryz.prog.cellsOf 24 = 1 := by kernel_rfl
  rw [hC] at hsz
  obtain ⟨c0, rfl⟩ : ∃ c0, cs = #[c0] := by
    obtain ⟨l⟩ := cs
    match l, hsz with
    | [c0], _ => exact ⟨c0, rfl⟩
  obtain ⟨fuel, hf⟩ := h
  obtain ⟨xs, k, hk, hxy, hl, hxl, hf⟩ := DataW.trod_struct Tryz.underlying24 hf
  match xs, hxl with
  | [y0], _ =>
    have g0 := hf 0 _ rfl
    have cl : Tryz.prog.cellsOf 22 = 1 := by kernel_rfl
    simp [cl, Value.cells] at g0
    obtain ⟨a, n, c, ss, rfl, hi⟩ := open_strs_cells g0
    exact ⟨a, n, c, ss, rfl, hi⟩

set_option maxRecDepth 100000 in
theorem open_rel {H : Type} {enc : TypeId × Value → H} {W : World} {r : Reach} {b0 : Nat} {v : Value} {d : DataW H} {p : List MemPlace}
    (hv : Value.okWide Tryz.prog W r b0 73 v) (h : DataW.Trod enc Tryz.prog W 0 (fun _ => true) true 73 v d p) :
    ∃ x y a n c ts, v = relv x y a n c ∧ InTgts W a n c ts := by
  obtain ⟨c0, c1, c2, y0, y1, y2, m, rfl, rfl, rfl, hy0, hy1, hy2⟩ := open_agg3 (by exact Tryz.underlying73) (by kernel_rfl) (by kernel_rfl) hv h
  obtain ⟨f, e1, _, _⟩ := DataW.trod_int Tryz.underlying3 hy0
  obtain ⟨g, e2, _, _⟩ := DataW.trod_int Tryz.underlying3 hy1
  obtain ⟨a, n, c, ts, rfl, hi⟩ := open_tgts_cells hy2
  simp at e1 e2
  subst e1 e2
  exact ⟨f, g, a, n, c, ts, rfl, hi⟩

set_option maxRecDepth 100000 in
theorem open_root {H : Type} {enc : TypeId × Value → H} {W : World} {r : Reach} {b0 : Nat} {v : Value} {d : DataW H} {p : List MemPlace}
    (hv : Value.okWide Tryz.prog W r b0 63 v) (h : DataW.Trod enc Tryz.prog W 0 (fun _ => true) true 63 v d p) :
    ∃ x a n c y xs, v = rv x a n c y ∧ InInts W a n c xs := by
  obtain ⟨c0, c1, c2, y0, y1, y2, m, rfl, rfl, rfl, hy0, hy1, hy2⟩ := open_agg3 (by exact Tryz.underlying63) (by kernel_rfl) (by kernel_rfl) hv h
  obtain ⟨f, e1, _, _⟩ := DataW.trod_int Tryz.underlying3 hy0
  obtain ⟨g, e2, _, _⟩ := DataW.trod_int Tryz.underlying3 hy2
  obtain ⟨a, n, c, xs, rfl, hi⟩ := open_ints_cells hy1
  simp at e1 e2
  subst e1 e2
  exact ⟨f, a, n, c, g, xs, rfl, hi⟩

end Go.Proofs.YtgngpmgjoifepaaGreatDoor

namespace Go.Proofs.YtgngpmgjoifepaaGreatDoor
open Go.ChangeShapes Go.WideShapes Go.ChangeAt Go.RowKit Go.Joins

set_option maxRecDepth 100000 in
theorem cells_ints : Tryz.prog.cellsOf 25 = 1 := by kernel_rfl
set_option maxRecDepth 100000 in
theorem cells_sig : Tryz.prog.cellsOf 188 = 2 := by kernel_rfl
set_option maxRecDepth 100000 in
theorem cells_root : Tryz.prog.cellsOf 63 = 3 := by kernel_rfl
set_option maxRecDepth 100000 in
theorem cells_rel : Tryz.prog.cellsOf 73 = 3 := by kernel_rfl
set_option maxRecDepth 100000 in
theorem cells_trust : Tryz.prog.cellsOf 65 = 4 := by kernel_rfl
set_option maxRecDepth 100000 in
theorem cells_offer : Tryz.prog.cellsOf 75 = 7 := by kernel_rfl
set_option maxRecDepth 100000 in
theorem cells_tgts : Tryz.prog.cellsOf 71 = 1 := by kernel_rfl
set_option maxRecDepth 100000 in
theorem cells_roots : Tryz.prog.cellsOf 69 = 1 := by kernel_rfl
set_option maxRecDepth 100000 in
theorem cells_lists : Tryz.prog.cellsOf 70 = 1 := by kernel_rfl

theorem InInts.bi {W : World} {a : Option Addr} {n c : Nat} {xs : List Int} (h : InInts W a n c xs) : BI W a n xs := ⟨h.ints, h.len, h.max⟩
theorem InStrs.bb {W : World} {a : Option Addr} {n c : Nat} {ss : List ByteArray} (h : InStrs W a n c ss) : BB W a n c ss := ⟨h.strs, h.len, h.cap, h.max, h.short⟩
theorem InTgts.bt {W : World} {a : Option Addr} {n c : Nat} {ts : List T3} (h : InTgts W a n c ts) : BT W a n ts := ⟨h.tgts, h.len, h.max⟩

/-- As 'open_ints_cells', with the room. -/
theorem open_ints_room {H : Type} {enc : TypeId × Value → H} {W : World} {fuel : Nat} {v : Value} {x : DataW H × List MemPlace}
    (h : DataW.trod enc Tryz.prog W 0 (fun _ => true) true fuel 25 [v] = some x) :
    ∃ a n c xs, v = .slice a n c ∧ BI W a n xs ∧ n ≤ c ∧ c ≤ maxLen := by
  obtain ⟨a, n, c, xs, rfl, hi⟩ := open_ints_cells h
  refine ⟨a, n, c, xs, rfl, hi.bi, hi.cap, ?_⟩
  rcases open_ints Tryz.underlying25 Tryz.underlying3 cells_int h with ⟨hcs, hx⟩ | ⟨ad, len, cap, zs, hcs, _, hl, hm, hz, hx, hcell, _⟩
  · simp at hcs
    rw [hcs.2.2]
    decide
  · simp at hcs
    rw [hcs.2.2]
    exact hm

set_option maxRecDepth 100000 in
theorem open_sig {H : Type} {enc : TypeId × Value → H} {W : World} {n : Nat} {cs : List Value} {x : DataW H × List MemPlace} (h : DataW.trod enc Tryz.prog W 0 (fun _ => true) true n 188 cs = some x) :
    ∃ s : S2, cs = [.int .i64 s.1, .int .i64 s.2] := by
  obtain ⟨xs, k, hk, hxy, hl, hxl, hf⟩ := DataW.trod_struct Tryz.underlying188 h
  rw [cells_sig] at hl
  match cs, hl with
  | [v0, v1], _ =>
    match xs, hxl with
    | [y0, y1], _ =>
      have g0 := hf 0 _ rfl
      have g1 := hf 1 _ rfl
      simp [cells_int] at g0 g1
      obtain ⟨z0, e0, _⟩ := DataW.trod_int Tryz.underlying3 g0
      obtain ⟨z1, e1, _⟩ := DataW.trod_int Tryz.underlying3 g1
      simp at e0 e1
      exact ⟨(z0, z1), by rw [e0, e1]⟩

set_option maxRecDepth 100000 in
theorem open_root_cells {H : Type} {enc : TypeId × Value → H} {W : World} {n : Nat} {cs : List Value} {x : DataW H × List MemPlace} (h : DataW.trod enc Tryz.prog W 0 (fun _ => true) true n 63 cs = some x) :
    ∃ (r : Rt) (a : Option Addr) (m c : Nat), cs = [.int .i64 r.v, .slice a m c, .int .i64 r.t] ∧ BI W a m r.ks ∧ m ≤ c ∧ c ≤ maxLen := by
  obtain ⟨xs, k, hk, hxy, hl, hxl, hf⟩ := DataW.trod_struct Tryz.underlying63 h
  rw [cells_root] at hl
  match cs, hl with
  | [v0, v1, v2], _ =>
    match xs, hxl with
    | [y0, y1, y2], _ =>
      have g0 := hf 0 _ rfl
      have g1 := hf 1 _ rfl
      have g2 := hf 2 _ rfl
      simp [cells_int, cells_ints] at g0 g1 g2
      obtain ⟨z0, e0, _⟩ := DataW.trod_int Tryz.underlying3 g0
      obtain ⟨z2, e2, _⟩ := DataW.trod_int Tryz.underlying3 g2
      obtain ⟨a, m, c, ks, rfl, hi, h1, h2⟩ := open_ints_room g1
      simp at e0 e2
      exact ⟨⟨z0, ks, z2⟩, a, m, c, by rw [e0, e2], hi, h1, h2⟩

set_option maxRecDepth 100000 in
theorem open_rel_cells {H : Type} {enc : TypeId × Value → H} {W : World} {n : Nat} {cs : List Value} {x : DataW H × List MemPlace} (h : DataW.trod enc Tryz.prog W 0 (fun _ => true) true n 73 cs = some x) :
    ∃ (v u : Int) (a : Option Addr) (m c : Nat) (ts : List T3), cs = [.int .i64 v, .int .i64 u, .slice a m c] ∧ BT W a m ts := by
  obtain ⟨xs, k, hk, hxy, hl, hxl, hf⟩ := DataW.trod_struct Tryz.underlying73 h
  rw [cells_rel] at hl
  match cs, hl with
  | [v0, v1, v2], _ =>
    match xs, hxl with
    | [y0, y1, y2], _ =>
      have g0 := hf 0 _ rfl
      have g1 := hf 1 _ rfl
      have g2 := hf 2 _ rfl
      simp [cells_int, cells_tgts] at g0 g1 g2
      obtain ⟨z0, e0, _⟩ := DataW.trod_int Tryz.underlying3 g0
      obtain ⟨z1, e1, _⟩ := DataW.trod_int Tryz.underlying3 g1
      obtain ⟨a, m, c, ts, rfl, hi⟩ := open_tgts_cells g2
      simp at e0 e1
      exact ⟨z0, z1, a, m, c, ts, by rw [e0, e1], hi.bt⟩

set_option maxRecDepth 100000 in
theorem open_sigs_cells {H : Type} {enc : TypeId × Value → H} {W : World} {fuel : Nat} {v : Value} {x : DataW H × List MemPlace}
    (h : DataW.trod enc Tryz.prog W 0 (fun _ => true) true fuel 61 [v] = some x) :
    ∃ a n c l, v = .slice a n c ∧ BG W a n l := by
  rcases Go.Deep.open_slice Tryz.underlying61 h with ⟨hcs, hx⟩ | ⟨ad, len, cap, m, n, D, Pl, hcs, _, hl, hm, hmm, hx, hV⟩
  · simp at hcs
    subst hcs
    exact ⟨none, 0, 0, [], rfl, ⟨.inl rfl, rfl, by decide⟩⟩
  · simp at hcs hmm
    subst hcs hmm
    have hone : ∀ i, ∃ t : S2, i < len → ∀ j u, ([Value.int .i64 t.1, .int .i64 t.2] : List Value)[j]? = some u → W.cell? ((ad.add (i * 2)).add j) = some u := by
      intro i
      by_cases hi : i < len
      · obtain ⟨cs', h1, h2⟩ := hV i (by omega)
        obtain ⟨t, rfl⟩ := open_sig h2
        rw [cells_sig] at h1
        obtain ⟨_, hlen, hcell⟩ := World.cells?_some h1
        refine ⟨t, fun _ j u hj => ?_⟩
        have hj3 : j < 2 := by
          have := (List.getElem?_eq_some_iff.1 hj).1
          simpa using this
        rw [hcell j (by simpa using hj3)]
        exact hj
      · exact ⟨(0, 0), fun h => absurd h hi⟩
    obtain ⟨R, hR⟩ := Classical.axiomOfChoice hone
    refine ⟨some ad, len, m, (List.range len).map R, rfl, ?_, by simp, Nat.le_trans hl hm⟩
    by_cases h0 : len = 0
    · exact .inl (by simp [h0])
    obtain ⟨b, off, spot⟩ := ad
    have hs : spot = none := by
      have := hR 0 (by omega) 0 _ rfl
      rw [Nat.zero_mul] at this
      have := World.cell?_spot this
      simpa [Addr.add] using this
    subst hs
    refine .inr ⟨b, off, rfl, fun i t hi => ?_⟩
    have hi2 : i < len := by
      have := (List.getElem?_eq_some_iff.1 hi).1
      simpa using this
    have hri : R i = t := by simpa [hi2] using hi
    have hc := hR i hi2
    rw [hri] at hc
    have hadd : (⟨b, off, none⟩ : Addr).add (i * 2) = ⟨b, off + i * 2, none⟩ := by unfold Addr.add; split <;> simp_all
    rw [hadd] at hc
    exact ⟨by simpa [Addr.add] using hc 0 _ rfl, ad_cell (hc 1 _ rfl)⟩

set_option maxRecDepth 100000 in
theorem open_lists_cells {H : Type} {enc : TypeId × Value → H} {W : World} {fuel : Nat} {v : Value} {x : DataW H × List MemPlace}
    (h : DataW.trod enc Tryz.prog W 0 (fun _ => true) true fuel 70 [v] = some x) :
    ∃ a n c ls, v = .slice a n c ∧ BL W a n ls := by
  rcases Go.Deep.open_slice Tryz.underlying70 h with ⟨hcs, hx⟩ | ⟨ad, len, cap, m, n, D, Pl, hcs, _, hl, hm, hmm, hx, hV⟩
  · simp at hcs
    subst hcs
    exact ⟨none, 0, 0, [], rfl, ⟨.inl rfl, rfl, by decide⟩⟩
  · simp at hcs hmm
    subst hcs hmm
    have hone : ∀ i, ∃ t : List Int × Option Addr × Nat, i < len → W.cell? (ad.add i) = some (.slice t.2.1 t.1.length t.2.2) ∧ IsInts W t.2.1 t.1 ∧ t.1.length ≤ t.2.2 ∧ t.2.2 ≤ maxLen := by
      intro i
      by_cases hi : i < len
      · obtain ⟨cs', h1, h2⟩ := hV i (by omega)
        rw [cells_ints] at h1
        obtain ⟨_, hlen, hcell⟩ := World.cells?_some h1
        match cs', hlen with
        | [u0], _ =>
          obtain ⟨a, n', c, xs, rfl, hi', g1, g2⟩ := open_ints_room h2
          refine ⟨(xs, a, c), fun _ => ⟨?_, hi'.at_, by rw [hi'.len]; exact g1, g2⟩⟩
          have := hcell 0 (by simp)
          rw [Nat.mul_one] at this
          rw [hi'.len]
          simpa [Addr.add] using this
      · exact ⟨([], none, 0), fun h => absurd h hi⟩
    obtain ⟨R, hR⟩ := Classical.axiomOfChoice hone
    refine ⟨some ad, len, m, (List.range len).map (fun i => (R i).1), rfl, ?_, by simp, Nat.le_trans hl hm⟩
    by_cases h0 : len = 0
    · exact .inl (by simp [h0])
    obtain ⟨b, off, spot⟩ := ad
    have hs : spot = none := by
      have := (hR 0 (by omega)).1
      have := World.cell?_spot this
      simpa [Addr.add] using this
    subst hs
    refine .inr ⟨b, off, rfl, fun i t hi => ?_⟩
    have hi2 : i < len := by
      have := (List.getElem?_eq_some_iff.1 hi).1
      simpa using this
    have hri : (R i).1 = t := by simpa [hi2] using hi
    obtain ⟨c1, c2, c3, c4⟩ := hR i hi2
    rw [hri] at c1 c2 c3
    exact ⟨(R i).2.1, (R i).2.2, ad_cell c1, c2, c3, c4⟩

set_option maxRecDepth 100000 in
theorem open_roots_cells {H : Type} {enc : TypeId × Value → H} {W : World} {fuel : Nat} {v : Value} {x : DataW H × List MemPlace}
    (h : DataW.trod enc Tryz.prog W 0 (fun _ => true) true fuel 69 [v] = some x) :
    ∃ a n c rs, v = .slice a n c ∧ BR W a n rs := by
  rcases Go.Deep.open_slice Tryz.underlying69 h with ⟨hcs, hx⟩ | ⟨ad, len, cap, m, n, D, Pl, hcs, _, hl, hm, hmm, hx, hV⟩
  · simp at hcs
    subst hcs
    exact ⟨none, 0, 0, [], rfl, ⟨.inl rfl, rfl, by decide⟩⟩
  · simp at hcs hmm
    subst hcs hmm
    have hone : ∀ i, ∃ t : Rt × Option Addr × Nat, i < len → (∀ j u, ([Value.int .i64 t.1.v, .slice t.2.1 t.1.ks.length t.2.2, .int .i64 t.1.t] : List Value)[j]? = some u → W.cell? ((ad.add (i * 3)).add j) = some u) ∧ IsInts W t.2.1 t.1.ks ∧ t.1.ks.length ≤ t.2.2 ∧ t.2.2 ≤ maxLen := by
      intro i
      by_cases hi : i < len
      · obtain ⟨cs', h1, h2⟩ := hV i (by omega)
        obtain ⟨r, a, n', c, rfl, hi', g1, g2⟩ := open_root_cells h2
        rw [cells_root] at h1
        obtain ⟨_, hlen, hcell⟩ := World.cells?_some h1
        refine ⟨(r, a, c), fun _ => ⟨fun j u hj => ?_, hi'.at_, by rw [hi'.len]; exact g1, g2⟩⟩
        have hj3 : j < 3 := by
          have := (List.getElem?_eq_some_iff.1 hj).1
          simpa using this
        rw [hcell j (by simpa using hj3)]
        rw [hi'.len] at hj
        exact hj
      · exact ⟨(⟨0, [], 0⟩, none, 0), fun h => absurd h hi⟩
    obtain ⟨R, hR⟩ := Classical.axiomOfChoice hone
    refine ⟨some ad, len, m, (List.range len).map (fun i => (R i).1), rfl, ?_, by simp, Nat.le_trans hl hm⟩
    by_cases h0 : len = 0
    · exact .inl (by simp [h0])
    obtain ⟨b, off, spot⟩ := ad
    have hs : spot = none := by
      have := (hR 0 (by omega)).1 0 _ rfl
      rw [Nat.zero_mul] at this
      have := World.cell?_spot this
      simpa [Addr.add] using this
    subst hs
    refine .inr ⟨b, off, rfl, fun i t hi => ?_⟩
    have hi2 : i < len := by
      have := (List.getElem?_eq_some_iff.1 hi).1
      simpa using this
    have hri : (R i).1 = t := by simpa [hi2] using hi
    obtain ⟨hc, c2, c3, c4⟩ := hR i hi2
    rw [hri] at hc c2 c3
    have hadd : (⟨b, off, none⟩ : Addr).add (i * 3) = ⟨b, off + i * 3, none⟩ := by unfold Addr.add; split <;> simp_all
    rw [hadd] at hc
    exact ⟨(R i).2.1, (R i).2.2, by simpa [Addr.add] using hc 0 _ rfl, ad_cell (hc 1 _ rfl), ad_cell (hc 2 _ rfl), c2, c3, c4⟩

set_option maxRecDepth 100000 in
theorem open_trust {H : Type} {enc : TypeId × Value → H} {W : World} {r : Reach} {b0 : Nat} {v : Value} {d : DataW H} {p : List MemPlace}
    (hv : Value.okWide Tryz.prog W r b0 65 v) (h : DataW.Trod enc Tryz.prog W 0 (fun _ => true) true 65 v d p) :
    ∃ (t : Tr) (a : Option Addr) (n c : Nat), v = trv t.r.v a n c t.r.t t.ver ∧ BI W a n t.r.ks := by
  obtain ⟨cs, rfl, hsz⟩ := okWide_struct Tryz.underlying65 hv
  rw [cells_trust] at hsz
  obtain ⟨c0, c1, c2, c3, rfl⟩ : ∃ c0 c1 c2 c3, cs = #[c0, c1, c2, c3] := by
    obtain ⟨l⟩ := cs
    match l, hsz with
    | [c0, c1, c2, c3], _ => exact ⟨c0, c1, c2, c3, rfl⟩
  obtain ⟨fuel, hf⟩ := h
  obtain ⟨xs, k, hk, hxy, hl, hxl, hf⟩ := DataW.trod_struct Tryz.underlying65 hf
  match xs, hxl with
  | [y0, y1], _ =>
    have g0 := hf 0 _ rfl
    have g1 := hf 1 _ rfl
    simp [cells_int, cells_root, Value.cells] at g0 g1
    obtain ⟨rt, a, n, c, e, hi, _, _⟩ := open_root_cells g0
    obtain ⟨z, e1, _⟩ := DataW.trod_int Tryz.underlying3 g1
    simp at e e1
    exact ⟨⟨rt, z⟩, a, n, c, by rw [e.1, e.2.1, e.2.2, e1]; rfl, hi⟩

set_option maxRecDepth 100000 in
theorem open_offer {H : Type} {enc : TypeId × Value → H} {W : World} {r : Reach} {b0 : Nat} {v : Value} {d : DataW H} {p : List MemPlace}
    (hv : Value.okWide Tryz.prog W r b0 75 v) (h : DataW.Trod enc Tryz.prog W 0 (fun _ => true) true 75 v d p) :
    ∃ (o : Of) (m : OA), v = offv o.v o.u m ∧ BO W m o := by
  obtain ⟨cs, rfl, hsz⟩ := okWide_struct Tryz.underlying75 hv
  rw [cells_offer] at hsz
  obtain ⟨c0, c1, c2, c3, c4, c5, c6, rfl⟩ : ∃ c0 c1 c2 c3 c4 c5 c6, cs = #[c0, c1, c2, c3, c4, c5, c6] := by
    obtain ⟨l⟩ := cs
    match l, hsz with
    | [c0, c1, c2, c3, c4, c5, c6], _ => exact ⟨c0, c1, c2, c3, c4, c5, c6, rfl⟩
  obtain ⟨fuel, hf⟩ := h
  obtain ⟨xs, k, hk, hxy, hl, hxl, hf⟩ := DataW.trod_struct Tryz.underlying75 hf
  match xs, hxl with
  | [y0, y1, y2, y3, y4], _ =>
    have g0 := hf 0 _ rfl
    have g1 := hf 1 _ rfl
    have g2 := hf 2 _ rfl
    have g3 := hf 3 _ rfl
    have g4 := hf 4 _ rfl
    simp [cells_ints, cells_roots, cells_lists, cells_rel, Value.cells] at g0 g1 g2 g3 g4
    obtain ⟨a1, n1, k1, rs, rfl, h1⟩ := open_roots_cells g0
    obtain ⟨a2, n2, k2, sgs, rfl, h2⟩ := open_lists_cells g1
    obtain ⟨v, u, a3, n3, k3, ts, e, h3⟩ := open_rel_cells g2
    obtain ⟨a4, n4, k4, xs4, rfl, h4⟩ := open_ints_cells g3
    obtain ⟨a5, n5, k5, ims, rfl, h5⟩ := open_lists_cells g4
    simp at e
    exact ⟨⟨rs, sgs, v, u, ts, xs4, ims⟩, ⟨a1, n1, k1, a2, n2, k2, a3, n3, k3, a4, n4, k4, a5, n5, k5⟩, by rw [e.1, e.2.1, e.2.2]; rfl, ⟨h1, h2, h3, h4.bi, h5⟩⟩

set_option maxRecDepth 100000 in
theorem open_signed {H : Type} {enc : TypeId × Value → H} {W : World} {r : Reach} {b0 : Nat} {v : Value} {d : DataW H} {p : List MemPlace}
    (hv : Value.okWide Tryz.prog W r b0 188 v) (h : DataW.Trod enc Tryz.prog W 0 (fun _ => true) true 188 v d p) :
    ∃ s : S2, v = sv s := by
  obtain ⟨cs, rfl, hsz⟩ := okWide_struct Tryz.underlying188 hv
  rw [cells_sig] at hsz
  obtain ⟨c0, c1, rfl⟩ : ∃ c0 c1, cs = #[c0, c1] := by
    obtain ⟨l⟩ := cs
    match l, hsz with
    | [c0, c1], _ => exact ⟨c0, c1, rfl⟩
  obtain ⟨fuel, hf⟩ := h
  obtain ⟨s, e⟩ := open_sig (by simpa [Value.cells] using hf)
  simp at e
  exact ⟨s, by rw [e.1, e.2]; rfl⟩

end Go.Proofs.YtgngpmgjoifepaaGreatDoor
