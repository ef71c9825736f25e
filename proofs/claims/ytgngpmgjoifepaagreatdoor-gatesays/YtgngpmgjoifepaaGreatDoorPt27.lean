/- The closed fact: a campaign is begun, voted for, decided, ended (wainwrightlaw.gated). The ref's SameTrust. That slices.Equal says whether two slices of truths hold the same; the contract of the reference's SameGate. -/
import Derived.Test.YtgngpmgjoifepaaGreatDoorPt26
import Derived.Laws.StructEq
import Derived.Test.YtgngpmgjoifepaaGreatDoorPt22
import Derived.Test.YtgngpmgjoifepaaGreatDoorPt0
import Derived.Test.YtgngpmgjoifepaaGreatDoorPt14
import Derived.Test.YtgngpmgjoifepaaGreatDoorPt12
import Derived.Test.YtgngpmgjoifepaaGreatDoorPt2
import Derived.BigQuiet
namespace Go.Proofs.YtgngpmgjoifepaaGreatDoor
open Go.RowKit
attribute [local go_sem ↓] Go.wp_at_zero Go.wp_at_succ

theorem bools_turns {w w' : World} {B : Nat} {a : Option Addr} {bs : List Bool} (h : IsBools w a bs) (hg : w.grownBy w' (some B)) (ho : Off B a) : IsBools w' a bs := by
  rcases h with h | ⟨b, off, rfl, hc⟩
  { exact .inl h }
  { exact .inr ⟨b, off, rfl, fun i hi => hg.cell (hc i hi) (fun e => ho _ rfl (by cases e; rfl))⟩ }
theorem GIn.turns {w w' : World} {B F : Nat} {m : GA} {g : Gt} (h : GIn w m g) (hf : GFr F m) (hB : B < F) (hg : w.grownBy w' (some B)) : GIn w' m g :=
  ⟨h.ws.turns hg (off_fresh hf.a hB), h.ks.turns hg (off_fresh hf.ak hB), ⟨bools_turns h.vo.at_ hg (off_fresh hf.av hB), h.vo.len, h.vo.cap, h.vo.max⟩, ⟨bools_turns h.di.at_ hg (off_fresh hf.ad hB), h.di.len, h.di.cap, h.di.max⟩⟩
theorem gt_set9 {W : World} {B : Nat} {c0 c1 c2 c3 c4 c5 c6 c7 c8 v0 v1 v2 v3 v4 v5 v6 v7 v8 : Value} {t : TypeId} (h : W.heap[B]? = some (.cells #[c0, c1, c2, c3, c4, c5, c6, c7, c8] t (0, 0))) :
    (((((((((W.setCell ⟨B, 0, none⟩ v0).setCell ⟨B, 1, none⟩ v1).setCell ⟨B, 2, none⟩ v2).setCell ⟨B, 3, none⟩ v3).setCell ⟨B, 4, none⟩ v4).setCell ⟨B, 5, none⟩ v5).setCell ⟨B, 6, none⟩ v6).setCell ⟨B, 7, none⟩ v7).setCell ⟨B, 8, none⟩ v8).heap[B]? = some (.cells #[v0, v1, v2, v3, v4, v5, v6, v7, v8] t (0, 0)) := by
  simp only [World.setCell, Array.getElem?_modify]
  simp [h]

set_option maxHeartbeats 12800000 in
set_option maxRecDepth 100000 in
theorem lawGated_any (w : World) (hT : Tab w) : Calls Tryz.prog 36 #[] w fun e w' => e = .returned (.bool true) ∧ Below w.heap.size w w' := by
  have HTb := hide hT
  clear hT
  go_enter Tryz.func36, Tryz.ntmps36
  go_wp2_with fail
  refine (lawSimple_any _).mono ?_
  rintro e w1 ⟨ab, a1, a2, m, rfl, hS, hw⟩
  have HS := hide hS
  clear hS
  go_upto_region 2 with fail
  have hb : Below w1.heap.size w1 (((w1.alloc (.cells #[.slice ab 4 4] 24)).alloc (.cells #[.int .i64 1, .slice a2 1 1, .int .i64 1, .int .i64 0] 65)).alloc (.cells #[.slice m.a1 m.n1 m.c1, .slice m.a2 m.n2 m.c2, .int .i64 1, .int .i64 5, .slice m.a3 m.n3 m.c3, .slice m.a4 m.n4 m.c4, .slice m.a5 m.n5 m.c5] 75)) := (((Below.refl _ _).alloc (Nat.le_refl _) _).alloc (by simp) _).alloc (by simp; omega) _
  have b0 : Hid ((((w1.alloc (.cells #[.slice ab 4 4] 24)).alloc (.cells #[.int .i64 1, .slice a2 1 1, .int .i64 1, .int .i64 0] 65)).alloc (.cells #[.slice m.a1 m.n1 m.c1, .slice m.a2 m.n2 m.c2, .int .i64 1, .int .i64 5, .slice m.a3 m.n3 m.c3, .slice m.a4 m.n4 m.c4, .slice m.a5 m.n5 m.c5] 75)).heap[w1.heap.size]? = some (.cells #[.slice ab 4 4] 24 (0, 0))) := bk3.1
  have b1 : Hid ((((w1.alloc (.cells #[.slice ab 4 4] 24)).alloc (.cells #[.int .i64 1, .slice a2 1 1, .int .i64 1, .int .i64 0] 65)).alloc (.cells #[.slice m.a1 m.n1 m.c1, .slice m.a2 m.n2 m.c2, .int .i64 1, .int .i64 5, .slice m.a3 m.n3 m.c3, .slice m.a4 m.n4 m.c4, .slice m.a5 m.n5 m.c5] 75)).heap[w1.heap.size + 1]? = some (.cells #[.int .i64 1, .slice a2 1 1, .int .i64 1, .int .i64 0] 65 (0, 0))) := bk3.2.1
  have b2 : Hid ((((w1.alloc (.cells #[.slice ab 4 4] 24)).alloc (.cells #[.int .i64 1, .slice a2 1 1, .int .i64 1, .int .i64 0] 65)).alloc (.cells #[.slice m.a1 m.n1 m.c1, .slice m.a2 m.n2 m.c2, .int .i64 1, .int .i64 5, .slice m.a3 m.n3 m.c3, .slice m.a4 m.n4 m.c4, .slice m.a5 m.n5 m.c5] 75)).heap[w1.heap.size + 1 + 1]? = some (.cells #[.slice m.a1 m.n1 m.c1, .slice m.a2 m.n2 m.c2, .int .i64 1, .int .i64 5, .slice m.a3 m.n3 m.c3, .slice m.a4 m.n4 m.c4, .slice m.a5 m.n5 m.c5] 75 (0, 0))) := bk3.2.2
  replace HS := hide (HS.out.below hb)
  replace hw := hw.trans (hb.mono hw.size)
  replace HTb := hide (HTb.out.below hw)
  clear hb
  generalize (((w1.alloc (.cells #[.slice ab 4 4] 24)).alloc (.cells #[.int .i64 1, .slice a2 1 1, .int .i64 1, .int .i64 0] 65)).alloc (.cells #[.slice m.a1 m.n1 m.c1, .slice m.a2 m.n2 m.c2, .int .i64 1, .int .i64 5, .slice m.a3 m.n3 m.c3, .slice m.a4 m.n4 m.c4, .slice m.a5 m.n5 m.c5] 75)) = W1 at *
  generalize w1.heap.size = K at *
  have t0 := blk_cell b1.out 0 _ rfl
  have t1 := blk_cell b1.out 1 _ rfl
  have t2 := blk_cell b1.out 2 _ rfl
  have hN := hide (gateNew_any fr1 a2 1 1 1 W1 HS.out.2.2.1)
  rw [fg_new] at hN
  unfold fr1 at hN
  go_wp2_with fail
  refine (unhide hN).mono ?_
  rintro e w2 ⟨⟨k, rfl, hg, hfr⟩, hb⟩
  clear hN t0 t1 t2
  dsimp only at hg ⊢
  have bG := hide (heap_alloc_last w2 (.cells #[.slice k.a k.n k.c, .int .i64 fg0.fu, .bool fg0.up, .int .i64 fg0.t.r.v, .slice k.ak k.nk k.ck, .int .i64 fg0.t.r.t, .int .i64 fg0.t.ver, .slice k.av k.nv k.cv, .slice k.ad k.nd k.cd] 68))
  have hb2 : Below w2.heap.size w2 (w2.alloc (.cells #[.slice k.a k.n k.c, .int .i64 fg0.fu, .bool fg0.up, .int .i64 fg0.t.r.v, .slice k.ak k.nk k.ck, .int .i64 fg0.t.r.t, .int .i64 fg0.t.ver, .slice k.av k.nv k.cv, .slice k.ad k.nd k.cd] 68)) := below_new (Below.refl _ _) _
  have HG := hide (hg.below hb2)
  have hS := hb.trans (hb2.mono hb.size)
  have hGK := hb.size
  clear hg hb hb2 hfr
  unfold gtv
  go_upto_region 3 with fail
  generalize w2.alloc (.cells #[.slice k.a k.n k.c, .int .i64 fg0.fu, .bool fg0.up, .int .i64 fg0.t.r.v, .slice k.ak k.nk k.ck, .int .i64 fg0.t.r.t, .int .i64 fg0.t.ver, .slice k.av k.nv k.cv, .slice k.ad k.nd k.cd] 68) = W2 at *
  generalize w2.heap.size = G at *
  have hB := hide (gateBegin_any ab 4 4 tbk a1 4 4 tsl fg0 k to1 m 0 W2 (HS.out.below hS).1 (HS.out.below hS).2.1 HG.out (HS.out.below hS).2.2.2 (HTb.out.below hS))
  rw [fg_beg] at hB
  unfold bookv gtv offv at hB
  simp only [show to1.v = 1 from rfl, show to1.u = 5 from rfl] at hB
  have k0 := blk_cell (blk_below b0.out hS) 0 _ rfl
  have o0 := blk_cell (blk_below b2.out hS) 0 _ rfl
  have o1 := blk_cell (blk_below b2.out hS) 1 _ rfl
  have o2 := blk_cell (blk_below b2.out hS) 2 _ rfl
  have o3 := blk_cell (blk_below b2.out hS) 3 _ rfl
  have o4 := blk_cell (blk_below b2.out hS) 4 _ rfl
  have o5 := blk_cell (blk_below b2.out hS) 5 _ rfl
  have o6 := blk_cell (blk_below b2.out hS) 6 _ rfl
  obtain ⟨x0, x1, x2, x3, x4, x5, x6, x7, x8⟩ := cl9 bG.out
  go_wp2_with fail
  refine (unhide hB).mono ?_
  rintro e w3 ⟨⟨k1, rfl, hg, hfr⟩, hb⟩
  dsimp only at hg ⊢
  clear hB HG k0 o0 o1 o2 o3 o4 o5 o6 x0 x1 x2 x3 x4 x5 x6 x7 x8
  have hG2 := blk_lt bG.out
  replace bG := hide (blk_below bG.out hb)
  replace hS := hS.trans (hb.mono hS.size)
  have HG := hide hg
  have HF := hide hfr
  clear hg hfr hb
  unfold gtv
  obtain ⟨x0, x1, x2, x3, x4, x5, x6, x7, x8⟩ := cl9 bG.out
  obtain ⟨f0, f1, f2, f3, f4, f5, f6, f7, f8⟩ := fr9 bG.out
  go_upto_region 4 with fail
  have hT := turns_set (turns_set (turns_set (turns_set (turns_set (turns_set (turns_set (turns_set (turns_set (World.grownBy.refl w3 (some G)) 0 (.slice k1.a k1.n k1.c)) 1 (.int .i64 fg1.fu)) 2 (.bool fg1.up)) 3 (.int .i64 fg1.t.r.v)) 4 (.slice k1.ak k1.nk k1.ck)) 5 (.int .i64 fg1.t.r.t)) 6 (.int .i64 fg1.t.ver)) 7 (.slice k1.av k1.nv k1.cv)) 8 (.slice k1.ad k1.nd k1.cd)
  have bN : Hid ((((((((((w3.setCell ⟨G, 0, none⟩ (.slice k1.a k1.n k1.c)).setCell ⟨G, 1, none⟩ (.int .i64 fg1.fu)).setCell ⟨G, 2, none⟩ (.bool fg1.up)).setCell ⟨G, 3, none⟩ (.int .i64 fg1.t.r.v)).setCell ⟨G, 4, none⟩ (.slice k1.ak k1.nk k1.ck)).setCell ⟨G, 5, none⟩ (.int .i64 fg1.t.r.t)).setCell ⟨G, 6, none⟩ (.int .i64 fg1.t.ver)).setCell ⟨G, 7, none⟩ (.slice k1.av k1.nv k1.cv)).setCell ⟨G, 8, none⟩ (.slice k1.ad k1.nd k1.cd)).heap[G]? = some (.cells #[.slice k1.a k1.n k1.c, .int .i64 fg1.fu, .bool fg1.up, .int .i64 fg1.t.r.v, .slice k1.ak k1.nk k1.ck, .int .i64 fg1.t.r.t, .int .i64 fg1.t.ver, .slice k1.av k1.nv k1.cv, .slice k1.ad k1.nd k1.cd] 68 (0, 0))) := gt_set9 bG.out
  replace HG := hide (HG.out.turns HF.out hG2 hT)
  replace hS := turns_below hS hT hGK hS.size
  clear x0 x1 x2 x3 x4 x5 x6 x7 x8 f0 f1 f2 f3 f4 f5 f6 f7 f8 bG hT HF hG2
  generalize (((((((((w3.setCell ⟨G, 0, none⟩ (.slice k1.a k1.n k1.c)).setCell ⟨G, 1, none⟩ (.int .i64 fg1.fu)).setCell ⟨G, 2, none⟩ (.bool fg1.up)).setCell ⟨G, 3, none⟩ (.int .i64 fg1.t.r.v)).setCell ⟨G, 4, none⟩ (.slice k1.ak k1.nk k1.ck)).setCell ⟨G, 5, none⟩ (.int .i64 fg1.t.r.t)).setCell ⟨G, 6, none⟩ (.int .i64 fg1.t.ver)).setCell ⟨G, 7, none⟩ (.slice k1.av k1.nv k1.cv)).setCell ⟨G, 8, none⟩ (.slice k1.ad k1.nd k1.cd)) = W3 at *
  have bG := bN
  clear bN
  have o2 := blk_cell (blk_below b2.out hS) 2 _ rfl
  have o3 := blk_cell (blk_below b2.out hS) 3 _ rfl
  have o4 := blk_cell (blk_below b2.out hS) 4 _ rfl
  have o6 := blk_cell (blk_below b2.out hS) 6 _ rfl
  obtain ⟨x0, x1, x2, x3, x4, x5, x6, x7, x8⟩ := cl9 bG.out
  obtain ⟨dl, hdl, hd2⟩ := fg_due
  have hD := hide (gateDue_any fg1 k1 1 1 5 ⟨m.a3, m.n3, m.c3, m.a5, m.n5, m.c5⟩ [(0, 2, 2)] [[8, 8]] 0 W3 HG.out (HS.out.below hS).2.2.2.tgts (HS.out.below hS).2.2.2.imgs)
  rw [hdl] at hD
  unfold gtv cpv at hD
  clear hdl
  go_wp2_with fail
  refine (unhide hD).mono ?_
  rintro e w4 ⟨⟨al, nl, cl, rfl, -, hnl, -, -⟩, hb⟩
  obtain rfl : nl = 2 := by rw [← hnl]; exact hd2
  clear hD hnl hd2 o2 o3 o4 o6 x0 x1 x2 x3 x4 x5 x6 x7 x8
  replace bG := hide (blk_below bG.out hb)
  replace hS := hS.trans (hb.mono hS.size)
  replace HG := hide (HG.out.below hb)
  clear hb HS b0 b1 b2 HTb
  dsimp only
  go_upto_region 5 with fail
  have hH := hide (gateHear_any fg1 k1 fv1 none 0 0 _ HG.out)
  rw [fg_vote] at hH
  unfold gtv msv at hH
  simp only [show fv1.k = 3 from rfl, show fv1.u = 0 from rfl, show fv1.n = 1 from rfl, show fv1.at' = 0 from rfl, show fv1.im = 0 from rfl, show fv1.y = true from rfl] at hH
  obtain ⟨x0, x1, x2, x3, x4, x5, x6, x7, x8⟩ := cl9 bG.out
  go_wp2_with fail
  refine (unhide hH).mono ?_
  rintro e w5 ⟨⟨k2, am, nm, cm, rfl, hg, hfr, -, -, -, -⟩, hb⟩
  dsimp only at hg ⊢
  clear hH HG x0 x1 x2 x3 x4 x5 x6 x7 x8
  have hG2 := blk_lt bG.out
  replace bG := hide (blk_below bG.out hb)
  replace hS := hS.trans (hb.mono hS.size)
  have HG := hide hg
  have HF := hide hfr
  clear hg hfr hb
  unfold gtv
  obtain ⟨x0, x1, x2, x3, x4, x5, x6, x7, x8⟩ := cl9 bG.out
  obtain ⟨f0, f1, f2, f3, f4, f5, f6, f7, f8⟩ := fr9 bG.out
  go_upto_region 6 with fail
  have hT := turns_set (turns_set (turns_set (turns_set (turns_set (turns_set (turns_set (turns_set (turns_set (World.grownBy.refl w5 (some G)) 0 (.slice k2.a k2.n k2.c)) 1 (.int .i64 fg2.fu)) 2 (.bool fg2.up)) 3 (.int .i64 fg2.t.r.v)) 4 (.slice k2.ak k2.nk k2.ck)) 5 (.int .i64 fg2.t.r.t)) 6 (.int .i64 fg2.t.ver)) 7 (.slice k2.av k2.nv k2.cv)) 8 (.slice k2.ad k2.nd k2.cd)
  have bN : Hid ((((((((((w5.setCell ⟨G, 0, none⟩ (.slice k2.a k2.n k2.c)).setCell ⟨G, 1, none⟩ (.int .i64 fg2.fu)).setCell ⟨G, 2, none⟩ (.bool fg2.up)).setCell ⟨G, 3, none⟩ (.int .i64 fg2.t.r.v)).setCell ⟨G, 4, none⟩ (.slice k2.ak k2.nk k2.ck)).setCell ⟨G, 5, none⟩ (.int .i64 fg2.t.r.t)).setCell ⟨G, 6, none⟩ (.int .i64 fg2.t.ver)).setCell ⟨G, 7, none⟩ (.slice k2.av k2.nv k2.cv)).setCell ⟨G, 8, none⟩ (.slice k2.ad k2.nd k2.cd)).heap[G]? = some (.cells #[.slice k2.a k2.n k2.c, .int .i64 fg2.fu, .bool fg2.up, .int .i64 fg2.t.r.v, .slice k2.ak k2.nk k2.ck, .int .i64 fg2.t.r.t, .int .i64 fg2.t.ver, .slice k2.av k2.nv k2.cv, .slice k2.ad k2.nd k2.cd] 68 (0, 0))) := gt_set9 bG.out
  replace HG := hide (HG.out.turns HF.out hG2 hT)
  replace hS := turns_below hS hT hGK hS.size
  clear x0 x1 x2 x3 x4 x5 x6 x7 x8 f0 f1 f2 f3 f4 f5 f6 f7 f8 bG hT HF hG2
  generalize (((((((((w5.setCell ⟨G, 0, none⟩ (.slice k2.a k2.n k2.c)).setCell ⟨G, 1, none⟩ (.int .i64 fg2.fu)).setCell ⟨G, 2, none⟩ (.bool fg2.up)).setCell ⟨G, 3, none⟩ (.int .i64 fg2.t.r.v)).setCell ⟨G, 4, none⟩ (.slice k2.ak k2.nk k2.ck)).setCell ⟨G, 5, none⟩ (.int .i64 fg2.t.r.t)).setCell ⟨G, 6, none⟩ (.int .i64 fg2.t.ver)).setCell ⟨G, 7, none⟩ (.slice k2.av k2.nv k2.cv)).setCell ⟨G, 8, none⟩ (.slice k2.ad k2.nd k2.cd)) = W5 at *
  have bG := bN
  clear bN
  have hR := hide (gateRead_any fg2 k2 _ HG.out)
  rw [fg_read2] at hR
  unfold gtv at hR
  obtain ⟨x0, x1, x2, x3, x4, x5, x6, x7, x8⟩ := cl9 bG.out
  go_wp2_with fail
  refine (unhide hR).mono ?_
  rintro e w6 ⟨rfl, hb⟩
  clear hR x0 x1 x2 x3 x4 x5 x6 x7 x8
  unfold gsv
  dsimp only
  have bP := hide (heap_alloc_last w6 (.cells #[.int .i64 1, .int .i64 1, .bool true, .bool false, .bool false] 82))
  have hb2 : Below W5.heap.size W5 (w6.alloc (.cells #[.int .i64 1, .int .i64 1, .bool true, .bool false, .bool false] 82)) := below_new hb _
  replace bG := hide (blk_below bG.out hb2)
  replace HG := hide (HG.out.below hb2)
  replace hS := hS.trans (hb2.mono hS.size)
  go_upto_region 7 with fail
  clear hb hb2
  generalize w6.alloc (.cells #[.int .i64 1, .int .i64 1, .bool true, .bool false, .bool false] 82) = W6 at *
  generalize w6.heap.size = P at *
  have hPG : P ≠ G := by intro e; have h1 := bP.out; rw [e, bG.out] at h1; exact absurd h1 (by simp)
  have hH := hide (gateHear_any fg2 k2 fd1 none 0 0 _ HG.out)
  rw [fg_done] at hH
  unfold gtv msv at hH
  simp only [show fd1.k = 6 from rfl, show fd1.u = 0 from rfl, show fd1.n = 1 from rfl, show fd1.at' = 0 from rfl, show fd1.im = 0 from rfl, show fd1.y = false from rfl] at hH
  obtain ⟨x0, x1, x2, x3, x4, x5, x6, x7, x8⟩ := cl9 bG.out
  go_wp2_with fail
  refine (unhide hH).mono ?_
  rintro e w7 ⟨⟨k3, am, nm, cm, rfl, hg, hfr, -, -, -, -⟩, hb⟩
  dsimp only at hg ⊢
  clear hH HG x0 x1 x2 x3 x4 x5 x6 x7 x8
  replace bP := hide (blk_below bP.out hb)
  have hG2 := blk_lt bG.out
  replace bG := hide (blk_below bG.out hb)
  replace hS := hS.trans (hb.mono hS.size)
  have HG := hide hg
  have HF := hide hfr
  clear hg hfr hb
  unfold gtv
  obtain ⟨x0, x1, x2, x3, x4, x5, x6, x7, x8⟩ := cl9 bG.out
  obtain ⟨f0, f1, f2, f3, f4, f5, f6, f7, f8⟩ := fr9 bG.out
  go_upto_region 8 with fail
  have hT := turns_set (turns_set (turns_set (turns_set (turns_set (turns_set (turns_set (turns_set (turns_set (World.grownBy.refl w7 (some G)) 0 (.slice k3.a k3.n k3.c)) 1 (.int .i64 fg3.fu)) 2 (.bool fg3.up)) 3 (.int .i64 fg3.t.r.v)) 4 (.slice k3.ak k3.nk k3.ck)) 5 (.int .i64 fg3.t.r.t)) 6 (.int .i64 fg3.t.ver)) 7 (.slice k3.av k3.nv k3.cv)) 8 (.slice k3.ad k3.nd k3.cd)
  replace bP := hide (blk_turns bP.out hT hPG)
  have bN : Hid ((((((((((w7.setCell ⟨G, 0, none⟩ (.slice k3.a k3.n k3.c)).setCell ⟨G, 1, none⟩ (.int .i64 fg3.fu)).setCell ⟨G, 2, none⟩ (.bool fg3.up)).setCell ⟨G, 3, none⟩ (.int .i64 fg3.t.r.v)).setCell ⟨G, 4, none⟩ (.slice k3.ak k3.nk k3.ck)).setCell ⟨G, 5, none⟩ (.int .i64 fg3.t.r.t)).setCell ⟨G, 6, none⟩ (.int .i64 fg3.t.ver)).setCell ⟨G, 7, none⟩ (.slice k3.av k3.nv k3.cv)).setCell ⟨G, 8, none⟩ (.slice k3.ad k3.nd k3.cd)).heap[G]? = some (.cells #[.slice k3.a k3.n k3.c, .int .i64 fg3.fu, .bool fg3.up, .int .i64 fg3.t.r.v, .slice k3.ak k3.nk k3.ck, .int .i64 fg3.t.r.t, .int .i64 fg3.t.ver, .slice k3.av k3.nv k3.cv, .slice k3.ad k3.nd k3.cd] 68 (0, 0))) := gt_set9 bG.out
  replace HG := hide (HG.out.turns HF.out hG2 hT)
  replace hS := turns_below hS hT hGK hS.size
  clear x0 x1 x2 x3 x4 x5 x6 x7 x8 f0 f1 f2 f3 f4 f5 f6 f7 f8 bG hT HF hG2 hPG
  generalize (((((((((w7.setCell ⟨G, 0, none⟩ (.slice k3.a k3.n k3.c)).setCell ⟨G, 1, none⟩ (.int .i64 fg3.fu)).setCell ⟨G, 2, none⟩ (.bool fg3.up)).setCell ⟨G, 3, none⟩ (.int .i64 fg3.t.r.v)).setCell ⟨G, 4, none⟩ (.slice k3.ak k3.nk k3.ck)).setCell ⟨G, 5, none⟩ (.int .i64 fg3.t.r.t)).setCell ⟨G, 6, none⟩ (.int .i64 fg3.t.ver)).setCell ⟨G, 7, none⟩ (.slice k3.av k3.nv k3.cv)).setCell ⟨G, 8, none⟩ (.slice k3.ad k3.nd k3.cd)) = W7 at *
  have bG := bN
  clear bN
  have hR := hide (gateRead_any fg3 k3 _ HG.out)
  rw [fg_read3] at hR
  unfold gtv at hR
  obtain ⟨x0, x1, x2, x3, x4, x5, x6, x7, x8⟩ := cl9 bG.out
  go_wp2_with fail
  refine (unhide hR).mono ?_
  rintro e w8 ⟨rfl, hb⟩
  clear hR x0 x1 x2 x3 x4 x5 x6 x7 x8
  unfold gsv
  dsimp only
  have bQ := hide (heap_alloc_last w8 (.cells #[.int .i64 1, .int .i64 1, .bool true, .bool false, .bool true] 82))
  have hb2 : Below W7.heap.size W7 (w8.alloc (.cells #[.int .i64 1, .int .i64 1, .bool true, .bool false, .bool true] 82)) := below_new hb _
  replace bP := hide (blk_below bP.out hb2)
  replace hS := hS.trans (hb2.mono hS.size)
  go_upto_region 9 with fail
  generalize w8.alloc (.cells #[.int .i64 1, .int .i64 1, .bool true, .bool false, .bool true] 82) = W8 at *
  generalize w8.heap.size = Q at *
  obtain ⟨p0, p1, p2, p3, p4⟩ := cl5 bP.out
  obtain ⟨q0, q1, q2, q3, q4⟩ := cl5 bQ.out
  go_wp2_with fail
  go_ret
  exact ⟨rfl, hw.trans (hS.mono hw.size)⟩

end Go.Proofs.YtgngpmgjoifepaaGreatDoor

namespace Go.Proofs.YtgngpmgjoifepaaGreatDoor
open Go.RowKit

set_option maxHeartbeats 1600000 in
set_option maxRecDepth 100000 in
theorem sameTrust_any (x y : Tr) (a0 : Option Addr) (n0 c0 : Nat) (a1 : Option Addr) (n1 c1 : Nat) (w : World) (h0 : BI w a0 n0 x.r.ks) (h1 : BI w a1 n1 y.r.ks) :
    Calls Tryz.prog 92 #[trv x.r.v a0 n0 c0 x.r.t x.ver, trv y.r.v a1 n1 c1 y.r.t y.ver] w fun e w' => e = .returned (.bool (sameT x y)) ∧ Below w.heap.size w w' := by
  have hw0 : Below w.heap.size w ((w.alloc (.cells #[.int .i64 x.r.v, .slice a0 n0 c0, .int .i64 x.r.t, .int .i64 x.ver] 65)).alloc (.cells #[.int .i64 y.r.v, .slice a1 n1 c1, .int .i64 y.r.t, .int .i64 y.ver] 65)) := ((Below.refl _ _).alloc (Nat.le_refl _) _).alloc (by simp) _
  have HQ := hide (fun W (hW : Below w.heap.size w W) => equal_at a0 a1 n0 n1 c0 c1 x.r.ks y.r.ks (eqL x.r.ks y.r.ks) W (h0.below hW).at_ (h1.below hW).at_ h0.len h1.len rfl h0.max h1.max)
  unfold trv
  clear h0 h1
  by_cases d1 : x.ver = y.ver
  rotate_left
  {
  have HE := hide (show sameT x y = false by unfold sameT; simp [d1])
  have e1 : (x.ver == y.ver) = false := by simpa using d1
  clear d1 HQ
  go_enter Tryz.func92, Tryz.ntmps92
  go_wp2_with fail
  go_ret
  exact ⟨ret_bool HE.out.symm, hw0⟩
  }
  have e1 : (x.ver == y.ver) = true := by simpa using d1
  by_cases d2 : x.r.v = y.r.v
  rotate_left
  {
  have HE := hide (show sameT x y = false by unfold sameT; simp [d2])
  have e2 : (x.r.v == y.r.v) = false := by simpa using d2
  clear d1 d2 HQ
  go_enter Tryz.func92, Tryz.ntmps92
  go_wp2_with fail
  go_ret
  exact ⟨ret_bool HE.out.symm, hw0⟩
  }
  have e2 : (x.r.v == y.r.v) = true := by simpa using d2
  by_cases d3 : x.r.t = y.r.t
  rotate_left
  {
  have HE := hide (show sameT x y = false by unfold sameT; simp [d3])
  have e3 : (x.r.t == y.r.t) = false := by simpa using d3
  clear d1 d2 d3 HQ
  go_enter Tryz.func92, Tryz.ntmps92
  go_wp2_with fail
  go_ret
  exact ⟨ret_bool HE.out.symm, hw0⟩
  }
  have e3 : (x.r.t == y.r.t) = true := by simpa using d3
  have HE := hide (show sameT x y = eqL x.r.ks y.r.ks by unfold sameT; simp [d1, d2, d3])
  clear d1 d2 d3
  generalize eqL x.r.ks y.r.ks = q at *
  go_enter Tryz.func92, Tryz.ntmps92
  go_wp2_with fail
  refine (unhide HQ _ hw0).mono ?_
  rintro e w' ⟨rfl, n, rfl⟩
  go_wp2_with fail
  go_ret
  exact ⟨ret_bool HE.out.symm, below_drewN hw0 _⟩

end Go.Proofs.YtgngpmgjoifepaaGreatDoor

namespace Go.Proofs.YtgngpmgjoifepaaGreatDoor
open Go.RowKit
attribute [local go_sem ↓] Go.wp_at_zero Go.wp_at_succ

def eqB (xs ys : List Bool) : Bool := decide (xs = ys)
theorem takeB_step {xs ys : List Bool} {k : Nat} (h0 : k < xs.length) (h1 : k < ys.length) (ht : xs.take k = ys.take k) (he : xs[k] = ys[k]) : xs.take (k + 1) = ys.take (k + 1) := by
  rw [List.take_succ_eq_append_getElem h0, List.take_succ_eq_append_getElem h1, ht, he]
set_option maxHeartbeats 400000 in
theorem equalB_any (a0 a1 : Option Addr) (n0 n1 c0 c1 : Nat) (xs ys : List Bool) (w : World) (h0 : BV w a0 n0 c0 xs) (h1 : BV w a1 n1 c1 ys) :
    Calls Tryz.prog 49 #[.slice a0 n0 c0, .slice a1 n1 c1] w fun e w' => e = .returned (.bool (eqB xs ys)) ∧ ∃ n, w' = w.drewN n := by
  obtain ⟨h0, rfl, -, hx⟩ := h0
  obtain ⟨h1, rfl, -, hy⟩ := h1
  unfold maxLen at hx hy
  by_cases hl : xs.length = ys.length
  {
  have hbl : ((xs.length : Int) != (ys.length : Int)) = false := by simp [hl]
  have HL : Hid (xs.length = ys.length) := hl
  clear hl
  go_enter Tryz.func49, Tryz.ntmps49
  go_wp2
  go_loopw [13] (fun i wr => ∃ k : Nat, k ≤ xs.length ∧ i = .int .i64 k ∧ xs.take k = ys.take k ∧ ∃ n, wr = w.drewN n) (fun i _ => xs.length - (intOf i).toNat)
  case atStart => exact ⟨0, Nat.zero_le _, rfl, rfl, 0, rfl⟩
  case round =>
    obtain ⟨k, hk, rfl, ht, n, rfl⟩ := hrel
    have HT : Hid (xs.take k = ys.take k) := ht
    clear ht
    by_cases hlt : k < xs.length
    {
    have hlt2 : k < ys.length := by have := HL.out; omega
    rcases h0 with rfl | ⟨b0, o0, rfl, hc0⟩
    { simp at hlt }
    rcases h1 with rfl | ⟨b1, o1, rfl, hc1⟩
    { simp at hlt2 }
    have e0 : w.cell? ⟨b0, o0 + k, none⟩ = some (.bool xs[k]) := by rw [hc0 k hlt]; simp [hlt]
    have e1 : w.cell? ⟨b1, o1 + k, none⟩ = some (.bool ys[k]) := by rw [hc1 k hlt2]; simp [hlt2]
    clear hc0 hc1
    cases hp : xs[k]
    {
    cases hq : ys[k]
    {
    rw [hp] at e0
    rw [hq] at e1
    have HE : Hid (xs[k] = ys[k]) := by show _ = _; rw [hp, hq]
    clear hp hq
    go_wp2
    go_quiet (fail)
    go_wp2
    go_roundw
    case rel => exact ⟨k + 1, by omega, by go_num, takeB_step hlt hlt2 HT.out HE.out, n + nq, rfl⟩
    case measure => simp [intOf]; omega
    }
    {
    rw [hp] at e0
    rw [hq] at e1
    have HE : Hid (xs ≠ ys) := fun e => by subst e; rw [hp] at hq; cases hq
    clear hp hq
    go_wp2
    go_quiet (fail)
    go_wp2
    go_ret
    exact ⟨ret_bool (by unfold eqB; exact (decide_eq_false HE.out).symm), n + nq, by simp⟩
    }
    }
    {
    cases hq : ys[k]
    {
    rw [hp] at e0
    rw [hq] at e1
    have HE : Hid (xs ≠ ys) := fun e => by subst e; rw [hp] at hq; cases hq
    clear hp hq
    go_wp2
    go_quiet (fail)
    go_wp2
    go_ret
    exact ⟨ret_bool (by unfold eqB; exact (decide_eq_false HE.out).symm), n + nq, by simp⟩
    }
    {
    rw [hp] at e0
    rw [hq] at e1
    have HE : Hid (xs[k] = ys[k]) := by show _ = _; rw [hp, hq]
    clear hp hq
    go_wp2
    go_quiet (fail)
    go_wp2
    go_roundw
    case rel => exact ⟨k + 1, by omega, by go_num, takeB_step hlt hlt2 HT.out HE.out, n + nq, rfl⟩
    case measure => simp [intOf]; omega
    }
    }
    }
    {
    go_wp2
    go_ret
    refine ⟨ret_bool ?_, n, rfl⟩
    have e : xs = ys := by
      have := HT.out
      rw [List.take_of_length_le (by omega), List.take_of_length_le (by have := HL.out; omega)] at this
      exact this
    unfold eqB
    exact (decide_eq_true e).symm
    }
  }
  {
  have hbl : ((xs.length : Int) != (ys.length : Int)) = true := by simp; omega
  go_enter Tryz.func49, Tryz.ntmps49
  go_wp2
  go_ret
  exact ⟨ret_bool (by unfold eqB; exact (decide_eq_false (fun e => hl (by rw [e]))).symm), 0, rfl⟩

  }
def sameG (x y : Gt) : Bool := (decide (x.fu = y.fu) && eqL x.ws y.ws) && ((x.up == y.up) && (sameT x.t y.t && (eqB x.vo y.vo && eqB x.di y.di)))
theorem sameG_def (x y : Gt) : sameG x y = ((decide (x.fu = y.fu) && eqL x.ws y.ws) && ((x.up == y.up) && (sameT x.t y.t && (eqB x.vo y.vo && eqB x.di y.di)))) := rfl
theorem sameT_self (t : Tr) : sameT t t = true := by unfold sameT eqL; simp
theorem sameG_self (x : Gt) : sameG x x = true := by unfold sameG eqL eqB; simp [sameT_self]

set_option maxRecDepth 100000 in
set_option maxHeartbeats 3200000 in
theorem sameGate_any (x : Gt) (k : GA) (y : Gt) (j : GA) (w : World) (h : GIn w k x) (h2 : GIn w j y) :
    Calls Tryz.prog 38 #[gtv x k, gtv y j] w fun e w' => e = .returned (.bool (sameG x y)) ∧ Below w.heap.size w w' := by
  have hw : Below w.heap.size w ((w.alloc (.cells #[.slice k.a k.n k.c, .int .i64 x.fu, .bool x.up, .int .i64 x.t.r.v, .slice k.ak k.nk k.ck, .int .i64 x.t.r.t, .int .i64 x.t.ver, .slice k.av k.nv k.cv, .slice k.ad k.nd k.cd] 68)).alloc (.cells #[.slice j.a j.n j.c, .int .i64 y.fu, .bool y.up, .int .i64 y.t.r.v, .slice j.ak j.nk j.ck, .int .i64 y.t.r.t, .int .i64 y.t.ver, .slice j.av j.nv j.cv, .slice j.ad j.nd j.cd] 68)) := ((Below.refl _ _).alloc (Nat.le_refl _) _).alloc (by simp) _
  have b0 : Hid (((w.alloc (.cells #[.slice k.a k.n k.c, .int .i64 x.fu, .bool x.up, .int .i64 x.t.r.v, .slice k.ak k.nk k.ck, .int .i64 x.t.r.t, .int .i64 x.t.ver, .slice k.av k.nv k.cv, .slice k.ad k.nd k.cd] 68)).alloc (.cells #[.slice j.a j.n j.c, .int .i64 y.fu, .bool y.up, .int .i64 y.t.r.v, .slice j.ak j.nk j.ck, .int .i64 y.t.r.t, .int .i64 y.t.ver, .slice j.av j.nv j.cv, .slice j.ad j.nd j.cd] 68)).heap[w.heap.size]? = some (.cells #[.slice k.a k.n k.c, .int .i64 x.fu, .bool x.up, .int .i64 x.t.r.v, .slice k.ak k.nk k.ck, .int .i64 x.t.r.t, .int .i64 x.t.ver, .slice k.av k.nv k.cv, .slice k.ad k.nd k.cd] 68 (0, 0))) := blk_alloc (heap_alloc_last _ _) _
  have b1 : Hid (((w.alloc (.cells #[.slice k.a k.n k.c, .int .i64 x.fu, .bool x.up, .int .i64 x.t.r.v, .slice k.ak k.nk k.ck, .int .i64 x.t.r.t, .int .i64 x.t.ver, .slice k.av k.nv k.cv, .slice k.ad k.nd k.cd] 68)).alloc (.cells #[.slice j.a j.n j.c, .int .i64 y.fu, .bool y.up, .int .i64 y.t.r.v, .slice j.ak j.nk j.ck, .int .i64 y.t.r.t, .int .i64 y.t.ver, .slice j.av j.nv j.cv, .slice j.ad j.nd j.cd] 68)).heap[w.heap.size + 1]? = some (.cells #[.slice j.a j.n j.c, .int .i64 y.fu, .bool y.up, .int .i64 y.t.r.v, .slice j.ak j.nk j.ck, .int .i64 y.t.r.t, .int .i64 y.t.ver, .slice j.av j.nv j.cv, .slice j.ad j.nd j.cd] 68 (0, 0))) := uLast1 _ _ _
  have HS := hide (fun W (hW : Below w.heap.size w W) => refSame_any k.a k.n k.c x.ws x.fu j.a j.n j.c y.ws y.fu W (h.below hW).ws.at_ h.ws.len h.ws.max (h2.below hW).ws.at_ h2.ws.len h2.ws.max)
  have HT := hide (fun W (hW : Below w.heap.size w W) => sameTrust_any x.t y.t k.ak k.nk k.ck j.ak j.nk j.ck W (h.below hW).ks (h2.below hW).ks)
  have HV := hide (fun W (hW : Below w.heap.size w W) => equalB_any k.av j.av k.nv j.nv k.cv j.cv x.vo y.vo W (h.below hW).vo (h2.below hW).vo)
  have HD := hide (fun W (hW : Below w.heap.size w W) => equalB_any k.ad j.ad k.nd j.nd k.cd j.cd x.di y.di W (h.below hW).di (h2.below hW).di)
  have HQ := hide (sameG_def x y)
  unfold trv at HT
  unfold gtv
  clear h h2
  generalize (decide (x.fu = y.fu) && eqL x.ws y.ws) = q at *
  generalize sameT x.t y.t = q2 at *
  generalize eqB x.vo y.vo = q3 at *
  generalize eqB x.di y.di = q4 at *
  have x0 := blk_cell b0.out 0 _ rfl
  have x1 := blk_cell b0.out 1 _ rfl
  have y0 := blk_cell b1.out 0 _ rfl
  have y1 := blk_cell b1.out 1 _ rfl
  go_enter Tryz.func38, Tryz.ntmps38
  go_wp2_with fail
  generalize ((w.alloc (.cells #[.slice k.a k.n k.c, .int .i64 x.fu, .bool x.up, .int .i64 x.t.r.v, .slice k.ak k.nk k.ck, .int .i64 x.t.r.t, .int .i64 x.t.ver, .slice k.av k.nv k.cv, .slice k.ad k.nd k.cd] 68)).alloc (.cells #[.slice j.a j.n j.c, .int .i64 y.fu, .bool y.up, .int .i64 y.t.r.v, .slice j.ak j.nk j.ck, .int .i64 y.t.r.t, .int .i64 y.t.ver, .slice j.av j.nv j.cv, .slice j.ad j.nd j.cd] 68)) = W at *
  refine (unhide HS _ hw).mono ?_
  rintro e w1 ⟨rfl, hb⟩
  replace b0 := hide (blk_below b0.out hb)
  replace b1 := hide (blk_below b1.out hb)
  replace hw := hw.trans (hb.mono hw.size)
  clear hb HS x0 x1 y0 y1
  cases q
  {
  have HE : Hid (sameG x y = false) := HQ.out.trans (by simp)
  go_wp2_with fail
  go_ret
  exact ⟨ret_bool HE.out.symm, hw⟩
  }
  have x2 := blk_cell b0.out 2 _ rfl
  have y2 := blk_cell b1.out 2 _ rfl
  have x3 := blk_cell b0.out 3 _ rfl
  have x4 := blk_cell b0.out 4 _ rfl
  have x5 := blk_cell b0.out 5 _ rfl
  have x6 := blk_cell b0.out 6 _ rfl
  have y3 := blk_cell b1.out 3 _ rfl
  have y4 := blk_cell b1.out 4 _ rfl
  have y5 := blk_cell b1.out 5 _ rfl
  have y6 := blk_cell b1.out 6 _ rfl
  by_cases z1 : x.up = y.up
  rotate_left
  {
  have HE : Hid (sameG x y = false) := HQ.out.trans (by simp [z1])
  have d1 : (x.up == y.up) = false := by simpa using z1
  clear z1
  go_wp2_with fail
  go_ret
  exact ⟨ret_bool HE.out.symm, hw⟩
  }
  have d1 : (x.up == y.up) = true := by simpa using z1
  have HQ2 : Hid (sameG x y = (q2 && (q3 && q4))) := HQ.out.trans (by simp [z1])
  clear z1 HQ
  go_wp2_with fail
  refine (unhide HT _ hw).mono ?_
  rintro e w2 ⟨rfl, hb⟩
  replace b0 := hide (blk_below b0.out hb)
  replace b1 := hide (blk_below b1.out hb)
  replace hw := hw.trans (hb.mono hw.size)
  clear hb HT d1 x2 y2 x3 x4 x5 x6 y3 y4 y5 y6
  cases q2
  {
  have HE : Hid (sameG x y = false) := HQ2.out.trans (by simp)
  go_wp2_with fail
  go_ret
  exact ⟨ret_bool HE.out.symm, hw⟩
  }
  have x7 := blk_cell b0.out 7 _ rfl
  have y7 := blk_cell b1.out 7 _ rfl
  go_wp2_with fail
  refine (unhide HV _ hw).mono ?_
  rintro e w3 ⟨rfl, n3, rfl⟩
  have hb3 : Below w2.heap.size w2 (w2.drewN n3) := below_drewN (Below.refl _ _) n3
  replace b0 := hide (blk_below b0.out hb3)
  replace b1 := hide (blk_below b1.out hb3)
  replace hw := hw.trans (hb3.mono hw.size)
  clear hb3 HV x7 y7
  generalize w2.drewN n3 = w3 at *
  cases q3
  {
  have HE : Hid (sameG x y = false) := HQ2.out.trans (by simp)
  go_wp2_with fail
  go_ret
  exact ⟨ret_bool HE.out.symm, hw⟩
  }
  have HE : Hid (sameG x y = q4) := HQ2.out.trans (by simp)
  have x8 := blk_cell b0.out 8 _ rfl
  have y8 := blk_cell b1.out 8 _ rfl
  go_wp2_with fail
  refine (unhide HD _ hw).mono ?_
  rintro e w4 ⟨rfl, n4, rfl⟩
  have hb4 := below_drewN hw n4
  clear HD x8 y8
  go_wp2_with fail
  go_ret
  exact ⟨ret_bool HE.out.symm, hb4⟩

end Go.Proofs.YtgngpmgjoifepaaGreatDoor
