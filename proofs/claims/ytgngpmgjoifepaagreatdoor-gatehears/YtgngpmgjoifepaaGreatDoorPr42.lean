/- The walk of the law GateHears: what any unit is to be told of any campaign, and what the gateway does with any message, is told as the document says, errors too. -/
import Derived.Test.YtgngpmgjoifepaaGreatDoorPr30
import Derived.Test.YtgngpmgjoifepaaGreatDoorPr31
import Derived.Test.YtgngpmgjoifepaaGreatDoorPr32
import Derived.Test.YtgngpmgjoifepaaGreatDoorPr39
import Derived.Test.YtgngpmgjoifepaaGreatDoorPr41
namespace Go.Proofs.YtgngpmgjoifepaaGreatDoor
open Go.RowKit
attribute [local go_sem ↓] Go.wp_at_zero Go.wp_at_succ

theorem gDue_few (g : Gt) (cn : Int) (ts : List T3) (ims : List (List Int)) (u : Int) : (gDue g cn ts ims u).1.length ≤ 10 := by
  unfold gDue
  split
  · simp
  · split
    · dsimp only; split <;> simp
    · split
      · simp
      · split
        · simp
        · rename_i h
          unfold delG
          simp only [List.length_append, List.length_singleton]
          rw [pieces_all u cn _ (((ims.getD u.toNat []).length + 7) / 8) (by omega) (by omega), pcs_len]
          omega
theorem gDue_bad {g : Gt} {cn : Int} {ts : List T3} {ims : List (List Int)} {u : Int} (h : gtE g ≠ 0) : gDue g cn ts ims u = ([], gtE g) := by
  have h1 : upE g = gtE g := by unfold upE; rw [if_pos h]
  exact gDue_e (by rw [dueE_1 (by rw [h1]; exact h), h1]) h
theorem ghR_few (g : Gt) (m : Ms) : (ghR g m).2.length ≤ 10 := by
  unfold ghR
  split
  · unfold ghK
    split
    · simp
    · split
      · simp
      · split
        · dsimp only; split <;> simp
        · simp
  · simp

set_option maxRecDepth 100000 in
set_option maxHeartbeats 12800000 in
theorem gateHears_walk (g : Gt) (k0 : GA) (cn cv cu : Int) (ca : CA) (ts : List T3) (ims : List (List Int)) (u : Int) (m : Ms) (am : Option Addr) (nm cm : Nat) (w : World) (h : GIn w k0 g) (ht : BT w ca.at_ ca.nt ts) (hi : BL w ca.ai ca.ni ims) (hT : Tab w)
    (h1 : k0.n * 8 ≤ 140737488351232) (h2 : k0.nk * 8 ≤ 140737488351232) (h3 : k0.nv ≤ 140737488351232) (h4 : k0.nd ≤ 140737488351232) :
    Calls Tryz.prog 5 #[gtv g k0, cpv cn cv cu ca, .int .i64 u, msv m am nm cm] w fun e w' => e = .returned (.bool true) ∧ Below w.heap.size w w' := by
  have hw : Below w.heap.size w (((w.alloc (.cells #[.slice k0.a k0.n k0.c, .int .i64 g.fu, .bool g.up, .int .i64 g.t.r.v, .slice k0.ak k0.nk k0.ck, .int .i64 g.t.r.t, .int .i64 g.t.ver, .slice k0.av k0.nv k0.cv, .slice k0.ad k0.nd k0.cd] 68)).alloc (.cells #[.int .i64 cn, .int .i64 cv, .int .i64 cu, .slice ca.at_ ca.nt ca.ct, .slice ca.ai ca.ni ca.ci] 93)).alloc (.cells #[.int .i64 m.k, .int .i64 m.u, .int .i64 m.n, .int .i64 m.at', .int .i64 m.im, .slice am nm cm, .bool m.y] 31)) := (((Below.refl _ _).alloc (Nat.le_refl _) _).alloc (by simp) _).alloc (by simp; omega) _
  have b0 : Hid ((((w.alloc (.cells #[.slice k0.a k0.n k0.c, .int .i64 g.fu, .bool g.up, .int .i64 g.t.r.v, .slice k0.ak k0.nk k0.ck, .int .i64 g.t.r.t, .int .i64 g.t.ver, .slice k0.av k0.nv k0.cv, .slice k0.ad k0.nd k0.cd] 68)).alloc (.cells #[.int .i64 cn, .int .i64 cv, .int .i64 cu, .slice ca.at_ ca.nt ca.ct, .slice ca.ai ca.ni ca.ci] 93)).alloc (.cells #[.int .i64 m.k, .int .i64 m.u, .int .i64 m.n, .int .i64 m.at', .int .i64 m.im, .slice am nm cm, .bool m.y] 31)).heap[w.heap.size]? = some (.cells #[.slice k0.a k0.n k0.c, .int .i64 g.fu, .bool g.up, .int .i64 g.t.r.v, .slice k0.ak k0.nk k0.ck, .int .i64 g.t.r.t, .int .i64 g.t.ver, .slice k0.av k0.nv k0.cv, .slice k0.ad k0.nd k0.cd] 68 (0, 0))) := blk_alloc (blk_alloc (heap_alloc_last _ _) _) _
  have b1 : Hid ((((w.alloc (.cells #[.slice k0.a k0.n k0.c, .int .i64 g.fu, .bool g.up, .int .i64 g.t.r.v, .slice k0.ak k0.nk k0.ck, .int .i64 g.t.r.t, .int .i64 g.t.ver, .slice k0.av k0.nv k0.cv, .slice k0.ad k0.nd k0.cd] 68)).alloc (.cells #[.int .i64 cn, .int .i64 cv, .int .i64 cu, .slice ca.at_ ca.nt ca.ct, .slice ca.ai ca.ni ca.ci] 93)).alloc (.cells #[.int .i64 m.k, .int .i64 m.u, .int .i64 m.n, .int .i64 m.at', .int .i64 m.im, .slice am nm cm, .bool m.y] 31)).heap[w.heap.size + 1]? = some (.cells #[.int .i64 cn, .int .i64 cv, .int .i64 cu, .slice ca.at_ ca.nt ca.ct, .slice ca.ai ca.ni ca.ci] 93 (0, 0))) := blk_alloc (uLast1 _ _ _) _
  have b2 : Hid ((((w.alloc (.cells #[.slice k0.a k0.n k0.c, .int .i64 g.fu, .bool g.up, .int .i64 g.t.r.v, .slice k0.ak k0.nk k0.ck, .int .i64 g.t.r.t, .int .i64 g.t.ver, .slice k0.av k0.nv k0.cv, .slice k0.ad k0.nd k0.cd] 68)).alloc (.cells #[.int .i64 cn, .int .i64 cv, .int .i64 cu, .slice ca.at_ ca.nt ca.ct, .slice ca.ai ca.ni ca.ci] 93)).alloc (.cells #[.int .i64 m.k, .int .i64 m.u, .int .i64 m.n, .int .i64 m.at', .int .i64 m.im, .slice am nm cm, .bool m.y] 31)).heap[w.heap.size + 1 + 1]? = some (.cells #[.int .i64 m.k, .int .i64 m.u, .int .i64 m.n, .int .i64 m.at', .int .i64 m.im, .slice am nm cm, .bool m.y] 31 (0, 0))) := uLast2 _ _ _ _
  have HP := hide (fun W (hW : Below w.heap.size w W) => h.below hW)
  have HTs := hide (fun W (hW : Below w.heap.size w W) => ht.below hW)
  have HIs := hide (fun W (hW : Below w.heap.size w W) => hi.below hW)
  have HGt := hide (fun W (hW : Below w.heap.size w W) => lawGated_any W (hT.below hW))
  have HO := hide (fun W (hW : Below w.heap.size w W) => ownGate_any g k0 W (h.below hW) h1 h2 h3 h4)
  have HC := hide (fun W (hW : Below w.heap.size w W) => refCheckGate_any g k0 W (h.below hW))
  have HRD := hide (fun W (hW : Below w.heap.size w W) hg => refDue_any g k0 cn cv cu ca ts ims u W (h.below hW) (ht.below hW) (hi.below hW) hg)
  have HRH := hide (fun W (hW : Below w.heap.size w W) he => refHears_any g k0 m am nm cm W (h.below hW) h1 h2 h3 h4 he)
  have hlen := h.vo.len
  clear h ht hi hT h1 h2 h3 h4
  have HV : Hid (∀ k : GA, gtv g k = .agg #[.slice k.a k.n k.c, .int .i64 g.fu, .bool g.up, .int .i64 g.t.r.v, .slice k.ak k.nk k.ck, .int .i64 g.t.r.t, .int .i64 g.t.ver, .slice k.av k.nv k.cv, .slice k.ad k.nd k.cd]) := fun k => rfl
  unfold gtv at HO HC HRD HRH
  unfold cpv at HRD
  unfold msv at HRH
  unfold gtv cpv msv
  have x0 := blk_cell b0.out 0 _ rfl
  have x1 := blk_cell b0.out 1 _ rfl
  have x2 := blk_cell b0.out 2 _ rfl
  have x3 := blk_cell b0.out 3 _ rfl
  have x4 := blk_cell b0.out 4 _ rfl
  have x5 := blk_cell b0.out 5 _ rfl
  have x6 := blk_cell b0.out 6 _ rfl
  have x7 := blk_cell b0.out 7 _ rfl
  have x8 := blk_cell b0.out 8 _ rfl
  go_enter Tryz.func5, Tryz.ntmps5
  go_wp2_with fail
  generalize (((w.alloc (.cells #[.slice k0.a k0.n k0.c, .int .i64 g.fu, .bool g.up, .int .i64 g.t.r.v, .slice k0.ak k0.nk k0.ck, .int .i64 g.t.r.t, .int .i64 g.t.ver, .slice k0.av k0.nv k0.cv, .slice k0.ad k0.nd k0.cd] 68)).alloc (.cells #[.int .i64 cn, .int .i64 cv, .int .i64 cu, .slice ca.at_ ca.nt ca.ct, .slice ca.ai ca.ni ca.ci] 93)).alloc (.cells #[.int .i64 m.k, .int .i64 m.u, .int .i64 m.n, .int .i64 m.at', .int .i64 m.im, .slice am nm cm, .bool m.y] 31)) = W at *
  refine (unhide HO _ hw).mono ?_
  rintro e w1 ⟨⟨k, bv, bd, rfl, ho⟩, hb⟩
  clear HO x0 x1 x2 x3 x4 x5 x6 x7 x8
  unfold gtv
  go_upto_region 2 with fail
  have hb1 : Below W.heap.size W (w1.alloc (.cells #[.slice k.a k.n k.c, .int .i64 g.fu, .bool g.up, .int .i64 g.t.r.v, .slice k.ak k.nk k.ck, .int .i64 g.t.r.t, .int .i64 g.t.ver, .slice k.av k.nv k.cv, .slice k.ad k.nd k.cd] 68)) := below_new hb _
  have bO := hide (heap_alloc_last w1 (.cells #[.slice k.a k.n k.c, .int .i64 g.fu, .bool g.up, .int .i64 g.t.r.v, .slice k.ak k.nk k.ck, .int .i64 g.t.r.t, .int .i64 g.t.ver, .slice k.av k.nv k.cv, .slice k.ad k.nd k.cd] 68))
  have HK := hide (ho.gin.below (below_new (Below.refl w1.heap.size w1) (.cells #[.slice k.a k.n k.c, .int .i64 g.fu, .bool g.up, .int .i64 g.t.r.v, .slice k.ak k.nk k.ck, .int .i64 g.t.r.t, .int .i64 g.t.ver, .slice k.av k.nv k.cv, .slice k.ad k.nd k.cd] 68)))
  replace b0 := hide (blk_below b0.out hb1)
  replace b1 := hide (blk_below b1.out hb1)
  replace b2 := hide (blk_below b2.out hb1)
  replace hw := hw.trans (hb1.mono hw.size)
  clear hb hb1 ho
  generalize w1.alloc (.cells #[.slice k.a k.n k.c, .int .i64 g.fu, .bool g.up, .int .i64 g.t.r.v, .slice k.ak k.nk k.ck, .int .i64 g.t.r.t, .int .i64 g.t.ver, .slice k.av k.nv k.cv, .slice k.ad k.nd k.cd] 68) = W1 at *
  generalize w1.heap.size = O at *
  have HD := hide (gateDue_any g k cn cv cu ca ts ims u W1 HK.out (HTs.out _ hw) (HIs.out _ hw))
  unfold gtv cpv at HD
  have o0 := blk_cell bO.out 0 _ rfl
  have o1 := blk_cell bO.out 1 _ rfl
  have o2 := blk_cell bO.out 2 _ rfl
  have o3 := blk_cell bO.out 3 _ rfl
  have o4 := blk_cell bO.out 4 _ rfl
  have o5 := blk_cell bO.out 5 _ rfl
  have o6 := blk_cell bO.out 6 _ rfl
  have o7 := blk_cell bO.out 7 _ rfl
  have o8 := blk_cell bO.out 8 _ rfl
  have c0 := blk_cell b1.out 0 _ rfl
  have c1 := blk_cell b1.out 1 _ rfl
  have c2 := blk_cell b1.out 2 _ rfl
  have c3 := blk_cell b1.out 3 _ rfl
  have c4 := blk_cell b1.out 4 _ rfl
  go_wp2_with fail
  refine (unhide HD).mono ?_
  rintro e w2 ⟨⟨al, nl, cl, rfl, hml, hnl, hcl, hfl⟩, hb⟩
  clear HD hfl o0 o1 o2 o3 o4 o5 o6 o7 o8 c0 c1 c2 c3 c4
  replace b0 := hide (blk_below b0.out hb)
  replace b1 := hide (blk_below b1.out hb)
  replace b2 := hide (blk_below b2.out hb)
  replace bO := hide (blk_below bO.out hb)
  replace hw := hw.trans (hb.mono hw.size)
  replace HK := hide (HK.out.below hb)
  have HML := hide hml
  clear hb hml
  have HDb := hide (gDue_bad (g := g) (cn := cn) (ts := ts) (ims := ims) (u := u))
  have HDf := gDue_few g cn ts ims u
  generalize gDue g cn ts ims u = D at *
  obtain ⟨dl, dq⟩ := D
  try dsimp only at *
  have HH := hide (gateHear_any g k m am nm cm w2 HK.out)
  unfold gtv msv at HH
  have o0 := blk_cell bO.out 0 _ rfl
  have o1 := blk_cell bO.out 1 _ rfl
  have o2 := blk_cell bO.out 2 _ rfl
  have o3 := blk_cell bO.out 3 _ rfl
  have o4 := blk_cell bO.out 4 _ rfl
  have o5 := blk_cell bO.out 5 _ rfl
  have o6 := blk_cell bO.out 6 _ rfl
  have o7 := blk_cell bO.out 7 _ rfl
  have o8 := blk_cell bO.out 8 _ rfl
  have u0 := blk_cell b2.out 0 _ rfl
  have u1 := blk_cell b2.out 1 _ rfl
  have u2 := blk_cell b2.out 2 _ rfl
  have u3 := blk_cell b2.out 3 _ rfl
  have u4 := blk_cell b2.out 4 _ rfl
  have u5 := blk_cell b2.out 5 _ rfl
  have u6 := blk_cell b2.out 6 _ rfl
  go_wp2_with fail
  refine (unhide HH).mono ?_
  have HHb := hide (fun (q : Int) (e : ghE g m = q) hq => gHear_e (g := g) (m := m) e hq)
  have HHg := hide (ghR_hear (g := g) (m := m))
  generalize gHear g m = H at *
  obtain ⟨x, al2, hq⟩ := H
  try dsimp only at *
  rintro e w3 ⟨⟨kx, aa, na, cna, rfl, hgx, hfx, hma, hna, hca, hfa⟩, hb⟩
  clear HH hfx hfa o0 o1 o2 o3 o4 o5 o6 o7 o8 u0 u1 u2 u3 u4 u5 u6
  try dsimp only at *
  unfold gtv
  go_upto_region 4 with fail
  have hb1 : Below w2.heap.size w2 (w3.alloc (.cells #[.slice kx.a kx.n kx.c, .int .i64 x.fu, .bool x.up, .int .i64 x.t.r.v, .slice kx.ak kx.nk kx.ck, .int .i64 x.t.r.t, .int .i64 x.t.ver, .slice kx.av kx.nv kx.cv, .slice kx.ad kx.nd kx.cd] 68)) := below_new hb _
  have hb0 : Below w3.heap.size w3 (w3.alloc (.cells #[.slice kx.a kx.n kx.c, .int .i64 x.fu, .bool x.up, .int .i64 x.t.r.v, .slice kx.ak kx.nk kx.ck, .int .i64 x.t.r.t, .int .i64 x.t.ver, .slice kx.av kx.nv kx.cv, .slice kx.ad kx.nd kx.cd] 68)) := below_new (Below.refl _ _) _
  have bX := hide (heap_alloc_last w3 (.cells #[.slice kx.a kx.n kx.c, .int .i64 x.fu, .bool x.up, .int .i64 x.t.r.v, .slice kx.ak kx.nk kx.ck, .int .i64 x.t.r.t, .int .i64 x.t.ver, .slice kx.av kx.nv kx.cv, .slice kx.ad kx.nd kx.cd] 68))
  have HX := hide (hgx.below hb0)
  have HMA := hide (hma.msw.below hb0)
  replace b0 := hide (blk_below b0.out hb1)
  replace b1 := hide (blk_below b1.out hb1)
  replace b2 := hide (blk_below b2.out hb1)
  replace bO := hide (blk_below bO.out hb1)
  replace hw := hw.trans (hb1.mono hw.size)
  replace HK := hide (HK.out.below hb1)
  replace HML := hide (HML.out.below hb1)
  clear hb hb0 hb1 hgx hma
  generalize w3.alloc (.cells #[.slice kx.a kx.n kx.c, .int .i64 x.fu, .bool x.up, .int .i64 x.t.r.v, .slice kx.ak kx.nk kx.ck, .int .i64 x.t.r.t, .int .i64 x.t.ver, .slice kx.av kx.nv kx.cv, .slice kx.ad kx.nd kx.cd] 68) = W3 at *
  generalize w3.heap.size = XB at *
  have x0 := blk_cell b0.out 0 _ rfl
  have x1 := blk_cell b0.out 1 _ rfl
  have x2 := blk_cell b0.out 2 _ rfl
  have x3 := blk_cell b0.out 3 _ rfl
  have x4 := blk_cell b0.out 4 _ rfl
  have x5 := blk_cell b0.out 5 _ rfl
  have x6 := blk_cell b0.out 6 _ rfl
  have x7 := blk_cell b0.out 7 _ rfl
  have x8 := blk_cell b0.out 8 _ rfl
  go_wp2_with fail
  refine (unhide HC _ hw).mono ?_
  rintro e w4 ⟨rfl, hb⟩
  clear HC x0 x1 x2 x3 x4 x5 x6 x7 x8
  replace b0 := hide (blk_below b0.out hb)
  replace b1 := hide (blk_below b1.out hb)
  replace b2 := hide (blk_below b2.out hb)
  replace bO := hide (blk_below bO.out hb)
  replace bX := hide (blk_below bX.out hb)
  replace hw := hw.trans (hb.mono hw.size)
  replace HK := hide (HK.out.below hb)
  replace HML := hide (HML.out.below hb)
  replace HX := hide (HX.out.below hb)
  replace HMA := hide (HMA.out.below hb)
  clear hb
  go_wp2_with fail
  refine (unhide HGt _ hw).mono ?_
  rintro e w5 ⟨rfl, hb⟩
  clear HGt
  replace b0 := hide (blk_below b0.out hb)
  replace b1 := hide (blk_below b1.out hb)
  replace b2 := hide (blk_below b2.out hb)
  replace bO := hide (blk_below bO.out hb)
  replace bX := hide (blk_below bX.out hb)
  replace hw := hw.trans (hb.mono hw.size)
  replace HK := hide (HK.out.below hb)
  replace HML := hide (HML.out.below hb)
  replace HX := hide (HX.out.below hb)
  replace HMA := hide (HMA.out.below hb)
  clear hb
  have HSm := hide (sameGate_any g k g k0 w5 HK.out (HP.out _ hw))
  rw [sameG_self] at HSm
  unfold gtv at HSm
  have o0 := blk_cell bO.out 0 _ rfl
  have o1 := blk_cell bO.out 1 _ rfl
  have o2 := blk_cell bO.out 2 _ rfl
  have o3 := blk_cell bO.out 3 _ rfl
  have o4 := blk_cell bO.out 4 _ rfl
  have o5 := blk_cell bO.out 5 _ rfl
  have o6 := blk_cell bO.out 6 _ rfl
  have o7 := blk_cell bO.out 7 _ rfl
  have o8 := blk_cell bO.out 8 _ rfl
  have x0 := blk_cell b0.out 0 _ rfl
  have x1 := blk_cell b0.out 1 _ rfl
  have x2 := blk_cell b0.out 2 _ rfl
  have x3 := blk_cell b0.out 3 _ rfl
  have x4 := blk_cell b0.out 4 _ rfl
  have x5 := blk_cell b0.out 5 _ rfl
  have x6 := blk_cell b0.out 6 _ rfl
  have x7 := blk_cell b0.out 7 _ rfl
  have x8 := blk_cell b0.out 8 _ rfl
  go_wp2_with fail
  refine (unhide HSm).mono ?_
  rintro e w6 ⟨rfl, hb⟩
  clear HSm o0 o1 o2 o3 o4 o5 o6 o7 o8 x0 x1 x2 x3 x4 x5 x6 x7 x8
  replace b0 := hide (blk_below b0.out hb)
  replace b1 := hide (blk_below b1.out hb)
  replace b2 := hide (blk_below b2.out hb)
  replace bO := hide (blk_below bO.out hb)
  replace bX := hide (blk_below bX.out hb)
  replace hw := hw.trans (hb.mono hw.size)
  replace HK := hide (HK.out.below hb)
  replace HML := hide (HML.out.below hb)
  replace HX := hide (HX.out.below hb)
  replace HMA := hide (HMA.out.below hb)
  clear hb
  by_cases z : gtE g = 0
  rotate_left
  · have e1 := HDb.out z
    have e2 := HHb.out _ (ghE_1 z) z
    cases e1
    cases e2
    have d : (gtE g != 0) = true := by simpa using z
    have d2 : (gtE g == gtE g) = true := by simp
    clear z HDb HHb HHg HRD HRH
    generalize gtE g = q at *
    have hnl0 : nl = 0 := hnl.symm
    have hna0 : na = 0 := hna.symm
    subst hnl0
    subst hna0
    clear HDf
    have HSm := hide (sameGate_any gt0 kx gt0 ga0 w6 HX.out (gin0 _))
    rw [sameG_self] at HSm
    unfold gtv gt0 ga0 at HSm
    unfold gt0 at bX
    have y0 := blk_cell bX.out 0 _ rfl
    have y1 := blk_cell bX.out 1 _ rfl
    have y2 := blk_cell bX.out 2 _ rfl
    have y3 := blk_cell bX.out 3 _ rfl
    have y4 := blk_cell bX.out 4 _ rfl
    have y5 := blk_cell bX.out 5 _ rfl
    have y6 := blk_cell bX.out 6 _ rfl
    have y7 := blk_cell bX.out 7 _ rfl
    have y8 := blk_cell bX.out 8 _ rfl
    go_wp2_with fail
    refine (unhide HSm).mono ?_
    rintro e w7 ⟨rfl, hb⟩
    replace hw := hw.trans (hb.mono hw.size)
    clear hb HSm
    go_wp2_with fail
    go_ret
    exact ⟨rfl, hw⟩
  rw [z]
  have Z := hide z
  clear HDb
  have x0 := blk_cell b0.out 0 _ rfl
  have x1 := blk_cell b0.out 1 _ rfl
  have x2 := blk_cell b0.out 2 _ rfl
  have x3 := blk_cell b0.out 3 _ rfl
  have x4 := blk_cell b0.out 4 _ rfl
  have x5 := blk_cell b0.out 5 _ rfl
  have x6 := blk_cell b0.out 6 _ rfl
  have x7 := blk_cell b0.out 7 _ rfl
  have x8 := blk_cell b0.out 8 _ rfl
  have c0 := blk_cell b1.out 0 _ rfl
  have c1 := blk_cell b1.out 1 _ rfl
  have c2 := blk_cell b1.out 2 _ rfl
  have c3 := blk_cell b1.out 3 _ rfl
  have c4 := blk_cell b1.out 4 _ rfl
  go_wp2_with fail
  refine (unhide HRD _ hw z).mono ?_
  rintro e w7 ⟨⟨bl, mb, cb, rfl, hmb, hnb, hcb, hfb⟩, hb⟩
  clear HRD hfb z x0 x1 x2 x3 x4 x5 x6 x7 x8 c0 c1 c2 c3 c4
  replace b0 := hide (blk_below b0.out hb)
  replace b1 := hide (blk_below b1.out hb)
  replace b2 := hide (blk_below b2.out hb)
  replace bO := hide (blk_below bO.out hb)
  replace bX := hide (blk_below bX.out hb)
  replace hw := hw.trans (hb.mono hw.size)
  replace HK := hide (HK.out.below hb)
  replace HML := hide (HML.out.below hb)
  replace HX := hide (HX.out.below hb)
  replace HMA := hide (HMA.out.below hb)
  have HMB := hide hmb
  clear hb hmb
  try dsimp only at *
  have HSM := hide (sameMessages_any al bl nl mb cl cb dl dl w7 HML.out HMB.out hnl hnb (by omega) (by omega))
  rw [eqM_refl] at HSM
  have d3 : (dq != dq) = false := by simp
  go_wp2_with fail
  refine (unhide HSM).mono ?_
  rintro e w8 ⟨rfl, hb⟩
  clear HSM HMB d3
  replace b0 := hide (blk_below b0.out hb)
  replace b1 := hide (blk_below b1.out hb)
  replace b2 := hide (blk_below b2.out hb)
  replace bO := hide (blk_below bO.out hb)
  replace bX := hide (blk_below bX.out hb)
  replace hw := hw.trans (hb.mono hw.size)
  replace HK := hide (HK.out.below hb)
  replace HML := hide (HML.out.below hb)
  replace HX := hide (HX.out.below hb)
  replace HMA := hide (HMA.out.below hb)
  clear hb hnl hnb HDf
  have u1 := blk_cell b2.out 1 _ rfl
  have u2 := blk_cell b2.out 2 _ rfl
  have x7 := blk_cell b0.out 7 _ rfl
  by_cases z1 : m.u < 0
  · have e2 := HHb.out 3 (ghE_3 Z.out (.inl (by unfold inB; simp; omega))) (by decide)
    cases e2
    have hna0 : na = 0 := hna.symm
    subst hna0
    clear HHb HHg HRH Z
    have HSm := hide (sameGate_any gt0 kx gt0 ga0 w8 HX.out (gin0 _))
    rw [sameG_self] at HSm
    unfold gtv gt0 ga0 at HSm
    unfold gt0 at bX
    have y0 := blk_cell bX.out 0 _ rfl
    have y1 := blk_cell bX.out 1 _ rfl
    have y2 := blk_cell bX.out 2 _ rfl
    have y3 := blk_cell bX.out 3 _ rfl
    have y4 := blk_cell bX.out 4 _ rfl
    have y5 := blk_cell bX.out 5 _ rfl
    have y6 := blk_cell bX.out 6 _ rfl
    have y7 := blk_cell bX.out 7 _ rfl
    have y8 := blk_cell bX.out 8 _ rfl
    go_wp2_with fail
    refine (unhide HSm).mono ?_
    rintro e w9 ⟨rfl, hb⟩
    replace hw := hw.trans (hb.mono hw.size)
    clear hb HSm
    go_wp2_with fail
    go_ret
    exact ⟨rfl, hw⟩
  by_cases z2 : (k0.nv : Int) ≤ m.u
  · have e2 := HHb.out 3 (ghE_3 Z.out (.inl (by unfold inB; simp; omega))) (by decide)
    cases e2
    have hna0 : na = 0 := hna.symm
    subst hna0
    clear HHb HHg HRH Z
    have HSm := hide (sameGate_any gt0 kx gt0 ga0 w8 HX.out (gin0 _))
    rw [sameG_self] at HSm
    unfold gtv gt0 ga0 at HSm
    unfold gt0 at bX
    have y0 := blk_cell bX.out 0 _ rfl
    have y1 := blk_cell bX.out 1 _ rfl
    have y2 := blk_cell bX.out 2 _ rfl
    have y3 := blk_cell bX.out 3 _ rfl
    have y4 := blk_cell bX.out 4 _ rfl
    have y5 := blk_cell bX.out 5 _ rfl
    have y6 := blk_cell bX.out 6 _ rfl
    have y7 := blk_cell bX.out 7 _ rfl
    have y8 := blk_cell bX.out 8 _ rfl
    go_wp2_with fail
    refine (unhide HSm).mono ?_
    rintro e w9 ⟨rfl, hb⟩
    replace hw := hw.trans (hb.mono hw.size)
    clear hb HSm
    go_wp2_with fail
    go_ret
    exact ⟨rfl, hw⟩
  by_cases z3 : m.n < 1
  · have e2 := HHb.out 3 (ghE_3 Z.out (.inr (by unfold inB; simp; omega))) (by decide)
    cases e2
    have hna0 : na = 0 := hna.symm
    subst hna0
    clear HHb HHg HRH Z
    have HSm := hide (sameGate_any gt0 kx gt0 ga0 w8 HX.out (gin0 _))
    rw [sameG_self] at HSm
    unfold gtv gt0 ga0 at HSm
    unfold gt0 at bX
    have y0 := blk_cell bX.out 0 _ rfl
    have y1 := blk_cell bX.out 1 _ rfl
    have y2 := blk_cell bX.out 2 _ rfl
    have y3 := blk_cell bX.out 3 _ rfl
    have y4 := blk_cell bX.out 4 _ rfl
    have y5 := blk_cell bX.out 5 _ rfl
    have y6 := blk_cell bX.out 6 _ rfl
    have y7 := blk_cell bX.out 7 _ rfl
    have y8 := blk_cell bX.out 8 _ rfl
    go_wp2_with fail
    refine (unhide HSm).mono ?_
    rintro e w9 ⟨rfl, hb⟩
    replace hw := hw.trans (hb.mono hw.size)
    clear hb HSm
    go_wp2_with fail
    go_ret
    exact ⟨rfl, hw⟩
  by_cases z4 : 8 < m.n
  · have e2 := HHb.out 3 (ghE_3 Z.out (.inr (by unfold inB; simp; omega))) (by decide)
    cases e2
    have hna0 : na = 0 := hna.symm
    subst hna0
    clear HHb HHg HRH Z
    have HSm := hide (sameGate_any gt0 kx gt0 ga0 w8 HX.out (gin0 _))
    rw [sameG_self] at HSm
    unfold gtv gt0 ga0 at HSm
    unfold gt0 at bX
    have y0 := blk_cell bX.out 0 _ rfl
    have y1 := blk_cell bX.out 1 _ rfl
    have y2 := blk_cell bX.out 2 _ rfl
    have y3 := blk_cell bX.out 3 _ rfl
    have y4 := blk_cell bX.out 4 _ rfl
    have y5 := blk_cell bX.out 5 _ rfl
    have y6 := blk_cell bX.out 6 _ rfl
    have y7 := blk_cell bX.out 7 _ rfl
    have y8 := blk_cell bX.out 8 _ rfl
    go_wp2_with fail
    refine (unhide HSm).mono ?_
    rintro e w9 ⟨rfl, hb⟩
    replace hw := hw.trans (hb.mono hw.size)
    clear hb HSm
    go_wp2_with fail
    go_ret
    exact ⟨rfl, hw⟩
  have he := ghE_0 (g := g) (m := m) Z.out (by unfold inB; simp; omega) (by unfold inB; simp; omega)
  have e2 := HHg.out he
  have HRf := ghR_few g m
  cases e2
  have HE := hide he
  clear he HHb HHg Z
  have x0 := blk_cell b0.out 0 _ rfl
  have x1 := blk_cell b0.out 1 _ rfl
  have x2 := blk_cell b0.out 2 _ rfl
  have x3 := blk_cell b0.out 3 _ rfl
  have x4 := blk_cell b0.out 4 _ rfl
  have x5 := blk_cell b0.out 5 _ rfl
  have x6 := blk_cell b0.out 6 _ rfl
  have x8 := blk_cell b0.out 8 _ rfl
  have u0 := blk_cell b2.out 0 _ rfl
  have u3 := blk_cell b2.out 3 _ rfl
  have u4 := blk_cell b2.out 4 _ rfl
  have u5 := blk_cell b2.out 5 _ rfl
  have u6 := blk_cell b2.out 6 _ rfl
  go_wp2_with fail
  refine (unhide HRH _ hw HE.out).mono ?_
  generalize ghR g m = H at *
  obtain ⟨y, al3⟩ := H
  try dsimp only at *
  rintro e w9 ⟨⟨ky, ab, nb, cnb, rfl, hgy, hmb, hnb, hcb⟩, hb⟩
  clear HRH x0 x1 x2 x3 x4 x5 x6 x7 x8 u0 u1 u2 u3 u4 u5 u6
  try dsimp only at *
  unfold gtv
  go_upto_region 15 with fail
  have hb1 : Below w8.heap.size w8 (w9.alloc (.cells #[.slice ky.a ky.n ky.c, .int .i64 y.fu, .bool y.up, .int .i64 y.t.r.v, .slice ky.ak ky.nk ky.ck, .int .i64 y.t.r.t, .int .i64 y.t.ver, .slice ky.av ky.nv ky.cv, .slice ky.ad ky.nd ky.cd] 68)) := below_new hb _
  have hb0 : Below w9.heap.size w9 (w9.alloc (.cells #[.slice ky.a ky.n ky.c, .int .i64 y.fu, .bool y.up, .int .i64 y.t.r.v, .slice ky.ak ky.nk ky.ck, .int .i64 y.t.r.t, .int .i64 y.t.ver, .slice ky.av ky.nv ky.cv, .slice ky.ad ky.nd ky.cd] 68)) := below_new (Below.refl _ _) _
  have bY := hide (heap_alloc_last w9 (.cells #[.slice ky.a ky.n ky.c, .int .i64 y.fu, .bool y.up, .int .i64 y.t.r.v, .slice ky.ak ky.nk ky.ck, .int .i64 y.t.r.t, .int .i64 y.t.ver, .slice ky.av ky.nv ky.cv, .slice ky.ad ky.nd ky.cd] 68))
  have HY := hide (hgy.below hb0)
  have HMB := hide (hmb.msw.below hb0)
  replace b0 := hide (blk_below b0.out hb1)
  replace b1 := hide (blk_below b1.out hb1)
  replace b2 := hide (blk_below b2.out hb1)
  replace bO := hide (blk_below bO.out hb1)
  replace bX := hide (blk_below bX.out hb1)
  replace hw := hw.trans (hb1.mono hw.size)
  replace HK := hide (HK.out.below hb1)
  replace HML := hide (HML.out.below hb1)
  replace HX := hide (HX.out.below hb1)
  replace HMA := hide (HMA.out.below hb1)
  clear hb hb0 hb1 hgy hmb
  generalize w9.alloc (.cells #[.slice ky.a ky.n ky.c, .int .i64 y.fu, .bool y.up, .int .i64 y.t.r.v, .slice ky.ak ky.nk ky.ck, .int .i64 y.t.r.t, .int .i64 y.t.ver, .slice ky.av ky.nv ky.cv, .slice ky.ad ky.nd ky.cd] 68) = W9 at *
  generalize w9.heap.size = YB at *
  have HSm := hide (sameGate_any y kx y ky W9 HX.out HY.out)
  rw [sameG_self] at HSm
  unfold gtv at HSm
  have x0 := blk_cell bX.out 0 _ rfl
  have x1 := blk_cell bX.out 1 _ rfl
  have x2 := blk_cell bX.out 2 _ rfl
  have x3 := blk_cell bX.out 3 _ rfl
  have x4 := blk_cell bX.out 4 _ rfl
  have x5 := blk_cell bX.out 5 _ rfl
  have x6 := blk_cell bX.out 6 _ rfl
  have x7 := blk_cell bX.out 7 _ rfl
  have x8 := blk_cell bX.out 8 _ rfl
  have y0 := blk_cell bY.out 0 _ rfl
  have y1 := blk_cell bY.out 1 _ rfl
  have y2 := blk_cell bY.out 2 _ rfl
  have y3 := blk_cell bY.out 3 _ rfl
  have y4 := blk_cell bY.out 4 _ rfl
  have y5 := blk_cell bY.out 5 _ rfl
  have y6 := blk_cell bY.out 6 _ rfl
  have y7 := blk_cell bY.out 7 _ rfl
  have y8 := blk_cell bY.out 8 _ rfl
  go_wp2_with fail
  refine (unhide HSm).mono ?_
  rintro e w10 ⟨rfl, hb⟩
  clear HSm x0 x1 x2 x3 x4 x5 x6 x7 x8 y0 y1 y2 y3 y4 y5 y6 y7 y8
  replace HMA := hide (HMA.out.below hb)
  replace HMB := hide (HMB.out.below hb)
  replace hw := hw.trans (hb.mono hw.size)
  have HSM := hide (sameMessages_any aa ab na nb cna cnb al3 al3 w10 HMA.out HMB.out hna hnb (by omega) (by omega))
  rw [eqM_refl] at HSM
  go_wp2_with fail
  refine (unhide HSM).mono ?_
  rintro e w11 ⟨rfl, hb2⟩
  replace hw := hw.trans (hb2.mono hw.size)
  go_wp2_with fail
  go_ret
  exact ⟨rfl, hw⟩

end Go.Proofs.YtgngpmgjoifepaaGreatDoor
