/- The walk of the law GateTwice: what a gateway, with power, hears a second time changes nothing more, and is answered alike. What the rows' listed variables give: the table that strconv.Itoa reads ('Tab'). -/
import Derived.Test.YtgngpmgjoifepaaGreatDoorPq38
import Derived.Test.YtgngpmgjoifepaaGreatDoorPq40
import Derived.Test.YtgngpmgjoifepaaGreatDoorPq31
import Derived.Test.YtgngpmgjoifepaaGreatDoorPq34
import Derived.Test.YtgngpmgjoifepaaGreatDoorPq12
import Derived.Stop.LaidErr
import Derived.LaidMore
namespace Go.Proofs.YtgngpmgjoifepaaGreatDoor
open Go.RowKit
attribute [local go_sem ↓] Go.wp_at_zero Go.wp_at_succ

def fuG (g : Gt) (f : Int) : Gt := ⟨g.ws, f, g.up, g.t, g.vo, g.di⟩
theorem GIn.fuel {w : World} {k : GA} {g : Gt} (h : GIn w k g) (f : Int) : GIn w k (fuG g f) := ⟨h.ws, h.ks, h.vo, h.di⟩
theorem gHear_quiet {g : Gt} {m : Ms} (h : m.k ≠ 7) : (gHear g m).2.1 = [] := by
  unfold gHear
  split
  · rfl
  · split
    · unfold ghK
      split
      · rfl
      · split
        · rfl
        · first | rfl | (rw [if_neg h])
    · rfl
theorem gHear_few (g : Gt) (m : Ms) : (gHear g m).2.1.length ≤ 1 := by
  by_cases h : m.k = 7
  · unfold gHear
    split
    · simp
    · split
      · rw [ghK_7 h]
        dsimp only
        split <;> simp
      · simp
  · rw [gHear_quiet h]; simp

set_option maxRecDepth 100000 in
set_option maxHeartbeats 12800000 in
theorem gateTwice_walk (g : Gt) (k0 : GA) (m : Ms) (am : Option Addr) (nm cm : Nat) (w : World) (h : GIn w k0 g) (hT : Tab w) :
    Calls Tryz.prog 8 #[gtv g k0, msv m am nm cm] w fun e w' => e = .returned (.bool true) ∧ Below w.heap.size w w' := by
  have hw : Below w.heap.size w ((w.alloc (.cells #[.slice k0.a k0.n k0.c, .int .i64 (-1), .bool g.up, .int .i64 g.t.r.v, .slice k0.ak k0.nk k0.ck, .int .i64 g.t.r.t, .int .i64 g.t.ver, .slice k0.av k0.nv k0.cv, .slice k0.ad k0.nd k0.cd] 68)).alloc (.cells #[.int .i64 m.k, .int .i64 m.u, .int .i64 m.n, .int .i64 m.at', .int .i64 m.im, .slice am nm cm, .bool m.y] 31)) := ((Below.refl _ _).alloc (Nat.le_refl _) _).alloc (by simp) _
  have b0 : Hid (((w.alloc (.cells #[.slice k0.a k0.n k0.c, .int .i64 (-1), .bool g.up, .int .i64 g.t.r.v, .slice k0.ak k0.nk k0.ck, .int .i64 g.t.r.t, .int .i64 g.t.ver, .slice k0.av k0.nv k0.cv, .slice k0.ad k0.nd k0.cd] 68)).alloc (.cells #[.int .i64 m.k, .int .i64 m.u, .int .i64 m.n, .int .i64 m.at', .int .i64 m.im, .slice am nm cm, .bool m.y] 31)).heap[w.heap.size]? = some (.cells #[.slice k0.a k0.n k0.c, .int .i64 (-1), .bool g.up, .int .i64 g.t.r.v, .slice k0.ak k0.nk k0.ck, .int .i64 g.t.r.t, .int .i64 g.t.ver, .slice k0.av k0.nv k0.cv, .slice k0.ad k0.nd k0.cd] 68 (0, 0))) := blk_alloc (heap_alloc_last _ _) _
  have b1 : Hid (((w.alloc (.cells #[.slice k0.a k0.n k0.c, .int .i64 (-1), .bool g.up, .int .i64 g.t.r.v, .slice k0.ak k0.nk k0.ck, .int .i64 g.t.r.t, .int .i64 g.t.ver, .slice k0.av k0.nv k0.cv, .slice k0.ad k0.nd k0.cd] 68)).alloc (.cells #[.int .i64 m.k, .int .i64 m.u, .int .i64 m.n, .int .i64 m.at', .int .i64 m.im, .slice am nm cm, .bool m.y] 31)).heap[w.heap.size + 1]? = some (.cells #[.int .i64 m.k, .int .i64 m.u, .int .i64 m.n, .int .i64 m.at', .int .i64 m.im, .slice am nm cm, .bool m.y] 31 (0, 0))) := uLast1 _ _ _
  have HH := hide (fun W (hW : Below w.heap.size w W) => gateHear_any (fuG g (-1)) k0 m am nm cm W ((h.fuel (-1)).below hW))
  have HX := hide (fun x kx W (hx : GIn W kx x) => gateHear_any x kx m am nm cm W hx)
  have HGt := hide (fun W (hW : Below w.heap.size w W) => lawGated_any W (hT.below hW))
  clear h hT
  obtain ⟨R, hR⟩ : ∃ R, R = gHear (fuG g (-1)) m := ⟨_, rfl⟩
  rw [← hR] at HH
  have HTw : Hid (R.2.2 = 0 → gHear R.1 m = R) := fun e => by rw [hR] at e ⊢; exact gate_twice rfl e
  have HOk : Hid (R.2.2 = 0 → gtE R.1 = 0) := fun e => by rw [hR] at e ⊢; exact (hear_hrd e).2.onc.ok
  have HQt : Hid (m.k ≠ 7 → R.2.1 = []) := fun e => by rw [hR]; exact gHear_quiet e
  have HFw : Hid (R.2.1.length ≤ 1) := by rw [hR]; exact gHear_few _ _
  clear hR
  unfold gtv msv at HH HX
  unfold gtv msv
  go_enter Tryz.func8, Tryz.ntmps8
  go_upto_region 2 with fail
  generalize ((w.alloc (.cells #[.slice k0.a k0.n k0.c, .int .i64 (-1), .bool g.up, .int .i64 g.t.r.v, .slice k0.ak k0.nk k0.ck, .int .i64 g.t.r.t, .int .i64 g.t.ver, .slice k0.av k0.nv k0.cv, .slice k0.ad k0.nd k0.cd] 68)).alloc (.cells #[.int .i64 m.k, .int .i64 m.u, .int .i64 m.n, .int .i64 m.at', .int .i64 m.im, .slice am nm cm, .bool m.y] 31)) = W at *
  have x0 := blk_cell b0.out 0 _ rfl
  have x1 := blk_cell b0.out 1 _ rfl
  have x2 := blk_cell b0.out 2 _ rfl
  have x3 := blk_cell b0.out 3 _ rfl
  have x4 := blk_cell b0.out 4 _ rfl
  have x5 := blk_cell b0.out 5 _ rfl
  have x6 := blk_cell b0.out 6 _ rfl
  have x7 := blk_cell b0.out 7 _ rfl
  have x8 := blk_cell b0.out 8 _ rfl
  have u0 := blk_cell b1.out 0 _ rfl
  have u1 := blk_cell b1.out 1 _ rfl
  have u2 := blk_cell b1.out 2 _ rfl
  have u3 := blk_cell b1.out 3 _ rfl
  have u4 := blk_cell b1.out 4 _ rfl
  have u5 := blk_cell b1.out 5 _ rfl
  have u6 := blk_cell b1.out 6 _ rfl
  go_wp2_with fail
  refine (unhide HH _ hw).mono ?_
  rintro e w1 ⟨⟨kx, al, nl, cl, rfl, hgx, -, hml, hnl, hcl, -⟩, hb⟩
  clear HH x0 x1 x2 x3 x4 x5 x6 x7 x8 u0 u1 u2 u3 u4 u5 u6 b0
  have hb2 : Below W.heap.size W (w1.alloc (.cells #[.slice kx.a kx.n kx.c, .int .i64 R.1.fu, .bool R.1.up, .int .i64 R.1.t.r.v, .slice kx.ak kx.nk kx.ck, .int .i64 R.1.t.r.t, .int .i64 R.1.t.ver, .slice kx.av kx.nv kx.cv, .slice kx.ad kx.nd kx.cd] 68)) := below_new hb _
  have bX := hide (heap_alloc_last w1 (.cells #[.slice kx.a kx.n kx.c, .int .i64 R.1.fu, .bool R.1.up, .int .i64 R.1.t.r.v, .slice kx.ak kx.nk kx.ck, .int .i64 R.1.t.r.t, .int .i64 R.1.t.ver, .slice kx.av kx.nv kx.cv, .slice kx.ad kx.nd kx.cd] 68))
  have hb3 : Below w1.heap.size w1 (w1.alloc (.cells #[.slice kx.a kx.n kx.c, .int .i64 R.1.fu, .bool R.1.up, .int .i64 R.1.t.r.v, .slice kx.ak kx.nk kx.ck, .int .i64 R.1.t.r.t, .int .i64 R.1.t.ver, .slice kx.av kx.nv kx.cv, .slice kx.ad kx.nd kx.cd] 68)) := below_new (Below.refl _ _) _
  replace b1 := hide (blk_below b1.out hb2)
  replace hw := hw.trans (hb2.mono hw.size)
  have HI := hide (hgx.below hb3)
  have ML := hide (hml.below hb3)
  clear hgx hml hb hb2 hb3
  unfold gtv
  go_upto_region 3 with fail
  generalize w1.alloc (.cells #[.slice kx.a kx.n kx.c, .int .i64 R.1.fu, .bool R.1.up, .int .i64 R.1.t.r.v, .slice kx.ak kx.nk kx.ck, .int .i64 R.1.t.r.t, .int .i64 R.1.t.ver, .slice kx.av kx.nv kx.cv, .slice kx.ad kx.nd kx.cd] 68) = W1 at *
  generalize w1.heap.size = X at *
  go_wp2_with fail
  refine (unhide HGt _ hw).mono ?_
  rintro e w2 ⟨rfl, hb⟩
  replace b1 := hide (blk_below b1.out hb)
  replace bX := hide (blk_below bX.out hb)
  replace HI := hide (HI.out.below hb)
  replace ML := hide (ML.out.below hb)
  replace hw := hw.trans (hb.mono hw.size)
  clear hb
  by_cases z : R.2.2 = 0
  rotate_left
  · have d : (R.2.2 != 0) = true := by simpa using z
    clear z HX HTw HOk HQt
    generalize R.2.2 = q at *
    go_wp2_with fail
    refine (unhide HGt _ hw).mono ?_
    rintro e w3 ⟨rfl, hb⟩
    go_wp2_with fail
    go_ret
    exact ⟨rfl, hw.trans (hb.mono hw.size)⟩
  have HOk' := hide (HOk.out z)
  have HT' := hide (HTw.out z)
  have HX' := hide ((unhide HX) R.1 kx)
  rw [HT'.out] at HX'
  obtain ⟨x, l, q⟩ := R
  dsimp only at *
  subst z
  clear HX HTw HOk HT' HGt
  have x0 := blk_cell bX.out 0 _ rfl
  have x1 := blk_cell bX.out 1 _ rfl
  have x2 := blk_cell bX.out 2 _ rfl
  have x3 := blk_cell bX.out 3 _ rfl
  have x4 := blk_cell bX.out 4 _ rfl
  have x5 := blk_cell bX.out 5 _ rfl
  have x6 := blk_cell bX.out 6 _ rfl
  have x7 := blk_cell bX.out 7 _ rfl
  have x8 := blk_cell bX.out 8 _ rfl
  have u0 := blk_cell b1.out 0 _ rfl
  have u1 := blk_cell b1.out 1 _ rfl
  have u2 := blk_cell b1.out 2 _ rfl
  have u3 := blk_cell b1.out 3 _ rfl
  have u4 := blk_cell b1.out 4 _ rfl
  have u5 := blk_cell b1.out 5 _ rfl
  have u6 := blk_cell b1.out 6 _ rfl
  have HX2 := hide (HX'.out _ HI.out)
  go_wp2_with fail
  refine (unhide HX2).mono ?_
  rintro e w3 ⟨⟨ky, ak, nk, ck, rfl, hgy, -, hmk, hnk, hck, -⟩, hb⟩
  clear HX' HX2 x0 x1 x2 x3 x4 x5 x6 x7 x8 u0 u1 u2 u3 u4 u5 u6
  dsimp only at hgy hmk hnk ⊢
  have hb2 : Below w2.heap.size w2 (w3.alloc (.cells #[.slice ky.a ky.n ky.c, .int .i64 x.fu, .bool x.up, .int .i64 x.t.r.v, .slice ky.ak ky.nk ky.ck, .int .i64 x.t.r.t, .int .i64 x.t.ver, .slice ky.av ky.nv ky.cv, .slice ky.ad ky.nd ky.cd] 68)) := below_new hb _
  have bY := hide (heap_alloc_last w3 (.cells #[.slice ky.a ky.n ky.c, .int .i64 x.fu, .bool x.up, .int .i64 x.t.r.v, .slice ky.ak ky.nk ky.ck, .int .i64 x.t.r.t, .int .i64 x.t.ver, .slice ky.av ky.nv ky.cv, .slice ky.ad ky.nd ky.cd] 68))
  have hb3 : Below w3.heap.size w3 (w3.alloc (.cells #[.slice ky.a ky.n ky.c, .int .i64 x.fu, .bool x.up, .int .i64 x.t.r.v, .slice ky.ak ky.nk ky.ck, .int .i64 x.t.r.t, .int .i64 x.t.ver, .slice ky.av ky.nv ky.cv, .slice ky.ad ky.nd ky.cd] 68)) := below_new (Below.refl _ _) _
  replace b1 := hide (blk_below b1.out hb2)
  replace bX := hide (blk_below bX.out hb2)
  replace HI := hide (HI.out.below hb2)
  replace ML := hide (ML.out.below hb2)
  replace hw := hw.trans (hb2.mono hw.size)
  have HY := hide (hgy.below hb3)
  have MK := hide (hmk.below hb3)
  clear hgy hmk hb hb2 hb3
  unfold gtv
  go_upto_region 6 with fail
  generalize w3.alloc (.cells #[.slice ky.a ky.n ky.c, .int .i64 x.fu, .bool x.up, .int .i64 x.t.r.v, .slice ky.ak ky.nk ky.ck, .int .i64 x.t.r.t, .int .i64 x.t.ver, .slice ky.av ky.nv ky.cv, .slice ky.ad ky.nd ky.cd] 68) = W3 at *
  generalize w3.heap.size = Y at *
  have u0 := blk_cell b1.out 0 _ rfl
  by_cases zk : m.k = 7
  · rw [zk] at u0
    clear zk HQt
    have x0 := blk_cell bX.out 0 _ rfl
    have x1 := blk_cell bX.out 1 _ rfl
    have x2 := blk_cell bX.out 2 _ rfl
    have x3 := blk_cell bX.out 3 _ rfl
    have x4 := blk_cell bX.out 4 _ rfl
    have x5 := blk_cell bX.out 5 _ rfl
    have x6 := blk_cell bX.out 6 _ rfl
    have x7 := blk_cell bX.out 7 _ rfl
    have x8 := blk_cell bX.out 8 _ rfl
    have y0 := blk_cell bY.out 0 _ rfl
    have y1 := blk_cell bY.out 1 _ rfl
    have y2 := blk_cell bY.out 2 _ rfl
    have y3 := blk_cell bY.out 3 _ rfl
    have y4 := blk_cell bY.out 4 _ rfl
    have y5 := blk_cell bY.out 5 _ rfl
    have y6 := blk_cell bY.out 6 _ rfl
    have y7 := blk_cell bY.out 7 _ rfl
    have y8 := blk_cell bY.out 8 _ rfl
    have HSg := hide (sameGate_any x kx x ky W3 HI.out HY.out)
    rw [sameG_self] at HSg
    unfold gtv at HSg
    go_wp2_with fail
    refine (unhide HSg).mono ?_
    rintro e w4 ⟨rfl, hb⟩
    have HSm := hide (sameMessages_any al ak nl nk cl ck l l w4 (ML.out.below hb).msw (MK.out.below hb).msw hnl hnk (by have := HFw.out; omega) (by have := HFw.out; omega))
    rw [eqM_refl] at HSm
    replace hw := hw.trans (hb.mono hw.size)
    clear hb HSg x0 x1 x2 x3 x4 x5 x6 x7 x8 y0 y1 y2 y3 y4 y5 y6 y7 y8
    go_wp2_with fail
    refine (unhide HSm).mono ?_
    rintro e w5 ⟨rfl, hb⟩
    go_wp2_with fail
    go_ret
    exact ⟨rfl, hw.trans (hb.mono hw.size)⟩
  have dk : (m.k == 7) = false := by simpa using zk
  have hl0 := HQt.out zk
  subst hl0
  obtain rfl : nl = 0 := hnl.symm
  obtain rfl : nk = 0 := hnk.symm
  clear zk HQt ML MK HFw hnl hnk
  have x0 := blk_cell bX.out 0 _ rfl
  have x1 := blk_cell bX.out 1 _ rfl
  have x2 := blk_cell bX.out 2 _ rfl
  have x3 := blk_cell bX.out 3 _ rfl
  have x4 := blk_cell bX.out 4 _ rfl
  have x5 := blk_cell bX.out 5 _ rfl
  have x6 := blk_cell bX.out 6 _ rfl
  have x7 := blk_cell bX.out 7 _ rfl
  have x8 := blk_cell bX.out 8 _ rfl
  have HR1 := hide (gateRead_any x kx W3 HI.out)
  rw [gReadS_0 HOk'.out] at HR1
  unfold gtv at HR1
  go_wp2_with fail
  refine (unhide HR1).mono ?_
  rintro e w4 ⟨rfl, hb⟩
  clear HR1 x0 x1 x2 x3 x4 x5 x6 x7 x8 u0 dk
  have HGs := hide (gReadS_0 HOk'.out)
  generalize gOf x.ws = s at *
  unfold gsv
  dsimp only
  have hb2 : Below W3.heap.size W3 (w4.alloc (.cells #[.int .i64 s.n, .int .i64 s.v, .bool s.co, .bool s.ab, .bool s.en] 82)) := below_new hb _
  have bA := hide (heap_alloc_last w4 (.cells #[.int .i64 s.n, .int .i64 s.v, .bool s.co, .bool s.ab, .bool s.en] 82))
  replace bX := hide (blk_below bX.out hb2)
  replace bY := hide (blk_below bY.out hb2)
  replace HI := hide (HI.out.below hb2)
  replace HY := hide (HY.out.below hb2)
  replace hw := hw.trans (hb2.mono hw.size)
  clear hb hb2
  go_upto_region 11 with fail
  generalize w4.alloc (.cells #[.int .i64 s.n, .int .i64 s.v, .bool s.co, .bool s.ab, .bool s.en] 82) = W4 at *
  generalize w4.heap.size = A at *
  have y0 := blk_cell bY.out 0 _ rfl
  have y1 := blk_cell bY.out 1 _ rfl
  have y2 := blk_cell bY.out 2 _ rfl
  have y3 := blk_cell bY.out 3 _ rfl
  have y4 := blk_cell bY.out 4 _ rfl
  have y5 := blk_cell bY.out 5 _ rfl
  have y6 := blk_cell bY.out 6 _ rfl
  have y7 := blk_cell bY.out 7 _ rfl
  have y8 := blk_cell bY.out 8 _ rfl
  have HR2 := hide (gateRead_any x ky W4 HY.out)
  rw [HGs.out] at HR2
  unfold gtv gsv at HR2
  go_wp2_with fail
  refine (unhide HR2).mono ?_
  rintro e w5 ⟨rfl, hb⟩
  clear HR2 HGs y0 y1 y2 y3 y4 y5 y6 y7 y8
  dsimp only
  have hb2 : Below W4.heap.size W4 (w5.alloc (.cells #[.int .i64 s.n, .int .i64 s.v, .bool s.co, .bool s.ab, .bool s.en] 82)) := below_new hb _
  have bB := hide (heap_alloc_last w5 (.cells #[.int .i64 s.n, .int .i64 s.v, .bool s.co, .bool s.ab, .bool s.en] 82))
  replace bX := hide (blk_below bX.out hb2)
  replace bY := hide (blk_below bY.out hb2)
  replace bA := hide (blk_below bA.out hb2)
  replace HI := hide (HI.out.below hb2)
  replace HY := hide (HY.out.below hb2)
  replace hw := hw.trans (hb2.mono hw.size)
  clear hb hb2
  go_upto_region 12 with fail
  generalize w5.alloc (.cells #[.int .i64 s.n, .int .i64 s.v, .bool s.co, .bool s.ab, .bool s.en] 82) = W5 at *
  generalize w5.heap.size = A2 at *
  have p0 := blk_cell bA.out 0 _ rfl
  have p1 := blk_cell bA.out 1 _ rfl
  have p2 := blk_cell bA.out 2 _ rfl
  have p3 := blk_cell bA.out 3 _ rfl
  have p4 := blk_cell bA.out 4 _ rfl
  have q0 := blk_cell bB.out 0 _ rfl
  have q1 := blk_cell bB.out 1 _ rfl
  have q2 := blk_cell bB.out 2 _ rfl
  have q3 := blk_cell bB.out 3 _ rfl
  have q4 := blk_cell bB.out 4 _ rfl
  have x7 := blk_cell bX.out 7 _ rfl
  have y7 := blk_cell bY.out 7 _ rfl
  have HV := hide (equalB_any kx.av ky.av kx.nv ky.nv kx.cv ky.cv x.vo x.vo W5 HI.out.vo HY.out.vo)
  rw [show eqB x.vo x.vo = true from by unfold eqB; simp] at HV
  go_wp2_with fail
  refine (unhide HV).mono ?_
  rintro e w6 ⟨rfl, n6, rfl⟩
  have hb6 : Below W5.heap.size W5 (W5.drewN n6) := below_drewN (Below.refl _ _) n6
  have HD := hide (equalB_any kx.ad ky.ad kx.nd ky.nd kx.cd ky.cd x.di x.di (W5.drewN n6) (HI.out.below hb6).di (HY.out.below hb6).di)
  rw [show eqB x.di x.di = true from by unfold eqB; simp] at HD
  replace bX := hide (blk_below bX.out hb6)
  replace bY := hide (blk_below bY.out hb6)
  replace hw := hw.trans (hb6.mono hw.size)
  clear HV x7 y7 hb6 p0 q0 p1 q1 p2 q2 p3 q3 p4 q4
  generalize W5.drewN n6 = W6 at *
  have x8 := blk_cell bX.out 8 _ rfl
  have y8 := blk_cell bY.out 8 _ rfl
  go_wp2_with fail
  refine (unhide HD).mono ?_
  rintro e w7 ⟨rfl, n7, rfl⟩
  have hb7 := below_drewN hw n7
  go_wp2_with fail
  go_ret
  exact ⟨rfl, hb7⟩

end Go.Proofs.YtgngpmgjoifepaaGreatDoor

namespace Go.Proofs.YtgngpmgjoifepaaGreatDoor
open Go.RowKit

set_option maxRecDepth 100000 in
theorem gTab : Tryz.prog.globalNamed "internal/strconv.uint64pow10" = some 0 := by kernel_rfl
set_option maxRecDepth 100000 in
theorem gTabType : (Tryz.prog.globals[0]?).map (·.type) = some 292 := by kernel_rfl
set_option maxRecDepth 100000 in
theorem cells_tab : Tryz.prog.cellsOf 292 = 20 := by kernel_rfl
set_option maxRecDepth 100000 in
theorem cells_u64 : Tryz.prog.cellsOf 233 = 1 := by kernel_rfl

theorem tab_head {W : World} {r : List (String × DataW Unit)} (h : laidMet Tryz.prog (("internal/strconv.uint64pow10", Rows.laid_internal_strconv_uint64pow10) :: r) W) : Tab W :=
  Lib.tabIs_of_head (zs := Lib.pow10Tab) gTab gTabType Tryz.underlying292 Tryz.underlying233 cells_u64 cells_tab h

end Go.Proofs.YtgngpmgjoifepaaGreatDoor
