/- The walk of the law GateOnce: a campaign is decided once, and for good. -/
import Derived.Test.YtgngpmgjoifepaaGreatDoorPq38
import Derived.Test.YtgngpmgjoifepaaGreatDoorPq39
import Derived.Test.YtgngpmgjoifepaaGreatDoorPq41
import Derived.Test.YtgngpmgjoifepaaGreatDoorPq3
import Derived.Deep.DeepCutAuto
namespace Go.Proofs.YtgngpmgjoifepaaGreatDoor
open Go.RowKit
attribute [local go_sem ↓] Go.wp_at_zero Go.wp_at_succ

set_option maxRecDepth 100000 in
set_option maxHeartbeats 25600000 in
theorem gateOnce_walk (g : Gt) (k0 : GA) (m : Ms) (am : Option Addr) (nm cm : Nat) (fuel : Int) (give : Bool) (w : World) (h : GIn w k0 g) (hT : Tab w) (hfu : -9223372036854775808 ≤ fuel ∧ fuel ≤ 9223372036854775807) :
    Calls Tryz.prog 6 #[gtv g k0, msv m am nm cm, .int .i64 fuel, .bool give] w fun e w' => e = .returned (.bool true) ∧ Below w.heap.size w w' := by
  obtain ⟨f, hf⟩ : ∃ f, f = fuel % 60 := ⟨_, rfl⟩
  have hw : Below w.heap.size w ((w.alloc (.cells #[.slice k0.a k0.n k0.c, .int .i64 f, .bool g.up, .int .i64 g.t.r.v, .slice k0.ak k0.nk k0.ck, .int .i64 g.t.r.t, .int .i64 g.t.ver, .slice k0.av k0.nv k0.cv, .slice k0.ad k0.nd k0.cd] 68)).alloc (.cells #[.int .i64 m.k, .int .i64 m.u, .int .i64 m.n, .int .i64 m.at', .int .i64 m.im, .slice am nm cm, .bool m.y] 31)) := ((Below.refl _ _).alloc (Nat.le_refl _) _).alloc (by simp) _
  have b0 : Hid (((w.alloc (.cells #[.slice k0.a k0.n k0.c, .int .i64 f, .bool g.up, .int .i64 g.t.r.v, .slice k0.ak k0.nk k0.ck, .int .i64 g.t.r.t, .int .i64 g.t.ver, .slice k0.av k0.nv k0.cv, .slice k0.ad k0.nd k0.cd] 68)).alloc (.cells #[.int .i64 m.k, .int .i64 m.u, .int .i64 m.n, .int .i64 m.at', .int .i64 m.im, .slice am nm cm, .bool m.y] 31)).heap[w.heap.size]? = some (.cells #[.slice k0.a k0.n k0.c, .int .i64 f, .bool g.up, .int .i64 g.t.r.v, .slice k0.ak k0.nk k0.ck, .int .i64 g.t.r.t, .int .i64 g.t.ver, .slice k0.av k0.nv k0.cv, .slice k0.ad k0.nd k0.cd] 68 (0, 0))) := blk_alloc (heap_alloc_last _ _) _
  have b1 : Hid (((w.alloc (.cells #[.slice k0.a k0.n k0.c, .int .i64 f, .bool g.up, .int .i64 g.t.r.v, .slice k0.ak k0.nk k0.ck, .int .i64 g.t.r.t, .int .i64 g.t.ver, .slice k0.av k0.nv k0.cv, .slice k0.ad k0.nd k0.cd] 68)).alloc (.cells #[.int .i64 m.k, .int .i64 m.u, .int .i64 m.n, .int .i64 m.at', .int .i64 m.im, .slice am nm cm, .bool m.y] 31)).heap[w.heap.size + 1]? = some (.cells #[.int .i64 m.k, .int .i64 m.u, .int .i64 m.n, .int .i64 m.at', .int .i64 m.im, .slice am nm cm, .bool m.y] 31 (0, 0))) := uLast1 _ _ _
  have HIn := hide (fun W (hW : Below w.heap.size w W) => (h.fuel f).below hW)
  have HGt := hide (fun W (hW : Below w.heap.size w W) => lawGated_any W (hT.below hW))
  have HAt := hide (fun W => at_any fuel 60 W (by decide) (by decide) hfu)
  rw [← hf] at HAt
  clear h hT hf hfu
  obtain ⟨g1, hg1⟩ : ∃ g1, g1 = fuG g f := ⟨_, rfl⟩
  rw [← hg1] at HIn
  have HVo : Hid (g1.vo = g.vo) := by rw [hg1]; exact hide rfl
  have HGV : Hid (∀ k : GA, gtv g1 k = .agg #[.slice k.a k.n k.c, .int .i64 f, .bool g.up, .int .i64 g.t.r.v, .slice k.ak k.nk k.ck, .int .i64 g.t.r.t, .int .i64 g.t.ver, .slice k.av k.nv k.cv, .slice k.ad k.nd k.cd]) := fun k => by rw [hg1]; rfl
  clear hg1
  have HR0 := hide (fun W (hW : Below w.heap.size w W) => gateRead_any g1 k0 W (HIn.out W hW))
  have HU0 := hide (fun W (hW : Below w.heap.size w W) => giveUp_any g1 k0 W (HIn.out W hW))
  have HH0 := hide (fun W (hW : Below w.heap.size w W) => gateHear_any g1 k0 m am nm cm W (HIn.out W hW))
  rw [HGV.out] at HR0 HU0 HH0
  have HVb := hide (fun W (hW : Below w.heap.size w W) => (HIn.out W hW).vo)
  rw [HVo.out] at HVb
  unfold msv at HH0
  unfold gtv msv
  clear HGV HIn
  go_enter Tryz.func6, Tryz.ntmps6
  go_wp2_with fail
  refine (unhide HAt _).mono ?_
  rintro e w1 ⟨rfl, hb⟩
  subst hb
  go_upto_region 2 with fail
  generalize ((w.alloc (.cells #[.slice k0.a k0.n k0.c, .int .i64 f, .bool g.up, .int .i64 g.t.r.v, .slice k0.ak k0.nk k0.ck, .int .i64 g.t.r.t, .int .i64 g.t.ver, .slice k0.av k0.nv k0.cv, .slice k0.ad k0.nd k0.cd] 68)).alloc (.cells #[.int .i64 m.k, .int .i64 m.u, .int .i64 m.n, .int .i64 m.at', .int .i64 m.im, .slice am nm cm, .bool m.y] 31)) = W at *
  have x0 := blk_cell b0.out 0 _ rfl
  have x1 := blk_cell b0.out 1 _ rfl
  have x2 := blk_cell b0.out 2 _ rfl
  have x3 := blk_cell b0.out 3 _ rfl
  have x4 := blk_cell b0.out 4 _ rfl
  have x5 := blk_cell b0.out 5 _ rfl
  have x6 := blk_cell b0.out 6 _ rfl
  have x7 := blk_cell b0.out 7 _ rfl
  have x8 := blk_cell b0.out 8 _ rfl
  go_wp2_with fail
  refine (unhide HR0 _ hw).mono ?_
  rintro e w2 ⟨rfl, hb⟩
  clear HR0 x0 x1 x2 x3 x4 x5 x6 x7 x8
  obtain ⟨s, q, hsq⟩ : ∃ s q, gReadS g1 = (s, q) := ⟨_, _, rfl⟩
  rw [hsq]
  have HSQ := hide hsq
  clear hsq
  unfold gsv
  dsimp only
  have hb2 : Below W.heap.size W (w2.alloc (.cells #[.int .i64 s.n, .int .i64 s.v, .bool s.co, .bool s.ab, .bool s.en] 82)) := below_new hb _
  have bS := hide (heap_alloc_last w2 (.cells #[.int .i64 s.n, .int .i64 s.v, .bool s.co, .bool s.ab, .bool s.en] 82))
  replace b0 := hide (blk_below b0.out hb2)
  replace b1 := hide (blk_below b1.out hb2)
  replace hw := hw.trans (hb2.mono hw.size)
  clear hb hb2
  go_upto_region 3 with fail
  generalize w2.alloc (.cells #[.int .i64 s.n, .int .i64 s.v, .bool s.co, .bool s.ab, .bool s.en] 82) = W2 at *
  generalize w2.heap.size = S at *
  go_wp2_with fail
  refine (unhide HGt _ hw).mono ?_
  rintro e w3 ⟨rfl, hb⟩
  replace b0 := hide (blk_below b0.out hb)
  replace b1 := hide (blk_below b1.out hb)
  replace bS := hide (blk_below bS.out hb)
  replace hw := hw.trans (hb.mono hw.size)
  clear hb
  by_cases z : q = 0
  rotate_left
  · have d : (q != 0) = true := by simpa using z
    clear z HU0 HH0 HVb
    go_wp2_with fail
    refine (unhide HGt _ hw).mono ?_
    rintro e w4 ⟨rfl, hb⟩
    go_wp2_with fail
    go_ret
    exact ⟨rfl, hw.trans (hb.mono hw.size)⟩
  subst z
  have HS : Hid (gtE g1 = 0 ∧ s = gOf g1.ws) := by have e := HSQ.out; by_cases c : gtE g1 = 0; (rw [gReadS_0 c] at e; exact ⟨c, (congrArg Prod.fst e).symm⟩); (rw [gReadS_e c] at e; exact absurd (congrArg Prod.snd e) c)
  clear HSQ HGt
  have x0 := blk_cell b0.out 0 _ rfl
  have x1 := blk_cell b0.out 1 _ rfl
  have x2 := blk_cell b0.out 2 _ rfl
  have x3 := blk_cell b0.out 3 _ rfl
  have x4 := blk_cell b0.out 4 _ rfl
  have x5 := blk_cell b0.out 5 _ rfl
  have x6 := blk_cell b0.out 6 _ rfl
  have x7 := blk_cell b0.out 7 _ rfl
  have x8 := blk_cell b0.out 8 _ rfl
  go_wp2_with fail
  refine (unhide HU0 _ hw).mono ?_
  rintro e w4 ⟨⟨kx, rfl, hgx, hfx⟩, hb⟩
  clear HU0 x0 x1 x2 x3 x4 x5 x6 x7 x8
  unfold gtv
  obtain ⟨A, hA⟩ : ∃ A, A = gvUp g1 := ⟨_, rfl⟩
  rw [← hA] at hgx ⊢
  have HA := hide hA
  clear hA
  have hb2 : Below w3.heap.size w3 (w4.alloc (.cells #[.slice kx.a kx.n kx.c, .int .i64 A.1.fu, .bool A.1.up, .int .i64 A.1.t.r.v, .slice kx.ak kx.nk kx.ck, .int .i64 A.1.t.r.t, .int .i64 A.1.t.ver, .slice kx.av kx.nv kx.cv, .slice kx.ad kx.nd kx.cd] 68)) := below_new hb _
  have bX := hide (heap_alloc_last w4 (.cells #[.slice kx.a kx.n kx.c, .int .i64 A.1.fu, .bool A.1.up, .int .i64 A.1.t.r.v, .slice kx.ak kx.nk kx.ck, .int .i64 A.1.t.r.t, .int .i64 A.1.t.ver, .slice kx.av kx.nv kx.cv, .slice kx.ad kx.nd kx.cd] 68))
  have hXw := hb.size
  have hb3 : Below w4.heap.size w4 (w4.alloc (.cells #[.slice kx.a kx.n kx.c, .int .i64 A.1.fu, .bool A.1.up, .int .i64 A.1.t.r.v, .slice kx.ak kx.nk kx.ck, .int .i64 A.1.t.r.t, .int .i64 A.1.t.ver, .slice kx.av kx.nv kx.cv, .slice kx.ad kx.nd kx.cd] 68)) := below_new (Below.refl _ _) _
  have HX := hide (hgx.below hb3)
  have hlS := blk_lt bS.out
  have hlM := blk_lt b1.out
  have hlG := blk_lt b0.out
  replace b0 := hide (blk_below b0.out hb2)
  replace b1 := hide (blk_below b1.out hb2)
  replace bS := hide (blk_below bS.out hb2)
  replace hw := hw.trans (hb2.mono hw.size)
  clear hb hb2 hb3 hgx hfx
  go_upto_region 6 with fail
  generalize w4.alloc (.cells #[.slice kx.a kx.n kx.c, .int .i64 A.1.fu, .bool A.1.up, .int .i64 A.1.t.r.v, .slice kx.ak kx.nk kx.ck, .int .i64 A.1.t.r.t, .int .i64 A.1.t.ver, .slice kx.av kx.nv kx.cv, .slice kx.ad kx.nd kx.cd] 68) = W4 at *
  generalize w4.heap.size = X at *
  cases give
  rotate_left
  · have HW : Hid (A.2 = 0 → gtE A.1 = 0 ∧ ∃ n v a, gOf g1.ws = ⟨n, v, false, false, false⟩ ∧ gOf A.1.ws = ⟨n, v, false, a, false⟩) := fun e => by rw [HA.out] at e ⊢; exact give_way e
    clear HA HH0
    obtain ⟨x, q⟩ := A
    dsimp only at *
    go_upto_region 8 with fail
    by_cases zq : q = 0
    rotate_left
    · have dq : (q != 0) = true := by simpa using zq
      clear zq HW HS HVb
      generalize q = qq at *
      go_wp2_with fail
      go_ret
      exact ⟨rfl, hw⟩
    obtain ⟨hok, hway⟩ := HW.out zq
    rw [zq]
    have HBt := hide (gateBoot_any x kx W4 HX.out)
    rw [gBootS_0 hok] at HBt
    have HGs := hide (gReadS_0 (boot_ok hok))
    unfold gtv at HBt
    clear zq hok HW
    have x0 := blk_cell bX.out 0 _ rfl
    have x1 := blk_cell bX.out 1 _ rfl
    have x2 := blk_cell bX.out 2 _ rfl
    have x3 := blk_cell bX.out 3 _ rfl
    have x4 := blk_cell bX.out 4 _ rfl
    have x5 := blk_cell bX.out 5 _ rfl
    have x6 := blk_cell bX.out 6 _ rfl
    have x7 := blk_cell bX.out 7 _ rfl
    have x8 := blk_cell bX.out 8 _ rfl
    go_wp2_with fail
    refine (unhide HBt).mono ?_
    rintro e w6 ⟨⟨ky, rfl, hgy, hfy⟩, hb⟩
    clear HBt HX x0 x1 x2 x3 x4 x5 x6 x7 x8
    have hX6 := blk_lt bX.out
    replace b0 := hide (blk_below b0.out hb)
    replace b1 := hide (blk_below b1.out hb)
    replace bS := hide (blk_below bS.out hb)
    replace bX := hide (blk_below bX.out hb)
    replace hw := hw.trans (hb.mono hw.size)
    dsimp only at hgy ⊢
    unfold gtv
    generalize hy : forgG ⟨x.ws, -1, true, x.t, x.vo, x.di⟩ = y at *
    have HY : Hid (gReadS y = (gOf x.ws, 0)) := by rw [← hy]; exact HGs
    clear HGs hy hb
    have x0 := blk_cell bX.out 0 _ rfl
    have x1 := blk_cell bX.out 1 _ rfl
    have x2 := blk_cell bX.out 2 _ rfl
    have x3 := blk_cell bX.out 3 _ rfl
    have x4 := blk_cell bX.out 4 _ rfl
    have x5 := blk_cell bX.out 5 _ rfl
    have x6 := blk_cell bX.out 6 _ rfl
    have x7 := blk_cell bX.out 7 _ rfl
    have x8 := blk_cell bX.out 8 _ rfl
    have f0 := blk_free bX.out 0
    have f1 := blk_free bX.out 1
    have f2 := blk_free bX.out 2
    have f3 := blk_free bX.out 3
    have f4 := blk_free bX.out 4
    have f5 := blk_free bX.out 5
    have f6 := blk_free bX.out 6
    have f7 := blk_free bX.out 7
    have f8 := blk_free bX.out 8
    go_upto_region 11 with fail
    have hT := turns_set (turns_set (turns_set (turns_set (turns_set (turns_set (turns_set (turns_set (turns_set (World.grownBy.refl w6 (some X)) 0 (.slice ky.a ky.n ky.c)) 1 (.int .i64 y.fu)) 2 (.bool y.up)) 3 (.int .i64 y.t.r.v)) 4 (.slice ky.ak ky.nk ky.ck)) 5 (.int .i64 y.t.r.t)) 6 (.int .i64 y.t.ver)) 7 (.slice ky.av ky.nv ky.cv)) 8 (.slice ky.ad ky.nd ky.cd)
    have bN : Hid ((((((((((w6.setCell ⟨X, 0, none⟩ (.slice ky.a ky.n ky.c)).setCell ⟨X, 1, none⟩ (.int .i64 y.fu)).setCell ⟨X, 2, none⟩ (.bool y.up)).setCell ⟨X, 3, none⟩ (.int .i64 y.t.r.v)).setCell ⟨X, 4, none⟩ (.slice ky.ak ky.nk ky.ck)).setCell ⟨X, 5, none⟩ (.int .i64 y.t.r.t)).setCell ⟨X, 6, none⟩ (.int .i64 y.t.ver)).setCell ⟨X, 7, none⟩ (.slice ky.av ky.nv ky.cv)).setCell ⟨X, 8, none⟩ (.slice ky.ad ky.nd ky.cd)).heap[X]? = some (.cells #[.slice ky.a ky.n ky.c, .int .i64 y.fu, .bool y.up, .int .i64 y.t.r.v, .slice ky.ak ky.nk ky.ck, .int .i64 y.t.r.t, .int .i64 y.t.ver, .slice ky.av ky.nv ky.cv, .slice ky.ad ky.nd ky.cd] 68 (0, 0))) := gt_set9 bX.out
    replace hgy := hgy.turns hfy hX6 hT
    replace b0 := hide (blk_turns b0.out hT (by omega))
    replace b1 := hide (blk_turns b1.out hT (by omega))
    replace bS := hide (blk_turns bS.out hT (by omega))
    replace hw := turns_below hw hT (by omega) hw.size
    clear x0 x1 x2 x3 x4 x5 x6 x7 x8 f0 f1 f2 f3 f4 f5 f6 f7 f8 bX hT hfy hX6
    generalize (((((((((w6.setCell ⟨X, 0, none⟩ (.slice ky.a ky.n ky.c)).setCell ⟨X, 1, none⟩ (.int .i64 y.fu)).setCell ⟨X, 2, none⟩ (.bool y.up)).setCell ⟨X, 3, none⟩ (.int .i64 y.t.r.v)).setCell ⟨X, 4, none⟩ (.slice ky.ak ky.nk ky.ck)).setCell ⟨X, 5, none⟩ (.int .i64 y.t.r.t)).setCell ⟨X, 6, none⟩ (.int .i64 y.t.ver)).setCell ⟨X, 7, none⟩ (.slice ky.av ky.nv ky.cv)).setCell ⟨X, 8, none⟩ (.slice ky.ad ky.nd ky.cd)) = W6 at *
    have HR := hide (gateRead_any y ky W6 hgy)
    rw [HY.out] at HR
    unfold gtv at HR
    have x0 := blk_cell bN.out 0 _ rfl
    have x1 := blk_cell bN.out 1 _ rfl
    have x2 := blk_cell bN.out 2 _ rfl
    have x3 := blk_cell bN.out 3 _ rfl
    have x4 := blk_cell bN.out 4 _ rfl
    have x5 := blk_cell bN.out 5 _ rfl
    have x6 := blk_cell bN.out 6 _ rfl
    have x7 := blk_cell bN.out 7 _ rfl
    have x8 := blk_cell bN.out 8 _ rfl
    go_wp2_with fail
    refine (unhide HR).mono ?_
    rintro e w7 ⟨rfl, hb⟩
    clear HR HY hgy x0 x1 x2 x3 x4 x5 x6 x7 x8
    rw [← HS.out.2] at hway
    generalize gOf x.ws = t at *
    unfold gsv
    dsimp only
    have hb2 : Below W6.heap.size W6 (w7.alloc (.cells #[.int .i64 t.n, .int .i64 t.v, .bool t.co, .bool t.ab, .bool t.en] 82)) := below_new hb _
    have bT := hide (heap_alloc_last w7 (.cells #[.int .i64 t.n, .int .i64 t.v, .bool t.co, .bool t.ab, .bool t.en] 82))
    replace b0 := hide (blk_below b0.out hb2)
    replace b1 := hide (blk_below b1.out hb2)
    replace bS := hide (blk_below bS.out hb2)
    replace hw := hw.trans (hb2.mono hw.size)
    clear hb hb2 bN
    go_upto_region 12 with fail
    generalize w7.alloc (.cells #[.int .i64 t.n, .int .i64 t.v, .bool t.co, .bool t.ab, .bool t.en] 82) = W7 at *
    generalize w7.heap.size = T at *
    obtain ⟨n, v, a, rfl, rfl⟩ := hway
    dsimp only at *
    clear HS HVb
    cases a
    · have s0 := blk_cell bS.out 0 _ rfl
      have s1 := blk_cell bS.out 1 _ rfl
      have s2 := blk_cell bS.out 2 _ rfl
      have s3 := blk_cell bS.out 3 _ rfl
      have s4 := blk_cell bS.out 4 _ rfl
      have t0 := blk_cell bT.out 0 _ rfl
      have t1 := blk_cell bT.out 1 _ rfl
      have t2 := blk_cell bT.out 2 _ rfl
      have t3 := blk_cell bT.out 3 _ rfl
      have t4 := blk_cell bT.out 4 _ rfl
      have u0 := blk_cell b1.out 0 _ rfl
      go_wp2_with fail
      go_ret
      exact ⟨rfl, hw⟩
    · have s0 := blk_cell bS.out 0 _ rfl
      have s1 := blk_cell bS.out 1 _ rfl
      have s2 := blk_cell bS.out 2 _ rfl
      have s3 := blk_cell bS.out 3 _ rfl
      have s4 := blk_cell bS.out 4 _ rfl
      have t0 := blk_cell bT.out 0 _ rfl
      have t1 := blk_cell bT.out 1 _ rfl
      have t2 := blk_cell bT.out 2 _ rfl
      have t3 := blk_cell bT.out 3 _ rfl
      have t4 := blk_cell bT.out 4 _ rfl
      have u0 := blk_cell b1.out 0 _ rfl
      go_wp2_with fail
      go_ret
      exact ⟨rfl, hw⟩
  clear HA
  have u0 := blk_cell b1.out 0 _ rfl
  have u1 := blk_cell b1.out 1 _ rfl
  have u2 := blk_cell b1.out 2 _ rfl
  have u3 := blk_cell b1.out 3 _ rfl
  have u4 := blk_cell b1.out 4 _ rfl
  have u5 := blk_cell b1.out 5 _ rfl
  have u6 := blk_cell b1.out 6 _ rfl
  have x0 := blk_cell b0.out 0 _ rfl
  have x1 := blk_cell b0.out 1 _ rfl
  have x2 := blk_cell b0.out 2 _ rfl
  have x3 := blk_cell b0.out 3 _ rfl
  have x4 := blk_cell b0.out 4 _ rfl
  have x5 := blk_cell b0.out 5 _ rfl
  have x6 := blk_cell b0.out 6 _ rfl
  have x7 := blk_cell b0.out 7 _ rfl
  have x8 := blk_cell b0.out 8 _ rfl
  go_wp2_with fail
  refine (unhide HH0 _ hw).mono ?_
  rintro e w5 ⟨⟨k5, al, nl, cl, rfl, hg5, hf5, -, -, -, -⟩, hb⟩
  clear HH0 HX x0 x1 x2 x3 x4 x5 x6 x7 x8 u0 u1 u2 u3 u4 u5 u6
  unfold gtv
  obtain ⟨R, hR⟩ : ∃ R, R = gHear g1 m := ⟨_, rfl⟩
  rw [← hR] at hg5 ⊢
  have HW : Hid (R.2.2 = 0 → gtE R.1 = 0 ∧ Way g1 m (gOf g1.ws) (gOf R.1.ws)) := fun e => by rw [hR] at e ⊢; exact hear_way e
  clear hR
  have hX5 := blk_lt bX.out
  replace b0 := hide (blk_below b0.out hb)
  replace b1 := hide (blk_below b1.out hb)
  replace bS := hide (blk_below bS.out hb)
  replace bX := hide (blk_below bX.out hb)
  replace hw := hw.trans (hb.mono hw.size)
  clear hb
  have x0 := blk_cell bX.out 0 _ rfl
  have x1 := blk_cell bX.out 1 _ rfl
  have x2 := blk_cell bX.out 2 _ rfl
  have x3 := blk_cell bX.out 3 _ rfl
  have x4 := blk_cell bX.out 4 _ rfl
  have x5 := blk_cell bX.out 5 _ rfl
  have x6 := blk_cell bX.out 6 _ rfl
  have x7 := blk_cell bX.out 7 _ rfl
  have x8 := blk_cell bX.out 8 _ rfl
  have f0 := blk_free bX.out 0
  have f1 := blk_free bX.out 1
  have f2 := blk_free bX.out 2
  have f3 := blk_free bX.out 3
  have f4 := blk_free bX.out 4
  have f5 := blk_free bX.out 5
  have f6 := blk_free bX.out 6
  have f7 := blk_free bX.out 7
  have f8 := blk_free bX.out 8
  go_upto_region 8 with fail
  have hT := turns_set (turns_set (turns_set (turns_set (turns_set (turns_set (turns_set (turns_set (turns_set (World.grownBy.refl w5 (some X)) 0 (.slice k5.a k5.n k5.c)) 1 (.int .i64 R.1.fu)) 2 (.bool R.1.up)) 3 (.int .i64 R.1.t.r.v)) 4 (.slice k5.ak k5.nk k5.ck)) 5 (.int .i64 R.1.t.r.t)) 6 (.int .i64 R.1.t.ver)) 7 (.slice k5.av k5.nv k5.cv)) 8 (.slice k5.ad k5.nd k5.cd)
  have bN : Hid ((((((((((w5.setCell ⟨X, 0, none⟩ (.slice k5.a k5.n k5.c)).setCell ⟨X, 1, none⟩ (.int .i64 R.1.fu)).setCell ⟨X, 2, none⟩ (.bool R.1.up)).setCell ⟨X, 3, none⟩ (.int .i64 R.1.t.r.v)).setCell ⟨X, 4, none⟩ (.slice k5.ak k5.nk k5.ck)).setCell ⟨X, 5, none⟩ (.int .i64 R.1.t.r.t)).setCell ⟨X, 6, none⟩ (.int .i64 R.1.t.ver)).setCell ⟨X, 7, none⟩ (.slice k5.av k5.nv k5.cv)).setCell ⟨X, 8, none⟩ (.slice k5.ad k5.nd k5.cd)).heap[X]? = some (.cells #[.slice k5.a k5.n k5.c, .int .i64 R.1.fu, .bool R.1.up, .int .i64 R.1.t.r.v, .slice k5.ak k5.nk k5.ck, .int .i64 R.1.t.r.t, .int .i64 R.1.t.ver, .slice k5.av k5.nv k5.cv, .slice k5.ad k5.nd k5.cd] 68 (0, 0))) := gt_set9 bX.out
  have HX := hide (hg5.turns hf5 hX5 hT)
  replace b0 := hide (blk_turns b0.out hT (by omega))
  replace b1 := hide (blk_turns b1.out hT (by omega))
  replace bS := hide (blk_turns bS.out hT (by omega))
  replace hw := turns_below hw hT (by omega) hw.size
  clear x0 x1 x2 x3 x4 x5 x6 x7 x8 f0 f1 f2 f3 f4 f5 f6 f7 f8 bX hT hf5 hX5 hg5
  generalize (((((((((w5.setCell ⟨X, 0, none⟩ (.slice k5.a k5.n k5.c)).setCell ⟨X, 1, none⟩ (.int .i64 R.1.fu)).setCell ⟨X, 2, none⟩ (.bool R.1.up)).setCell ⟨X, 3, none⟩ (.int .i64 R.1.t.r.v)).setCell ⟨X, 4, none⟩ (.slice k5.ak k5.nk k5.ck)).setCell ⟨X, 5, none⟩ (.int .i64 R.1.t.r.t)).setCell ⟨X, 6, none⟩ (.int .i64 R.1.t.ver)).setCell ⟨X, 7, none⟩ (.slice k5.av k5.nv k5.cv)).setCell ⟨X, 8, none⟩ (.slice k5.ad k5.nd k5.cd)) = W5 at *
  have bX := bN
  clear bN
  obtain ⟨x, l, q⟩ := R
  dsimp only at *
  by_cases zq : q = 0
  rotate_left
  · have dq : (q != 0) = true := by simpa using zq
    clear zq HW HS HVb
    generalize q = qq at *
    go_wp2_with fail
    go_ret
    exact ⟨rfl, hw⟩
  obtain ⟨hok, hway⟩ := HW.out zq
  rw [zq]
  have HBt := hide (gateBoot_any x k5 W5 HX.out)
  rw [gBootS_0 hok] at HBt
  have HGs := hide (gReadS_0 (boot_ok hok))
  unfold gtv at HBt
  clear zq hok HW
  have x0 := blk_cell bX.out 0 _ rfl
  have x1 := blk_cell bX.out 1 _ rfl
  have x2 := blk_cell bX.out 2 _ rfl
  have x3 := blk_cell bX.out 3 _ rfl
  have x4 := blk_cell bX.out 4 _ rfl
  have x5 := blk_cell bX.out 5 _ rfl
  have x6 := blk_cell bX.out 6 _ rfl
  have x7 := blk_cell bX.out 7 _ rfl
  have x8 := blk_cell bX.out 8 _ rfl
  go_wp2_with fail
  refine (unhide HBt).mono ?_
  rintro e w6 ⟨⟨ky, rfl, hgy, hfy⟩, hb⟩
  clear HBt HX x0 x1 x2 x3 x4 x5 x6 x7 x8
  have hX6 := blk_lt bX.out
  replace b0 := hide (blk_below b0.out hb)
  replace b1 := hide (blk_below b1.out hb)
  replace bS := hide (blk_below bS.out hb)
  replace bX := hide (blk_below bX.out hb)
  replace hw := hw.trans (hb.mono hw.size)
  dsimp only at hgy ⊢
  unfold gtv
  generalize hy : forgG ⟨x.ws, -1, true, x.t, x.vo, x.di⟩ = y at *
  have HY : Hid (gReadS y = (gOf x.ws, 0)) := by rw [← hy]; exact HGs
  clear HGs hy hb
  have x0 := blk_cell bX.out 0 _ rfl
  have x1 := blk_cell bX.out 1 _ rfl
  have x2 := blk_cell bX.out 2 _ rfl
  have x3 := blk_cell bX.out 3 _ rfl
  have x4 := blk_cell bX.out 4 _ rfl
  have x5 := blk_cell bX.out 5 _ rfl
  have x6 := blk_cell bX.out 6 _ rfl
  have x7 := blk_cell bX.out 7 _ rfl
  have x8 := blk_cell bX.out 8 _ rfl
  have f0 := blk_free bX.out 0
  have f1 := blk_free bX.out 1
  have f2 := blk_free bX.out 2
  have f3 := blk_free bX.out 3
  have f4 := blk_free bX.out 4
  have f5 := blk_free bX.out 5
  have f6 := blk_free bX.out 6
  have f7 := blk_free bX.out 7
  have f8 := blk_free bX.out 8
  go_upto_region 11 with fail
  have hT := turns_set (turns_set (turns_set (turns_set (turns_set (turns_set (turns_set (turns_set (turns_set (World.grownBy.refl w6 (some X)) 0 (.slice ky.a ky.n ky.c)) 1 (.int .i64 y.fu)) 2 (.bool y.up)) 3 (.int .i64 y.t.r.v)) 4 (.slice ky.ak ky.nk ky.ck)) 5 (.int .i64 y.t.r.t)) 6 (.int .i64 y.t.ver)) 7 (.slice ky.av ky.nv ky.cv)) 8 (.slice ky.ad ky.nd ky.cd)
  have bN : Hid ((((((((((w6.setCell ⟨X, 0, none⟩ (.slice ky.a ky.n ky.c)).setCell ⟨X, 1, none⟩ (.int .i64 y.fu)).setCell ⟨X, 2, none⟩ (.bool y.up)).setCell ⟨X, 3, none⟩ (.int .i64 y.t.r.v)).setCell ⟨X, 4, none⟩ (.slice ky.ak ky.nk ky.ck)).setCell ⟨X, 5, none⟩ (.int .i64 y.t.r.t)).setCell ⟨X, 6, none⟩ (.int .i64 y.t.ver)).setCell ⟨X, 7, none⟩ (.slice ky.av ky.nv ky.cv)).setCell ⟨X, 8, none⟩ (.slice ky.ad ky.nd ky.cd)).heap[X]? = some (.cells #[.slice ky.a ky.n ky.c, .int .i64 y.fu, .bool y.up, .int .i64 y.t.r.v, .slice ky.ak ky.nk ky.ck, .int .i64 y.t.r.t, .int .i64 y.t.ver, .slice ky.av ky.nv ky.cv, .slice ky.ad ky.nd ky.cd] 68 (0, 0))) := gt_set9 bX.out
  replace hgy := hgy.turns hfy hX6 hT
  replace b0 := hide (blk_turns b0.out hT (by omega))
  replace b1 := hide (blk_turns b1.out hT (by omega))
  replace bS := hide (blk_turns bS.out hT (by omega))
  replace hw := turns_below hw hT (by omega) hw.size
  clear x0 x1 x2 x3 x4 x5 x6 x7 x8 f0 f1 f2 f3 f4 f5 f6 f7 f8 bX hT hfy hX6
  generalize (((((((((w6.setCell ⟨X, 0, none⟩ (.slice ky.a ky.n ky.c)).setCell ⟨X, 1, none⟩ (.int .i64 y.fu)).setCell ⟨X, 2, none⟩ (.bool y.up)).setCell ⟨X, 3, none⟩ (.int .i64 y.t.r.v)).setCell ⟨X, 4, none⟩ (.slice ky.ak ky.nk ky.ck)).setCell ⟨X, 5, none⟩ (.int .i64 y.t.r.t)).setCell ⟨X, 6, none⟩ (.int .i64 y.t.ver)).setCell ⟨X, 7, none⟩ (.slice ky.av ky.nv ky.cv)).setCell ⟨X, 8, none⟩ (.slice ky.ad ky.nd ky.cd)) = W6 at *
  have HR := hide (gateRead_any y ky W6 hgy)
  rw [HY.out] at HR
  unfold gtv at HR
  have x0 := blk_cell bN.out 0 _ rfl
  have x1 := blk_cell bN.out 1 _ rfl
  have x2 := blk_cell bN.out 2 _ rfl
  have x3 := blk_cell bN.out 3 _ rfl
  have x4 := blk_cell bN.out 4 _ rfl
  have x5 := blk_cell bN.out 5 _ rfl
  have x6 := blk_cell bN.out 6 _ rfl
  have x7 := blk_cell bN.out 7 _ rfl
  have x8 := blk_cell bN.out 8 _ rfl
  go_wp2_with fail
  refine (unhide HR).mono ?_
  rintro e w7 ⟨rfl, hb⟩
  clear HR HY hgy x0 x1 x2 x3 x4 x5 x6 x7 x8
  rw [← HS.out.2] at hway
  generalize gOf x.ws = t at *
  unfold gsv
  dsimp only
  have hb2 : Below W6.heap.size W6 (w7.alloc (.cells #[.int .i64 t.n, .int .i64 t.v, .bool t.co, .bool t.ab, .bool t.en] 82)) := below_new hb _
  have bT := hide (heap_alloc_last w7 (.cells #[.int .i64 t.n, .int .i64 t.v, .bool t.co, .bool t.ab, .bool t.en] 82))
  replace b0 := hide (blk_below b0.out hb2)
  replace b1 := hide (blk_below b1.out hb2)
  replace bS := hide (blk_below bS.out hb2)
  replace hw := hw.trans (hb2.mono hw.size)
  clear hb hb2 bN
  go_upto_region 12 with fail
  generalize w7.alloc (.cells #[.int .i64 t.n, .int .i64 t.v, .bool t.co, .bool t.ab, .bool t.en] 82) = W7 at *
  generalize w7.heap.size = T at *
  clear HS
  rcases hway with ⟨n, v, ⟨rfl, rfl⟩ | ⟨rfl, rfl⟩ | ⟨rfl, rfl⟩ | ⟨rfl, rfl⟩ | ⟨rfl, rfl⟩ | ⟨rfl, rfl, hvo⟩ | ⟨rfl, rfl, hk6⟩ | ⟨rfl, rfl, hk6⟩⟩
  · clear HVb
    have s0 := blk_cell bS.out 0 _ rfl
    have s1 := blk_cell bS.out 1 _ rfl
    have s2 := blk_cell bS.out 2 _ rfl
    have s3 := blk_cell bS.out 3 _ rfl
    have s4 := blk_cell bS.out 4 _ rfl
    have t0 := blk_cell bT.out 0 _ rfl
    have t1 := blk_cell bT.out 1 _ rfl
    have t2 := blk_cell bT.out 2 _ rfl
    have t3 := blk_cell bT.out 3 _ rfl
    have t4 := blk_cell bT.out 4 _ rfl
    have u0 := blk_cell b1.out 0 _ rfl
    go_wp2_with fail
    go_ret
    exact ⟨rfl, hw⟩
  · clear HVb
    have s0 := blk_cell bS.out 0 _ rfl
    have s1 := blk_cell bS.out 1 _ rfl
    have s2 := blk_cell bS.out 2 _ rfl
    have s3 := blk_cell bS.out 3 _ rfl
    have s4 := blk_cell bS.out 4 _ rfl
    have t0 := blk_cell bT.out 0 _ rfl
    have t1 := blk_cell bT.out 1 _ rfl
    have t2 := blk_cell bT.out 2 _ rfl
    have t3 := blk_cell bT.out 3 _ rfl
    have t4 := blk_cell bT.out 4 _ rfl
    have u0 := blk_cell b1.out 0 _ rfl
    go_wp2_with fail
    go_ret
    exact ⟨rfl, hw⟩
  · clear HVb
    have s0 := blk_cell bS.out 0 _ rfl
    have s1 := blk_cell bS.out 1 _ rfl
    have s2 := blk_cell bS.out 2 _ rfl
    have s3 := blk_cell bS.out 3 _ rfl
    have s4 := blk_cell bS.out 4 _ rfl
    have t0 := blk_cell bT.out 0 _ rfl
    have t1 := blk_cell bT.out 1 _ rfl
    have t2 := blk_cell bT.out 2 _ rfl
    have t3 := blk_cell bT.out 3 _ rfl
    have t4 := blk_cell bT.out 4 _ rfl
    have u0 := blk_cell b1.out 0 _ rfl
    go_wp2_with fail
    go_ret
    exact ⟨rfl, hw⟩
  · clear HVb
    have s0 := blk_cell bS.out 0 _ rfl
    have s1 := blk_cell bS.out 1 _ rfl
    have s2 := blk_cell bS.out 2 _ rfl
    have s3 := blk_cell bS.out 3 _ rfl
    have s4 := blk_cell bS.out 4 _ rfl
    have t0 := blk_cell bT.out 0 _ rfl
    have t1 := blk_cell bT.out 1 _ rfl
    have t2 := blk_cell bT.out 2 _ rfl
    have t3 := blk_cell bT.out 3 _ rfl
    have t4 := blk_cell bT.out 4 _ rfl
    have u0 := blk_cell b1.out 0 _ rfl
    go_wp2_with fail
    go_ret
    exact ⟨rfl, hw⟩
  · clear HVb
    have s0 := blk_cell bS.out 0 _ rfl
    have s1 := blk_cell bS.out 1 _ rfl
    have s2 := blk_cell bS.out 2 _ rfl
    have s3 := blk_cell bS.out 3 _ rfl
    have s4 := blk_cell bS.out 4 _ rfl
    have t0 := blk_cell bT.out 0 _ rfl
    have t1 := blk_cell bT.out 1 _ rfl
    have t2 := blk_cell bT.out 2 _ rfl
    have t3 := blk_cell bT.out 3 _ rfl
    have t4 := blk_cell bT.out 4 _ rfl
    have u0 := blk_cell b1.out 0 _ rfl
    go_wp2_with fail
    go_ret
    exact ⟨rfl, hw⟩
  · obtain ⟨m3, my, mn, hall, hu0, hul⟩ := hvo
    rw [HVo.out] at hall hul
    have HVW := hide ((unhide HVb) W7 hw)
    clear HVb
    have s0 := blk_cell bS.out 0 _ rfl
    have s1 := blk_cell bS.out 1 _ rfl
    have s2 := blk_cell bS.out 2 _ rfl
    have s3 := blk_cell bS.out 3 _ rfl
    have s4 := blk_cell bS.out 4 _ rfl
    have t0 := blk_cell bT.out 0 _ rfl
    have t1 := blk_cell bT.out 1 _ rfl
    have t2 := blk_cell bT.out 2 _ rfl
    have t3 := blk_cell bT.out 3 _ rfl
    have t4 := blk_cell bT.out 4 _ rfl
    have u0 := blk_cell b1.out 0 _ rfl
    have u1 := blk_cell b1.out 1 _ rfl
    have u2 := blk_cell b1.out 2 _ rfl
    have u6 := blk_cell b1.out 6 _ rfl
    rw [m3] at u0
    rw [my] at u6
    rw [mn] at u2
    have x7 := blk_cell b0.out 7 _ rfl
    have hlen := HVW.out.len
    have hul2 : m.u < (k0.nv : Int) := by omega
    clear m3 my mn hul
    have HAll := hide hall
    clear hall
    have hnv := HVW.out.max
    unfold maxLen at hnv
    go_wp2_with fail
    go_loopw [158] (fun i wr => ∃ k : Nat, k ≤ k0.nv ∧ i = .int .i64 k ∧ wr = W7) (fun i _ => k0.nv - (intOf i).toNat)
    case atStart => exact ⟨0, Nat.zero_le _, rfl, rfl⟩
    case round =>
      obtain ⟨k, hk, rfl, hwr⟩ := hrel
      subst hwr
      by_cases hlt : k < k0.nv
      · obtain ⟨bv, ov, hav, hvc⟩ := bools_at HVW.out k (by omega)
        have x7' := x7
        rw [hav] at x7'
        have HKU := hide (fun hf => all_but HAll.out hu0 (k := k) (by omega) hf)
        have hltI : (k : Int) < (k0.nv : Int) := by omega
        cases hvk : g.vo.getD k false
        · rw [hvk] at hvc
          have hku : m.u = (k : Int) := (HKU.out hvk).symm
          rw [hku] at u1
          have dku : ((k : Int) != (k : Int)) = false := by simp
          clear hvk hku HKU
          go_wp2_with fail
          go_roundw
          case rel => exact ⟨k + 1, by omega, by go_num, trivial⟩
          case measure => simp [intOf]; omega
        · rw [hvk] at hvc
          clear hvk HKU
          go_wp2_with fail
          go_roundw
          case rel => exact ⟨k + 1, by omega, by go_num, trivial⟩
          case measure => simp [intOf]; omega
      · go_wp2_with fail
        go_ret
        exact ⟨rfl, hw⟩
  · clear HVb
    have s0 := blk_cell bS.out 0 _ rfl
    have s1 := blk_cell bS.out 1 _ rfl
    have s2 := blk_cell bS.out 2 _ rfl
    have s3 := blk_cell bS.out 3 _ rfl
    have s4 := blk_cell bS.out 4 _ rfl
    have t0 := blk_cell bT.out 0 _ rfl
    have t1 := blk_cell bT.out 1 _ rfl
    have t2 := blk_cell bT.out 2 _ rfl
    have t3 := blk_cell bT.out 3 _ rfl
    have t4 := blk_cell bT.out 4 _ rfl
    have u0 := blk_cell b1.out 0 _ rfl
    rw [hk6] at u0
    clear hk6
    go_wp2_with fail
    go_ret
    exact ⟨rfl, hw⟩
  · clear HVb
    have s0 := blk_cell bS.out 0 _ rfl
    have s1 := blk_cell bS.out 1 _ rfl
    have s2 := blk_cell bS.out 2 _ rfl
    have s3 := blk_cell bS.out 3 _ rfl
    have s4 := blk_cell bS.out 4 _ rfl
    have t0 := blk_cell bT.out 0 _ rfl
    have t1 := blk_cell bT.out 1 _ rfl
    have t2 := blk_cell bT.out 2 _ rfl
    have t3 := blk_cell bT.out 3 _ rfl
    have t4 := blk_cell bT.out 4 _ rfl
    have u0 := blk_cell b1.out 0 _ rfl
    rw [hk6] at u0
    clear hk6
    go_wp2_with fail
    go_ret
    exact ⟨rfl, hw⟩

end Go.Proofs.YtgngpmgjoifepaaGreatDoor
