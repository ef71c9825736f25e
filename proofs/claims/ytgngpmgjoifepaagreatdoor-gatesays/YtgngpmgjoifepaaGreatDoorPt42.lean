/- The walk of the law GateSays: any gateway is made, checked, booted, begins a campaign, or gives it up, as the document says, errors too. -/
import Derived.Test.YtgngpmgjoifepaaGreatDoorPt27
import Derived.Test.YtgngpmgjoifepaaGreatDoorPt29
import Derived.Test.YtgngpmgjoifepaaGreatDoorPt40
import Derived.Test.YtgngpmgjoifepaaGreatDoorPt41
import Derived.Test.YtgngpmgjoifepaaGreatDoorPt28
import Derived.Deep.CutBlock
import Derived.BigRegion
namespace Go.Proofs.YtgngpmgjoifepaaGreatDoor
open Go.RowKit
attribute [local go_sem ↓] Go.wp_at_zero Go.wp_at_succ

/-- What is wrong with a root and a number of units. -/
def nwE (r : Rt) (units : Int) : Int := if inB units 1 4 = false then 3 else r.e
theorem gtE_new {r : Rt} {units : Int} (h : inB units 1 4 = true) : gtE (gNw r units) = r.e := by
  unfold gtE
  have h1 : lchk (gNw r units).ws (gNw r units).fu = 0 := by unfold gNw; dsimp only; decide +kernel
  have h2 : gtB (gNw r units) = true := by
    unfold gtB gNw
    unfold inB at h ⊢
    simp at h ⊢
    omega
  rw [if_neg (by simpa using h1), if_pos h2]
  unfold gNw
  exact trE_go (show inR 0 0 1000 = true by decide)
theorem gNew_nw {r : Rt} {units : Int} (h : nwE r units ≠ 0) : gNew r units = (gt0, nwE r units) := by
  unfold nwE at *
  cases z : inB units 1 4
  · rw [gNew_3 z]; rfl
  · rw [z] at h
    rw [if_neg (by decide)] at h ⊢
    rw [gNew_e z (by rw [gtE_new z]; exact h), gtE_new z]
theorem gNew_ok {r : Rt} {units : Int} (h : nwE r units = 0) : inB units 1 4 = true ∧ gNew r units = (gNw r units, 0) := by
  unfold nwE at h
  cases z : inB units 1 4
  · rw [z] at h; cases h
  · rw [z] at h
    rw [if_neg (by decide)] at h
    exact ⟨rfl, gNew_0 z (by rw [gtE_new z]; exact h)⟩
theorem upE_bad {g : Gt} (h : gtE g ≠ 0) : upE g = gtE g := by unfold upE; rw [if_pos h]
theorem say9 {W W' : World} {B : Nat} {v0 v1 v2 v3 v4 v5 v6 v7 v8 : Value} {t : TypeId} (h : W.heap[B]? = some (.cells #[v0, v1, v2, v3, v4, v5, v6, v7, v8] t (0, 0))) (hb : Below W.heap.size W W') : W'.cell? ⟨B, 0, none⟩ = some v0 ∧ W'.cell? ⟨B, 1, none⟩ = some v1 ∧ W'.cell? ⟨B, 2, none⟩ = some v2 ∧ W'.cell? ⟨B, 3, none⟩ = some v3 ∧ W'.cell? ⟨B, 4, none⟩ = some v4 ∧ W'.cell? ⟨B, 5, none⟩ = some v5 ∧ W'.cell? ⟨B, 6, none⟩ = some v6 ∧ W'.cell? ⟨B, 7, none⟩ = some v7 ∧ W'.cell? ⟨B, 8, none⟩ = some v8 := by
  have q := blk_below h hb
  exact ⟨blk_cell q 0 _ rfl, blk_cell q 1 _ rfl, blk_cell q 2 _ rfl, blk_cell q 3 _ rfl, blk_cell q 4 _ rfl, blk_cell q 5 _ rfl, blk_cell q 6 _ rfl, blk_cell q 7 _ rfl, blk_cell q 8 _ rfl⟩
theorem say5 {W W' : World} {B : Nat} {v0 v1 v2 v3 v4 : Value} {t : TypeId} (h : W.heap[B]? = some (.cells #[v0, v1, v2, v3, v4] t (0, 0))) (hb : Below W.heap.size W W') : W'.cell? ⟨B, 0, none⟩ = some v0 ∧ W'.cell? ⟨B, 1, none⟩ = some v1 ∧ W'.cell? ⟨B, 2, none⟩ = some v2 ∧ W'.cell? ⟨B, 3, none⟩ = some v3 ∧ W'.cell? ⟨B, 4, none⟩ = some v4 := by
  have q := blk_below h hb
  exact ⟨blk_cell q 0 _ rfl, blk_cell q 1 _ rfl, blk_cell q 2 _ rfl, blk_cell q 3 _ rfl, blk_cell q 4 _ rfl⟩
theorem say3 {W W' : World} {B : Nat} {v0 v1 v2 : Value} {t : TypeId} (h : W.heap[B]? = some (.cells #[v0, v1, v2] t (0, 0))) (hb : Below W.heap.size W W') : W'.cell? ⟨B, 0, none⟩ = some v0 ∧ W'.cell? ⟨B, 1, none⟩ = some v1 ∧ W'.cell? ⟨B, 2, none⟩ = some v2 := by
  have q := blk_below h hb
  exact ⟨blk_cell q 0 _ rfl, blk_cell q 1 _ rfl, blk_cell q 2 _ rfl⟩
set_option maxRecDepth 100000 in
set_option maxHeartbeats 25600000 in
theorem gateSays_walk (ab : Option Addr) (nb cb : Nat) (ss : List ByteArray) (a1 : Option Addr) (n1 c1 : Nat) (l : List S2) (g : Gt) (k0 : GA) (o : Of) (m : OA) (now : Int) (r : Rt) (ar : Option Addr) (nr cr : Nat) (units : Int) (w : World)
    (hb0 : BB w ab nb cb ss) (hl : BG w a1 n1 l) (h : GIn w k0 g) (ho : BO w m o) (hr : BI w ar nr r.ks) (hwf : ∀ k ∈ o.sigs, WfI k) (hwr : ∀ s ∈ o.rsigs, ∀ k ∈ s, WfI k) (hT : Tab w)
    (h1 : k0.n * 8 ≤ 140737488351232) (h2 : k0.nk * 8 ≤ 140737488351232) (h3 : k0.nv ≤ 140737488351232) (h4 : k0.nd ≤ 140737488351232) :
    Calls Tryz.prog 4 #[bookv ab nb cb, .slice a1 n1 c1, gtv g k0, offv o.v o.u m, .int .i64 now, .agg #[.int .i64 r.v, .slice ar nr cr, .int .i64 r.t], .int .i64 units] w fun e w' => e = .returned (.bool true) ∧ Below w.heap.size w w' := by
  have hw : Below w.heap.size w ((((w.alloc (.cells #[.slice ab nb cb] 24)).alloc (.cells #[.slice k0.a k0.n k0.c, .int .i64 g.fu, .bool g.up, .int .i64 g.t.r.v, .slice k0.ak k0.nk k0.ck, .int .i64 g.t.r.t, .int .i64 g.t.ver, .slice k0.av k0.nv k0.cv, .slice k0.ad k0.nd k0.cd] 68)).alloc (.cells #[.slice m.a1 m.n1 m.c1, .slice m.a2 m.n2 m.c2, .int .i64 o.v, .int .i64 o.u, .slice m.a3 m.n3 m.c3, .slice m.a4 m.n4 m.c4, .slice m.a5 m.n5 m.c5] 75)).alloc (.cells #[.int .i64 r.v, .slice ar nr cr, .int .i64 r.t] 63)) := ((((Below.refl _ _).alloc (Nat.le_refl _) _).alloc (by simp) _).alloc (by simp; omega) _).alloc (by simp; omega) _
  have bb : Hid (((((w.alloc (.cells #[.slice ab nb cb] 24)).alloc (.cells #[.slice k0.a k0.n k0.c, .int .i64 g.fu, .bool g.up, .int .i64 g.t.r.v, .slice k0.ak k0.nk k0.ck, .int .i64 g.t.r.t, .int .i64 g.t.ver, .slice k0.av k0.nv k0.cv, .slice k0.ad k0.nd k0.cd] 68)).alloc (.cells #[.slice m.a1 m.n1 m.c1, .slice m.a2 m.n2 m.c2, .int .i64 o.v, .int .i64 o.u, .slice m.a3 m.n3 m.c3, .slice m.a4 m.n4 m.c4, .slice m.a5 m.n5 m.c5] 75)).alloc (.cells #[.int .i64 r.v, .slice ar nr cr, .int .i64 r.t] 63)).heap[w.heap.size]? = some (.cells #[.slice ab nb cb] 24 (0, 0))) := blk_alloc (blk_alloc (blk_alloc (heap_alloc_last _ _) _) _) _
  have bg : Hid (((((w.alloc (.cells #[.slice ab nb cb] 24)).alloc (.cells #[.slice k0.a k0.n k0.c, .int .i64 g.fu, .bool g.up, .int .i64 g.t.r.v, .slice k0.ak k0.nk k0.ck, .int .i64 g.t.r.t, .int .i64 g.t.ver, .slice k0.av k0.nv k0.cv, .slice k0.ad k0.nd k0.cd] 68)).alloc (.cells #[.slice m.a1 m.n1 m.c1, .slice m.a2 m.n2 m.c2, .int .i64 o.v, .int .i64 o.u, .slice m.a3 m.n3 m.c3, .slice m.a4 m.n4 m.c4, .slice m.a5 m.n5 m.c5] 75)).alloc (.cells #[.int .i64 r.v, .slice ar nr cr, .int .i64 r.t] 63)).heap[w.heap.size + 1]? = some (.cells #[.slice k0.a k0.n k0.c, .int .i64 g.fu, .bool g.up, .int .i64 g.t.r.v, .slice k0.ak k0.nk k0.ck, .int .i64 g.t.r.t, .int .i64 g.t.ver, .slice k0.av k0.nv k0.cv, .slice k0.ad k0.nd k0.cd] 68 (0, 0))) := blk_alloc (blk_alloc (uLast1 _ _ _) _) _
  have bo : Hid (((((w.alloc (.cells #[.slice ab nb cb] 24)).alloc (.cells #[.slice k0.a k0.n k0.c, .int .i64 g.fu, .bool g.up, .int .i64 g.t.r.v, .slice k0.ak k0.nk k0.ck, .int .i64 g.t.r.t, .int .i64 g.t.ver, .slice k0.av k0.nv k0.cv, .slice k0.ad k0.nd k0.cd] 68)).alloc (.cells #[.slice m.a1 m.n1 m.c1, .slice m.a2 m.n2 m.c2, .int .i64 o.v, .int .i64 o.u, .slice m.a3 m.n3 m.c3, .slice m.a4 m.n4 m.c4, .slice m.a5 m.n5 m.c5] 75)).alloc (.cells #[.int .i64 r.v, .slice ar nr cr, .int .i64 r.t] 63)).heap[w.heap.size + 1 + 1]? = some (.cells #[.slice m.a1 m.n1 m.c1, .slice m.a2 m.n2 m.c2, .int .i64 o.v, .int .i64 o.u, .slice m.a3 m.n3 m.c3, .slice m.a4 m.n4 m.c4, .slice m.a5 m.n5 m.c5] 75 (0, 0))) := blk_alloc (uLast2 _ _ _ _) _
  have br : Hid (((((w.alloc (.cells #[.slice ab nb cb] 24)).alloc (.cells #[.slice k0.a k0.n k0.c, .int .i64 g.fu, .bool g.up, .int .i64 g.t.r.v, .slice k0.ak k0.nk k0.ck, .int .i64 g.t.r.t, .int .i64 g.t.ver, .slice k0.av k0.nv k0.cv, .slice k0.ad k0.nd k0.cd] 68)).alloc (.cells #[.slice m.a1 m.n1 m.c1, .slice m.a2 m.n2 m.c2, .int .i64 o.v, .int .i64 o.u, .slice m.a3 m.n3 m.c3, .slice m.a4 m.n4 m.c4, .slice m.a5 m.n5 m.c5] 75)).alloc (.cells #[.int .i64 r.v, .slice ar nr cr, .int .i64 r.t] 63)).heap[w.heap.size + 1 + 1 + 1]? = some (.cells #[.int .i64 r.v, .slice ar nr cr, .int .i64 r.t] 63 (0, 0))) := uLast3 _ _ _ _ _
  have HP := hide (fun W (hW : Below w.heap.size w W) => h.below hW)
  have HGt := hide (fun W (hW : Below w.heap.size w W) => lawGated_any W (hT.below hW))
  have HO := hide (fun W (hW : Below w.heap.size w W) => ownGate_any g k0 W (h.below hW) h1 h2 h3 h4)
  have HC := hide (fun W (hW : Below w.heap.size w W) => refCheckGate_any g k0 W (h.below hW))
  have HCp := hide (fun W (hW : Below w.heap.size w W) => gateCheck_any g k0 W (h.below hW))
  have HBg := hide (fun k W (hW : Below w.heap.size w W) hk => gateBegin_any ab nb cb ss a1 n1 c1 l g k o m now W (hb0.below hW) (hl.below hW) hk (ho.below hW) (hT.below hW))
  have HNw := hide (fun W (hW : Below w.heap.size w W) => gateNew_any r ar nr cr units W (hr.below hW))
  have HRt := hide (fun W (hW : Below w.heap.size w W) => refCheckRoot_any r.v ar nr cr r.t r.ks W (hr.below hW).at_ hr.len hr.max)
  have HRN := hide (fun un (hun : un ≤ 4) W (hW : Below w.heap.size w W) => refNew_any r ar nr cr un W (hr.below hW) hun)
  have HRB := hide (fun hg W (hW : Below w.heap.size w W) => refBegins_any ab nb cb ss a1 n1 c1 l g k0 o m now W (hb0.below hW) (hl.below hW) (h.below hW) (ho.below hW) hwf hwr (hT.below hW) h1 h2 h3 h4 hg)
  have HRU := hide (fun hg W (hW : Below w.heap.size w W) => refGivesUp_any g k0 W (h.below hW) h1 h2 h3 h4 hg)
  have HSt := hide (fun hl2 W (hW : Below w.heap.size w W) => refState_any g k0 W (h.below hW) hl2)
  have hlv := h.vo.len
  have hld := h.di.len
  clear hb0 hl h ho hr hwf hwr hT h1 h2 h3 h4
  unfold gtv at HO HC HCp HRU HSt
  unfold gtv bookv offv at HRB
  unfold bookv offv at HBg
  unfold rv at HRt
  unfold gsv at HSt
  unfold gtv bookv offv
  have x0 := blk_cell bg.out 0 _ rfl
  have x1 := blk_cell bg.out 1 _ rfl
  have x2 := blk_cell bg.out 2 _ rfl
  have x3 := blk_cell bg.out 3 _ rfl
  have x4 := blk_cell bg.out 4 _ rfl
  have x5 := blk_cell bg.out 5 _ rfl
  have x6 := blk_cell bg.out 6 _ rfl
  have x7 := blk_cell bg.out 7 _ rfl
  have x8 := blk_cell bg.out 8 _ rfl
  go_enter Tryz.func4, Tryz.ntmps4
  go_wp2_with fail
  generalize ((((w.alloc (.cells #[.slice ab nb cb] 24)).alloc (.cells #[.slice k0.a k0.n k0.c, .int .i64 g.fu, .bool g.up, .int .i64 g.t.r.v, .slice k0.ak k0.nk k0.ck, .int .i64 g.t.r.t, .int .i64 g.t.ver, .slice k0.av k0.nv k0.cv, .slice k0.ad k0.nd k0.cd] 68)).alloc (.cells #[.slice m.a1 m.n1 m.c1, .slice m.a2 m.n2 m.c2, .int .i64 o.v, .int .i64 o.u, .slice m.a3 m.n3 m.c3, .slice m.a4 m.n4 m.c4, .slice m.a5 m.n5 m.c5] 75)).alloc (.cells #[.int .i64 r.v, .slice ar nr cr, .int .i64 r.t] 63)) = W at *
  refine (unhide HO _ hw).mono ?_
  rintro e w1 ⟨⟨k, bv, bd, rfl, ho⟩, hb⟩
  clear x0 x1 x2 x3 x4 x5 x6 x7 x8
  unfold gtv
  go_upto_region 2 with fail
  have hb1 : Below W.heap.size W (w1.alloc (.cells #[.slice k.a k.n k.c, .int .i64 g.fu, .bool g.up, .int .i64 g.t.r.v, .slice k.ak k.nk k.ck, .int .i64 g.t.r.t, .int .i64 g.t.ver, .slice k.av k.nv k.cv, .slice k.ad k.nd k.cd] 68)) := below_new hb _
  have hbz : Below w1.heap.size w1 (w1.alloc (.cells #[.slice k.a k.n k.c, .int .i64 g.fu, .bool g.up, .int .i64 g.t.r.v, .slice k.ak k.nk k.ck, .int .i64 g.t.r.t, .int .i64 g.t.ver, .slice k.av k.nv k.cv, .slice k.ad k.nd k.cd] 68)) := below_new (Below.refl _ _) _
  have HK := hide (ho.gin.below hbz)
  replace bb := hide (blk_below bb.out hb1)
  replace bg := hide (blk_below bg.out hb1)
  replace bo := hide (blk_below bo.out hb1)
  replace br := hide (blk_below br.out hb1)
  replace hw := hw.trans (hb1.mono hw.size)
  have bO := hide (heap_alloc_last w1 (.cells #[.slice k.a k.n k.c, .int .i64 g.fu, .bool g.up, .int .i64 g.t.r.v, .slice k.ak k.nk k.ck, .int .i64 g.t.r.t, .int .i64 g.t.ver, .slice k.av k.nv k.cv, .slice k.ad k.nd k.cd] 68))
  clear hb hb1 hbz
  clear ho
  generalize w1.alloc (.cells #[.slice k.a k.n k.c, .int .i64 g.fu, .bool g.up, .int .i64 g.t.r.v, .slice k.ak k.nk k.ck, .int .i64 g.t.r.t, .int .i64 g.t.ver, .slice k.av k.nv k.cv, .slice k.ad k.nd k.cd] 68) = W1 at *
  generalize w1.heap.size = O at *
  have HB1 := hide (HBg.out k _ hw HK.out)
  unfold gtv at HB1
  have x0 := blk_cell bO.out 0 _ rfl
  have x1 := blk_cell bO.out 1 _ rfl
  have x2 := blk_cell bO.out 2 _ rfl
  have x3 := blk_cell bO.out 3 _ rfl
  have x4 := blk_cell bO.out 4 _ rfl
  have x5 := blk_cell bO.out 5 _ rfl
  have x6 := blk_cell bO.out 6 _ rfl
  have x7 := blk_cell bO.out 7 _ rfl
  have x8 := blk_cell bO.out 8 _ rfl
  have y0 := blk_cell bb.out 0 _ rfl
  have o0 := blk_cell bo.out 0 _ rfl
  have o1 := blk_cell bo.out 1 _ rfl
  have o2 := blk_cell bo.out 2 _ rfl
  have o3 := blk_cell bo.out 3 _ rfl
  have o4 := blk_cell bo.out 4 _ rfl
  have o5 := blk_cell bo.out 5 _ rfl
  have o6 := blk_cell bo.out 6 _ rfl
  go_wp2_with fail
  refine (unhide HB1).mono ?_
  have HEb := hide (fun hz : gtE g ≠ 0 => (gBeg_1 (ss := ss) (l := l) (o := o) (now := now) (by rw [upE_bad hz]; exact hz)).trans (by rw [upE_bad hz]))
  generalize gBeg ss l g o now = R1 at *
  obtain ⟨xg, xn, xe⟩ := R1
  try dsimp only at *
  rintro e w2 ⟨⟨kx, rfl, hgx, -⟩, hb⟩
  clear HB1 HBg y0 x0 x1 x2 x3 x4 x5 x6 x7 x8 o0 o1 o2 o3 o4 o5 o6
  try dsimp only at *
  unfold gtv
  go_upto_region 3 with fail
  have hb1 : Below W1.heap.size W1 (w2.alloc (.cells #[.slice kx.a kx.n kx.c, .int .i64 xg.fu, .bool xg.up, .int .i64 xg.t.r.v, .slice kx.ak kx.nk kx.ck, .int .i64 xg.t.r.t, .int .i64 xg.t.ver, .slice kx.av kx.nv kx.cv, .slice kx.ad kx.nd kx.cd] 68)) := below_new hb _
  have hbz : Below w2.heap.size w2 (w2.alloc (.cells #[.slice kx.a kx.n kx.c, .int .i64 xg.fu, .bool xg.up, .int .i64 xg.t.r.v, .slice kx.ak kx.nk kx.ck, .int .i64 xg.t.r.t, .int .i64 xg.t.ver, .slice kx.av kx.nv kx.cv, .slice kx.ad kx.nd kx.cd] 68)) := below_new (Below.refl _ _) _
  have HX := hide (hgx.below hbz)
  replace bb := hide (blk_below bb.out hb1)
  replace bg := hide (blk_below bg.out hb1)
  replace bo := hide (blk_below bo.out hb1)
  replace br := hide (blk_below br.out hb1)
  replace bO := hide (blk_below bO.out hb1)
  replace HK := hide (HK.out.below hb1)
  replace hw := hw.trans (hb1.mono hw.size)
  have bX := hide (heap_alloc_last w2 (.cells #[.slice kx.a kx.n kx.c, .int .i64 xg.fu, .bool xg.up, .int .i64 xg.t.r.v, .slice kx.ak kx.nk kx.ck, .int .i64 xg.t.r.t, .int .i64 xg.t.ver, .slice kx.av kx.nv kx.cv, .slice kx.ad kx.nd kx.cd] 68))
  clear hb hb1 hbz
  clear hgx
  generalize w2.alloc (.cells #[.slice kx.a kx.n kx.c, .int .i64 xg.fu, .bool xg.up, .int .i64 xg.t.r.v, .slice kx.ak kx.nk kx.ck, .int .i64 xg.t.r.t, .int .i64 xg.t.ver, .slice kx.av kx.nv kx.cv, .slice kx.ad kx.nd kx.cd] 68) = W2 at *
  generalize w2.heap.size = X at *
  have HB1 := hide (giveUp_any g k W2 HK.out)
  unfold gtv at HB1
  have x0 := blk_cell bO.out 0 _ rfl
  have x1 := blk_cell bO.out 1 _ rfl
  have x2 := blk_cell bO.out 2 _ rfl
  have x3 := blk_cell bO.out 3 _ rfl
  have x4 := blk_cell bO.out 4 _ rfl
  have x5 := blk_cell bO.out 5 _ rfl
  have x6 := blk_cell bO.out 6 _ rfl
  have x7 := blk_cell bO.out 7 _ rfl
  have x8 := blk_cell bO.out 8 _ rfl
  go_wp2_with fail
  refine (unhide HB1).mono ?_
  have HEu := hide (fun hz : gtE g ≠ 0 => (gvUp_e (by rw [upE_bad hz]; exact hz)).trans (by rw [upE_bad hz]))
  generalize gvUp g = R1 at *
  obtain ⟨yg, ye⟩ := R1
  try dsimp only at *
  rintro e w3 ⟨⟨ky, rfl, hgx, -⟩, hb⟩
  clear HB1 x0 x1 x2 x3 x4 x5 x6 x7 x8
  try dsimp only at *
  unfold gtv
  go_upto_region 4 with fail
  have hb1 : Below W2.heap.size W2 (w3.alloc (.cells #[.slice ky.a ky.n ky.c, .int .i64 yg.fu, .bool yg.up, .int .i64 yg.t.r.v, .slice ky.ak ky.nk ky.ck, .int .i64 yg.t.r.t, .int .i64 yg.t.ver, .slice ky.av ky.nv ky.cv, .slice ky.ad ky.nd ky.cd] 68)) := below_new hb _
  have hbz : Below w3.heap.size w3 (w3.alloc (.cells #[.slice ky.a ky.n ky.c, .int .i64 yg.fu, .bool yg.up, .int .i64 yg.t.r.v, .slice ky.ak ky.nk ky.ck, .int .i64 yg.t.r.t, .int .i64 yg.t.ver, .slice ky.av ky.nv ky.cv, .slice ky.ad ky.nd ky.cd] 68)) := below_new (Below.refl _ _) _
  have HY := hide (hgx.below hbz)
  replace bb := hide (blk_below bb.out hb1)
  replace bg := hide (blk_below bg.out hb1)
  replace bo := hide (blk_below bo.out hb1)
  replace br := hide (blk_below br.out hb1)
  replace bO := hide (blk_below bO.out hb1)
  replace bX := hide (blk_below bX.out hb1)
  replace HK := hide (HK.out.below hb1)
  replace HX := hide (HX.out.below hb1)
  replace hw := hw.trans (hb1.mono hw.size)
  have bY := hide (heap_alloc_last w3 (.cells #[.slice ky.a ky.n ky.c, .int .i64 yg.fu, .bool yg.up, .int .i64 yg.t.r.v, .slice ky.ak ky.nk ky.ck, .int .i64 yg.t.r.t, .int .i64 yg.t.ver, .slice ky.av ky.nv ky.cv, .slice ky.ad ky.nd ky.cd] 68))
  clear hb hb1 hbz
  clear hgx
  generalize w3.alloc (.cells #[.slice ky.a ky.n ky.c, .int .i64 yg.fu, .bool yg.up, .int .i64 yg.t.r.v, .slice ky.ak ky.nk ky.ck, .int .i64 yg.t.r.t, .int .i64 yg.t.ver, .slice ky.av ky.nv ky.cv, .slice ky.ad ky.nd ky.cd] 68) = W3 at *
  generalize w3.heap.size = Y at *
  have HB1 := hide (gateBoot_any g k W3 HK.out)
  unfold gtv at HB1
  have x0 := blk_cell bO.out 0 _ rfl
  have x1 := blk_cell bO.out 1 _ rfl
  have x2 := blk_cell bO.out 2 _ rfl
  have x3 := blk_cell bO.out 3 _ rfl
  have x4 := blk_cell bO.out 4 _ rfl
  have x5 := blk_cell bO.out 5 _ rfl
  have x6 := blk_cell bO.out 6 _ rfl
  have x7 := blk_cell bO.out 7 _ rfl
  have x8 := blk_cell bO.out 8 _ rfl
  go_wp2_with fail
  refine (unhide HB1).mono ?_
  have HEz := hide (fun hz : gtE g ≠ 0 => gBootS_e (g := g) hz)
  have HEz0 := hide (fun hz : gtE g = 0 => gBootS_0 (g := g) hz)
  generalize gBootS g = R1 at *
  obtain ⟨zg, ze⟩ := R1
  try dsimp only at *
  rintro e w4 ⟨⟨kz, rfl, hgx, -⟩, hb⟩
  clear HB1 x0 x1 x2 x3 x4 x5 x6 x7 x8
  try dsimp only at *
  unfold gtv
  go_upto_region 5 with fail
  have hb1 : Below W3.heap.size W3 (w4.alloc (.cells #[.slice kz.a kz.n kz.c, .int .i64 zg.fu, .bool zg.up, .int .i64 zg.t.r.v, .slice kz.ak kz.nk kz.ck, .int .i64 zg.t.r.t, .int .i64 zg.t.ver, .slice kz.av kz.nv kz.cv, .slice kz.ad kz.nd kz.cd] 68)) := below_new hb _
  have hbz : Below w4.heap.size w4 (w4.alloc (.cells #[.slice kz.a kz.n kz.c, .int .i64 zg.fu, .bool zg.up, .int .i64 zg.t.r.v, .slice kz.ak kz.nk kz.ck, .int .i64 zg.t.r.t, .int .i64 zg.t.ver, .slice kz.av kz.nv kz.cv, .slice kz.ad kz.nd kz.cd] 68)) := below_new (Below.refl _ _) _
  have HZ := hide (hgx.below hbz)
  replace bb := hide (blk_below bb.out hb1)
  replace bg := hide (blk_below bg.out hb1)
  replace bo := hide (blk_below bo.out hb1)
  replace br := hide (blk_below br.out hb1)
  replace bO := hide (blk_below bO.out hb1)
  replace bX := hide (blk_below bX.out hb1)
  replace bY := hide (blk_below bY.out hb1)
  replace HK := hide (HK.out.below hb1)
  replace HX := hide (HX.out.below hb1)
  replace HY := hide (HY.out.below hb1)
  replace hw := hw.trans (hb1.mono hw.size)
  have bZ := hide (heap_alloc_last w4 (.cells #[.slice kz.a kz.n kz.c, .int .i64 zg.fu, .bool zg.up, .int .i64 zg.t.r.v, .slice kz.ak kz.nk kz.ck, .int .i64 zg.t.r.t, .int .i64 zg.t.ver, .slice kz.av kz.nv kz.cv, .slice kz.ad kz.nd kz.cd] 68))
  clear hb hb1 hbz
  clear hgx
  generalize w4.alloc (.cells #[.slice kz.a kz.n kz.c, .int .i64 zg.fu, .bool zg.up, .int .i64 zg.t.r.v, .slice kz.ak kz.nk kz.ck, .int .i64 zg.t.r.t, .int .i64 zg.t.ver, .slice kz.av kz.nv kz.cv, .slice kz.ad kz.nd kz.cd] 68) = W4 at *
  generalize w4.heap.size = Z at *
  have HB1 := hide (gateRead_any g k W4 HK.out)
  unfold gtv at HB1
  have x0 := blk_cell bO.out 0 _ rfl
  have x1 := blk_cell bO.out 1 _ rfl
  have x2 := blk_cell bO.out 2 _ rfl
  have x3 := blk_cell bO.out 3 _ rfl
  have x4 := blk_cell bO.out 4 _ rfl
  have x5 := blk_cell bO.out 5 _ rfl
  have x6 := blk_cell bO.out 6 _ rfl
  have x7 := blk_cell bO.out 7 _ rfl
  have x8 := blk_cell bO.out 8 _ rfl
  go_wp2_with fail
  refine (unhide HB1).mono ?_
  have HEs := hide (fun hz : gtE g ≠ 0 => gReadS_e (g := g) hz)
  have HEs0 := hide (fun hz : gtE g = 0 => gReadS_0 (g := g) hz)
  generalize gReadS g = R1 at *
  obtain ⟨s, se⟩ := R1
  try dsimp only at *
  rintro e w5 ⟨rfl, hb⟩
  clear HB1 x0 x1 x2 x3 x4 x5 x6 x7 x8
  unfold gsv
  try dsimp only at *
  go_upto_region 6 with fail
  have hb1 : Below W4.heap.size W4 (w5.alloc (.cells #[.int .i64 s.n, .int .i64 s.v, .bool s.co, .bool s.ab, .bool s.en] 82)) := below_new hb _
  have hbz : Below w5.heap.size w5 (w5.alloc (.cells #[.int .i64 s.n, .int .i64 s.v, .bool s.co, .bool s.ab, .bool s.en] 82)) := below_new (Below.refl _ _) _
  replace bb := hide (blk_below bb.out hb1)
  replace bg := hide (blk_below bg.out hb1)
  replace bo := hide (blk_below bo.out hb1)
  replace br := hide (blk_below br.out hb1)
  replace bO := hide (blk_below bO.out hb1)
  replace bX := hide (blk_below bX.out hb1)
  replace bY := hide (blk_below bY.out hb1)
  replace bZ := hide (blk_below bZ.out hb1)
  replace HK := hide (HK.out.below hb1)
  replace HX := hide (HX.out.below hb1)
  replace HY := hide (HY.out.below hb1)
  replace HZ := hide (HZ.out.below hb1)
  replace hw := hw.trans (hb1.mono hw.size)
  have bS := hide (heap_alloc_last w5 (.cells #[.int .i64 s.n, .int .i64 s.v, .bool s.co, .bool s.ab, .bool s.en] 82))
  clear hb hb1 hbz
  generalize w5.alloc (.cells #[.int .i64 s.n, .int .i64 s.v, .bool s.co, .bool s.ab, .bool s.en] 82) = W5 at *
  generalize w5.heap.size = S at *
  have x0 := blk_cell br.out 0 _ rfl
  have x1 := blk_cell br.out 1 _ rfl
  have x2 := blk_cell br.out 2 _ rfl
  go_wp2_with fail
  refine (unhide HNw _ hw).mono ?_
  have HEn := hide (fun hz => gNew_nw (r := r) (units := units) hz)
  have HEn0 := hide (fun hz => gNew_ok (r := r) (units := units) hz)
  generalize gNew r units = R1 at *
  obtain ⟨mg, me⟩ := R1
  try dsimp only at *
  rintro e w6 ⟨⟨km, rfl, hgx, -⟩, hb⟩
  clear HNw x0 x1 x2
  try dsimp only at *
  unfold gtv
  go_upto_region 7 with fail
  have hb1 : Below W5.heap.size W5 (w6.alloc (.cells #[.slice km.a km.n km.c, .int .i64 mg.fu, .bool mg.up, .int .i64 mg.t.r.v, .slice km.ak km.nk km.ck, .int .i64 mg.t.r.t, .int .i64 mg.t.ver, .slice km.av km.nv km.cv, .slice km.ad km.nd km.cd] 68)) := below_new hb _
  have hbz : Below w6.heap.size w6 (w6.alloc (.cells #[.slice km.a km.n km.c, .int .i64 mg.fu, .bool mg.up, .int .i64 mg.t.r.v, .slice km.ak km.nk km.ck, .int .i64 mg.t.r.t, .int .i64 mg.t.ver, .slice km.av km.nv km.cv, .slice km.ad km.nd km.cd] 68)) := below_new (Below.refl _ _) _
  have HM := hide (hgx.below hbz)
  replace bb := hide (blk_below bb.out hb1)
  replace bg := hide (blk_below bg.out hb1)
  replace bo := hide (blk_below bo.out hb1)
  replace br := hide (blk_below br.out hb1)
  replace bO := hide (blk_below bO.out hb1)
  replace bX := hide (blk_below bX.out hb1)
  replace bY := hide (blk_below bY.out hb1)
  replace bZ := hide (blk_below bZ.out hb1)
  replace bS := hide (blk_below bS.out hb1)
  replace HK := hide (HK.out.below hb1)
  replace HX := hide (HX.out.below hb1)
  replace HY := hide (HY.out.below hb1)
  replace HZ := hide (HZ.out.below hb1)
  replace hw := hw.trans (hb1.mono hw.size)
  have bM := hide (heap_alloc_last w6 (.cells #[.slice km.a km.n km.c, .int .i64 mg.fu, .bool mg.up, .int .i64 mg.t.r.v, .slice km.ak km.nk km.ck, .int .i64 mg.t.r.t, .int .i64 mg.t.ver, .slice km.av km.nv km.cv, .slice km.ad km.nd km.cd] 68))
  clear hb hb1 hbz
  clear hgx
  generalize w6.alloc (.cells #[.slice km.a km.n km.c, .int .i64 mg.fu, .bool mg.up, .int .i64 mg.t.r.v, .slice km.ak km.nk km.ck, .int .i64 mg.t.r.t, .int .i64 mg.t.ver, .slice km.av km.nv km.cv, .slice km.ad km.nd km.cd] 68) = W6 at *
  generalize w6.heap.size = M at *
  have hb : Below W6.heap.size W6 W6 := Below.refl _ _
  go_upto_region 8 with fail
  have hb1 : Below W6.heap.size W6 (W6.alloc (.cells #[.slice none 0 0, .int .i64 0, .bool false, .int .i64 0, .slice none 0 0, .int .i64 0, .int .i64 0, .slice none 0 0, .slice none 0 0] 68)) := below_new hb _
  have hbz : Below W6.heap.size W6 (W6.alloc (.cells #[.slice none 0 0, .int .i64 0, .bool false, .int .i64 0, .slice none 0 0, .int .i64 0, .int .i64 0, .slice none 0 0, .slice none 0 0] 68)) := below_new (Below.refl _ _) _
  replace bb := hide (blk_below bb.out hb1)
  replace bg := hide (blk_below bg.out hb1)
  replace bo := hide (blk_below bo.out hb1)
  replace br := hide (blk_below br.out hb1)
  replace bO := hide (blk_below bO.out hb1)
  replace bX := hide (blk_below bX.out hb1)
  replace bY := hide (blk_below bY.out hb1)
  replace bZ := hide (blk_below bZ.out hb1)
  replace bS := hide (blk_below bS.out hb1)
  replace bM := hide (blk_below bM.out hb1)
  replace HK := hide (HK.out.below hb1)
  replace HX := hide (HX.out.below hb1)
  replace HY := hide (HY.out.below hb1)
  replace HZ := hide (HZ.out.below hb1)
  replace HM := hide (HM.out.below hb1)
  replace hw := hw.trans (hb1.mono hw.size)
  have bN := hide (heap_alloc_last W6 (.cells #[.slice none 0 0, .int .i64 0, .bool false, .int .i64 0, .slice none 0 0, .int .i64 0, .int .i64 0, .slice none 0 0, .slice none 0 0] 68))
  clear hb hb1 hbz
  generalize W6.alloc (.cells #[.slice none 0 0, .int .i64 0, .bool false, .int .i64 0, .slice none 0 0, .int .i64 0, .int .i64 0, .slice none 0 0, .slice none 0 0] 68) = W7 at *
  generalize W6.heap.size = NN at *
  have x0 := blk_cell bg.out 0 _ rfl
  have x1 := blk_cell bg.out 1 _ rfl
  have x2 := blk_cell bg.out 2 _ rfl
  have x3 := blk_cell bg.out 3 _ rfl
  have x4 := blk_cell bg.out 4 _ rfl
  have x5 := blk_cell bg.out 5 _ rfl
  have x6 := blk_cell bg.out 6 _ rfl
  have x7 := blk_cell bg.out 7 _ rfl
  have x8 := blk_cell bg.out 8 _ rfl
  go_wp2_with fail
  refine (unhide HC _ hw).mono ?_
  rintro e w8 ⟨rfl, hb⟩
  clear HC x0 x1 x2 x3 x4 x5 x6 x7 x8
  replace bb := hide (blk_below bb.out hb)
  replace bg := hide (blk_below bg.out hb)
  replace bo := hide (blk_below bo.out hb)
  replace br := hide (blk_below br.out hb)
  replace bO := hide (blk_below bO.out hb)
  replace bX := hide (blk_below bX.out hb)
  replace bY := hide (blk_below bY.out hb)
  replace bZ := hide (blk_below bZ.out hb)
  replace bS := hide (blk_below bS.out hb)
  replace bM := hide (blk_below bM.out hb)
  replace bN := hide (blk_below bN.out hb)
  replace HK := hide (HK.out.below hb)
  replace HX := hide (HX.out.below hb)
  replace HY := hide (HY.out.below hb)
  replace HZ := hide (HZ.out.below hb)
  replace HM := hide (HM.out.below hb)
  replace hw := hw.trans (hb.mono hw.size)
  clear hb
  go_wp2_with fail
  refine (unhide HGt _ hw).mono ?_
  rintro e w9 ⟨rfl, hb⟩
  clear HGt
  replace bb := hide (blk_below bb.out hb)
  replace bg := hide (blk_below bg.out hb)
  replace bo := hide (blk_below bo.out hb)
  replace br := hide (blk_below br.out hb)
  replace bO := hide (blk_below bO.out hb)
  replace bX := hide (blk_below bX.out hb)
  replace bY := hide (blk_below bY.out hb)
  replace bZ := hide (blk_below bZ.out hb)
  replace bS := hide (blk_below bS.out hb)
  replace bM := hide (blk_below bM.out hb)
  replace bN := hide (blk_below bN.out hb)
  replace HK := hide (HK.out.below hb)
  replace HX := hide (HX.out.below hb)
  replace HY := hide (HY.out.below hb)
  replace HZ := hide (HZ.out.below hb)
  replace HM := hide (HM.out.below hb)
  replace hw := hw.trans (hb.mono hw.size)
  clear hb
  have x0 := blk_cell bg.out 0 _ rfl
  have x1 := blk_cell bg.out 1 _ rfl
  have x2 := blk_cell bg.out 2 _ rfl
  have x3 := blk_cell bg.out 3 _ rfl
  have x4 := blk_cell bg.out 4 _ rfl
  have x5 := blk_cell bg.out 5 _ rfl
  have x6 := blk_cell bg.out 6 _ rfl
  have x7 := blk_cell bg.out 7 _ rfl
  have x8 := blk_cell bg.out 8 _ rfl
  go_wp2_with fail
  refine (unhide HCp _ hw).mono ?_
  rintro e w10 ⟨rfl, hb⟩
  clear HCp x0 x1 x2 x3 x4 x5 x6 x7 x8
  replace bb := hide (blk_below bb.out hb)
  replace bg := hide (blk_below bg.out hb)
  replace bo := hide (blk_below bo.out hb)
  replace br := hide (blk_below br.out hb)
  replace bO := hide (blk_below bO.out hb)
  replace bX := hide (blk_below bX.out hb)
  replace bY := hide (blk_below bY.out hb)
  replace bZ := hide (blk_below bZ.out hb)
  replace bS := hide (blk_below bS.out hb)
  replace bM := hide (blk_below bM.out hb)
  replace bN := hide (blk_below bN.out hb)
  replace HK := hide (HK.out.below hb)
  replace HX := hide (HX.out.below hb)
  replace HY := hide (HY.out.below hb)
  replace HZ := hide (HZ.out.below hb)
  replace HM := hide (HM.out.below hb)
  replace hw := hw.trans (hb.mono hw.size)
  clear hb
  have HSm := hide (sameGate_any g k g k0 w10 HK.out (HP.out _ hw))
  rw [sameG_self] at HSm
  unfold gtv at HSm
  have o0 := blk_cell bO.out 0 _ rfl
  have o1 := blk_cell bO.out 1 _ rfl
  have o2 := blk_cell bO.out 2 _ rfl
  have o3 := blk_cell bO.out 3 _ rfl
  have o4 := blk_cell bO.out 4 _ rfl
  have o5 := blk_cell bO.out 5 _ rfl
  have o6 := blk_cell bO.out 6 _ rfl
  have o7 := blk_cell bO.out 7 _ rfl
  have o8 := blk_cell bO.out 8 _ rfl
  have x0 := blk_cell bg.out 0 _ rfl
  have x1 := blk_cell bg.out 1 _ rfl
  have x2 := blk_cell bg.out 2 _ rfl
  have x3 := blk_cell bg.out 3 _ rfl
  have x4 := blk_cell bg.out 4 _ rfl
  have x5 := blk_cell bg.out 5 _ rfl
  have x6 := blk_cell bg.out 6 _ rfl
  have x7 := blk_cell bg.out 7 _ rfl
  have x8 := blk_cell bg.out 8 _ rfl
  have dg : (gtE g != gtE g) = false := by simp
  go_wp2_with fail
  refine (unhide HSm).mono ?_
  rintro e w11 ⟨rfl, hb⟩
  clear HSm dg x0 x1 x2 x3 x4 x5 x6 x7 x8 o0 o1 o2 o3 o4 o5 o6 o7 o8
  replace bb := hide (blk_below bb.out hb)
  replace bg := hide (blk_below bg.out hb)
  replace bo := hide (blk_below bo.out hb)
  replace br := hide (blk_below br.out hb)
  replace bO := hide (blk_below bO.out hb)
  replace bX := hide (blk_below bX.out hb)
  replace bY := hide (blk_below bY.out hb)
  replace bZ := hide (blk_below bZ.out hb)
  replace bS := hide (blk_below bS.out hb)
  replace bM := hide (blk_below bM.out hb)
  replace bN := hide (blk_below bN.out hb)
  replace HK := hide (HK.out.below hb)
  replace HX := hide (HX.out.below hb)
  replace HY := hide (HY.out.below hb)
  replace HZ := hide (HZ.out.below hb)
  replace HM := hide (HM.out.below hb)
  replace hw := hw.trans (hb.mono hw.size)
  clear hb
  go_upto_region 12 with fail
  go_cut [91] (fun v wx => v = .bool (!inB units 1 4) ∧ wx = w11)
  case first =>
    by_cases q1 : units < 1
    · have HE : Hid ((!inB units 1 4) = true) := by show _ = _; unfold inB; simp; omega
      go_wp2_with fail
      go_meet
      case rel => exact ⟨by rw [HE.out], rfl⟩
    by_cases q2 : 4 < units
    · have HE : Hid ((!inB units 1 4) = true) := by show _ = _; unfold inB; simp; omega
      go_wp2_with fail
      go_meet
      case rel => exact ⟨by rw [HE.out], rfl⟩
    have HE : Hid ((!inB units 1 4) = false) := by show _ = _; unfold inB; simp; omega
    go_wp2_with fail
    go_meet
    case rel => exact ⟨by rw [HE.out], rfl⟩
  case rest =>
  obtain ⟨rfl, hW⟩ := hcut
  replace hW := hW.symm
  subst hW
  have HQ : Hid (∀ b, inB units 1 4 = b → nwE r units = if b = false then 3 else rootE r.v r.ks r.t) := fun b e => by unfold nwE; rw [e]; rfl
  have HQ2 : Hid (nwE r units = if inB units 1 4 = false then 3 else rootE r.v r.ks r.t) := HQ.out _ rfl
  generalize inB units 1 4 = bq at HQ2 ⊢
  clear HQ
  go_upto_if 91 with fail
  go_cut [29] (fun v wx => v = .int .i64 (nwE r units) ∧ Below w11.heap.size w11 wx)
  case first =>
    cases bq
    · have HE : Hid (nwE r units = 3) := HQ2.out
      go_wp2_with fail
      go_meet
      case rel => exact ⟨by rw [HE.out], Below.refl _ _⟩
    · have HE : Hid (nwE r units = rootE r.v r.ks r.t) := HQ2.out
      have x0 := blk_cell br.out 0 _ rfl
      have x1 := blk_cell br.out 1 _ rfl
      have x2 := blk_cell br.out 2 _ rfl
      go_wp2_with fail
      refine (unhide HRt _ hw).mono ?_
      rintro e w12 ⟨rfl, hb⟩
      have HB9 := hide hb
      clear hb
      go_wp2_with fail
      go_meet
      case rel => exact ⟨by rw [HE.out], HB9.out⟩
  case rest =>
  obtain ⟨rfl, hb⟩ := hcut
  obtain ⟨w12, rfl⟩ : ∃ w12 : World, w12 = wc := ⟨_, rfl⟩
  clear HRt HQ2
  replace bb := hide (blk_below bb.out hb)
  replace bg := hide (blk_below bg.out hb)
  replace bo := hide (blk_below bo.out hb)
  replace br := hide (blk_below br.out hb)
  replace bO := hide (blk_below bO.out hb)
  replace bX := hide (blk_below bX.out hb)
  replace bY := hide (blk_below bY.out hb)
  replace bZ := hide (blk_below bZ.out hb)
  replace bS := hide (blk_below bS.out hb)
  replace bM := hide (blk_below bM.out hb)
  replace bN := hide (blk_below bN.out hb)
  replace HK := hide (HK.out.below hb)
  replace HX := hide (HX.out.below hb)
  replace HY := hide (HY.out.below hb)
  replace HZ := hide (HZ.out.below hb)
  replace HM := hide (HM.out.below hb)
  replace hw := hw.trans (hb.mono hw.size)
  clear hb
  go_upto_region 15 with fail
  go_upto_if 95 with fail
  go_cut [28] (fun v wx => v = .int .i64 (gtE g) ∧ Below w12.heap.size w12 wx)
  case first =>
    as_aux_lemma =>
    by_cases qn : nwE r units = 0
    rotate_left
    · have e2 := HEn.out qn
      have d : (nwE r units != 0) = true := by simpa using qn
      have d2 : (nwE r units != nwE r units) = false := by simp
      cases e2
      clear HEn HEn0 qn HRN HRB HRU HSt
      generalize nwE r units = nq at *
      have HSm := hide (sameGate_any gt0 km gt0 ga0 w12 HM.out (gin0 _))
      rw [sameG_self] at HSm
      unfold gtv gt0 ga0 at HSm
      unfold gt0 at bM
      have x0 := blk_cell bM.out 0 _ rfl
      have x1 := blk_cell bM.out 1 _ rfl
      have x2 := blk_cell bM.out 2 _ rfl
      have x3 := blk_cell bM.out 3 _ rfl
      have x4 := blk_cell bM.out 4 _ rfl
      have x5 := blk_cell bM.out 5 _ rfl
      have x6 := blk_cell bM.out 6 _ rfl
      have x7 := blk_cell bM.out 7 _ rfl
      have x8 := blk_cell bM.out 8 _ rfl
      have y0 := blk_cell bN.out 0 _ rfl
      have y1 := blk_cell bN.out 1 _ rfl
      have y2 := blk_cell bN.out 2 _ rfl
      have y3 := blk_cell bN.out 3 _ rfl
      have y4 := blk_cell bN.out 4 _ rfl
      have y5 := blk_cell bN.out 5 _ rfl
      have y6 := blk_cell bN.out 6 _ rfl
      have y7 := blk_cell bN.out 7 _ rfl
      have y8 := blk_cell bN.out 8 _ rfl
      go_wp2_with fail
      refine (unhide HSm).mono ?_
      rintro e w13 ⟨rfl, hb⟩
      have HB9 := hide hb
      clear hb HSm
      go_wp2_with fail
      go_meet
      case rel => exact ⟨rfl, HB9.out⟩
    obtain ⟨qi, e2⟩ := HEn0.out qn
    cases e2
    have d : (nwE r units != 0) = false := by rw [qn]; rfl
    obtain ⟨un, hun, hu4⟩ : ∃ v : Nat, units = (v : Int) ∧ v ≤ 4 := ⟨units.toNat, by unfold inB at qi; simp at qi; omega, by unfold inB at qi; simp at qi; omega⟩
    have HRN1 := hide (HRN.out un hu4)
    rw [← hun] at HRN1
    clear HEn HEn0 qn qi HRN HRB HRU HSt hun hu4 un
    go_upto_region 18 with fail
    refine wp_region_held_drew (S := fun W' => (W'.cell? ⟨M, 0, none⟩ = some (.slice km.a km.n km.c) ∧ W'.cell? ⟨M, 1, none⟩ = some (.int .i64 (gNw r units).fu) ∧ W'.cell? ⟨M, 2, none⟩ = some (.bool (gNw r units).up) ∧ W'.cell? ⟨M, 3, none⟩ = some (.int .i64 (gNw r units).t.r.v) ∧ W'.cell? ⟨M, 4, none⟩ = some (.slice km.ak km.nk km.ck) ∧ W'.cell? ⟨M, 5, none⟩ = some (.int .i64 (gNw r units).t.r.t) ∧ W'.cell? ⟨M, 6, none⟩ = some (.int .i64 (gNw r units).t.ver) ∧ W'.cell? ⟨M, 7, none⟩ = some (.slice km.av km.nv km.cv) ∧ W'.cell? ⟨M, 8, none⟩ = some (.slice km.ad km.nd km.cd)) ∧ (W'.cell? ⟨w.heap.size + 1 + 1 + 1, 0, none⟩ = some (.int .i64 r.v) ∧ W'.cell? ⟨w.heap.size + 1 + 1 + 1, 1, none⟩ = some (.slice ar nr cr) ∧ W'.cell? ⟨w.heap.size + 1 + 1 + 1, 2, none⟩ = some (.int .i64 r.t)) ∧ Below w12.heap.size w12 W') (by kernel_rfl) ⟨say9 bM.out (Below.refl _ _).drew, say3 br.out (Below.refl _ _).drew, (Below.refl _ _).drew⟩ ?_
    intro hHeld
    refine wpAnyH_take (i := 0) (v := ?_) (by simp only [List.getElem?_toArray, List.getElem?_cons_zero]; rfl) (by kernel_rfl) (by kernel_rfl) (by kernel_rfl) (by exact fun _ _ _ h => h) (Or.inl ⟨by rfl, ?_⟩) (by assumption) ?_
    rotate_left
    · intro w hSw
      try dsimp only at hSw
      go_simp
      try with_reducible rfl
    try simp only [Act.put, List.setIfInBounds_toArray, List.set_cons_zero, List.set_cons_succ]
    refine wpAnyH_take (i := 1) (v := ?_) (by simp only [List.getElem?_toArray, List.getElem?_cons_zero, List.getElem?_cons_succ]; rfl) (by kernel_rfl) (by kernel_rfl) (by kernel_rfl) (by exact fun _ _ _ h => h) (Or.inl ⟨by rfl, ?_⟩) (by assumption) ?_
    rotate_left
    · intro w hSw
      try dsimp only at hSw
      go_simp
      try with_reducible rfl
    try simp only [Act.put, List.setIfInBounds_toArray, List.set_cons_zero, List.set_cons_succ]
    refine wpAnyH_take (i := 2) (v := ?_) (by simp only [List.getElem?_toArray, List.getElem?_cons_zero, List.getElem?_cons_succ]; rfl) (by kernel_rfl) (by kernel_rfl) (by kernel_rfl) (by exact fun _ _ _ h => h) (Or.inl ⟨by rfl, ?_⟩) (by assumption) ?_
    rotate_left
    · intro w hSw
      try dsimp only at hSw
      go_simp
      try with_reducible rfl
    try simp only [Act.put, List.setIfInBounds_toArray, List.set_cons_zero, List.set_cons_succ]
    refine wpAnyH_take (i := 3) (v := ?_) (by simp only [List.getElem?_toArray, List.getElem?_cons_zero, List.getElem?_cons_succ]; rfl) (by kernel_rfl) (by kernel_rfl) (by kernel_rfl) (by exact fun _ _ _ h => h) (Or.inl ⟨by rfl, ?_⟩) (by assumption) ?_
    rotate_left
    · intro w hSw
      try dsimp only at hSw
      go_simp
      try with_reducible rfl
    try simp only [Act.put, List.setIfInBounds_toArray, List.set_cons_zero, List.set_cons_succ]
    refine wpAnyH_take (i := 4) (v := ?_) (by simp only [List.getElem?_toArray, List.getElem?_cons_zero, List.getElem?_cons_succ]; rfl) (by kernel_rfl) (by kernel_rfl) (by kernel_rfl) (by exact fun _ _ _ h => h) (Or.inl ⟨by rfl, ?_⟩) (by assumption) ?_
    rotate_left
    · intro w hSw
      try dsimp only at hSw
      go_simp
      try with_reducible rfl
    try simp only [Act.put, List.setIfInBounds_toArray, List.set_cons_zero, List.set_cons_succ]
    refine wpAnyH_take (i := 5) (v := ?_) (by simp only [List.getElem?_toArray, List.getElem?_cons_zero, List.getElem?_cons_succ]; rfl) (by kernel_rfl) (by kernel_rfl) (by kernel_rfl) (by exact fun _ _ _ h => h) (Or.inl ⟨by rfl, ?_⟩) (by assumption) ?_
    rotate_left
    · intro w hSw
      try dsimp only at hSw
      go_simp
      try with_reducible rfl
    try simp only [Act.put, List.setIfInBounds_toArray, List.set_cons_zero, List.set_cons_succ]
    refine wpAnyH_ready (rs := [6]) (by kernel_rfl) (by simp) ?_
    refine AllReadyH.cons (by simp only [List.getElem?_toArray, List.getElem?_cons_zero, List.getElem?_cons_succ]; rfl) (fun K hK => ?_) AllReadyH.nil
    go_simp
    refine (unhide HRN1 _ (hw.trans ((Below.refl _ _).drew.mono hw.size))).mono ?_
    rintro e w13 ⟨⟨kn, rfl, hgn⟩, hb⟩
    have hk1 := ((Below.refl w12.heap.size w12).drew).trans (hb.mono ((Below.refl w12.heap.size w12).drew).size)
    go_wp2_with fail
    refine hK.out _ _ (⟨say9 bM.out hk1, say3 br.out hk1, hk1⟩) (fun hHeld => ?_)
    clear hK K
    try simp only [Act.put, List.setIfInBounds_toArray, List.set_cons_zero, List.set_cons_succ]
    have HSm := hide (sameGate_any (gNw r units) km (gNw r units) kn w13 (HM.out.below hk1) hgn)
    rw [sameG_self] at HSm
    unfold gtv at HSm
    refine wpAnyH_ready (rs := [7]) (by kernel_rfl) (by simp) ?_
    refine AllReadyH.cons (by simp only [List.getElem?_toArray, List.getElem?_cons_zero, List.getElem?_cons_succ]; rfl) (fun K hK => ?_) AllReadyH.nil
    go_simp
    refine (unhide HSm).mono ?_
    rintro e w14 ⟨rfl, hb2⟩
    have hk2 := hk1.trans (hb2.mono hk1.size)
    go_wp2_with fail
    refine hK.out _ _ (⟨say9 bM.out hk2, say3 br.out hk2, hk2⟩) (fun hHeld => ?_)
    clear hK K
    try simp only [Act.put, List.setIfInBounds_toArray, List.set_cons_zero, List.set_cons_succ]
    refine wpAnyH_take (i := 8) (v := ?_) (by simp only [List.getElem?_toArray, List.getElem?_cons_zero, List.getElem?_cons_succ]; rfl) (by kernel_rfl) (by kernel_rfl) (by kernel_rfl) (by exact fun _ _ _ h => h) (Or.inl ⟨by rfl, ?_⟩) (by assumption) ?_
    rotate_left
    · intro w hSw
      try dsimp only at hSw
      go_simp
      try with_reducible rfl
    try simp only [Act.put, List.setIfInBounds_toArray, List.set_cons_zero, List.set_cons_succ]
    refine wpAnyH_take (i := 9) (v := ?_) (by simp only [List.getElem?_toArray, List.getElem?_cons_zero, List.getElem?_cons_succ]; rfl) (by kernel_rfl) (by kernel_rfl) (by kernel_rfl) (by exact fun _ _ _ h => h) (Or.inl ⟨by rfl, ?_⟩) (by assumption) ?_
    rotate_left
    · intro w hSw
      try dsimp only at hSw
      go_simp
      try with_reducible rfl
    try simp only [Act.put, List.setIfInBounds_toArray, List.set_cons_zero, List.set_cons_succ]
    refine wpAnyH_done (by kernel_rfl) ?_ _
    have HB9 := hide hk2
    clear hk1 hk2 hb hb2 hgn HSm
    go_wp2_with fail
    go_meet
    case rel => exact ⟨rfl, HB9.out⟩
  case rest =>
  obtain ⟨rfl, hb⟩ := hcut
  obtain ⟨w15, rfl⟩ : ∃ w15 : World, w15 = wc := ⟨_, rfl⟩
  clear HEn HEn0 HRN
  replace bb := hide (blk_below bb.out hb)
  replace bg := hide (blk_below bg.out hb)
  replace bo := hide (blk_below bo.out hb)
  replace br := hide (blk_below br.out hb)
  replace bO := hide (blk_below bO.out hb)
  replace bX := hide (blk_below bX.out hb)
  replace bY := hide (blk_below bY.out hb)
  replace bZ := hide (blk_below bZ.out hb)
  replace bS := hide (blk_below bS.out hb)
  replace bM := hide (blk_below bM.out hb)
  replace bN := hide (blk_below bN.out hb)
  replace HK := hide (HK.out.below hb)
  replace HX := hide (HX.out.below hb)
  replace HY := hide (HY.out.below hb)
  replace HZ := hide (HZ.out.below hb)
  replace HM := hide (HM.out.below hb)
  replace hw := hw.trans (hb.mono hw.size)
  clear hb
  as_aux_lemma =>
  by_cases z : gtE g = 0
  rotate_left
  · as_aux_lemma =>
    have e1 := HEb.out z
    have e2 := HEu.out z
    have e3 := HEz.out z
    have e4 := HEs.out z
    cases e1
    cases e2
    cases e3
    cases e4
    have d : (gtE g != 0) = true := by simpa using z
    have d2 : (gtE g == gtE g) = true := by simp
    clear z HEb HEu HEz HEz0 HEs HEs0 HRB HRU HSt HO
    generalize gtE g = q at *
    unfold gt0 at bX bY bZ
    unfold gs0 at bS
    have HS0 := hide (fun k W (hk : GIn W k gt0) => sameGate_any gt0 k gt0 ga0 W hk (gin0 _))
    rw [sameG_self] at HS0
    unfold gtv gt0 ga0 at HS0
    have s0 := blk_cell bS.out 0 _ rfl
    have s1 := blk_cell bS.out 1 _ rfl
    have s2 := blk_cell bS.out 2 _ rfl
    have s3 := blk_cell bS.out 3 _ rfl
    have s4 := blk_cell bS.out 4 _ rfl
    try dsimp only at *
    have x0 := blk_cell bX.out 0 _ rfl
    have x1 := blk_cell bX.out 1 _ rfl
    have x2 := blk_cell bX.out 2 _ rfl
    have x3 := blk_cell bX.out 3 _ rfl
    have x4 := blk_cell bX.out 4 _ rfl
    have x5 := blk_cell bX.out 5 _ rfl
    have x6 := blk_cell bX.out 6 _ rfl
    have x7 := blk_cell bX.out 7 _ rfl
    have x8 := blk_cell bX.out 8 _ rfl
    have n0 := blk_cell bN.out 0 _ rfl
    have n1 := blk_cell bN.out 1 _ rfl
    have n2 := blk_cell bN.out 2 _ rfl
    have n3 := blk_cell bN.out 3 _ rfl
    have n4 := blk_cell bN.out 4 _ rfl
    have n5 := blk_cell bN.out 5 _ rfl
    have n6 := blk_cell bN.out 6 _ rfl
    have n7 := blk_cell bN.out 7 _ rfl
    have n8 := blk_cell bN.out 8 _ rfl
    go_wp2_with fail
    refine (unhide HS0 kx _ HX.out).mono ?_
    rintro e w20 ⟨rfl, hb⟩
    clear x0 x1 x2 x3 x4 x5 x6 x7 x8 n0 n1 n2 n3 n4 n5 n6 n7 n8
    replace bb := hide (blk_below bb.out hb)
    replace bg := hide (blk_below bg.out hb)
    replace bo := hide (blk_below bo.out hb)
    replace br := hide (blk_below br.out hb)
    replace bO := hide (blk_below bO.out hb)
    replace bX := hide (blk_below bX.out hb)
    replace bY := hide (blk_below bY.out hb)
    replace bZ := hide (blk_below bZ.out hb)
    replace bS := hide (blk_below bS.out hb)
    replace bM := hide (blk_below bM.out hb)
    replace bN := hide (blk_below bN.out hb)
    replace HK := hide (HK.out.below hb)
    replace HX := hide (HX.out.below hb)
    replace HY := hide (HY.out.below hb)
    replace HZ := hide (HZ.out.below hb)
    replace HM := hide (HM.out.below hb)
    replace hw := hw.trans (hb.mono hw.size)
    clear hb
    have y0 := blk_cell bY.out 0 _ rfl
    have y1 := blk_cell bY.out 1 _ rfl
    have y2 := blk_cell bY.out 2 _ rfl
    have y3 := blk_cell bY.out 3 _ rfl
    have y4 := blk_cell bY.out 4 _ rfl
    have y5 := blk_cell bY.out 5 _ rfl
    have y6 := blk_cell bY.out 6 _ rfl
    have y7 := blk_cell bY.out 7 _ rfl
    have y8 := blk_cell bY.out 8 _ rfl
    have n0 := blk_cell bN.out 0 _ rfl
    have n1 := blk_cell bN.out 1 _ rfl
    have n2 := blk_cell bN.out 2 _ rfl
    have n3 := blk_cell bN.out 3 _ rfl
    have n4 := blk_cell bN.out 4 _ rfl
    have n5 := blk_cell bN.out 5 _ rfl
    have n6 := blk_cell bN.out 6 _ rfl
    have n7 := blk_cell bN.out 7 _ rfl
    have n8 := blk_cell bN.out 8 _ rfl
    go_wp2_with fail
    refine (unhide HS0 ky _ HY.out).mono ?_
    rintro e w21 ⟨rfl, hb⟩
    clear y0 y1 y2 y3 y4 y5 y6 y7 y8 n0 n1 n2 n3 n4 n5 n6 n7 n8
    replace bb := hide (blk_below bb.out hb)
    replace bg := hide (blk_below bg.out hb)
    replace bo := hide (blk_below bo.out hb)
    replace br := hide (blk_below br.out hb)
    replace bO := hide (blk_below bO.out hb)
    replace bX := hide (blk_below bX.out hb)
    replace bY := hide (blk_below bY.out hb)
    replace bZ := hide (blk_below bZ.out hb)
    replace bS := hide (blk_below bS.out hb)
    replace bM := hide (blk_below bM.out hb)
    replace bN := hide (blk_below bN.out hb)
    replace HK := hide (HK.out.below hb)
    replace HX := hide (HX.out.below hb)
    replace HY := hide (HY.out.below hb)
    replace HZ := hide (HZ.out.below hb)
    replace HM := hide (HM.out.below hb)
    replace hw := hw.trans (hb.mono hw.size)
    clear hb
    have z0 := blk_cell bZ.out 0 _ rfl
    have z1 := blk_cell bZ.out 1 _ rfl
    have z2 := blk_cell bZ.out 2 _ rfl
    have z3 := blk_cell bZ.out 3 _ rfl
    have z4 := blk_cell bZ.out 4 _ rfl
    have z5 := blk_cell bZ.out 5 _ rfl
    have z6 := blk_cell bZ.out 6 _ rfl
    have z7 := blk_cell bZ.out 7 _ rfl
    have z8 := blk_cell bZ.out 8 _ rfl
    have n0 := blk_cell bN.out 0 _ rfl
    have n1 := blk_cell bN.out 1 _ rfl
    have n2 := blk_cell bN.out 2 _ rfl
    have n3 := blk_cell bN.out 3 _ rfl
    have n4 := blk_cell bN.out 4 _ rfl
    have n5 := blk_cell bN.out 5 _ rfl
    have n6 := blk_cell bN.out 6 _ rfl
    have n7 := blk_cell bN.out 7 _ rfl
    have n8 := blk_cell bN.out 8 _ rfl
    go_wp2_with fail
    refine (unhide HS0 kz _ HZ.out).mono ?_
    rintro e w22 ⟨rfl, hb⟩
    clear z0 z1 z2 z3 z4 z5 z6 z7 z8 n0 n1 n2 n3 n4 n5 n6 n7 n8
    replace bb := hide (blk_below bb.out hb)
    replace bg := hide (blk_below bg.out hb)
    replace bo := hide (blk_below bo.out hb)
    replace br := hide (blk_below br.out hb)
    replace bO := hide (blk_below bO.out hb)
    replace bX := hide (blk_below bX.out hb)
    replace bY := hide (blk_below bY.out hb)
    replace bZ := hide (blk_below bZ.out hb)
    replace bS := hide (blk_below bS.out hb)
    replace bM := hide (blk_below bM.out hb)
    replace bN := hide (blk_below bN.out hb)
    replace HK := hide (HK.out.below hb)
    replace HX := hide (HX.out.below hb)
    replace HY := hide (HY.out.below hb)
    replace HZ := hide (HZ.out.below hb)
    replace HM := hide (HM.out.below hb)
    replace hw := hw.trans (hb.mono hw.size)
    clear hb
    go_wp2_with fail
    go_ret
    exact ⟨rfl, hw⟩
  as_aux_lemma =>
  clear HEb HEu HEz HEs
  have e3 := HEz0.out z
  have e4 := HEs0.out z
  cases e3
  cases e4
  rw [z]
  have hl0 := (gtE_ok z).1
  have ZE := hide z
  have hv4 := (gtE_ok z).2.1
  have hdv := (gtE_ok z).2.2.1
  clear HEz0 HEs0 z
  have HSt1 := hide (HSt.out hl0)
  clear HSt hl0
  obtain ⟨s, hs⟩ : ∃ s, s = gOf g.ws := ⟨_, rfl⟩
  rw [← hs] at HSt1 bS
  clear hs
  have x0 := blk_cell bg.out 0 _ rfl
  have x1 := blk_cell bg.out 1 _ rfl
  have x2 := blk_cell bg.out 2 _ rfl
  have x3 := blk_cell bg.out 3 _ rfl
  have x4 := blk_cell bg.out 4 _ rfl
  have x5 := blk_cell bg.out 5 _ rfl
  have x6 := blk_cell bg.out 6 _ rfl
  have x7 := blk_cell bg.out 7 _ rfl
  have x8 := blk_cell bg.out 8 _ rfl
  have y0 := blk_cell bb.out 0 _ rfl
  have o0 := blk_cell bo.out 0 _ rfl
  have o1 := blk_cell bo.out 1 _ rfl
  have o2 := blk_cell bo.out 2 _ rfl
  have o3 := blk_cell bo.out 3 _ rfl
  have o4 := blk_cell bo.out 4 _ rfl
  have o5 := blk_cell bo.out 5 _ rfl
  have o6 := blk_cell bo.out 6 _ rfl
  go_wp2_with fail
  refine (unhide HRB ZE.out _ hw).mono ?_
  rintro e w16 ⟨⟨kX, rfl, hgx⟩, hb⟩
  clear HRB y0 x0 x1 x2 x3 x4 x5 x6 x7 x8 o0 o1 o2 o3 o4 o5 o6
  try dsimp only at *
  unfold gtv
  go_upto_region 23 with fail
  have hb1 : Below w15.heap.size w15 (w16.alloc (.cells #[.slice kX.a kX.n kX.c, .int .i64 xg.fu, .bool xg.up, .int .i64 xg.t.r.v, .slice kX.ak kX.nk kX.ck, .int .i64 xg.t.r.t, .int .i64 xg.t.ver, .slice kX.av kX.nv kX.cv, .slice kX.ad kX.nd kX.cd] 68)) := below_new hb _
  have hbz : Below w16.heap.size w16 (w16.alloc (.cells #[.slice kX.a kX.n kX.c, .int .i64 xg.fu, .bool xg.up, .int .i64 xg.t.r.v, .slice kX.ak kX.nk kX.ck, .int .i64 xg.t.r.t, .int .i64 xg.t.ver, .slice kX.av kX.nv kX.cv, .slice kX.ad kX.nd kX.cd] 68)) := below_new (Below.refl _ _) _
  have HXr := hide (hgx.below hbz)
  replace bb := hide (blk_below bb.out hb1)
  replace bg := hide (blk_below bg.out hb1)
  replace bo := hide (blk_below bo.out hb1)
  replace br := hide (blk_below br.out hb1)
  replace bO := hide (blk_below bO.out hb1)
  replace bX := hide (blk_below bX.out hb1)
  replace bY := hide (blk_below bY.out hb1)
  replace bZ := hide (blk_below bZ.out hb1)
  replace bS := hide (blk_below bS.out hb1)
  replace bM := hide (blk_below bM.out hb1)
  replace bN := hide (blk_below bN.out hb1)
  replace HK := hide (HK.out.below hb1)
  replace HX := hide (HX.out.below hb1)
  replace HY := hide (HY.out.below hb1)
  replace HZ := hide (HZ.out.below hb1)
  replace HM := hide (HM.out.below hb1)
  replace hw := hw.trans (hb1.mono hw.size)
  have bXr := hide (heap_alloc_last w16 (.cells #[.slice kX.a kX.n kX.c, .int .i64 xg.fu, .bool xg.up, .int .i64 xg.t.r.v, .slice kX.ak kX.nk kX.ck, .int .i64 xg.t.r.t, .int .i64 xg.t.ver, .slice kX.av kX.nv kX.cv, .slice kX.ad kX.nd kX.cd] 68))
  clear hb hb1 hbz
  clear hgx
  generalize w16.alloc (.cells #[.slice kX.a kX.n kX.c, .int .i64 xg.fu, .bool xg.up, .int .i64 xg.t.r.v, .slice kX.ak kX.nk kX.ck, .int .i64 xg.t.r.t, .int .i64 xg.t.ver, .slice kX.av kX.nv kX.cv, .slice kX.ad kX.nd kX.cd] 68) = W16 at *
  generalize w16.heap.size = Xr at *
  have x0 := blk_cell bg.out 0 _ rfl
  have x1 := blk_cell bg.out 1 _ rfl
  have x2 := blk_cell bg.out 2 _ rfl
  have x3 := blk_cell bg.out 3 _ rfl
  have x4 := blk_cell bg.out 4 _ rfl
  have x5 := blk_cell bg.out 5 _ rfl
  have x6 := blk_cell bg.out 6 _ rfl
  have x7 := blk_cell bg.out 7 _ rfl
  have x8 := blk_cell bg.out 8 _ rfl
  go_wp2_with fail
  refine (unhide HRU ZE.out _ hw).mono ?_
  rintro e w17 ⟨⟨kY, rfl, hgx⟩, hb⟩
  clear HRU x0 x1 x2 x3 x4 x5 x6 x7 x8
  try dsimp only at *
  unfold gtv
  go_upto_region 24 with fail
  have hb1 : Below W16.heap.size W16 (w17.alloc (.cells #[.slice kY.a kY.n kY.c, .int .i64 yg.fu, .bool yg.up, .int .i64 yg.t.r.v, .slice kY.ak kY.nk kY.ck, .int .i64 yg.t.r.t, .int .i64 yg.t.ver, .slice kY.av kY.nv kY.cv, .slice kY.ad kY.nd kY.cd] 68)) := below_new hb _
  have hbz : Below w17.heap.size w17 (w17.alloc (.cells #[.slice kY.a kY.n kY.c, .int .i64 yg.fu, .bool yg.up, .int .i64 yg.t.r.v, .slice kY.ak kY.nk kY.ck, .int .i64 yg.t.r.t, .int .i64 yg.t.ver, .slice kY.av kY.nv kY.cv, .slice kY.ad kY.nd kY.cd] 68)) := below_new (Below.refl _ _) _
  have HYr := hide (hgx.below hbz)
  replace bb := hide (blk_below bb.out hb1)
  replace bg := hide (blk_below bg.out hb1)
  replace bo := hide (blk_below bo.out hb1)
  replace br := hide (blk_below br.out hb1)
  replace bO := hide (blk_below bO.out hb1)
  replace bX := hide (blk_below bX.out hb1)
  replace bY := hide (blk_below bY.out hb1)
  replace bZ := hide (blk_below bZ.out hb1)
  replace bS := hide (blk_below bS.out hb1)
  replace bM := hide (blk_below bM.out hb1)
  replace bN := hide (blk_below bN.out hb1)
  replace bXr := hide (blk_below bXr.out hb1)
  replace HK := hide (HK.out.below hb1)
  replace HX := hide (HX.out.below hb1)
  replace HY := hide (HY.out.below hb1)
  replace HZ := hide (HZ.out.below hb1)
  replace HM := hide (HM.out.below hb1)
  replace HXr := hide (HXr.out.below hb1)
  replace hw := hw.trans (hb1.mono hw.size)
  have bYr := hide (heap_alloc_last w17 (.cells #[.slice kY.a kY.n kY.c, .int .i64 yg.fu, .bool yg.up, .int .i64 yg.t.r.v, .slice kY.ak kY.nk kY.ck, .int .i64 yg.t.r.t, .int .i64 yg.t.ver, .slice kY.av kY.nv kY.cv, .slice kY.ad kY.nd kY.cd] 68))
  clear hb hb1 hbz
  clear hgx
  generalize w17.alloc (.cells #[.slice kY.a kY.n kY.c, .int .i64 yg.fu, .bool yg.up, .int .i64 yg.t.r.v, .slice kY.ak kY.nk kY.ck, .int .i64 yg.t.r.t, .int .i64 yg.t.ver, .slice kY.av kY.nv kY.cv, .slice kY.ad kY.nd kY.cd] 68) = W17 at *
  generalize w17.heap.size = Yr at *
  have x0 := blk_cell bg.out 0 _ rfl
  have x1 := blk_cell bg.out 1 _ rfl
  have x2 := blk_cell bg.out 2 _ rfl
  have x3 := blk_cell bg.out 3 _ rfl
  have x4 := blk_cell bg.out 4 _ rfl
  have x5 := blk_cell bg.out 5 _ rfl
  have x6 := blk_cell bg.out 6 _ rfl
  have x7 := blk_cell bg.out 7 _ rfl
  have x8 := blk_cell bg.out 8 _ rfl
  go_wp2_with fail
  refine (unhide HO _ hw).mono ?_
  rintro e w18 ⟨⟨ku, bu, bw, rfl, hou⟩, hb⟩
  clear HO x0 x1 x2 x3 x4 x5 x6 x7 x8
  unfold gtv
  go_upto_region 25 with fail
  have hb1 : Below W17.heap.size W17 (w18.alloc (.cells #[.slice ku.a ku.n ku.c, .int .i64 g.fu, .bool g.up, .int .i64 g.t.r.v, .slice ku.ak ku.nk ku.ck, .int .i64 g.t.r.t, .int .i64 g.t.ver, .slice ku.av ku.nv ku.cv, .slice ku.ad ku.nd ku.cd] 68)) := below_new hb _
  have hbz : Hid (Below w18.heap.size w18 (w18.alloc (.cells #[.slice ku.a ku.n ku.c, .int .i64 g.fu, .bool g.up, .int .i64 g.t.r.v, .slice ku.ak ku.nk ku.ck, .int .i64 g.t.r.t, .int .i64 g.t.ver, .slice ku.av ku.nv ku.cv, .slice ku.ad ku.nd ku.cd] 68))) := below_new (Below.refl _ _) _
  have HUg := hide hou.gin
  have hUlow : W17.heap.size ≤ w18.heap.size := hb.size
  have HB17 := hide hb1
  have bgU := hide (blk_below bg.out hb1)
  have bU := hide (heap_alloc_last w18 (.cells #[.slice ku.a ku.n ku.c, .int .i64 g.fu, .bool g.up, .int .i64 g.t.r.v, .slice ku.ak ku.nk ku.ck, .int .i64 g.t.r.t, .int .i64 g.t.ver, .slice ku.av ku.nv ku.cv, .slice ku.ad ku.nd ku.cd] 68))
  clear hb hb1 hou
  generalize w18.alloc (.cells #[.slice ku.a ku.n ku.c, .int .i64 g.fu, .bool g.up, .int .i64 g.t.r.v, .slice ku.ak ku.nk ku.ck, .int .i64 g.t.r.t, .int .i64 g.t.ver, .slice ku.av ku.nv ku.cv, .slice ku.ad ku.nd ku.cd] 68) = W18 at *
  obtain ⟨U, hU⟩ : ∃ q, q = w18.heap.size := ⟨_, rfl⟩
  rw [← hU] at bU hUlow ⊢
  have HUe := hide hU
  clear hU
  have hgl := blk_lt bg.out
  have hgU : w.heap.size + 1 ≠ U := by omega
  go_cut [35] (fun v wc => v = .pointer (some ⟨U, 0, none⟩) ∧ ∃ av ad, wc.heap[U]? = some (.cells #[.slice ku.a ku.n ku.c, .int .i64 (-1), .bool true, .int .i64 g.t.r.v, .slice ku.ak ku.nk ku.ck, .int .i64 g.t.r.t, .int .i64 g.t.ver, .slice (some ⟨av, 0, none⟩) k0.nv k0.nv, .slice (some ⟨ad, 0, none⟩) k0.nd k0.nd] 68 (0, 0)) ∧ OwnB wc av (List.replicate k0.nv false) ∧ OwnB wc ad (List.replicate k0.nd false) ∧ W18.heap.size ≤ av ∧ W18.heap.size ≤ ad ∧ W18.grownBy wc (some U))
  case first =>
    as_aux_lemma =>
    have hmv := fun W => make_bools k0.nv W (by omega)
    have hmd := fun W => make_bools k0.nd W (by omega)
    have y1 := blk_cell bU.out 1 _ rfl
    have y2 := blk_cell bU.out 2 _ rfl
    have y7 := blk_cell bU.out 7 _ rfl
    have y8 := blk_cell bU.out 8 _ rfl
    have f1 := blk_free bU.out 1
    have f2 := blk_free bU.out 2
    have f7 := blk_free bU.out 7
    have f8 := blk_free bU.out 8
    have q7 := blk_cell bgU.out 7 _ rfl
    have q8 := blk_cell bgU.out 8 _ rfl
    have hgU' := Ne.symm hgU
    have hUl := blk_lt bU.out
    have hgl2 := blk_lt bgU.out
    have hgl3 : w.heap.size < W18.heap.size := by omega
    have St0 := hide (St.start bU.out (bN := k0.nv) (bD := k0.nd))
    clear HP HK HX HY HZ HM HXr HYr HSt1 HUg hbz HB17 bb bo br bO bX bY bZ bS bM bN bXr bYr
    go_region
    · go_wp2_with fail
      go_meet
      case rel => exact ⟨rfl, W18.heap.size, W18.heap.size + 1, St.fin (St.drew (St.makeD (St.makeV (St.store (St.store (St.store (St.store St0.out)))) (by simp)) (by simp))) (by rfl)⟩
    · go_wp2_with fail
      go_meet
      case rel => exact ⟨rfl, W18.heap.size + 1, W18.heap.size, St.fin (St.drew (St.makeV (St.makeD (St.store (St.store (St.store (St.store St0.out)))) (by simp)) (by simp))) (by rfl)⟩
  case rest =>
  obtain ⟨rfl, av, ad, hbx, hov, hod, hav, had, hgr⟩ := hcut
  obtain ⟨w19, rfl⟩ : ∃ w19 : World, w19 = wc := ⟨_, rfl⟩
  have hUb : Below w18.heap.size w18 w19 := turns_below hbz.out hgr (by rw [HUe.out]; exact Nat.le_refl _) hbz.out.size
  have HUp : Hid (GIn w19 (⟨ku.a, ku.n, ku.c, ku.ak, ku.nk, ku.ck, some ⟨av, 0, none⟩, k0.nv, k0.nv, some ⟨ad, 0, none⟩, k0.nd, k0.nd⟩ : GA) (⟨g.ws, -1, true, g.t, falses g.vo, falses g.di⟩ : Gt)) := by
    have q := HUg.out.below hUb
    exact ⟨q.ws, q.ks, ⟨by dsimp only; rw [falses_rep hlv]; exact hov.bools, by dsimp only; rw [falses_rep hlv]; simp, Nat.le_refl _, (show k0.nv ≤ maxLen by unfold maxLen; omega)⟩, ⟨by dsimp only; rw [falses_rep hld]; exact hod.bools, by dsimp only; rw [falses_rep hld]; simp, Nat.le_refl _, (show k0.nd ≤ maxLen by unfold maxLen; omega)⟩⟩
  have bUp := hide hbx
  have hb17 := turns_below HB17.out hgr hUlow HB17.out.size
  clear hbx hov hod hUb HUg hbz HUe hav had hgr HB17 bU bgU
  replace bb := hide (blk_below bb.out hb17)
  replace bg := hide (blk_below bg.out hb17)
  replace bo := hide (blk_below bo.out hb17)
  replace br := hide (blk_below br.out hb17)
  replace bO := hide (blk_below bO.out hb17)
  replace bX := hide (blk_below bX.out hb17)
  replace bY := hide (blk_below bY.out hb17)
  replace bZ := hide (blk_below bZ.out hb17)
  replace bS := hide (blk_below bS.out hb17)
  replace bM := hide (blk_below bM.out hb17)
  replace bN := hide (blk_below bN.out hb17)
  replace bXr := hide (blk_below bXr.out hb17)
  replace bYr := hide (blk_below bYr.out hb17)
  replace HK := hide (HK.out.below hb17)
  replace HX := hide (HX.out.below hb17)
  replace HY := hide (HY.out.below hb17)
  replace HZ := hide (HZ.out.below hb17)
  replace HM := hide (HM.out.below hb17)
  replace HXr := hide (HXr.out.below hb17)
  replace HYr := hide (HYr.out.below hb17)
  replace hw := hw.trans (hb17.mono hw.size)
  clear hb17
  as_aux_lemma =>
  have HSx := hide (fun W (hW : Below w19.heap.size w19 W) => sameGate_any xg kx xg kX W (HX.out.below hW) (HXr.out.below hW))
  have HSy := hide (fun W (hW : Below w19.heap.size w19 W) => sameGate_any yg ky yg kY W (HY.out.below hW) (HYr.out.below hW))
  have HSz := hide (fun W (hW : Below w19.heap.size w19 W) => sameGate_any (⟨g.ws, -1, true, g.t, falses g.vo, falses g.di⟩ : Gt) kz (⟨g.ws, -1, true, g.t, falses g.vo, falses g.di⟩ : Gt) (⟨ku.a, ku.n, ku.c, ku.ak, ku.nk, ku.ck, some ⟨av, 0, none⟩, k0.nv, k0.nv, some ⟨ad, 0, none⟩, k0.nd, k0.nd⟩ : GA) W (HZ.out.below hW) (HUp.out.below hW))
  rw [sameG_self] at HSx HSy HSz
  unfold gtv at HSx HSy HSz
  unfold forgG at bZ
  dsimp only at bZ HSz
  go_upto_region 26 with fail
  have dq : (xe == xe) = true := by simp
  have dn : (xn == xn) = true := by simp
  have dy : (ye == ye) = true := by simp
  refine wp_region_held_drew (S := fun W' => (W'.cell? ⟨X, 0, none⟩ = some (.slice kx.a kx.n kx.c) ∧ W'.cell? ⟨X, 1, none⟩ = some (.int .i64 xg.fu) ∧ W'.cell? ⟨X, 2, none⟩ = some (.bool xg.up) ∧ W'.cell? ⟨X, 3, none⟩ = some (.int .i64 xg.t.r.v) ∧ W'.cell? ⟨X, 4, none⟩ = some (.slice kx.ak kx.nk kx.ck) ∧ W'.cell? ⟨X, 5, none⟩ = some (.int .i64 xg.t.r.t) ∧ W'.cell? ⟨X, 6, none⟩ = some (.int .i64 xg.t.ver) ∧ W'.cell? ⟨X, 7, none⟩ = some (.slice kx.av kx.nv kx.cv) ∧ W'.cell? ⟨X, 8, none⟩ = some (.slice kx.ad kx.nd kx.cd)) ∧ (W'.cell? ⟨Xr, 0, none⟩ = some (.slice kX.a kX.n kX.c) ∧ W'.cell? ⟨Xr, 1, none⟩ = some (.int .i64 xg.fu) ∧ W'.cell? ⟨Xr, 2, none⟩ = some (.bool xg.up) ∧ W'.cell? ⟨Xr, 3, none⟩ = some (.int .i64 xg.t.r.v) ∧ W'.cell? ⟨Xr, 4, none⟩ = some (.slice kX.ak kX.nk kX.ck) ∧ W'.cell? ⟨Xr, 5, none⟩ = some (.int .i64 xg.t.r.t) ∧ W'.cell? ⟨Xr, 6, none⟩ = some (.int .i64 xg.t.ver) ∧ W'.cell? ⟨Xr, 7, none⟩ = some (.slice kX.av kX.nv kX.cv) ∧ W'.cell? ⟨Xr, 8, none⟩ = some (.slice kX.ad kX.nd kX.cd)) ∧ (W'.cell? ⟨Y, 0, none⟩ = some (.slice ky.a ky.n ky.c) ∧ W'.cell? ⟨Y, 1, none⟩ = some (.int .i64 yg.fu) ∧ W'.cell? ⟨Y, 2, none⟩ = some (.bool yg.up) ∧ W'.cell? ⟨Y, 3, none⟩ = some (.int .i64 yg.t.r.v) ∧ W'.cell? ⟨Y, 4, none⟩ = some (.slice ky.ak ky.nk ky.ck) ∧ W'.cell? ⟨Y, 5, none⟩ = some (.int .i64 yg.t.r.t) ∧ W'.cell? ⟨Y, 6, none⟩ = some (.int .i64 yg.t.ver) ∧ W'.cell? ⟨Y, 7, none⟩ = some (.slice ky.av ky.nv ky.cv) ∧ W'.cell? ⟨Y, 8, none⟩ = some (.slice ky.ad ky.nd ky.cd)) ∧ (W'.cell? ⟨Yr, 0, none⟩ = some (.slice kY.a kY.n kY.c) ∧ W'.cell? ⟨Yr, 1, none⟩ = some (.int .i64 yg.fu) ∧ W'.cell? ⟨Yr, 2, none⟩ = some (.bool yg.up) ∧ W'.cell? ⟨Yr, 3, none⟩ = some (.int .i64 yg.t.r.v) ∧ W'.cell? ⟨Yr, 4, none⟩ = some (.slice kY.ak kY.nk kY.ck) ∧ W'.cell? ⟨Yr, 5, none⟩ = some (.int .i64 yg.t.r.t) ∧ W'.cell? ⟨Yr, 6, none⟩ = some (.int .i64 yg.t.ver) ∧ W'.cell? ⟨Yr, 7, none⟩ = some (.slice kY.av kY.nv kY.cv) ∧ W'.cell? ⟨Yr, 8, none⟩ = some (.slice kY.ad kY.nd kY.cd)) ∧ (W'.cell? ⟨Z, 0, none⟩ = some (.slice kz.a kz.n kz.c) ∧ W'.cell? ⟨Z, 1, none⟩ = some (.int .i64 (-1)) ∧ W'.cell? ⟨Z, 2, none⟩ = some (.bool true) ∧ W'.cell? ⟨Z, 3, none⟩ = some (.int .i64 g.t.r.v) ∧ W'.cell? ⟨Z, 4, none⟩ = some (.slice kz.ak kz.nk kz.ck) ∧ W'.cell? ⟨Z, 5, none⟩ = some (.int .i64 g.t.r.t) ∧ W'.cell? ⟨Z, 6, none⟩ = some (.int .i64 g.t.ver) ∧ W'.cell? ⟨Z, 7, none⟩ = some (.slice kz.av kz.nv kz.cv) ∧ W'.cell? ⟨Z, 8, none⟩ = some (.slice kz.ad kz.nd kz.cd)) ∧ (W'.cell? ⟨U, 0, none⟩ = some (.slice ku.a ku.n ku.c) ∧ W'.cell? ⟨U, 1, none⟩ = some (.int .i64 (-1)) ∧ W'.cell? ⟨U, 2, none⟩ = some (.bool true) ∧ W'.cell? ⟨U, 3, none⟩ = some (.int .i64 g.t.r.v) ∧ W'.cell? ⟨U, 4, none⟩ = some (.slice ku.ak ku.nk ku.ck) ∧ W'.cell? ⟨U, 5, none⟩ = some (.int .i64 g.t.r.t) ∧ W'.cell? ⟨U, 6, none⟩ = some (.int .i64 g.t.ver) ∧ W'.cell? ⟨U, 7, none⟩ = some (.slice (some ⟨av, 0, none⟩) k0.nv k0.nv) ∧ W'.cell? ⟨U, 8, none⟩ = some (.slice (some ⟨ad, 0, none⟩) k0.nd k0.nd)) ∧ (W'.cell? ⟨w.heap.size + 1, 0, none⟩ = some (.slice k0.a k0.n k0.c) ∧ W'.cell? ⟨w.heap.size + 1, 1, none⟩ = some (.int .i64 g.fu) ∧ W'.cell? ⟨w.heap.size + 1, 2, none⟩ = some (.bool g.up) ∧ W'.cell? ⟨w.heap.size + 1, 3, none⟩ = some (.int .i64 g.t.r.v) ∧ W'.cell? ⟨w.heap.size + 1, 4, none⟩ = some (.slice k0.ak k0.nk k0.ck) ∧ W'.cell? ⟨w.heap.size + 1, 5, none⟩ = some (.int .i64 g.t.r.t) ∧ W'.cell? ⟨w.heap.size + 1, 6, none⟩ = some (.int .i64 g.t.ver) ∧ W'.cell? ⟨w.heap.size + 1, 7, none⟩ = some (.slice k0.av k0.nv k0.cv) ∧ W'.cell? ⟨w.heap.size + 1, 8, none⟩ = some (.slice k0.ad k0.nd k0.cd)) ∧ (W'.cell? ⟨S, 0, none⟩ = some (.int .i64 s.n) ∧ W'.cell? ⟨S, 1, none⟩ = some (.int .i64 s.v) ∧ W'.cell? ⟨S, 2, none⟩ = some (.bool s.co) ∧ W'.cell? ⟨S, 3, none⟩ = some (.bool s.ab) ∧ W'.cell? ⟨S, 4, none⟩ = some (.bool s.en)) ∧ Below w19.heap.size w19 W') (by kernel_rfl) (⟨say9 bX.out ((Below.refl w19.heap.size w19).drew), say9 bXr.out ((Below.refl w19.heap.size w19).drew), say9 bY.out ((Below.refl w19.heap.size w19).drew), say9 bYr.out ((Below.refl w19.heap.size w19).drew), say9 bZ.out ((Below.refl w19.heap.size w19).drew), say9 bUp.out ((Below.refl w19.heap.size w19).drew), say9 bg.out ((Below.refl w19.heap.size w19).drew), say5 bS.out ((Below.refl w19.heap.size w19).drew), (Below.refl w19.heap.size w19).drew⟩) ?_
  intro hHeld
  have hk0 : Below w19.heap.size w19 w19.drew := (Below.refl w19.heap.size w19).drew
  generalize w19.drew = X0 at *
  refine wpAnyH_take (i := 0) (v := ?_) (by simp only [List.getElem?_toArray, List.getElem?_cons_zero]; rfl) (by kernel_rfl) (by kernel_rfl) (by kernel_rfl) (by exact fun _ _ _ h => h) (Or.inl ⟨by rfl, ?_⟩) (by assumption) ?_
  rotate_left
  · intro w hSw
    try dsimp only at hSw
    go_simp
    try with_reducible rfl
  try simp only [Act.put, List.setIfInBounds_toArray, List.set_cons_zero, List.set_cons_succ]
  refine wpAnyH_take (i := 1) (v := ?_) (by simp only [List.getElem?_toArray, List.getElem?_cons_zero, List.getElem?_cons_succ]; rfl) (by kernel_rfl) (by kernel_rfl) (by kernel_rfl) (by exact fun _ _ _ h => h) (Or.inl ⟨by rfl, ?_⟩) (by assumption) ?_
  rotate_left
  · intro w hSw
    try dsimp only at hSw
    go_simp
    try with_reducible rfl
  try simp only [Act.put, List.setIfInBounds_toArray, List.set_cons_zero, List.set_cons_succ]
  refine wpAnyH_take (i := 2) (v := ?_) (by simp only [List.getElem?_toArray, List.getElem?_cons_zero, List.getElem?_cons_succ]; rfl) (by kernel_rfl) (by kernel_rfl) (by kernel_rfl) (by exact fun _ _ _ h => h) (Or.inl ⟨by rfl, ?_⟩) (by assumption) ?_
  rotate_left
  · intro w hSw
    try dsimp only at hSw
    go_simp
    try with_reducible rfl
  try simp only [Act.put, List.setIfInBounds_toArray, List.set_cons_zero, List.set_cons_succ]
  refine wpAnyH_take (i := 3) (v := ?_) (by simp only [List.getElem?_toArray, List.getElem?_cons_zero, List.getElem?_cons_succ]; rfl) (by kernel_rfl) (by kernel_rfl) (by kernel_rfl) (by exact fun _ _ _ h => h) (Or.inl ⟨by rfl, ?_⟩) (by assumption) ?_
  rotate_left
  · intro w hSw
    try dsimp only at hSw
    go_simp
    try with_reducible rfl
  try simp only [Act.put, List.setIfInBounds_toArray, List.set_cons_zero, List.set_cons_succ]
  refine wpAnyH_take (i := 4) (v := ?_) (by simp only [List.getElem?_toArray, List.getElem?_cons_zero, List.getElem?_cons_succ]; rfl) (by kernel_rfl) (by kernel_rfl) (by kernel_rfl) (by exact fun _ _ _ h => h) (Or.inl ⟨by rfl, ?_⟩) (by assumption) ?_
  rotate_left
  · intro w hSw
    try dsimp only at hSw
    go_simp
    try with_reducible rfl
  try simp only [Act.put, List.setIfInBounds_toArray, List.set_cons_zero, List.set_cons_succ]
  refine wpAnyH_take (i := 5) (v := ?_) (by simp only [List.getElem?_toArray, List.getElem?_cons_zero, List.getElem?_cons_succ]; rfl) (by kernel_rfl) (by kernel_rfl) (by kernel_rfl) (by exact fun _ _ _ h => h) (Or.inl ⟨by rfl, ?_⟩) (by assumption) ?_
  rotate_left
  · intro w hSw
    try dsimp only at hSw
    go_simp
    try with_reducible rfl
  try simp only [Act.put, List.setIfInBounds_toArray, List.set_cons_zero, List.set_cons_succ]
  refine wpAnyH_take (i := 6) (v := ?_) (by simp only [List.getElem?_toArray, List.getElem?_cons_zero, List.getElem?_cons_succ]; rfl) (by kernel_rfl) (by kernel_rfl) (by kernel_rfl) (by exact fun _ _ _ h => h) (Or.inl ⟨by rfl, ?_⟩) (by assumption) ?_
  rotate_left
  · intro w hSw
    try dsimp only at hSw
    go_simp
    try with_reducible rfl
  try simp only [Act.put, List.setIfInBounds_toArray, List.set_cons_zero, List.set_cons_succ]
  refine wpAnyH_take (i := 7) (v := ?_) (by simp only [List.getElem?_toArray, List.getElem?_cons_zero, List.getElem?_cons_succ]; rfl) (by kernel_rfl) (by kernel_rfl) (by kernel_rfl) (by exact fun _ _ _ h => h) (Or.inl ⟨by rfl, ?_⟩) (by assumption) ?_
  rotate_left
  · intro w hSw
    try dsimp only at hSw
    go_simp
    try with_reducible rfl
  try simp only [Act.put, List.setIfInBounds_toArray, List.set_cons_zero, List.set_cons_succ]
  refine wpAnyH_take (i := 8) (v := ?_) (by simp only [List.getElem?_toArray, List.getElem?_cons_zero, List.getElem?_cons_succ]; rfl) (by kernel_rfl) (by kernel_rfl) (by kernel_rfl) (by exact fun _ _ _ h => h) (Or.inl ⟨by rfl, ?_⟩) (by assumption) ?_
  rotate_left
  · intro w hSw
    try dsimp only at hSw
    go_simp
    try with_reducible rfl
  try simp only [Act.put, List.setIfInBounds_toArray, List.set_cons_zero, List.set_cons_succ]
  refine wpAnyH_take (i := 9) (v := ?_) (by simp only [List.getElem?_toArray, List.getElem?_cons_zero, List.getElem?_cons_succ]; rfl) (by kernel_rfl) (by kernel_rfl) (by kernel_rfl) (by exact fun _ _ _ h => h) (Or.inl ⟨by rfl, ?_⟩) (by assumption) ?_
  rotate_left
  · intro w hSw
    try dsimp only at hSw
    go_simp
    try with_reducible rfl
  try simp only [Act.put, List.setIfInBounds_toArray, List.set_cons_zero, List.set_cons_succ]
  refine wpAnyH_take (i := 10) (v := ?_) (by simp only [List.getElem?_toArray, List.getElem?_cons_zero, List.getElem?_cons_succ]; rfl) (by kernel_rfl) (by kernel_rfl) (by kernel_rfl) (by exact fun _ _ _ h => h) (Or.inl ⟨by rfl, ?_⟩) (by assumption) ?_
  rotate_left
  · intro w hSw
    try dsimp only at hSw
    go_simp
    try with_reducible rfl
  try simp only [Act.put, List.setIfInBounds_toArray, List.set_cons_zero, List.set_cons_succ]
  refine wpAnyH_ready (rs := [11]) (by kernel_rfl) (by simp) ?_
  refine AllReadyH.cons (by simp only [List.getElem?_toArray, List.getElem?_cons_zero, List.getElem?_cons_succ]; rfl) (fun K hK => ?_) AllReadyH.nil
  go_simp
  refine (unhide HSx _ hk0).mono ?_
  rintro e X1 ⟨rfl, hb⟩
  have hk1 := hk0.trans (hb.mono hk0.size)
  clear hb
  go_wp2_with fail
  refine hK.out _ _ ⟨say9 bX.out (hk1), say9 bXr.out (hk1), say9 bY.out (hk1), say9 bYr.out (hk1), say9 bZ.out (hk1), say9 bUp.out (hk1), say9 bg.out (hk1), say5 bS.out (hk1), hk1⟩ (fun hHeld => ?_)
  clear hK K
  try simp only [Act.put, List.setIfInBounds_toArray, List.set_cons_zero, List.set_cons_succ]
  refine wpAnyH_take (i := 12) (v := ?_) (by simp only [List.getElem?_toArray, List.getElem?_cons_zero, List.getElem?_cons_succ]; rfl) (by kernel_rfl) (by kernel_rfl) (by kernel_rfl) (by exact fun _ _ _ h => h) (Or.inl ⟨by rfl, ?_⟩) (by assumption) ?_
  rotate_left
  · intro w hSw
    try dsimp only at hSw
    go_simp
    try with_reducible rfl
  try simp only [Act.put, List.setIfInBounds_toArray, List.set_cons_zero, List.set_cons_succ]
  refine wpAnyH_take (i := 13) (v := ?_) (by simp only [List.getElem?_toArray, List.getElem?_cons_zero, List.getElem?_cons_succ]; rfl) (by kernel_rfl) (by kernel_rfl) (by kernel_rfl) (by exact fun _ _ _ h => h) (Or.inl ⟨by rfl, ?_⟩) (by assumption) ?_
  rotate_left
  · intro w hSw
    try dsimp only at hSw
    go_simp
    try with_reducible rfl
  try simp only [Act.put, List.setIfInBounds_toArray, List.set_cons_zero, List.set_cons_succ]
  refine wpAnyH_take (i := 14) (v := ?_) (by simp only [List.getElem?_toArray, List.getElem?_cons_zero, List.getElem?_cons_succ]; rfl) (by kernel_rfl) (by kernel_rfl) (by kernel_rfl) (by exact fun _ _ _ h => h) (Or.inl ⟨by rfl, ?_⟩) (by assumption) ?_
  rotate_left
  · intro w hSw
    try dsimp only at hSw
    go_simp
    try with_reducible rfl
  try simp only [Act.put, List.setIfInBounds_toArray, List.set_cons_zero, List.set_cons_succ]
  refine wpAnyH_take (i := 15) (v := ?_) (by simp only [List.getElem?_toArray, List.getElem?_cons_zero, List.getElem?_cons_succ]; rfl) (by kernel_rfl) (by kernel_rfl) (by kernel_rfl) (by exact fun _ _ _ h => h) (Or.inl ⟨by rfl, ?_⟩) (by assumption) ?_
  rotate_left
  · intro w hSw
    try dsimp only at hSw
    go_simp
    try with_reducible rfl
  try simp only [Act.put, List.setIfInBounds_toArray, List.set_cons_zero, List.set_cons_succ]
  refine wpAnyH_take (i := 16) (v := ?_) (by simp only [List.getElem?_toArray, List.getElem?_cons_zero, List.getElem?_cons_succ]; rfl) (by kernel_rfl) (by kernel_rfl) (by kernel_rfl) (by exact fun _ _ _ h => h) (Or.inl ⟨by rfl, ?_⟩) (by assumption) ?_
  rotate_left
  · intro w hSw
    try dsimp only at hSw
    go_simp
    try with_reducible rfl
  try simp only [Act.put, List.setIfInBounds_toArray, List.set_cons_zero, List.set_cons_succ]
  refine wpAnyH_take (i := 17) (v := ?_) (by simp only [List.getElem?_toArray, List.getElem?_cons_zero, List.getElem?_cons_succ]; rfl) (by kernel_rfl) (by kernel_rfl) (by kernel_rfl) (by exact fun _ _ _ h => h) (Or.inl ⟨by rfl, ?_⟩) (by assumption) ?_
  rotate_left
  · intro w hSw
    try dsimp only at hSw
    go_simp
    try with_reducible rfl
  try simp only [Act.put, List.setIfInBounds_toArray, List.set_cons_zero, List.set_cons_succ]
  refine wpAnyH_take (i := 18) (v := ?_) (by simp only [List.getElem?_toArray, List.getElem?_cons_zero, List.getElem?_cons_succ]; rfl) (by kernel_rfl) (by kernel_rfl) (by kernel_rfl) (by exact fun _ _ _ h => h) (Or.inl ⟨by rfl, ?_⟩) (by assumption) ?_
  rotate_left
  · intro w hSw
    try dsimp only at hSw
    go_simp
    try with_reducible rfl
  try simp only [Act.put, List.setIfInBounds_toArray, List.set_cons_zero, List.set_cons_succ]
  refine wpAnyH_take (i := 19) (v := ?_) (by simp only [List.getElem?_toArray, List.getElem?_cons_zero, List.getElem?_cons_succ]; rfl) (by kernel_rfl) (by kernel_rfl) (by kernel_rfl) (by exact fun _ _ _ h => h) (Or.inl ⟨by rfl, ?_⟩) (by assumption) ?_
  rotate_left
  · intro w hSw
    try dsimp only at hSw
    go_simp
    try with_reducible rfl
  try simp only [Act.put, List.setIfInBounds_toArray, List.set_cons_zero, List.set_cons_succ]
  refine wpAnyH_take (i := 20) (v := ?_) (by simp only [List.getElem?_toArray, List.getElem?_cons_zero, List.getElem?_cons_succ]; rfl) (by kernel_rfl) (by kernel_rfl) (by kernel_rfl) (by exact fun _ _ _ h => h) (Or.inl ⟨by rfl, ?_⟩) (by assumption) ?_
  rotate_left
  · intro w hSw
    try dsimp only at hSw
    go_simp
    try with_reducible rfl
  try simp only [Act.put, List.setIfInBounds_toArray, List.set_cons_zero, List.set_cons_succ]
  refine wpAnyH_ready (rs := [21]) (by kernel_rfl) (by simp) ?_
  refine AllReadyH.cons (by simp only [List.getElem?_toArray, List.getElem?_cons_zero, List.getElem?_cons_succ]; rfl) (fun K hK => ?_) AllReadyH.nil
  go_simp
  refine (unhide HSy _ hk1).mono ?_
  rintro e X2 ⟨rfl, hb⟩
  have hk2 := hk1.trans (hb.mono hk1.size)
  clear hb
  go_wp2_with fail
  refine hK.out _ _ ⟨say9 bX.out (hk2), say9 bXr.out (hk2), say9 bY.out (hk2), say9 bYr.out (hk2), say9 bZ.out (hk2), say9 bUp.out (hk2), say9 bg.out (hk2), say5 bS.out (hk2), hk2⟩ (fun hHeld => ?_)
  clear hK K
  try simp only [Act.put, List.setIfInBounds_toArray, List.set_cons_zero, List.set_cons_succ]
  refine wpAnyH_take (i := 22) (v := ?_) (by simp only [List.getElem?_toArray, List.getElem?_cons_zero, List.getElem?_cons_succ]; rfl) (by kernel_rfl) (by kernel_rfl) (by kernel_rfl) (by exact fun _ _ _ h => h) (Or.inl ⟨by rfl, ?_⟩) (by assumption) ?_
  rotate_left
  · intro w hSw
    try dsimp only at hSw
    go_simp
    try with_reducible rfl
  try simp only [Act.put, List.setIfInBounds_toArray, List.set_cons_zero, List.set_cons_succ]
  refine wpAnyH_take (i := 23) (v := ?_) (by simp only [List.getElem?_toArray, List.getElem?_cons_zero, List.getElem?_cons_succ]; rfl) (by kernel_rfl) (by kernel_rfl) (by kernel_rfl) (by exact fun _ _ _ h => h) (Or.inl ⟨by rfl, ?_⟩) (by assumption) ?_
  rotate_left
  · intro w hSw
    try dsimp only at hSw
    go_simp
    try with_reducible rfl
  try simp only [Act.put, List.setIfInBounds_toArray, List.set_cons_zero, List.set_cons_succ]
  refine wpAnyH_take (i := 24) (v := ?_) (by simp only [List.getElem?_toArray, List.getElem?_cons_zero, List.getElem?_cons_succ]; rfl) (by kernel_rfl) (by kernel_rfl) (by kernel_rfl) (by exact fun _ _ _ h => h) (Or.inl ⟨by rfl, ?_⟩) (by assumption) ?_
  rotate_left
  · intro w hSw
    try dsimp only at hSw
    go_simp
    try with_reducible rfl
  try simp only [Act.put, List.setIfInBounds_toArray, List.set_cons_zero, List.set_cons_succ]
  refine wpAnyH_take (i := 25) (v := ?_) (by simp only [List.getElem?_toArray, List.getElem?_cons_zero, List.getElem?_cons_succ]; rfl) (by kernel_rfl) (by kernel_rfl) (by kernel_rfl) (by exact fun _ _ _ h => h) (Or.inl ⟨by rfl, ?_⟩) (by assumption) ?_
  rotate_left
  · intro w hSw
    try dsimp only at hSw
    go_simp
    try with_reducible rfl
  try simp only [Act.put, List.setIfInBounds_toArray, List.set_cons_zero, List.set_cons_succ]
  refine wpAnyH_take (i := 26) (v := ?_) (by simp only [List.getElem?_toArray, List.getElem?_cons_zero, List.getElem?_cons_succ]; rfl) (by kernel_rfl) (by kernel_rfl) (by kernel_rfl) (by exact fun _ _ _ h => h) (Or.inl ⟨by rfl, ?_⟩) (by assumption) ?_
  rotate_left
  · intro w hSw
    try dsimp only at hSw
    go_simp
    try with_reducible rfl
  try simp only [Act.put, List.setIfInBounds_toArray, List.set_cons_zero, List.set_cons_succ]
  refine wpAnyH_take (i := 27) (v := ?_) (by simp only [List.getElem?_toArray, List.getElem?_cons_zero, List.getElem?_cons_succ]; rfl) (by kernel_rfl) (by kernel_rfl) (by kernel_rfl) (by exact fun _ _ _ h => h) (Or.inl ⟨by rfl, ?_⟩) (by assumption) ?_
  rotate_left
  · intro w hSw
    try dsimp only at hSw
    go_simp
    try with_reducible rfl
  try simp only [Act.put, List.setIfInBounds_toArray, List.set_cons_zero, List.set_cons_succ]
  refine wpAnyH_take (i := 28) (v := ?_) (by simp only [List.getElem?_toArray, List.getElem?_cons_zero, List.getElem?_cons_succ]; rfl) (by kernel_rfl) (by kernel_rfl) (by kernel_rfl) (by exact fun _ _ _ h => h) (Or.inl ⟨by rfl, ?_⟩) (by assumption) ?_
  rotate_left
  · intro w hSw
    try dsimp only at hSw
    go_simp
    try with_reducible rfl
  try simp only [Act.put, List.setIfInBounds_toArray, List.set_cons_zero, List.set_cons_succ]
  refine wpAnyH_take (i := 29) (v := ?_) (by simp only [List.getElem?_toArray, List.getElem?_cons_zero, List.getElem?_cons_succ]; rfl) (by kernel_rfl) (by kernel_rfl) (by kernel_rfl) (by exact fun _ _ _ h => h) (Or.inl ⟨by rfl, ?_⟩) (by assumption) ?_
  rotate_left
  · intro w hSw
    try dsimp only at hSw
    go_simp
    try with_reducible rfl
  try simp only [Act.put, List.setIfInBounds_toArray, List.set_cons_zero, List.set_cons_succ]
  refine wpAnyH_ready (rs := [30]) (by kernel_rfl) (by simp) ?_
  refine AllReadyH.cons (by simp only [List.getElem?_toArray, List.getElem?_cons_zero, List.getElem?_cons_succ]; rfl) (fun K hK => ?_) AllReadyH.nil
  go_simp
  refine (unhide HSz _ hk2).mono ?_
  rintro e X3 ⟨rfl, hb⟩
  have hk3 := hk2.trans (hb.mono hk2.size)
  clear hb
  go_wp2_with fail
  refine hK.out _ _ ⟨say9 bX.out (hk3), say9 bXr.out (hk3), say9 bY.out (hk3), say9 bYr.out (hk3), say9 bZ.out (hk3), say9 bUp.out (hk3), say9 bg.out (hk3), say5 bS.out (hk3), hk3⟩ (fun hHeld => ?_)
  clear hK K
  try simp only [Act.put, List.setIfInBounds_toArray, List.set_cons_zero, List.set_cons_succ]
  refine wpAnyH_take (i := 31) (v := ?_) (by simp only [List.getElem?_toArray, List.getElem?_cons_zero, List.getElem?_cons_succ]; rfl) (by kernel_rfl) (by kernel_rfl) (by kernel_rfl) (by exact fun _ _ _ h => h) (Or.inl ⟨by rfl, ?_⟩) (by assumption) ?_
  rotate_left
  · intro w hSw
    try dsimp only at hSw
    go_simp
    try with_reducible rfl
  try simp only [Act.put, List.setIfInBounds_toArray, List.set_cons_zero, List.set_cons_succ]
  refine wpAnyH_take (i := 32) (v := ?_) (by simp only [List.getElem?_toArray, List.getElem?_cons_zero, List.getElem?_cons_succ]; rfl) (by kernel_rfl) (by kernel_rfl) (by kernel_rfl) (by exact fun _ _ _ h => h) (Or.inl ⟨by rfl, ?_⟩) (by assumption) ?_
  rotate_left
  · intro w hSw
    try dsimp only at hSw
    go_simp
    try with_reducible rfl
  try simp only [Act.put, List.setIfInBounds_toArray, List.set_cons_zero, List.set_cons_succ]
  refine wpAnyH_take (i := 33) (v := ?_) (by simp only [List.getElem?_toArray, List.getElem?_cons_zero, List.getElem?_cons_succ]; rfl) (by kernel_rfl) (by kernel_rfl) (by kernel_rfl) (by exact fun _ _ _ h => h) (Or.inl ⟨by rfl, ?_⟩) (by assumption) ?_
  rotate_left
  · intro w hSw
    try dsimp only at hSw
    go_simp
    try with_reducible rfl
  try simp only [Act.put, List.setIfInBounds_toArray, List.set_cons_zero, List.set_cons_succ]
  refine wpAnyH_take (i := 34) (v := ?_) (by simp only [List.getElem?_toArray, List.getElem?_cons_zero, List.getElem?_cons_succ]; rfl) (by kernel_rfl) (by kernel_rfl) (by kernel_rfl) (by exact fun _ _ _ h => h) (Or.inl ⟨by rfl, ?_⟩) (by assumption) ?_
  rotate_left
  · intro w hSw
    try dsimp only at hSw
    go_simp
    try with_reducible rfl
  try simp only [Act.put, List.setIfInBounds_toArray, List.set_cons_zero, List.set_cons_succ]
  refine wpAnyH_take (i := 35) (v := ?_) (by simp only [List.getElem?_toArray, List.getElem?_cons_zero, List.getElem?_cons_succ]; rfl) (by kernel_rfl) (by kernel_rfl) (by kernel_rfl) (by exact fun _ _ _ h => h) (Or.inl ⟨by rfl, ?_⟩) (by assumption) ?_
  rotate_left
  · intro w hSw
    try dsimp only at hSw
    go_simp
    try with_reducible rfl
  try simp only [Act.put, List.setIfInBounds_toArray, List.set_cons_zero, List.set_cons_succ]
  refine wpAnyH_take (i := 36) (v := ?_) (by simp only [List.getElem?_toArray, List.getElem?_cons_zero, List.getElem?_cons_succ]; rfl) (by kernel_rfl) (by kernel_rfl) (by kernel_rfl) (by exact fun _ _ _ h => h) (Or.inl ⟨by rfl, ?_⟩) (by assumption) ?_
  rotate_left
  · intro w hSw
    try dsimp only at hSw
    go_simp
    try with_reducible rfl
  try simp only [Act.put, List.setIfInBounds_toArray, List.set_cons_zero, List.set_cons_succ]
  refine wpAnyH_take (i := 37) (v := ?_) (by simp only [List.getElem?_toArray, List.getElem?_cons_zero, List.getElem?_cons_succ]; rfl) (by kernel_rfl) (by kernel_rfl) (by kernel_rfl) (by exact fun _ _ _ h => h) (Or.inl ⟨by rfl, ?_⟩) (by assumption) ?_
  rotate_left
  · intro w hSw
    try dsimp only at hSw
    go_simp
    try with_reducible rfl
  try simp only [Act.put, List.setIfInBounds_toArray, List.set_cons_zero, List.set_cons_succ]
  refine wpAnyH_take (i := 38) (v := ?_) (by simp only [List.getElem?_toArray, List.getElem?_cons_zero, List.getElem?_cons_succ]; rfl) (by kernel_rfl) (by kernel_rfl) (by kernel_rfl) (by exact fun _ _ _ h => h) (Or.inl ⟨by rfl, ?_⟩) (by assumption) ?_
  rotate_left
  · intro w hSw
    try dsimp only at hSw
    go_simp
    try with_reducible rfl
  try simp only [Act.put, List.setIfInBounds_toArray, List.set_cons_zero, List.set_cons_succ]
  refine wpAnyH_ready (rs := [39]) (by kernel_rfl) (by simp) ?_
  refine AllReadyH.cons (by simp only [List.getElem?_toArray, List.getElem?_cons_zero, List.getElem?_cons_succ]; rfl) (fun K hK => ?_) AllReadyH.nil
  go_simp
  refine (unhide HSt1 _ (hw.trans (hk3.mono hw.size))).mono ?_
  rintro e X4 ⟨rfl, hb⟩
  have hk4 := hk3.trans (hb.mono hk3.size)
  clear hb
  go_wp2_with fail
  refine hK.out _ _ ⟨say9 bX.out (hk4), say9 bXr.out (hk4), say9 bY.out (hk4), say9 bYr.out (hk4), say9 bZ.out (hk4), say9 bUp.out (hk4), say9 bg.out (hk4), say5 bS.out (hk4), hk4⟩ (fun hHeld => ?_)
  clear hK K
  try simp only [Act.put, List.setIfInBounds_toArray, List.set_cons_zero, List.set_cons_succ]
  refine wpAnyH_take (i := 40) (v := ?_) (by simp only [List.getElem?_toArray, List.getElem?_cons_zero, List.getElem?_cons_succ]; rfl) (by kernel_rfl) (by kernel_rfl) (by kernel_rfl) (by exact fun _ _ _ h => h) (Or.inl ⟨by rfl, ?_⟩) (by assumption) ?_
  rotate_left
  · intro w hSw
    try dsimp only at hSw
    go_simp
    try with_reducible rfl
  try simp only [Act.put, List.setIfInBounds_toArray, List.set_cons_zero, List.set_cons_succ]
  refine wpAnyH_take (i := 41) (v := ?_) (by simp only [List.getElem?_toArray, List.getElem?_cons_zero, List.getElem?_cons_succ]; rfl) (by kernel_rfl) (by kernel_rfl) (by kernel_rfl) (by exact fun _ _ _ h => h) (Or.inl ⟨by rfl, ?_⟩) (by assumption) ?_
  rotate_left
  · intro w hSw
    try dsimp only at hSw
    go_simp
    try with_reducible rfl
  try simp only [Act.put, List.setIfInBounds_toArray, List.set_cons_zero, List.set_cons_succ]
  refine wpAnyH_take (i := 42) (v := ?_) (by simp only [List.getElem?_toArray, List.getElem?_cons_zero, List.getElem?_cons_succ]; rfl) (by kernel_rfl) (by kernel_rfl) (by kernel_rfl) (by exact fun _ _ _ h => h) (Or.inl ⟨by rfl, ?_⟩) (by assumption) ?_
  rotate_left
  · intro w hSw
    try dsimp only at hSw
    go_simp
    try with_reducible rfl
  try simp only [Act.put, List.setIfInBounds_toArray, List.set_cons_zero, List.set_cons_succ]
  refine wpAnyH_done (by kernel_rfl) ?_ _
  go_wp2_with fail
  go_ret
  exact ⟨rfl, hw.trans (hk4.mono hw.size)⟩

end Go.Proofs.YtgngpmgjoifepaaGreatDoor
