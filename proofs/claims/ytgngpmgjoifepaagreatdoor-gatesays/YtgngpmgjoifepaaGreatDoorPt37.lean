/- The ref's GateHears. The ref's GateGivesUp. The ref's CheckBook, NameOf. The ref's spaced, ImageText, CheckImage. -/
import Derived.Test.YtgngpmgjoifepaaGreatDoorPt35
import Derived.Test.YtgngpmgjoifepaaGreatDoorPt36
import Derived.Test.YtgngpmgjoifepaaGreatDoorPt24
import Derived.BigQuiet
import Derived.Test.YtgngpmgjoifepaaGreatDoorPt18
import Derived.Test.YtgngpmgjoifepaaGreatDoorPt9
namespace Go.Proofs.YtgngpmgjoifepaaGreatDoor
open Go.RowKit
attribute [local go_sem ↓] Go.wp_at_zero Go.wp_at_succ

structure RG (w : World) (F B : Nat) (k : GA) (g : Gt) (bv bd : Nat) : Prop where
  bx : RBox w F B k g
  av : k.av = some ⟨bv, 0, none⟩
  ad : k.ad = some ⟨bd, 0, none⟩
  vo : OwnB w bv g.vo
  di : OwnB w bd g.di
  ne : bv ≠ bd
  nv : B ≠ bv
  nd : B ≠ bd
  wv : Off bv k.a
  wd : Off bd k.a
  kv : Off bv k.ak
  kd : Off bd k.ak
  fv : F ≤ bv
  fd : F ≤ bd
theorem RG.of {w w' : World} {F B : Nat} {k : GA} {g : Gt} {bv bd : Nat} (h : ROwn w F k g bv bd) (hB : B < F) (hF : F ≤ w.heap.size) (hT : w.grownBy w' (some B)) (hb : w'.heap[B]? = some (gtO g k)) : RG w' F B k g bv bd := by
  have fv : F ≤ bv := h.fr.av _ h.av
  have fd : F ≤ bd := h.fr.ad _ h.ad
  exact ⟨⟨hb, rin_turns h.gin h.fr hB hT, h.fr, hB, Nat.le_trans hF hT.size⟩, h.av, h.ad, h.vo.turns hT (by omega), h.di.turns hT (by omega), h.ne, by omega, by omega, h.wv, h.wd, h.kv, h.kd, fv, fd⟩
theorem RG.below {w w' : World} {F B : Nat} {k : GA} {g : Gt} {bv bd : Nat} (h : RG w F B k g bv bd) (hb : Below w.heap.size w w') : RG w' F B k g bv bd :=
  ⟨h.bx.below hb, h.av, h.ad, h.vo.below hb, h.di.below hb, h.ne, h.nv, h.nd, h.wv, h.wd, h.kv, h.kd, h.fv, h.fd⟩
theorem RG.setV {w : World} {F B : Nat} {k : GA} {g : Gt} {bv bd : Nat} (h : RG w F B k g bv bd) (u : Nat) : RBox (w.setCell ⟨bv, u, none⟩ (.bool true)) F B k (setVo g u) := by
  have hT : w.grownBy (w.setCell ⟨bv, u, none⟩ (.bool true)) (some bv) := turns_set1 _ _ _ _
  have o := h.bx.gin
  refine ⟨blk_turns h.bx.box hT h.nv, ⟨o.ws.turns hT h.wv, o.ks.turns hT h.kv, ⟨?_, (setB_len _ _).trans o.vo.len, o.vo.cap, o.vo.max⟩, ⟨?_, o.di.len, o.di.cap, o.di.max⟩⟩, h.bx.fr, h.bx.lt, Nat.le_trans h.bx.sz hT.size⟩
  { rw [h.av]; exact (h.vo.setB u).bools }
  { rw [h.ad]; exact (h.di.turns hT (Ne.symm h.ne)).bools }
theorem RG.setD {w : World} {F B : Nat} {k : GA} {g : Gt} {bv bd : Nat} (h : RG w F B k g bv bd) (u : Nat) : RBox (w.setCell ⟨bd, u, none⟩ (.bool true)) F B k (setDi g u) := by
  have hT : w.grownBy (w.setCell ⟨bd, u, none⟩ (.bool true)) (some bd) := turns_set1 _ _ _ _
  have o := h.bx.gin
  refine ⟨blk_turns h.bx.box hT h.nd, ⟨o.ws.turns hT h.wd, o.ks.turns hT h.kd, ⟨?_, o.vo.len, o.vo.cap, o.vo.max⟩, ⟨?_, (setB_len _ _).trans o.di.len, o.di.cap, o.di.max⟩⟩, h.bx.fr, h.bx.lt, Nat.le_trans h.bx.sz hT.size⟩
  { rw [h.av]; exact (h.vo.turns hT h.ne).bools }
  { rw [h.ad]; exact (h.di.setB u).bools }
theorem rt_set9 {W : World} {B : Nat} {c0 c1 c2 c3 c4 c5 c6 c7 c8 v0 v1 v2 v3 v4 v5 v6 v7 v8 : Value} {t : TypeId} (h : W.heap[B]? = some (.cells #[c0, c1, c2, c3, c4, c5, c6, c7, c8] t (0, 0))) :
    (((((((((W.setCell ⟨B, 0, none⟩ v0).setCell ⟨B, 1, none⟩ v1).setCell ⟨B, 2, none⟩ v2).setCell ⟨B, 3, none⟩ v3).setCell ⟨B, 4, none⟩ v4).setCell ⟨B, 5, none⟩ v5).setCell ⟨B, 6, none⟩ v6).setCell ⟨B, 7, none⟩ v7).setCell ⟨B, 8, none⟩ v8).heap[B]? = some (.cells #[v0, v1, v2, v3, v4, v5, v6, v7, v8] t (0, 0)) := by
  simp only [World.setCell, Array.getElem?_modify]
  simp [h]

end Go.Proofs.YtgngpmgjoifepaaGreatDoor

namespace Go.Proofs.YtgngpmgjoifepaaGreatDoor
open Go.RowKit
attribute [local go_sem ↓] Go.wp_at_zero Go.wp_at_succ

def RGAns (w : World) (r : Gt × Int) (e : Ending) (w' : World) : Prop := (∃ k, e = .returned (.tuple #[gtv r.1 k, .int .i64 r.2]) ∧ GIn w' k r.1) ∧ Below w.heap.size w w'

set_option maxRecDepth 100000 in
set_option maxHeartbeats 12800000 in
theorem refGivesUp_any (g : Gt) (k0 : GA) (w : World) (h : GIn w k0 g) (h1 : k0.n * 8 ≤ 140737488351232) (h2 : k0.nk * 8 ≤ 140737488351232) (h3 : k0.nv ≤ 140737488351232) (h4 : k0.nd ≤ 140737488351232) (hg : gtE g = 0) :
    Calls Tryz.prog 42 #[gtv g k0] w (RGAns w (gvUp g)) := by
  have hl := (gtE_ok hg).1
  have hv4 := (gtE_ok hg).2.1
  have hdv := (gtE_ok hg).2.2.1
  have hw : Below w.heap.size w ((w.alloc (.cells #[.slice k0.a k0.n k0.c, .int .i64 g.fu, .bool g.up, .int .i64 g.t.r.v, .slice k0.ak k0.nk k0.ck, .int .i64 g.t.r.t, .int .i64 g.t.ver, .slice k0.av k0.nv k0.cv, .slice k0.ad k0.nd k0.cd] 68)).alloc (.cells #[.slice none 0 0, .int .i64 0, .bool false, .int .i64 0, .slice none 0 0, .int .i64 0, .int .i64 0, .slice none 0 0, .slice none 0 0] 68)) := ((Below.refl _ _).alloc (Nat.le_refl _) _).alloc (by simp) _
  have b0 : Hid (((w.alloc (.cells #[.slice k0.a k0.n k0.c, .int .i64 g.fu, .bool g.up, .int .i64 g.t.r.v, .slice k0.ak k0.nk k0.ck, .int .i64 g.t.r.t, .int .i64 g.t.ver, .slice k0.av k0.nv k0.cv, .slice k0.ad k0.nd k0.cd] 68)).alloc (.cells #[.slice none 0 0, .int .i64 0, .bool false, .int .i64 0, .slice none 0 0, .int .i64 0, .int .i64 0, .slice none 0 0, .slice none 0 0] 68)).heap[w.heap.size]? = some (.cells #[.slice k0.a k0.n k0.c, .int .i64 g.fu, .bool g.up, .int .i64 g.t.r.v, .slice k0.ak k0.nk k0.ck, .int .i64 g.t.r.t, .int .i64 g.t.ver, .slice k0.av k0.nv k0.cv, .slice k0.ad k0.nd k0.cd] 68 (0, 0))) := blk_alloc (heap_alloc_last _ _) _
  have b2 : Hid (((w.alloc (.cells #[.slice k0.a k0.n k0.c, .int .i64 g.fu, .bool g.up, .int .i64 g.t.r.v, .slice k0.ak k0.nk k0.ck, .int .i64 g.t.r.t, .int .i64 g.t.ver, .slice k0.av k0.nv k0.cv, .slice k0.ad k0.nd k0.cd] 68)).alloc (.cells #[.slice none 0 0, .int .i64 0, .bool false, .int .i64 0, .slice none 0 0, .int .i64 0, .int .i64 0, .slice none 0 0, .slice none 0 0] 68)).heap[w.heap.size + 1]? = some (.cells #[.slice none 0 0, .int .i64 0, .bool false, .int .i64 0, .slice none 0 0, .int .i64 0, .int .i64 0, .slice none 0 0, .slice none 0 0] 68 (0, 0))) := uLast1 _ _ _
  have HO := hide (fun W (hW : Below w.heap.size w W) => ownGate_any g k0 W (h.below hW) h1 h2 h3 h4)
  have HS := hide (fun W (hW : Below w.heap.size w W) => refState_any g k0 W (h.below hW) hl)
  have hx : w.heap.size ≤ w.heap.size + 1 := by omega
  have HL := hide hl
  have HGt := hide hg
  clear h h1 h2 h3 h4 hl hg
  unfold gtv at HO HS
  unfold gsv at HS
  unfold gtv
  obtain ⟨x0, x1, x2, x3, x4, x5, x6, x7, x8⟩ := cl9 b0.out
  go_enter Tryz.func42, Tryz.ntmps42
  go_wp2_with fail
  generalize ((w.alloc (.cells #[.slice k0.a k0.n k0.c, .int .i64 g.fu, .bool g.up, .int .i64 g.t.r.v, .slice k0.ak k0.nk k0.ck, .int .i64 g.t.r.t, .int .i64 g.t.ver, .slice k0.av k0.nv k0.cv, .slice k0.ad k0.nd k0.cd] 68)).alloc (.cells #[.slice none 0 0, .int .i64 0, .bool false, .int .i64 0, .slice none 0 0, .int .i64 0, .int .i64 0, .slice none 0 0, .slice none 0 0] 68)) = W at *
  refine (unhide HS _ hw).mono ?_
  rintro e w1 ⟨rfl, hb⟩
  replace b0 := hide (blk_below b0.out hb)
  replace b2 := hide (blk_below b2.out hb)
  replace hw := hw.trans (hb.mono hw.size)
  clear hb HS x0 x1 x2 x3 x4 x5 x6 x7 x8
  obtain ⟨s, hs⟩ : ∃ s, s = gOf g.ws := ⟨_, rfl⟩
  rw [← hs]
  have HSs := hide hs
  clear hs
  go_upto_region 2 with fail
  have hb2 : Below w1.heap.size w1 (w1.alloc (.cells #[.int .i64 s.n, .int .i64 s.v, .bool s.co, .bool s.ab, .bool s.en] 82)) := below_new (Below.refl _ _) _
  have bS := hide (heap_alloc_last w1 (.cells #[.int .i64 s.n, .int .i64 s.v, .bool s.co, .bool s.ab, .bool s.en] 82))
  replace b0 := hide (blk_below b0.out hb2)
  replace b2 := hide (blk_below b2.out hb2)
  replace hw := hw.trans (hb2.mono hw.size)
  clear hb2
  generalize w1.alloc (.cells #[.int .i64 s.n, .int .i64 s.v, .bool s.co, .bool s.ab, .bool s.en] 82) = W1 at *
  generalize w1.heap.size = S at *
  have x2 := blk_cell b0.out 2 _ rfl
  cases zu : g.up
  {
  have HE : Hid (gvUp g = (gt0, 7)) := by have q := upE_7 HGt.out zu; show _ = _; rw [gvUp_e (by rw [q]; decide), q]
  rw [zu] at x2
  clear zu HSs HGt HO
  obtain ⟨y0, y1, y2, y3, y4, y5, y6, y7, y8⟩ := cl9 b2.out
  obtain ⟨f0, f1, f2, f3, f4, f5, f6, f7, f8⟩ := fr9 b2.out
  go_wp2_with fail
  refine bodyPost_ret (v := .tuple #[gtv gt0 ga0, .int .i64 7]) (by simp [results, Tryz.results42, go_sem, gtv, gt0, ga0, y0, y1, y2, y3, y4, y5, y6, y7, y8]) rfl ?_
  rw [HE.out]
  exact ⟨⟨ga0, rfl, gin0 _⟩, turns_below hw (turns_set (turns_set (turns_set (turns_set (turns_set (turns_set (turns_set (turns_set (turns_set (World.grownBy.refl W1 (some (w.heap.size + 1))) 0 (.slice none 0 0)) 1 (.int .i64 0)) 2 (.bool false)) 3 (.int .i64 0)) 4 (.slice none 0 0)) 5 (.int .i64 0)) 6 (.int .i64 0)) 7 (.slice none 0 0)) 8 (.slice none 0 0)) hx hw.size⟩
  }
  rw [zu] at x2
  have HU := hide (upE_0 HGt.out zu)
  clear zu HGt
  have s0 := blk_cell bS.out 0 _ rfl
  have s2 := blk_cell bS.out 2 _ rfl
  have s3 := blk_cell bS.out 3 _ rfl
  by_cases z : s.n = 0
  {
  have HE : Hid (gvUp g = (gt0, 12)) := gvUp_l HU.out (by rw [← HSs.out]; simp [z])
  have d : (s.n == 0) = true := by simpa using z
  clear z HO HSs
  obtain ⟨y0, y1, y2, y3, y4, y5, y6, y7, y8⟩ := cl9 b2.out
  obtain ⟨f0, f1, f2, f3, f4, f5, f6, f7, f8⟩ := fr9 b2.out
  go_wp2_with fail
  refine bodyPost_ret (v := .tuple #[gtv gt0 ga0, .int .i64 12]) (by simp [results, Tryz.results42, go_sem, gtv, gt0, ga0, y0, y1, y2, y3, y4, y5, y6, y7, y8]) rfl ?_
  rw [HE.out]
  exact ⟨⟨ga0, rfl, gin0 _⟩, turns_below hw (turns_set (turns_set (turns_set (turns_set (turns_set (turns_set (turns_set (turns_set (turns_set (World.grownBy.refl W1 (some (w.heap.size + 1))) 0 (.slice none 0 0)) 1 (.int .i64 0)) 2 (.bool false)) 3 (.int .i64 0)) 4 (.slice none 0 0)) 5 (.int .i64 0)) 6 (.int .i64 0)) 7 (.slice none 0 0)) 8 (.slice none 0 0)) hx hw.size⟩
  }
  have d : (s.n == 0) = false := by simpa using z
  cases co : s.co
  rotate_left
  {
  have HE : Hid (gvUp g = (gt0, 12)) := gvUp_l HU.out (by rw [← HSs.out]; unfold decG; simp [co])
  rw [co] at s2
  clear z co HO HSs
  obtain ⟨y0, y1, y2, y3, y4, y5, y6, y7, y8⟩ := cl9 b2.out
  obtain ⟨f0, f1, f2, f3, f4, f5, f6, f7, f8⟩ := fr9 b2.out
  go_wp2_with fail
  refine bodyPost_ret (v := .tuple #[gtv gt0 ga0, .int .i64 12]) (by simp [results, Tryz.results42, go_sem, gtv, gt0, ga0, y0, y1, y2, y3, y4, y5, y6, y7, y8]) rfl ?_
  rw [HE.out]
  exact ⟨⟨ga0, rfl, gin0 _⟩, turns_below hw (turns_set (turns_set (turns_set (turns_set (turns_set (turns_set (turns_set (turns_set (turns_set (World.grownBy.refl W1 (some (w.heap.size + 1))) 0 (.slice none 0 0)) 1 (.int .i64 0)) 2 (.bool false)) 3 (.int .i64 0)) 4 (.slice none 0 0)) 5 (.int .i64 0)) 6 (.int .i64 0)) 7 (.slice none 0 0)) 8 (.slice none 0 0)) hx hw.size⟩
  }
  cases ab : s.ab
  rotate_left
  {
  have HE : Hid (gvUp g = (gt0, 12)) := gvUp_l HU.out (by rw [← HSs.out]; unfold decG; simp [ab])
  rw [co] at s2
  rw [ab] at s3
  clear z co ab HO HSs
  obtain ⟨y0, y1, y2, y3, y4, y5, y6, y7, y8⟩ := cl9 b2.out
  obtain ⟨f0, f1, f2, f3, f4, f5, f6, f7, f8⟩ := fr9 b2.out
  go_wp2_with fail
  refine bodyPost_ret (v := .tuple #[gtv gt0 ga0, .int .i64 12]) (by simp [results, Tryz.results42, go_sem, gtv, gt0, ga0, y0, y1, y2, y3, y4, y5, y6, y7, y8]) rfl ?_
  rw [HE.out]
  exact ⟨⟨ga0, rfl, gin0 _⟩, turns_below hw (turns_set (turns_set (turns_set (turns_set (turns_set (turns_set (turns_set (turns_set (turns_set (World.grownBy.refl W1 (some (w.heap.size + 1))) 0 (.slice none 0 0)) 1 (.int .i64 0)) 2 (.bool false)) 3 (.int .i64 0)) 4 (.slice none 0 0)) 5 (.int .i64 0)) 6 (.int .i64 0)) 7 (.slice none 0 0)) 8 (.slice none 0 0)) hx hw.size⟩
  }
  have HE : Hid (gvUp g = ((noteG g s [3, s.n]).1, 0)) := by have q := gvUp_0 HU.out (by rw [← HSs.out]; unfold decG; simp [z, co, ab]); rw [← HSs.out] at q; exact hide q
  rw [co] at s2
  rw [ab] at s3
  clear z co ab
  go_upto_region 6 with fail
  clear x2 s2 s3 d s0
  obtain ⟨x0, x1, x2, x3, x4, x5, x6, x7, x8⟩ := cl9 b0.out
  go_wp2_with fail
  have hF : w.heap.size + 1 < W1.heap.size := blk_lt b2.out
  refine (unhide HO _ hw).mono ?_
  rintro e w3 ⟨⟨k, bv, bd, rfl, ho⟩, hb⟩
  have hF1 := hb.size
  replace b0 := hide (blk_below b0.out hb)
  replace b2 := hide (blk_below b2.out hb)
  replace bS := hide (blk_below bS.out hb)
  replace hw := hw.trans (hb.mono hw.size)
  clear hb HO x0 x1 x2 x3 x4 x5 x6 x7 x8
  obtain ⟨x0, x1, x2, x3, x4, x5, x6, x7, x8⟩ := cl9 b0.out
  obtain ⟨f0, f1, f2, f3, f4, f5, f6, f7, f8⟩ := fr9 b0.out
  unfold gtv
  go_upto_region 7 with fail
  have hT : w3.grownBy (((((((((w3.setCell ⟨w.heap.size, 0, none⟩ (.slice k.a k.n k.c)).setCell ⟨w.heap.size, 1, none⟩ (.int .i64 g.fu)).setCell ⟨w.heap.size, 2, none⟩ (.bool g.up)).setCell ⟨w.heap.size, 3, none⟩ (.int .i64 g.t.r.v)).setCell ⟨w.heap.size, 4, none⟩ (.slice k.ak k.nk k.ck)).setCell ⟨w.heap.size, 5, none⟩ (.int .i64 g.t.r.t)).setCell ⟨w.heap.size, 6, none⟩ (.int .i64 g.t.ver)).setCell ⟨w.heap.size, 7, none⟩ (.slice k.av k.nv k.cv)).setCell ⟨w.heap.size, 8, none⟩ (.slice k.ad k.nd k.cd)) (some w.heap.size) := turns_set (turns_set (turns_set (turns_set (turns_set (turns_set (turns_set (turns_set (turns_set (World.grownBy.refl w3 (some w.heap.size)) 0 (.slice k.a k.n k.c)) 1 (.int .i64 g.fu)) 2 (.bool g.up)) 3 (.int .i64 g.t.r.v)) 4 (.slice k.ak k.nk k.ck)) 5 (.int .i64 g.t.r.t)) 6 (.int .i64 g.t.ver)) 7 (.slice k.av k.nv k.cv)) 8 (.slice k.ad k.nd k.cd)
  have HG := hide (RG.of ho (by omega) hF1 hT (rt_set9 b0.out))
  replace b2 := hide (blk_turns b2.out hT (by omega))
  replace bS := hide (blk_turns bS.out hT (by intro e; subst e; have q := bS.out; rw [b0.out] at q; simp at q))
  replace hw := turns_below hw hT (Nat.le_refl _) hw.size
  clear hT ho b0 x0 f0 x1 f1 x2 f2 x3 f3 x4 f4 x5 f5 x6 f6 x7 f7 x8 f8
  generalize (((((((((w3.setCell ⟨w.heap.size, 0, none⟩ (.slice k.a k.n k.c)).setCell ⟨w.heap.size, 1, none⟩ (.int .i64 g.fu)).setCell ⟨w.heap.size, 2, none⟩ (.bool g.up)).setCell ⟨w.heap.size, 3, none⟩ (.int .i64 g.t.r.v)).setCell ⟨w.heap.size, 4, none⟩ (.slice k.ak k.nk k.ck)).setCell ⟨w.heap.size, 5, none⟩ (.int .i64 g.t.r.t)).setCell ⟨w.heap.size, 6, none⟩ (.int .i64 g.t.ver)).setCell ⟨w.heap.size, 7, none⟩ (.slice k.av k.nv k.cv)).setCell ⟨w.heap.size, 8, none⟩ (.slice k.ad k.nd k.cd)) = W3 at *
  have hb3 : Below W3.heap.size W3 (W3.alloc (.cells #[.int .i64 3, .int .i64 s.n] 3)) := below_new (Below.refl _ _) _
  have s0 := blk_cell bS.out 0 _ rfl
  have HN := hide (noted_any W1.heap.size w.heap.size k g (some ⟨W3.heap.size, 0, none⟩) 2 2 [3, s.n] (W3.alloc (.cells #[.int .i64 3, .int .i64 s.n] 3)) (HG.out.bx.below hb3) (gi_made2 W3 3 s.n 3) HL.out (by have := HG.out.bx.gin.vo.len; omega) (by have := HG.out.bx.gin.di.len; omega))
  rw [← HSs.out] at HN
  replace b2 := hide (blk_below b2.out hb3)
  replace hw := hw.trans (hb3.mono hw.size)
  go_wp2_with fail
  refine (unhide HN).mono ?_
  rintro e w6 ⟨rfl, ⟨k2, hbx⟩, hg6⟩
  generalize noteG g s [3, s.n] = R2 at *
  replace b2 := hide (blk_turns b2.out hg6 (by omega))
  replace hw := turns_below hw hg6 (Nat.le_refl _) hw.size
  have HB := hide hbx
  obtain ⟨g2, hg2⟩ : ∃ g2, g2 = R2.1 := ⟨_, rfl⟩
  rw [← hg2] at HB HE
  clear hbx hg6 HN s0 bS hb3 hg2
  have bC := hide HB.out.box
  unfold gtO at bC
  obtain ⟨x0, x1, x2, x3, x4, x5, x6, x7, x8⟩ := cl9 bC.out
  obtain ⟨y0, y1, y2, y3, y4, y5, y6, y7, y8⟩ := cl9 b2.out
  obtain ⟨f0, f1, f2, f3, f4, f5, f6, f7, f8⟩ := fr9 b2.out
  go_wp2_with fail
  refine bodyPost_ret (v := .tuple #[gtv g2 k2, .int .i64 0]) (by simp [results, Tryz.results42, go_sem, gtv, y0, y1, y2, y3, y4, y5, y6, y7, y8]) rfl ?_
  rw [HE.out]
  have hT := turns_set (turns_set (turns_set (turns_set (turns_set (turns_set (turns_set (turns_set (turns_set (World.grownBy.refl w6 (some (w.heap.size + 1))) 0 (.slice k2.a k2.n k2.c)) 1 (.int .i64 g2.fu)) 2 (.bool g2.up)) 3 (.int .i64 g2.t.r.v)) 4 (.slice k2.ak k2.nk k2.ck)) 5 (.int .i64 g2.t.r.t)) 6 (.int .i64 g2.t.ver)) 7 (.slice k2.av k2.nv k2.cv)) 8 (.slice k2.ad k2.nd k2.cd)
  exact ⟨⟨k2, rfl, rin_turns HB.out.gin HB.out.fr hF hT⟩, turns_below hw hT hx hw.size⟩

end Go.Proofs.YtgngpmgjoifepaaGreatDoor

namespace Go.Proofs.YtgngpmgjoifepaaGreatDoor
open Go.RowKit

theorem nameN_take {ss : List ByteArray} {s : ByteArray} : ∀ {k : Nat}, nameN (ss.take k) s ≠ 0 → nameN ss s = nameN (ss.take k) s := by
  induction ss with
  | nil => intro k h; simp [nameN] at h
  | cons t r ih =>
    intro k h
    cases k with
    | zero => simp [nameN] at h
    | succ k =>
      simp only [List.take_succ_cons] at h ⊢
      unfold nameN at h ⊢
      by_cases e : t = s
      { rw [if_pos e, if_pos e] }
      {
      rw [if_neg e] at h ⊢
      rw [if_neg e]
      by_cases h0 : nameN (r.take k) s = 0
      { rw [if_pos h0] at h; exact absurd rfl h }
      {
      rw [ih h0]

      }
      }
theorem index_before {ss : List ByteArray} {k : Nat} (hk : k < ss.length) : decide ((nameN ss ss[k] : Int) - 1 < (k : Int)) = hasB (ss.take k) ss[k] := by
  unfold hasB
  rw [decide_eq_decide]
  by_cases h : nameN (ss.take k) ss[k] = 0
  {
  rw [nameN_hit (nameN_zero.1 h) (List.getElem?_eq_getElem hk)]
  simp only [ne_eq, h, not_true_eq_false, iff_false]
  omega
  }
  {
  have h1 := nameN_take h
  have h2 := nameN_le (ss.take k) ss[k]
  rw [List.length_take] at h2
  simp only [ne_eq, h, not_false_eq_true, iff_true]
  omega

  }
set_option maxHeartbeats 800000 in
set_option maxRecDepth 100000 in
theorem refCheckBook_any (a : Option Addr) (n c : Nat) (ss : List ByteArray) (w : World) (h : IsStrs w a ss) (hn : ss.length = n) (hm : n ≤ maxLen) (hz : ∀ s ∈ ss, s.size ≤ maxLen) :
    Calls Tryz.prog 26 #[bookv a n c] w fun e w' => e = .returned (.int .i64 (bookE ss)) ∧ Below w.heap.size w w' := by
  have HN := hide hn
  have HI := hide (fun W s (hW : IsStrs W a ss) => index_strs a n c ss s W hW hn hm)
  unfold maxLen at hm hz
  unfold bookv
  have hw0 : Below w.heap.size w (w.alloc (.cells #[.slice a n c] 24)) := (Below.refl _ _).alloc (Nat.le_refl _) _
  by_cases h1 : 60 < n
  {
  have HE := hide (show bookE ss = 2 by unfold bookE; rw [if_pos (by omega)])
  clear hn
  go_enter Tryz.func26, Tryz.ntmps26
  go_wp2_with fail
  go_ret
  exact ⟨ret_int HE.out.symm, hw0⟩
  }
  {
  have HE := hide (show bookE ss = booksE [] ss by unfold bookE; rw [if_neg (by omega)])
  clear hn
  go_enter Tryz.func26, Tryz.ntmps26
  go_wp2_with fail
  go_loopw [12] (fun i wr => ∃ k : Nat, k ≤ n ∧ i = .int .i64 k ∧ wr = w.alloc (.cells #[.slice a n c] 24) ∧ Hid (booksE (ss.take k) (ss.drop k) = booksE [] ss)) (fun i _ => n - (intOf i).toNat)
  case atStart => exact ⟨0, Nat.zero_le _, rfl, rfl, by show _ = _; simp⟩
  case round =>
    obtain ⟨k, hk, rfl, rfl, ht⟩ := hrel
    by_cases hlt : k < n
    {
    have i1 := h.below hw0
    have hkx : k < ss.length := by rw [HN.out]; exact hlt
    have HIk := hide (unhide HI _ ss[k] i1)
    have hdec := index_before hkx
    rcases i1 with rfl | ⟨b0, o0, rfl, hc0⟩
    {
    have := HN.out
    simp at this
    omega
    }
    have e0 := hc0 k hkx
    rw [show ss.getD k ByteArray.empty = ss[k] by simp [hkx]] at e0
    have hzk := hz ss[k] (List.getElem_mem hkx)
    clear hc0
    obtain ⟨q, hq⟩ : ∃ q : Int, q = (nameN ss ss[k] : Int) - 1 := ⟨_, rfl⟩
    rw [← hq] at hdec HIk
    clear hq
    by_cases h2 : 2000 < ss[k].size
    {
    have HV := hide (booksE_long hkx h2)
    clear hdec
    generalize ss[k] = sk at *
    go_wp2_with fail
    go_ret
    exact ⟨ret_int (by rw [HE.out, ← ht.out, HV.out]), hw0⟩
    }
    {
    cases h3 : hasB (ss.take k) ss[k]
    {
    have HV := hide (booksE_next hkx h2 h3)
    rw [h3] at hdec
    clear h3
    generalize ss[k] = sk at *
    go_wp2_with (go_at_call 71; refine (unhide HIk).mono ?_; rintro e w' ⟨rfl, rfl⟩)
    go_roundw
    case rel => exact ⟨k + 1, by omega, by go_num, trivial, by show _ = _; rw [← ht.out, HV.out]⟩
    case measure => simp [intOf]; omega
    }
    {
    have HV := hide (booksE_two hkx h2 h3)
    rw [h3] at hdec
    clear h3
    generalize ss[k] = sk at *
    go_wp2_with (go_at_call 71; refine (unhide HIk).mono ?_; rintro e w' ⟨rfl, rfl⟩)
    go_ret
    exact ⟨ret_int (by rw [HE.out, ← ht.out, HV.out]), hw0⟩
    }
    }
    }
    {
    go_wp2_with fail
    go_ret
    have hx := ht.out
    rw [List.drop_eq_nil_of_le (by rw [HN.out]; omega)] at hx
    exact ⟨ret_int (by rw [HE.out, ← hx]; rfl), hw0⟩

    }
  }
set_option maxHeartbeats 800000 in
set_option maxRecDepth 100000 in
theorem refNameOf_any (a : Option Addr) (n c : Nat) (ss : List ByteArray) (s : ByteArray) (w : World) (h : IsStrs w a ss) (hn : ss.length = n) (hm : n ≤ maxLen) :
    Calls Tryz.prog 76 #[bookv a n c, .string s] w fun e w' => e = .returned (.int .i64 (nameN ss s : Int)) ∧ Below w.heap.size w w' := by
  have HN := hide hn
  unfold maxLen at hm
  unfold bookv
  have hw0 : Below w.heap.size w (w.alloc (.cells #[.slice a n c] 24)) := (Below.refl _ _).alloc (Nat.le_refl _) _
  clear hn
  go_enter Tryz.func76, Tryz.ntmps76
  go_wp2_with fail
  go_loopw [10] (fun i wr => ∃ k : Nat, k ≤ n ∧ i = .int .i64 k ∧ wr = w.alloc (.cells #[.slice a n c] 24) ∧ Hid (s ∉ ss.take k)) (fun i _ => n - (intOf i).toNat)
  case atStart => exact ⟨0, Nat.zero_le _, rfl, rfl, by show _ ∉ _; simp⟩
  case round =>
    obtain ⟨k, hk, rfl, rfl, ht⟩ := hrel
    by_cases hlt : k < n
    {
    have i1 := h.below hw0
    have hkx : k < ss.length := by rw [HN.out]; exact hlt
    rcases i1 with rfl | ⟨b0, o0, rfl, hc0⟩
    {
    have := HN.out
    simp at this
    omega
    }
    have e0 := hc0 k hkx
    rw [show ss.getD k ByteArray.empty = ss[k] by simp [hkx]] at e0
    clear hc0
    by_cases he : ss[k] = s
    {
    have hb : (ss[k].toList == s.toList) = true := (Lib.bytes_beq_iff _ _).2 he
    have HE := hide (nameN_hit ht.out (by rw [List.getElem?_eq_getElem hkx, he]))
    clear he
    generalize ss[k] = sk at *
    go_wp2_with fail
    go_ret
    refine ⟨ret_int ?_, hw0⟩
    rw [HE.out]
    rfl
    }
    {
    have hb : (ss[k].toList == s.toList) = false := (Lib.bytes_beq_false_iff _ _).2 he
    have HE := hide (not_take_step hkx ht.out (fun e => he e.symm))
    clear he
    generalize ss[k] = sk at *
    go_wp2_with fail
    go_roundw
    case rel => exact ⟨k + 1, by omega, by go_num, trivial, HE.out⟩
    case measure => simp [intOf]; omega
    }
    }
    {
    go_wp2_with fail
    go_ret
    have hx := ht.out
    rw [List.take_of_length_le (by rw [HN.out]; omega)] at hx
    exact ⟨ret_int (by rw [nameN_zero.2 hx]; rfl), hw0⟩

    }
end Go.Proofs.YtgngpmgjoifepaaGreatDoor

namespace Go.Proofs.YtgngpmgjoifepaaGreatDoor
open Go.RowKit

theorem join_snoc (sep x : List UInt8) : ∀ (l : List (List UInt8)), l ≠ [] → Lib.join (l ++ [x]) sep = Lib.join l sep ++ sep ++ x
  | [], h => absurd rfl h
  | [a], _ => by rw [List.singleton_append, join_cons2, Lib.join_one, Lib.join_one, List.append_assoc]
  | a :: b :: r, _ => by
    have ih := join_snoc sep x (b :: r) (by simp)
    rw [List.cons_append, List.cons_append, join_cons2, join_cons2]
    rw [List.cons_append] at ih
    rw [ih]
    simp [List.append_assoc]

theorem wr_zero {xs : List Int} (h : 0 < xs.length) : wr (xs.take 1) = Lib.itoa xs[0] := by
  cases xs with
  | nil => simp at h
  | cons x r => simp [wr, Lib.join_one]

theorem wr_snoc {xs : List Int} {k : Nat} (h0 : 0 < k) (hk : k < xs.length) : wr (xs.take (k + 1)) = wr (xs.take k) ++ [32] ++ Lib.itoa xs[k] := by
  unfold wr
  rw [List.take_succ_eq_append_getElem hk, List.map_append, List.map_cons, List.map_nil, join_snoc]
  intro e
  have := congrArg List.length e
  rw [List.length_map, List.length_take, List.length_nil] at this
  omega

theorem app_three (a b c : List UInt8) {s t : ByteArray} (h : s = bs a) (h2 : t = bs b) : s ++ t ++ bs c = bs (a ++ b ++ c) := by rw [h, h2, bs_append, bs_append]

set_option maxHeartbeats 800000 in
set_option maxRecDepth 100000 in
theorem spaced_any (a : Option Addr) (n c : Nat) (xs : List Int) (w : World) (h : IsInts w a xs) (hn : xs.length = n) (hx : ∀ x ∈ xs, I64 x) (hs : n ≤ 64) (hT : Tab w) :
    Calls Tryz.prog 136 #[.slice a n c] w fun e w' => e = .returned (.string (bs (wr xs))) ∧ Below w.heap.size w w' := by
  have HN := hide hn
  clear hn
  go_enter Tryz.func136, Tryz.ntmps136
  go_wp2_with fail
  go_loopw [3, 8] (fun p i wq => ∃ k : Nat, k ≤ n ∧ p = .string (bs (wr (xs.take k))) ∧ i = .int .i64 k ∧ Below w.heap.size w wq) (fun _ i _ => n - (intOf i).toNat)
  case atStart => exact ⟨0, Nat.zero_le _, rfl, rfl, Below.refl _ _⟩
  case round =>
    obtain ⟨wq, rfl⟩ : ∃ wq : World, wq = wr := ⟨_, rfl⟩
    obtain ⟨k, hk, rfl, rfl, hw⟩ := hrel
    by_cases hlt : k < n
    {
    have h1 := h.below hw
    have hkx : k < xs.length := by rw [HN.out]; exact hlt
    have hi := hx xs[k] (List.getElem_mem hkx)
    have hl := hide (wr_short (xs := xs.take k) (fun x hxm => hx x (List.mem_of_mem_take hxm)) (by simp; omega))
    have hl2 := hide (Lib.itoa_length_le xs[k] hi.1 hi.2)
    rcases h1 with h1 | ⟨b0, o0, rfl, hc0⟩
    {
    subst h1
    simp at hkx
    }
    have e0 := hc0 k hkx
    rw [show xs.getD k 0 = xs[k] by simp [hkx]] at e0
    clear hc0
    have hTr := hT.below hw
    have HI := hide (fun W (hW : Tab W) => itoa_any xs[k] hi W hW)
    by_cases hk0 : k = 0
    {
    have HS := hide (wr_zero (xs := xs) (by omega))
    subst hk0
    have za : ¬ 9223372036854775807 < (bs (Lib.itoa xs[0])).size := by rw [bs_size]; have := hl2.out; omega
    have hd : decide ((0 : Int) < 0) = false := by decide
    have zb : ¬ 9223372036854775807 < (bs (wr (xs.take 0))).size + (bs (Lib.itoa xs[0])).size := by rw [bs_size, bs_size]; have := hl2.out; have := hl.out; omega
    simp only [Nat.add_zero] at e0
    generalize xs[0] = x at *
    go_wp2_with fail
    refine (unhide HI _ hTr).mono ?_
    rintro e w1 ⟨rfl, hb1⟩
    go_wp2_with fail
    go_roundw
    case rel =>
      refine ⟨1, by omega, ?_, rfl, hw.trans (hb1.mono hw.size)⟩
      rw [HS.out]
      exact congrArg Value.string (bs_append [] _)
    case measure => simp [intOf]; omega
    }
    {
    have HS := hide (wr_snoc (xs := xs) (by omega) hkx)
    have hd : decide ((0 : Int) < (k : Int)) = true := by simp; omega
    have za : ¬ 9223372036854775807 < (bs (wr (xs.take k))).size + 1 := by rw [bs_size]; have := hl.out; omega
    have zb : ¬ 9223372036854775807 < (bs (wr (xs.take k))).size + 1 + (bs (Lib.itoa xs[k])).size := by rw [bs_size, bs_size]; have := hl2.out; have := hl.out; omega
    generalize xs[k] = x at *
    go_wp2_with fail
    refine (unhide HI _ hTr).mono ?_
    rintro e w1 ⟨rfl, hb1⟩
    go_wp2_with fail
    go_roundw
    case rel =>
      refine ⟨k + 1, by omega, ?_, by go_num, hw.trans (hb1.mono hw.size)⟩
      rw [HS.out]
      exact congrArg Value.string (app_three _ [32] _ rfl rfl)
    case measure => simp [intOf]; omega
    }
    }
    {
    have hkn : k = n := by omega
    have HE := hide (show xs.take k = xs from List.take_of_length_le (by rw [HN.out]; omega))
    rw [HE.out]
    go_wp2_with fail
    go_ret
    exact ⟨rfl, hw⟩

    }
set_option maxHeartbeats 800000 in
set_option maxRecDepth 100000 in
theorem refImageText_any (a : Option Addr) (n c : Nat) (xs : List Int) (w : World) (h : IsInts w a xs) (hn : xs.length = n) (h0 : imgE xs = 0) (hT : Tab w) :
    Calls Tryz.prog 77 #[.slice a n c] w fun e w' => e = .returned (.string (bs (imgT xs))) ∧ Below w.heap.size w w' := by
  have HW := hide (spaced_any a n c xs w h hn (img_I64 h0) (by have := (imgE_ok h0).1; omega) hT)
  have hl := hide (wr_short (img_I64 h0) (by have := (imgE_ok h0).1; omega))
  have hadd : ¬ 9223372036854775807 < 6 + (bs (wr xs)).size := by rw [bs_size]; have := hl.out; omega
  clear hn h0
  go_enter Tryz.func77, Tryz.ntmps77
  go_wp2_with (go_at_call 136; refine (unhide HW).mono ?_; rintro e w1 ⟨rfl, hb1⟩)
  go_ret
  refine ⟨?_, hb1⟩
  exact congrArg (fun x => Ending.returned (Value.string x)) (app_two imgW (wr xs) rfl)

set_option maxHeartbeats 800000 in
set_option maxRecDepth 100000 in
theorem refCheckImage_any (a : Option Addr) (n c : Nat) (xs : List Int) (w : World) (h : IsInts w a xs) (hn : xs.length = n) (hm : n ≤ maxLen) :
    Calls Tryz.prog 21 #[.slice a n c] w fun e w' => e = .returned (.int .i64 (imgE xs)) ∧ w' = w := by
  have HN := hide hn
  have HA := hide (refAllWords_any a n c xs w h hn hm)
  unfold maxLen at hm
  by_cases h1 : n < 1
  {
  have HE := hide (imgE_1 (w := xs) (inR_lo (by omega)))
  have hd : decide ((n : Int) < 1) = true := by simp; omega
  clear hn
  go_enter Tryz.func21, Tryz.ntmps21
  go_wp2_with fail
  go_ret
  exact ⟨ret_int HE.out.symm, rfl⟩
  }
  {
  have hd : decide ((n : Int) < 1) = false := by simp; omega
  by_cases h2 : 40 < n
  {
  have HE := hide (imgE_1 (w := xs) (inR_hi (by omega)))
  have hd2 : decide ((40 : Int) < (n : Int)) = true := by simp; omega
  clear hn
  go_enter Tryz.func21, Tryz.ntmps21
  go_wp2_with fail
  go_ret
  exact ⟨ret_int HE.out.symm, rfl⟩
  }
  {
  have hd2 : decide ((40 : Int) < (n : Int)) = false := by simp; omega
  have hin : inR xs.length 1 40 = true := inR_t (by omega) (by omega)
  cases h3 : okL xs
  {
  have HE := hide (imgE_2 hin h3)
  rw [h3] at HA
  clear hn
  go_enter Tryz.func21, Tryz.ntmps21
  go_wp2_with (go_at_call 67; refine (unhide HA).mono ?_; rintro e w' ⟨rfl, rfl⟩)
  go_ret
  exact ⟨ret_int HE.out.symm, rfl⟩
  }
  {
  have HE := hide (imgE_3 hin h3)
  rw [h3] at HA
  clear hn
  go_enter Tryz.func21, Tryz.ntmps21
  go_wp2_with (go_at_call 67; refine (unhide HA).mono ?_; rintro e w' ⟨rfl, rfl⟩)
  go_ret
  exact ⟨ret_int HE.out.symm, rfl⟩

  }
  }
  }
end Go.Proofs.YtgngpmgjoifepaaGreatDoor
