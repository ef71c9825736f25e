/- The ref's GateHears. -/
import Derived.Test.YtgngpmgjoifepaaGreatDoorPr37
import Derived.Test.YtgngpmgjoifepaaGreatDoorPr38
import Derived.Test.YtgngpmgjoifepaaGreatDoorPr26
import Derived.BigQuiet
namespace Go.Proofs.YtgngpmgjoifepaaGreatDoor
open Go.RowKit
attribute [local go_sem ↓] Go.wp_at_zero Go.wp_at_succ

/-- What the ref answers. -/
def ghR (g : Gt) (m : Ms) : Gt × List Ms := if g.up = true then ghK g (gOf g.ws) m else (g, [])
theorem ghR_hear {g : Gt} {m : Ms} (h : ghE g m = 0) : gHear g m = ((ghR g m).1, (ghR g m).2, 0) := by
  unfold ghR
  cases z : g.up
  · rw [gHear_d h z]; rfl
  · rw [gHear_u h z]; rfl
def RHAns (w : World) (r : Gt × List Ms) (e : Ending) (w' : World) : Prop := (∃ k a n c, e = .returned (.tuple #[gtv r.1 k, .slice a n c]) ∧ GIn w' k r.1 ∧ IsMsgs w' a r.2 ∧ r.2.length = n ∧ n ≤ c) ∧ Below w.heap.size w w'
/-- An own gateway in a box. -/
structure RG (w : World) (F B : Nat) (k : GA) (g : Gt) (bv bd : Nat) : Prop where
  bx : RBox w F B k g
  av : k.av = some ⟨bv, 0, none⟩
  ad : k.ad = some ⟨bd, 0, none⟩
  vo : OwnB w bv g.vo
  di : OwnB w bd g.di
  ne : bv ≠ bd
  nv : B ≠ bv
  nd : B ≠ bd
  wv : Off bv k.a
  wd : Off bd k.a
  kv : Off bv k.ak
  kd : Off bd k.ak
  fv : F ≤ bv
  fd : F ≤ bd
theorem RG.of {w w' : World} {F B : Nat} {k : GA} {g : Gt} {bv bd : Nat} (h : ROwn w F k g bv bd) (hB : B < F) (hF : F ≤ w.heap.size) (hT : w.grownBy w' (some B)) (hb : w'.heap[B]? = some (gtO g k)) : RG w' F B k g bv bd := by
  have fv : F ≤ bv := h.fr.av _ h.av
  have fd : F ≤ bd := h.fr.ad _ h.ad
  exact ⟨⟨hb, rin_turns h.gin h.fr hB hT, h.fr, hB, Nat.le_trans hF hT.size⟩, h.av, h.ad, h.vo.turns hT (by omega), h.di.turns hT (by omega), h.ne, by omega, by omega, h.wv, h.wd, h.kv, h.kd, fv, fd⟩
theorem RG.below {w w' : World} {F B : Nat} {k : GA} {g : Gt} {bv bd : Nat} (h : RG w F B k g bv bd) (hb : Below w.heap.size w w') : RG w' F B k g bv bd :=
  ⟨h.bx.below hb, h.av, h.ad, h.vo.below hb, h.di.below hb, h.ne, h.nv, h.nd, h.wv, h.wd, h.kv, h.kd, h.fv, h.fd⟩
theorem RG.setV {w : World} {F B : Nat} {k : GA} {g : Gt} {bv bd : Nat} (h : RG w F B k g bv bd) (u : Nat) : RBox (w.setCell ⟨bv, u, none⟩ (.bool true)) F B k (setVo g u) := by
  have hT : w.grownBy (w.setCell ⟨bv, u, none⟩ (.bool true)) (some bv) := turns_set1 _ _ _ _
  have o := h.bx.gin
  refine ⟨blk_turns h.bx.box hT h.nv, ⟨o.ws.turns hT h.wv, o.ks.turns hT h.kv, ⟨?_, (setB_len _ _).trans o.vo.len, o.vo.cap, o.vo.max⟩, ⟨?_, o.di.len, o.di.cap, o.di.max⟩⟩, h.bx.fr, h.bx.lt, Nat.le_trans h.bx.sz hT.size⟩
  · rw [h.av]; exact (h.vo.setB u).bools
  · rw [h.ad]; exact (h.di.turns hT (Ne.symm h.ne)).bools
theorem RG.setD {w : World} {F B : Nat} {k : GA} {g : Gt} {bv bd : Nat} (h : RG w F B k g bv bd) (u : Nat) : RBox (w.setCell ⟨bd, u, none⟩ (.bool true)) F B k (setDi g u) := by
  have hT : w.grownBy (w.setCell ⟨bd, u, none⟩ (.bool true)) (some bd) := turns_set1 _ _ _ _
  have o := h.bx.gin
  refine ⟨blk_turns h.bx.box hT h.nd, ⟨o.ws.turns hT h.wd, o.ks.turns hT h.kd, ⟨?_, o.vo.len, o.vo.cap, o.vo.max⟩, ⟨?_, (setB_len _ _).trans o.di.len, o.di.cap, o.di.max⟩⟩, h.bx.fr, h.bx.lt, Nat.le_trans h.bx.sz hT.size⟩
  · rw [h.av]; exact (h.vo.turns hT h.ne).bools
  · rw [h.ad]; exact (h.di.setB u).bools
theorem rdrewN (w : World) (n : Nat) : Below w.heap.size w (w.drewN n) := ⟨rfl, rfl, rfl, Nat.le_refl _, fun _ _ => rfl⟩
theorem rt_set9 {W : World} {B : Nat} {c0 c1 c2 c3 c4 c5 c6 c7 c8 v0 v1 v2 v3 v4 v5 v6 v7 v8 : Value} {t : TypeId} (h : W.heap[B]? = some (.cells #[c0, c1, c2, c3, c4, c5, c6, c7, c8] t (0, 0))) :
    (((((((((W.setCell ⟨B, 0, none⟩ v0).setCell ⟨B, 1, none⟩ v1).setCell ⟨B, 2, none⟩ v2).setCell ⟨B, 3, none⟩ v3).setCell ⟨B, 4, none⟩ v4).setCell ⟨B, 5, none⟩ v5).setCell ⟨B, 6, none⟩ v6).setCell ⟨B, 7, none⟩ v7).setCell ⟨B, 8, none⟩ v8).heap[B]? = some (.cells #[v0, v1, v2, v3, v4, v5, v6, v7, v8] t (0, 0)) := by
  simp only [World.setCell, Array.getElem?_modify]
  simp [h]

set_option maxRecDepth 100000 in
set_option maxHeartbeats 12800000 in
theorem refHears_any (g : Gt) (k0 : GA) (m : Ms) (am : Option Addr) (nm cm : Nat) (w : World) (h : GIn w k0 g) (h1 : k0.n * 8 ≤ 140737488351232) (h2 : k0.nk * 8 ≤ 140737488351232) (h3 : k0.nv ≤ 140737488351232) (h4 : k0.nd ≤ 140737488351232) (he : ghE g m = 0) :
    Calls Tryz.prog 47 #[gtv g k0, msv m am nm cm] w (RHAns w (ghR g m)) := by
  obtain ⟨hg0, hu0, hu1⟩ : gtE g = 0 ∧ 0 ≤ m.u ∧ m.u < g.vo.length := by
    unfold ghE at he
    split at he
    · rename_i q; exact absurd he q
    · rename_i q
      split at he
      · rename_i q2; unfold inB at q2; simp at q2; exact ⟨by simpa using q, by omega, by omega⟩
      · cases he
  have hl := (gtE_ok hg0).1
  have hv4 := (gtE_ok hg0).2.1
  have hdv := (gtE_ok hg0).2.2.1
  obtain ⟨u, hu⟩ : ∃ u : Nat, m.u = (u : Int) := ⟨m.u.toNat, by omega⟩
  have hul : u < g.vo.length := by omega
  clear he hg0 hu0 hu1
  have hw : Below w.heap.size w (((w.alloc (.cells #[.slice k0.a k0.n k0.c, .int .i64 g.fu, .bool g.up, .int .i64 g.t.r.v, .slice k0.ak k0.nk k0.ck, .int .i64 g.t.r.t, .int .i64 g.t.ver, .slice k0.av k0.nv k0.cv, .slice k0.ad k0.nd k0.cd] 68)).alloc (.cells #[.int .i64 m.k, .int .i64 m.u, .int .i64 m.n, .int .i64 m.at', .int .i64 m.im, .slice am nm cm, .bool m.y] 31)).alloc (.cells #[.slice none 0 0, .int .i64 0, .bool false, .int .i64 0, .slice none 0 0, .int .i64 0, .int .i64 0, .slice none 0 0, .slice none 0 0] 68)) := (((Below.refl _ _).alloc (Nat.le_refl _) _).alloc (by simp) _).alloc (by simp; omega) _
  have b0 : Hid ((((w.alloc (.cells #[.slice k0.a k0.n k0.c, .int .i64 g.fu, .bool g.up, .int .i64 g.t.r.v, .slice k0.ak k0.nk k0.ck, .int .i64 g.t.r.t, .int .i64 g.t.ver, .slice k0.av k0.nv k0.cv, .slice k0.ad k0.nd k0.cd] 68)).alloc (.cells #[.int .i64 m.k, .int .i64 m.u, .int .i64 m.n, .int .i64 m.at', .int .i64 m.im, .slice am nm cm, .bool m.y] 31)).alloc (.cells #[.slice none 0 0, .int .i64 0, .bool false, .int .i64 0, .slice none 0 0, .int .i64 0, .int .i64 0, .slice none 0 0, .slice none 0 0] 68)).heap[w.heap.size]? = some (.cells #[.slice k0.a k0.n k0.c, .int .i64 g.fu, .bool g.up, .int .i64 g.t.r.v, .slice k0.ak k0.nk k0.ck, .int .i64 g.t.r.t, .int .i64 g.t.ver, .slice k0.av k0.nv k0.cv, .slice k0.ad k0.nd k0.cd] 68 (0, 0))) := blk_alloc (blk_alloc (heap_alloc_last _ _) _) _
  have b1 : Hid ((((w.alloc (.cells #[.slice k0.a k0.n k0.c, .int .i64 g.fu, .bool g.up, .int .i64 g.t.r.v, .slice k0.ak k0.nk k0.ck, .int .i64 g.t.r.t, .int .i64 g.t.ver, .slice k0.av k0.nv k0.cv, .slice k0.ad k0.nd k0.cd] 68)).alloc (.cells #[.int .i64 m.k, .int .i64 m.u, .int .i64 m.n, .int .i64 m.at', .int .i64 m.im, .slice am nm cm, .bool m.y] 31)).alloc (.cells #[.slice none 0 0, .int .i64 0, .bool false, .int .i64 0, .slice none 0 0, .int .i64 0, .int .i64 0, .slice none 0 0, .slice none 0 0] 68)).heap[w.heap.size + 1]? = some (.cells #[.int .i64 m.k, .int .i64 m.u, .int .i64 m.n, .int .i64 m.at', .int .i64 m.im, .slice am nm cm, .bool m.y] 31 (0, 0))) := blk_alloc (uLast1 _ _ _) _
  have b2 : Hid ((((w.alloc (.cells #[.slice k0.a k0.n k0.c, .int .i64 g.fu, .bool g.up, .int .i64 g.t.r.v, .slice k0.ak k0.nk k0.ck, .int .i64 g.t.r.t, .int .i64 g.t.ver, .slice k0.av k0.nv k0.cv, .slice k0.ad k0.nd k0.cd] 68)).alloc (.cells #[.int .i64 m.k, .int .i64 m.u, .int .i64 m.n, .int .i64 m.at', .int .i64 m.im, .slice am nm cm, .bool m.y] 31)).alloc (.cells #[.slice none 0 0, .int .i64 0, .bool false, .int .i64 0, .slice none 0 0, .int .i64 0, .int .i64 0, .slice none 0 0, .slice none 0 0] 68)).heap[w.heap.size + 1 + 1]? = some (.cells #[.slice none 0 0, .int .i64 0, .bool false, .int .i64 0, .slice none 0 0, .int .i64 0, .int .i64 0, .slice none 0 0, .slice none 0 0] 68 (0, 0))) := uLast2 _ _ _ _
  have HO := hide (fun W (hW : Below w.heap.size w W) => ownGate_any g k0 W (h.below hW) h1 h2 h3 h4)
  have hx : w.heap.size ≤ w.heap.size + 1 + 1 := by omega
  have HL := hide hl
  have HUN := hide hu
  clear h h1 h2 h3 h4 hl hu
  unfold gtv at HO
  unfold gtv msv
  go_enter Tryz.func47, Tryz.ntmps47
  have x0 := blk_cell b0.out 0 _ rfl
  have x1 := blk_cell b0.out 1 _ rfl
  have x2 := blk_cell b0.out 2 _ rfl
  have x3 := blk_cell b0.out 3 _ rfl
  have x4 := blk_cell b0.out 4 _ rfl
  have x5 := blk_cell b0.out 5 _ rfl
  have x6 := blk_cell b0.out 6 _ rfl
  have x7 := blk_cell b0.out 7 _ rfl
  have x8 := blk_cell b0.out 8 _ rfl
  go_wp2_with fail
  generalize (((w.alloc (.cells #[.slice k0.a k0.n k0.c, .int .i64 g.fu, .bool g.up, .int .i64 g.t.r.v, .slice k0.ak k0.nk k0.ck, .int .i64 g.t.r.t, .int .i64 g.t.ver, .slice k0.av k0.nv k0.cv, .slice k0.ad k0.nd k0.cd] 68)).alloc (.cells #[.int .i64 m.k, .int .i64 m.u, .int .i64 m.n, .int .i64 m.at', .int .i64 m.im, .slice am nm cm, .bool m.y] 31)).alloc (.cells #[.slice none 0 0, .int .i64 0, .bool false, .int .i64 0, .slice none 0 0, .int .i64 0, .int .i64 0, .slice none 0 0, .slice none 0 0] 68)) = W at *
  have hF : w.heap.size + 1 + 1 < W.heap.size := blk_lt b2.out
  refine (unhide HO _ hw).mono ?_
  rintro e w1 ⟨⟨k, bv, bd, rfl, ho⟩, hb⟩
  have hF1 := hb.size
  replace b0 := hide (blk_below b0.out hb)
  replace b1 := hide (blk_below b1.out hb)
  replace b2 := hide (blk_below b2.out hb)
  replace hw := hw.trans (hb.mono hw.size)
  clear hb HO x0 x1 x2 x3 x4 x5 x6 x7 x8
  have x0 := blk_cell b0.out 0 _ rfl
  have x1 := blk_cell b0.out 1 _ rfl
  have x2 := blk_cell b0.out 2 _ rfl
  have x3 := blk_cell b0.out 3 _ rfl
  have x4 := blk_cell b0.out 4 _ rfl
  have x5 := blk_cell b0.out 5 _ rfl
  have x6 := blk_cell b0.out 6 _ rfl
  have x7 := blk_cell b0.out 7 _ rfl
  have x8 := blk_cell b0.out 8 _ rfl
  have f0 := blk_free b0.out 0
  have f1 := blk_free b0.out 1
  have f2 := blk_free b0.out 2
  have f3 := blk_free b0.out 3
  have f4 := blk_free b0.out 4
  have f5 := blk_free b0.out 5
  have f6 := blk_free b0.out 6
  have f7 := blk_free b0.out 7
  have f8 := blk_free b0.out 8
  unfold gtv
  go_upto_region 2 with fail
  have hT : w1.grownBy (((((((((w1.setCell ⟨w.heap.size, 0, none⟩ (.slice k.a k.n k.c)).setCell ⟨w.heap.size, 1, none⟩ (.int .i64 g.fu)).setCell ⟨w.heap.size, 2, none⟩ (.bool g.up)).setCell ⟨w.heap.size, 3, none⟩ (.int .i64 g.t.r.v)).setCell ⟨w.heap.size, 4, none⟩ (.slice k.ak k.nk k.ck)).setCell ⟨w.heap.size, 5, none⟩ (.int .i64 g.t.r.t)).setCell ⟨w.heap.size, 6, none⟩ (.int .i64 g.t.ver)).setCell ⟨w.heap.size, 7, none⟩ (.slice k.av k.nv k.cv)).setCell ⟨w.heap.size, 8, none⟩ (.slice k.ad k.nd k.cd)) (some w.heap.size) := turns_set (turns_set (turns_set (turns_set (turns_set (turns_set (turns_set (turns_set (turns_set (World.grownBy.refl w1 (some w.heap.size)) 0 (.slice k.a k.n k.c)) 1 (.int .i64 g.fu)) 2 (.bool g.up)) 3 (.int .i64 g.t.r.v)) 4 (.slice k.ak k.nk k.ck)) 5 (.int .i64 g.t.r.t)) 6 (.int .i64 g.t.ver)) 7 (.slice k.av k.nv k.cv)) 8 (.slice k.ad k.nd k.cd)
  have HG := hide (RG.of ho (by omega) hF1 hT (rt_set9 b0.out))
  replace b1 := hide (blk_turns b1.out hT (by omega))
  replace b2 := hide (blk_turns b2.out hT (by omega))
  replace hw := turns_below hw hT (Nat.le_refl _) hw.size
  clear hT ho b0 x0 f0 x1 f1 x2 f2 x3 f3 x4 f4 x5 f5 x6 f6 x7 f7 x8 f8
  generalize (((((((((w1.setCell ⟨w.heap.size, 0, none⟩ (.slice k.a k.n k.c)).setCell ⟨w.heap.size, 1, none⟩ (.int .i64 g.fu)).setCell ⟨w.heap.size, 2, none⟩ (.bool g.up)).setCell ⟨w.heap.size, 3, none⟩ (.int .i64 g.t.r.v)).setCell ⟨w.heap.size, 4, none⟩ (.slice k.ak k.nk k.ck)).setCell ⟨w.heap.size, 5, none⟩ (.int .i64 g.t.r.t)).setCell ⟨w.heap.size, 6, none⟩ (.int .i64 g.t.ver)).setCell ⟨w.heap.size, 7, none⟩ (.slice k.av k.nv k.cv)).setCell ⟨w.heap.size, 8, none⟩ (.slice k.ad k.nd k.cd)) = W2 at *
  have bC := hide HG.out.bx.box
  unfold gtO at bC
  have hF3 := HG.out.bx.sz
  have x0 := blk_cell bC.out 0 _ rfl
  have x1 := blk_cell bC.out 1 _ rfl
  have x2 := blk_cell bC.out 2 _ rfl
  have x3 := blk_cell bC.out 3 _ rfl
  have x4 := blk_cell bC.out 4 _ rfl
  have x5 := blk_cell bC.out 5 _ rfl
  have x6 := blk_cell bC.out 6 _ rfl
  have x7 := blk_cell bC.out 7 _ rfl
  have x8 := blk_cell bC.out 8 _ rfl
  have HS := hide (refState_any g k W2 HG.out.bx.gin HL.out)
  unfold gtv at HS
  go_wp2_with fail
  refine (unhide HS).mono ?_
  rintro e w3 ⟨rfl, hb⟩
  clear HS bC x0 x1 x2 x3 x4 x5 x6 x7 x8
  obtain ⟨s, hs⟩ : ∃ s, s = gOf g.ws := ⟨_, rfl⟩
  rw [← hs]
  have HSs := hide hs
  clear hs
  unfold gsv
  go_upto_region 3 with fail
  have hb2 : Below W2.heap.size W2 (w3.alloc (.cells #[.int .i64 s.n, .int .i64 s.v, .bool s.co, .bool s.ab, .bool s.en] 82)) := below_new hb _
  have bS := hide (heap_alloc_last w3 (.cells #[.int .i64 s.n, .int .i64 s.v, .bool s.co, .bool s.ab, .bool s.en] 82))
  replace b1 := hide (blk_below b1.out hb2)
  replace b2 := hide (blk_below b2.out hb2)
  replace HG := hide (HG.out.below hb2)
  have hS2 := hb.size
  replace hw := hw.trans (hb2.mono hw.size)
  clear hb hb2
  generalize w3.alloc (.cells #[.int .i64 s.n, .int .i64 s.v, .bool s.co, .bool s.ab, .bool s.en] 82) = W3 at *
  generalize w3.heap.size = S at *
  have s0 := blk_cell bS.out 0 _ rfl
  have s1 := blk_cell bS.out 1 _ rfl
  have s2 := blk_cell bS.out 2 _ rfl
  have s3 := blk_cell bS.out 3 _ rfl
  have s4 := blk_cell bS.out 4 _ rfl
  have u2 := blk_cell b1.out 2 _ rfl
  go_cut [7, 8] (fun v7 v8 wx => v7 = .bool (pend s m) ∧ v8 = .bool (decG s) ∧ Below W3.heap.size W3 wx)
  case first =>
    by_cases p1 : s.n = m.n
    · have d1 : (s.n == m.n) = true := by simpa using p1
      cases p2 : s.co
      · rw [p2] at s2
        go_quiet (fail)
        go_wp2_with fail
        go_meet
        case rel => exact ⟨congrArg Value.bool (by unfold pend; simp [p1]), congrArg Value.bool (by unfold decG; simp [p2]), rdrewN _ _⟩
      · rw [p2] at s2
        go_quiet (fail)
        go_wp2_with fail
        go_meet
        case rel => exact ⟨congrArg Value.bool (by unfold pend; simp [p1]), congrArg Value.bool (by unfold decG; simp [p2]), rdrewN _ _⟩
    · have d1 : (s.n == m.n) = false := by simpa using p1
      cases p2 : s.co
      · rw [p2] at s2
        go_quiet (fail)
        go_wp2_with fail
        go_meet
        case rel => exact ⟨congrArg Value.bool (by unfold pend; simp [p1]), congrArg Value.bool (by unfold decG; simp [p2]), rdrewN _ _⟩
      · rw [p2] at s2
        go_quiet (fail)
        go_wp2_with fail
        go_meet
        case rel => exact ⟨congrArg Value.bool (by unfold pend; simp [p1]), congrArg Value.bool (by unfold decG; simp [p2]), rdrewN _ _⟩
  obtain ⟨rfl, rfl, hbc⟩ := hcut
  obtain ⟨w4, rfl⟩ : ∃ w4 : World, w4 = wc := ⟨_, rfl⟩
  clear u2 s0 s1 s2 s3 s4
  replace b1 := hide (blk_below b1.out hbc)
  replace b2 := hide (blk_below b2.out hbc)
  replace bS := hide (blk_below bS.out hbc)
  replace HG := hide (HG.out.below hbc)
  replace hw := hw.trans (hbc.mono hw.size)
  clear hbc
  have u0 := blk_cell b1.out 0 _ rfl
  have u6 := blk_cell b1.out 6 _ rfl
  have bC := hide HG.out.bx.box
  unfold gtO at bC
  have x2 := blk_cell bC.out 2 _ rfl
  cases zu : g.up
  · have HE : Hid (ghR g m = (g, [])) := by show _ = _; unfold ghR; rw [zu]; rfl
    rw [zu] at x2
    have HZ := hide zu
    clear zu HSs
    have HB := hide HG.out.bx
    clear u0 u6
    have bC := hide HB.out.box
    unfold gtO at bC
    have x0 := blk_cell bC.out 0 _ rfl
    have x1 := blk_cell bC.out 1 _ rfl
    have x3 := blk_cell bC.out 3 _ rfl
    have x4 := blk_cell bC.out 4 _ rfl
    have x5 := blk_cell bC.out 5 _ rfl
    have x6 := blk_cell bC.out 6 _ rfl
    have x7 := blk_cell bC.out 7 _ rfl
    have x8 := blk_cell bC.out 8 _ rfl
    have y0 := blk_cell b2.out 0 _ rfl
    have y1 := blk_cell b2.out 1 _ rfl
    have y2 := blk_cell b2.out 2 _ rfl
    have y3 := blk_cell b2.out 3 _ rfl
    have y4 := blk_cell b2.out 4 _ rfl
    have y5 := blk_cell b2.out 5 _ rfl
    have y6 := blk_cell b2.out 6 _ rfl
    have y7 := blk_cell b2.out 7 _ rfl
    have y8 := blk_cell b2.out 8 _ rfl
    have f0 := blk_free b2.out 0
    have f1 := blk_free b2.out 1
    have f2 := blk_free b2.out 2
    have f3 := blk_free b2.out 3
    have f4 := blk_free b2.out 4
    have f5 := blk_free b2.out 5
    have f6 := blk_free b2.out 6
    have f7 := blk_free b2.out 7
    have f8 := blk_free b2.out 8
    go_wp2_with fail
    refine bodyPost_ret (v := .tuple #[gtv g k, .slice none 0 0]) (by simp [results, Tryz.results47, go_sem, gtv, HZ.out, y0, y1, y2, y3, y4, y5, y6, y7, y8]) rfl ?_
    rw [HE.out]
    have hT := turns_set (turns_set (turns_set (turns_set (turns_set (turns_set (turns_set (turns_set (turns_set (World.grownBy.refl w4 (some (w.heap.size + 1 + 1))) 0 (.slice k.a k.n k.c)) 1 (.int .i64 g.fu)) 2 (.bool false)) 3 (.int .i64 g.t.r.v)) 4 (.slice k.ak k.nk k.ck)) 5 (.int .i64 g.t.r.t)) 6 (.int .i64 g.t.ver)) 7 (.slice k.av k.nv k.cv)) 8 (.slice k.ad k.nd k.cd)
    exact ⟨⟨k, none, 0, 0, rfl, rin_turns HB.out.gin HB.out.fr hF hT, .inl rfl, rfl, Nat.le_refl _⟩, turns_below hw hT hx hw.size⟩
  have HE0 : Hid (ghR g m = ghK g s m) := by show _ = _; unfold ghR; rw [zu, HSs.out]; rfl
  rw [zu] at x2
  clear zu
  go_upto_region 5 with fail
  clear x2
  by_cases q3 : m.k = 3
  · rw [q3] at u0
    have Q3 := hide q3
    clear q3
    cases pd : pend s m
    · have HE := HE0.out
      rw [ghK_3n Q3.out (by rw [pd]; rfl)] at HE
      replace HE := hide HE
      clear HE0 pd Q3 HSs
      have HB := hide HG.out.bx
      clear bC
      have bC := hide HB.out.box
      unfold gtO at bC
      have x0 := blk_cell bC.out 0 _ rfl
      have x1 := blk_cell bC.out 1 _ rfl
      have x2 := blk_cell bC.out 2 _ rfl
      have x3 := blk_cell bC.out 3 _ rfl
      have x4 := blk_cell bC.out 4 _ rfl
      have x5 := blk_cell bC.out 5 _ rfl
      have x6 := blk_cell bC.out 6 _ rfl
      have x7 := blk_cell bC.out 7 _ rfl
      have x8 := blk_cell bC.out 8 _ rfl
      have y0 := blk_cell b2.out 0 _ rfl
      have y1 := blk_cell b2.out 1 _ rfl
      have y2 := blk_cell b2.out 2 _ rfl
      have y3 := blk_cell b2.out 3 _ rfl
      have y4 := blk_cell b2.out 4 _ rfl
      have y5 := blk_cell b2.out 5 _ rfl
      have y6 := blk_cell b2.out 6 _ rfl
      have y7 := blk_cell b2.out 7 _ rfl
      have y8 := blk_cell b2.out 8 _ rfl
      have f0 := blk_free b2.out 0
      have f1 := blk_free b2.out 1
      have f2 := blk_free b2.out 2
      have f3 := blk_free b2.out 3
      have f4 := blk_free b2.out 4
      have f5 := blk_free b2.out 5
      have f6 := blk_free b2.out 6
      have f7 := blk_free b2.out 7
      have f8 := blk_free b2.out 8
      go_wp2_with fail
      refine bodyPost_ret (v := .tuple #[gtv g k, .slice none 0 0]) (by simp [results, Tryz.results47, go_sem, gtv, y0, y1, y2, y3, y4, y5, y6, y7, y8]) rfl ?_
      rw [HE.out]
      have hT := turns_set (turns_set (turns_set (turns_set (turns_set (turns_set (turns_set (turns_set (turns_set (World.grownBy.refl w4 (some (w.heap.size + 1 + 1))) 0 (.slice k.a k.n k.c)) 1 (.int .i64 g.fu)) 2 (.bool g.up)) 3 (.int .i64 g.t.r.v)) 4 (.slice k.ak k.nk k.ck)) 5 (.int .i64 g.t.r.t)) 6 (.int .i64 g.t.ver)) 7 (.slice k.av k.nv k.cv)) 8 (.slice k.ad k.nd k.cd)
      exact ⟨⟨k, none, 0, 0, rfl, rin_turns HB.out.gin HB.out.fr hF hT, .inl rfl, rfl, Nat.le_refl _⟩, turns_below hw hT hx hw.size⟩
    have PD := hide pd
    clear pd
    cases dd : decG s
    rotate_left
    · have HE := HE0.out
      rw [ghK_3n Q3.out (by rw [dd]; simp)] at HE
      replace HE := hide HE
      clear HE0 dd Q3 PD HSs
      have HB := hide HG.out.bx
      clear bC
      have bC := hide HB.out.box
      unfold gtO at bC
      have x0 := blk_cell bC.out 0 _ rfl
      have x1 := blk_cell bC.out 1 _ rfl
      have x2 := blk_cell bC.out 2 _ rfl
      have x3 := blk_cell bC.out 3 _ rfl
      have x4 := blk_cell bC.out 4 _ rfl
      have x5 := blk_cell bC.out 5 _ rfl
      have x6 := blk_cell bC.out 6 _ rfl
      have x7 := blk_cell bC.out 7 _ rfl
      have x8 := blk_cell bC.out 8 _ rfl
      have y0 := blk_cell b2.out 0 _ rfl
      have y1 := blk_cell b2.out 1 _ rfl
      have y2 := blk_cell b2.out 2 _ rfl
      have y3 := blk_cell b2.out 3 _ rfl
      have y4 := blk_cell b2.out 4 _ rfl
      have y5 := blk_cell b2.out 5 _ rfl
      have y6 := blk_cell b2.out 6 _ rfl
      have y7 := blk_cell b2.out 7 _ rfl
      have y8 := blk_cell b2.out 8 _ rfl
      have f0 := blk_free b2.out 0
      have f1 := blk_free b2.out 1
      have f2 := blk_free b2.out 2
      have f3 := blk_free b2.out 3
      have f4 := blk_free b2.out 4
      have f5 := blk_free b2.out 5
      have f6 := blk_free b2.out 6
      have f7 := blk_free b2.out 7
      have f8 := blk_free b2.out 8
      go_wp2_with fail
      refine bodyPost_ret (v := .tuple #[gtv g k, .slice none 0 0]) (by simp [results, Tryz.results47, go_sem, gtv, y0, y1, y2, y3, y4, y5, y6, y7, y8]) rfl ?_
      rw [HE.out]
      have hT := turns_set (turns_set (turns_set (turns_set (turns_set (turns_set (turns_set (turns_set (turns_set (World.grownBy.refl w4 (some (w.heap.size + 1 + 1))) 0 (.slice k.a k.n k.c)) 1 (.int .i64 g.fu)) 2 (.bool g.up)) 3 (.int .i64 g.t.r.v)) 4 (.slice k.ak k.nk k.ck)) 5 (.int .i64 g.t.r.t)) 6 (.int .i64 g.t.ver)) 7 (.slice k.av k.nv k.cv)) 8 (.slice k.ad k.nd k.cd)
      exact ⟨⟨k, none, 0, 0, rfl, rin_turns HB.out.gin HB.out.fr hF hT, .inl rfl, rfl, Nat.le_refl _⟩, turns_below hw hT hx hw.size⟩
    have DD := hide dd
    clear dd
    cases yy : m.y
    · rw [yy] at u6
      have HE := HE0.out
      rw [ghK_3n Q3.out (by rw [yy]; simp)] at HE
      replace HE := hide HE
      clear HE0 yy Q3 PD DD HSs
      have HB := hide HG.out.bx
      clear bC
      have bC := hide HB.out.box
      unfold gtO at bC
      have x0 := blk_cell bC.out 0 _ rfl
      have x1 := blk_cell bC.out 1 _ rfl
      have x2 := blk_cell bC.out 2 _ rfl
      have x3 := blk_cell bC.out 3 _ rfl
      have x4 := blk_cell bC.out 4 _ rfl
      have x5 := blk_cell bC.out 5 _ rfl
      have x6 := blk_cell bC.out 6 _ rfl
      have x7 := blk_cell bC.out 7 _ rfl
      have x8 := blk_cell bC.out 8 _ rfl
      have y0 := blk_cell b2.out 0 _ rfl
      have y1 := blk_cell b2.out 1 _ rfl
      have y2 := blk_cell b2.out 2 _ rfl
      have y3 := blk_cell b2.out 3 _ rfl
      have y4 := blk_cell b2.out 4 _ rfl
      have y5 := blk_cell b2.out 5 _ rfl
      have y6 := blk_cell b2.out 6 _ rfl
      have y7 := blk_cell b2.out 7 _ rfl
      have y8 := blk_cell b2.out 8 _ rfl
      have f0 := blk_free b2.out 0
      have f1 := blk_free b2.out 1
      have f2 := blk_free b2.out 2
      have f3 := blk_free b2.out 3
      have f4 := blk_free b2.out 4
      have f5 := blk_free b2.out 5
      have f6 := blk_free b2.out 6
      have f7 := blk_free b2.out 7
      have f8 := blk_free b2.out 8
      go_wp2_with fail
      refine bodyPost_ret (v := .tuple #[gtv g k, .slice none 0 0]) (by simp [results, Tryz.results47, go_sem, gtv, y0, y1, y2, y3, y4, y5, y6, y7, y8]) rfl ?_
      rw [HE.out]
      have hT := turns_set (turns_set (turns_set (turns_set (turns_set (turns_set (turns_set (turns_set (turns_set (World.grownBy.refl w4 (some (w.heap.size + 1 + 1))) 0 (.slice k.a k.n k.c)) 1 (.int .i64 g.fu)) 2 (.bool g.up)) 3 (.int .i64 g.t.r.v)) 4 (.slice k.ak k.nk k.ck)) 5 (.int .i64 g.t.r.t)) 6 (.int .i64 g.t.ver)) 7 (.slice k.av k.nv k.cv)) 8 (.slice k.ad k.nd k.cd)
      exact ⟨⟨k, none, 0, 0, rfl, rin_turns HB.out.gin HB.out.fr hF hT, .inl rfl, rfl, Nat.le_refl _⟩, turns_below hw hT hx hw.size⟩
    rw [yy] at u6
    have HE := HE0.out
    rw [ghK_3y Q3.out (by rw [PD.out, DD.out, yy]; rfl)] at HE
    clear HE0 yy Q3 PD DD
    have x7 := blk_cell bC.out 7 _ rfl
    have u1 := blk_cell b1.out 1 _ rfl
    rw [HG.out.av] at x7
    rw [HUN.out] at u1 HE
    have hlen := HG.out.bx.gin.vo.len
    obtain ⟨c0, c1⟩ := HG.out.vo.cell u (by omega)
    have huI : (u : Int) < (k.nv : Int) := by omega
    have hT : w4.grownBy (w4.setCell ⟨bv, u, none⟩ (.bool true)) (some bv) := turns_set1 _ _ _ _
    have HB := hide (HG.out.setV u)
    have hfb := HG.out.fv
    have hnb := HG.out.nv
    have b1' := hide (blk_turns b1.out hT (by omega))
    have b2' := hide (blk_turns b2.out hT (by omega))
    have bS' := hide (blk_turns bS.out hT (by intro e; subst e; obtain ⟨cur, q1, _⟩ := HG.out.vo; rw [bS.out] at q1; simp at q1))
    have hw' := turns_below hw hT (by omega) hw.size
    have HC := hide (containsB_any (some ⟨bv, 0, none⟩) k.nv k.cv (setVo g u).vo (w4.setCell ⟨bv, u, none⟩ (.bool true)) (by have q := HB.out.gin.vo; rw [HG.out.av] at q; exact q) (by omega))
    have bC2 := hide HB.out.box
    unfold gtO at bC2
    have x7' := blk_cell bC2.out 7 _ rfl
    rw [HG.out.av] at x7'
    clear hT hfb hnb bC
    go_wp2_with fail
    refine (unhide HC).mono ?_
    rintro e w5 ⟨rfl, hb⟩
    subst hb
    clear HC c0 c1 b1 b2 bS hw b1' x7 x7' u1 u0
    generalize (w4.setCell ⟨bv, u, none⟩ (.bool true)) = W5 at *
    cases z : allB (setVo g u).vo
    · have HE2 : Hid (ctgV g s u 2 = setVo g u) := by show _ = _; unfold ctgV; rw [show setB g.vo u = (setVo g u).vo from rfl, z]; rfl
      rw [HE2.out] at HE
      replace HE := hide HE
      clear z HE2
      have b2 := b2'
      have hw := hw'
      generalize setVo g u = g2 at *
      have bC := hide HB.out.box
      unfold gtO at bC
      have x0 := blk_cell bC.out 0 _ rfl
      have x1 := blk_cell bC.out 1 _ rfl
      have x2 := blk_cell bC.out 2 _ rfl
      have x3 := blk_cell bC.out 3 _ rfl
      have x4 := blk_cell bC.out 4 _ rfl
      have x5 := blk_cell bC.out 5 _ rfl
      have x6 := blk_cell bC.out 6 _ rfl
      have x7 := blk_cell bC.out 7 _ rfl
      have x8 := blk_cell bC.out 8 _ rfl
      have y0 := blk_cell b2.out 0 _ rfl
      have y1 := blk_cell b2.out 1 _ rfl
      have y2 := blk_cell b2.out 2 _ rfl
      have y3 := blk_cell b2.out 3 _ rfl
      have y4 := blk_cell b2.out 4 _ rfl
      have y5 := blk_cell b2.out 5 _ rfl
      have y6 := blk_cell b2.out 6 _ rfl
      have y7 := blk_cell b2.out 7 _ rfl
      have y8 := blk_cell b2.out 8 _ rfl
      have f0 := blk_free b2.out 0
      have f1 := blk_free b2.out 1
      have f2 := blk_free b2.out 2
      have f3 := blk_free b2.out 3
      have f4 := blk_free b2.out 4
      have f5 := blk_free b2.out 5
      have f6 := blk_free b2.out 6
      have f7 := blk_free b2.out 7
      have f8 := blk_free b2.out 8
      go_wp2_with fail
      refine bodyPost_ret (v := .tuple #[gtv g2 k, .slice none 0 0]) (by simp [results, Tryz.results47, go_sem, gtv, y0, y1, y2, y3, y4, y5, y6, y7, y8]) rfl ?_
      rw [HE.out]
      have hT := turns_set (turns_set (turns_set (turns_set (turns_set (turns_set (turns_set (turns_set (turns_set (World.grownBy.refl W5 (some (w.heap.size + 1 + 1))) 0 (.slice k.a k.n k.c)) 1 (.int .i64 g2.fu)) 2 (.bool g2.up)) 3 (.int .i64 g2.t.r.v)) 4 (.slice k.ak k.nk k.ck)) 5 (.int .i64 g2.t.r.t)) 6 (.int .i64 g2.t.ver)) 7 (.slice k.av k.nv k.cv)) 8 (.slice k.ad k.nd k.cd)
      exact ⟨⟨k, none, 0, 0, rfl, rin_turns HB.out.gin HB.out.fr hF hT, .inl rfl, rfl, Nat.le_refl _⟩, turns_below hw hT hx hw.size⟩
    have HE2 : Hid (ctgV g s u 2 = (noteG (setVo g u) s [2, s.n]).1) := by show _ = _; unfold ctgV; rw [show setB g.vo u = (setVo g u).vo from rfl, z]; rfl
    rw [HE2.out] at HE
    replace HE := hide HE
    clear z HE2
    have hb3 : Below W5.heap.size W5 (W5.alloc (.cells #[.int .i64 2, .int .i64 s.n] 3)) := below_new (Below.refl _ _) _
    have s0 := blk_cell bS'.out 0 _ rfl
    have HN := hide (noted_any W.heap.size w.heap.size k (setVo g u) (some ⟨W5.heap.size, 0, none⟩) 2 2 [2, s.n] (W5.alloc (.cells #[.int .i64 2, .int .i64 s.n] 3)) (HB.out.below hb3) (gi_made2 W5 2 s.n 3) HL.out (by have := HG.out.bx.gin.vo.len; omega) (by have := HG.out.bx.gin.di.len; omega))
    rw [show gOf (setVo g u).ws = s from HSs.out.symm] at HN
    replace b2' := hide (blk_below b2'.out hb3)
    replace hw' := hw'.trans (hb3.mono hw'.size)
    go_wp2_with fail
    refine (unhide HN).mono ?_
    rintro e w6 ⟨rfl, ⟨k2, hbx⟩, hg6⟩
    generalize noteG (setVo g u) s [2, s.n] = R2 at *
    have b2 := hide (blk_turns b2'.out hg6 (by omega))
    have hw := turns_below hw' hg6 (Nat.le_refl _) hw'.size
    have HB2 := hide hbx
    obtain ⟨g2, hg2⟩ : ∃ g2, g2 = R2.1 := ⟨_, rfl⟩
    rw [← hg2] at HB2 HE
    clear hbx hg6 HN s0 bS' HB b2' hw' hb3 bC2 hg2
    have bC := hide HB2.out.box
    unfold gtO at bC
    have x0 := blk_cell bC.out 0 _ rfl
    have x1 := blk_cell bC.out 1 _ rfl
    have x2 := blk_cell bC.out 2 _ rfl
    have x3 := blk_cell bC.out 3 _ rfl
    have x4 := blk_cell bC.out 4 _ rfl
    have x5 := blk_cell bC.out 5 _ rfl
    have x6 := blk_cell bC.out 6 _ rfl
    have x7 := blk_cell bC.out 7 _ rfl
    have x8 := blk_cell bC.out 8 _ rfl
    have y0 := blk_cell b2.out 0 _ rfl
    have y1 := blk_cell b2.out 1 _ rfl
    have y2 := blk_cell b2.out 2 _ rfl
    have y3 := blk_cell b2.out 3 _ rfl
    have y4 := blk_cell b2.out 4 _ rfl
    have y5 := blk_cell b2.out 5 _ rfl
    have y6 := blk_cell b2.out 6 _ rfl
    have y7 := blk_cell b2.out 7 _ rfl
    have y8 := blk_cell b2.out 8 _ rfl
    have f0 := blk_free b2.out 0
    have f1 := blk_free b2.out 1
    have f2 := blk_free b2.out 2
    have f3 := blk_free b2.out 3
    have f4 := blk_free b2.out 4
    have f5 := blk_free b2.out 5
    have f6 := blk_free b2.out 6
    have f7 := blk_free b2.out 7
    have f8 := blk_free b2.out 8
    go_wp2_with fail
    refine bodyPost_ret (v := .tuple #[gtv g2 k2, .slice none 0 0]) (by simp [results, Tryz.results47, go_sem, gtv, y0, y1, y2, y3, y4, y5, y6, y7, y8]) rfl ?_
    rw [HE.out]
    have hT := turns_set (turns_set (turns_set (turns_set (turns_set (turns_set (turns_set (turns_set (turns_set (World.grownBy.refl w6 (some (w.heap.size + 1 + 1))) 0 (.slice k2.a k2.n k2.c)) 1 (.int .i64 g2.fu)) 2 (.bool g2.up)) 3 (.int .i64 g2.t.r.v)) 4 (.slice k2.ak k2.nk k2.ck)) 5 (.int .i64 g2.t.r.t)) 6 (.int .i64 g2.t.ver)) 7 (.slice k2.av k2.nv k2.cv)) 8 (.slice k2.ad k2.nd k2.cd)
    exact ⟨⟨k2, none, 0, 0, rfl, rin_turns HB2.out.gin HB2.out.fr hF hT, .inl rfl, rfl, Nat.le_refl _⟩, turns_below hw hT hx hw.size⟩
  have e3 : (m.k == 3) = false := by simpa using q3
  have Q3 := hide q3
  clear q3
  by_cases q6 : m.k = 6
  · rw [q6] at u0
    clear e3
    have Q6 := hide q6
    clear q6
    cases pd : pend s m
    · have HE := HE0.out
      rw [ghK_6n Q6.out (by rw [pd]; rfl)] at HE
      replace HE := hide HE
      clear HE0 pd Q6 Q3 HSs
      have HB := hide HG.out.bx
      clear bC
      have bC := hide HB.out.box
      unfold gtO at bC
      have x0 := blk_cell bC.out 0 _ rfl
      have x1 := blk_cell bC.out 1 _ rfl
      have x2 := blk_cell bC.out 2 _ rfl
      have x3 := blk_cell bC.out 3 _ rfl
      have x4 := blk_cell bC.out 4 _ rfl
      have x5 := blk_cell bC.out 5 _ rfl
      have x6 := blk_cell bC.out 6 _ rfl
      have x7 := blk_cell bC.out 7 _ rfl
      have x8 := blk_cell bC.out 8 _ rfl
      have y0 := blk_cell b2.out 0 _ rfl
      have y1 := blk_cell b2.out 1 _ rfl
      have y2 := blk_cell b2.out 2 _ rfl
      have y3 := blk_cell b2.out 3 _ rfl
      have y4 := blk_cell b2.out 4 _ rfl
      have y5 := blk_cell b2.out 5 _ rfl
      have y6 := blk_cell b2.out 6 _ rfl
      have y7 := blk_cell b2.out 7 _ rfl
      have y8 := blk_cell b2.out 8 _ rfl
      have f0 := blk_free b2.out 0
      have f1 := blk_free b2.out 1
      have f2 := blk_free b2.out 2
      have f3 := blk_free b2.out 3
      have f4 := blk_free b2.out 4
      have f5 := blk_free b2.out 5
      have f6 := blk_free b2.out 6
      have f7 := blk_free b2.out 7
      have f8 := blk_free b2.out 8
      go_wp2_with fail
      refine bodyPost_ret (v := .tuple #[gtv g k, .slice none 0 0]) (by simp [results, Tryz.results47, go_sem, gtv, y0, y1, y2, y3, y4, y5, y6, y7, y8]) rfl ?_
      rw [HE.out]
      have hT := turns_set (turns_set (turns_set (turns_set (turns_set (turns_set (turns_set (turns_set (turns_set (World.grownBy.refl w4 (some (w.heap.size + 1 + 1))) 0 (.slice k.a k.n k.c)) 1 (.int .i64 g.fu)) 2 (.bool g.up)) 3 (.int .i64 g.t.r.v)) 4 (.slice k.ak k.nk k.ck)) 5 (.int .i64 g.t.r.t)) 6 (.int .i64 g.t.ver)) 7 (.slice k.av k.nv k.cv)) 8 (.slice k.ad k.nd k.cd)
      exact ⟨⟨k, none, 0, 0, rfl, rin_turns HB.out.gin HB.out.fr hF hT, .inl rfl, rfl, Nat.le_refl _⟩, turns_below hw hT hx hw.size⟩
    have PD := hide pd
    clear pd
    cases dd : decG s
    · have HE := HE0.out
      rw [ghK_6n Q6.out (by rw [dd]; simp)] at HE
      replace HE := hide HE
      clear HE0 dd PD Q6 Q3 HSs
      have HB := hide HG.out.bx
      clear bC
      have bC := hide HB.out.box
      unfold gtO at bC
      have x0 := blk_cell bC.out 0 _ rfl
      have x1 := blk_cell bC.out 1 _ rfl
      have x2 := blk_cell bC.out 2 _ rfl
      have x3 := blk_cell bC.out 3 _ rfl
      have x4 := blk_cell bC.out 4 _ rfl
      have x5 := blk_cell bC.out 5 _ rfl
      have x6 := blk_cell bC.out 6 _ rfl
      have x7 := blk_cell bC.out 7 _ rfl
      have x8 := blk_cell bC.out 8 _ rfl
      have y0 := blk_cell b2.out 0 _ rfl
      have y1 := blk_cell b2.out 1 _ rfl
      have y2 := blk_cell b2.out 2 _ rfl
      have y3 := blk_cell b2.out 3 _ rfl
      have y4 := blk_cell b2.out 4 _ rfl
      have y5 := blk_cell b2.out 5 _ rfl
      have y6 := blk_cell b2.out 6 _ rfl
      have y7 := blk_cell b2.out 7 _ rfl
      have y8 := blk_cell b2.out 8 _ rfl
      have f0 := blk_free b2.out 0
      have f1 := blk_free b2.out 1
      have f2 := blk_free b2.out 2
      have f3 := blk_free b2.out 3
      have f4 := blk_free b2.out 4
      have f5 := blk_free b2.out 5
      have f6 := blk_free b2.out 6
      have f7 := blk_free b2.out 7
      have f8 := blk_free b2.out 8
      go_wp2_with fail
      refine bodyPost_ret (v := .tuple #[gtv g k, .slice none 0 0]) (by simp [results, Tryz.results47, go_sem, gtv, y0, y1, y2, y3, y4, y5, y6, y7, y8]) rfl ?_
      rw [HE.out]
      have hT := turns_set (turns_set (turns_set (turns_set (turns_set (turns_set (turns_set (turns_set (turns_set (World.grownBy.refl w4 (some (w.heap.size + 1 + 1))) 0 (.slice k.a k.n k.c)) 1 (.int .i64 g.fu)) 2 (.bool g.up)) 3 (.int .i64 g.t.r.v)) 4 (.slice k.ak k.nk k.ck)) 5 (.int .i64 g.t.r.t)) 6 (.int .i64 g.t.ver)) 7 (.slice k.av k.nv k.cv)) 8 (.slice k.ad k.nd k.cd)
      exact ⟨⟨k, none, 0, 0, rfl, rin_turns HB.out.gin HB.out.fr hF hT, .inl rfl, rfl, Nat.le_refl _⟩, turns_below hw hT hx hw.size⟩
    have HE := HE0.out
    rw [ghK_6y Q6.out (by rw [PD.out, dd]; rfl)] at HE
    clear HE0 dd PD Q6 Q3
    have x8 := blk_cell bC.out 8 _ rfl
    have u1 := blk_cell b1.out 1 _ rfl
    rw [HG.out.ad] at x8
    rw [HUN.out] at u1 HE
    have hlen := HG.out.bx.gin.di.len
    obtain ⟨c0, c1⟩ := HG.out.di.cell u (by omega)
    have huI : (u : Int) < (k.nd : Int) := by omega
    have hT : w4.grownBy (w4.setCell ⟨bd, u, none⟩ (.bool true)) (some bd) := turns_set1 _ _ _ _
    have HB := hide (HG.out.setD u)
    have hfb := HG.out.fd
    have hnb := HG.out.nd
    have b1' := hide (blk_turns b1.out hT (by omega))
    have b2' := hide (blk_turns b2.out hT (by omega))
    have bS' := hide (blk_turns bS.out hT (by intro e; subst e; obtain ⟨cur, q1, _⟩ := HG.out.di; rw [bS.out] at q1; simp at q1))
    have hw' := turns_below hw hT (by omega) hw.size
    have HC := hide (containsB_any (some ⟨bd, 0, none⟩) k.nd k.cd (setDi g u).di (w4.setCell ⟨bd, u, none⟩ (.bool true)) (by have q := HB.out.gin.di; rw [HG.out.ad] at q; exact q) (by omega))
    have bC2 := hide HB.out.box
    unfold gtO at bC2
    have x8' := blk_cell bC2.out 8 _ rfl
    rw [HG.out.ad] at x8'
    clear hT hfb hnb bC
    go_wp2_with fail
    refine (unhide HC).mono ?_
    rintro e w5 ⟨rfl, hb⟩
    subst hb
    clear HC c0 c1 b1 b2 bS hw b1' x8 x8' u1 u0
    generalize (w4.setCell ⟨bd, u, none⟩ (.bool true)) = W5 at *
    cases z : allB (setDi g u).di
    · have HE2 : Hid (ctgD g s u 4 = setDi g u) := by show _ = _; unfold ctgD; rw [show setB g.di u = (setDi g u).di from rfl, z]; rfl
      rw [HE2.out] at HE
      replace HE := hide HE
      clear z HE2
      have b2 := b2'
      have hw := hw'
      generalize setDi g u = g2 at *
      have bC := hide HB.out.box
      unfold gtO at bC
      have x0 := blk_cell bC.out 0 _ rfl
      have x1 := blk_cell bC.out 1 _ rfl
      have x2 := blk_cell bC.out 2 _ rfl
      have x3 := blk_cell bC.out 3 _ rfl
      have x4 := blk_cell bC.out 4 _ rfl
      have x5 := blk_cell bC.out 5 _ rfl
      have x6 := blk_cell bC.out 6 _ rfl
      have x7 := blk_cell bC.out 7 _ rfl
      have x8 := blk_cell bC.out 8 _ rfl
      have y0 := blk_cell b2.out 0 _ rfl
      have y1 := blk_cell b2.out 1 _ rfl
      have y2 := blk_cell b2.out 2 _ rfl
      have y3 := blk_cell b2.out 3 _ rfl
      have y4 := blk_cell b2.out 4 _ rfl
      have y5 := blk_cell b2.out 5 _ rfl
      have y6 := blk_cell b2.out 6 _ rfl
      have y7 := blk_cell b2.out 7 _ rfl
      have y8 := blk_cell b2.out 8 _ rfl
      have f0 := blk_free b2.out 0
      have f1 := blk_free b2.out 1
      have f2 := blk_free b2.out 2
      have f3 := blk_free b2.out 3
      have f4 := blk_free b2.out 4
      have f5 := blk_free b2.out 5
      have f6 := blk_free b2.out 6
      have f7 := blk_free b2.out 7
      have f8 := blk_free b2.out 8
      go_wp2_with fail
      refine bodyPost_ret (v := .tuple #[gtv g2 k, .slice none 0 0]) (by simp [results, Tryz.results47, go_sem, gtv, y0, y1, y2, y3, y4, y5, y6, y7, y8]) rfl ?_
      rw [HE.out]
      have hT := turns_set (turns_set (turns_set (turns_set (turns_set (turns_set (turns_set (turns_set (turns_set (World.grownBy.refl W5 (some (w.heap.size + 1 + 1))) 0 (.slice k.a k.n k.c)) 1 (.int .i64 g2.fu)) 2 (.bool g2.up)) 3 (.int .i64 g2.t.r.v)) 4 (.slice k.ak k.nk k.ck)) 5 (.int .i64 g2.t.r.t)) 6 (.int .i64 g2.t.ver)) 7 (.slice k.av k.nv k.cv)) 8 (.slice k.ad k.nd k.cd)
      exact ⟨⟨k, none, 0, 0, rfl, rin_turns HB.out.gin HB.out.fr hF hT, .inl rfl, rfl, Nat.le_refl _⟩, turns_below hw hT hx hw.size⟩
    have HE2 : Hid (ctgD g s u 4 = (noteG (setDi g u) s [4, s.n]).1) := by show _ = _; unfold ctgD; rw [show setB g.di u = (setDi g u).di from rfl, z]; rfl
    rw [HE2.out] at HE
    replace HE := hide HE
    clear z HE2
    have hb3 : Below W5.heap.size W5 (W5.alloc (.cells #[.int .i64 4, .int .i64 s.n] 3)) := below_new (Below.refl _ _) _
    have s0 := blk_cell bS'.out 0 _ rfl
    have HN := hide (noted_any W.heap.size w.heap.size k (setDi g u) (some ⟨W5.heap.size, 0, none⟩) 2 2 [4, s.n] (W5.alloc (.cells #[.int .i64 4, .int .i64 s.n] 3)) (HB.out.below hb3) (gi_made2 W5 4 s.n 3) HL.out (by have := HG.out.bx.gin.vo.len; omega) (by have := HG.out.bx.gin.di.len; omega))
    rw [show gOf (setDi g u).ws = s from HSs.out.symm] at HN
    replace b2' := hide (blk_below b2'.out hb3)
    replace hw' := hw'.trans (hb3.mono hw'.size)
    go_wp2_with fail
    refine (unhide HN).mono ?_
    rintro e w6 ⟨rfl, ⟨k2, hbx⟩, hg6⟩
    generalize noteG (setDi g u) s [4, s.n] = R2 at *
    have b2 := hide (blk_turns b2'.out hg6 (by omega))
    have hw := turns_below hw' hg6 (Nat.le_refl _) hw'.size
    have HB2 := hide hbx
    obtain ⟨g2, hg2⟩ : ∃ g2, g2 = R2.1 := ⟨_, rfl⟩
    rw [← hg2] at HB2 HE
    clear hbx hg6 HN s0 bS' HB b2' hw' hb3 bC2 hg2
    have bC := hide HB2.out.box
    unfold gtO at bC
    have x0 := blk_cell bC.out 0 _ rfl
    have x1 := blk_cell bC.out 1 _ rfl
    have x2 := blk_cell bC.out 2 _ rfl
    have x3 := blk_cell bC.out 3 _ rfl
    have x4 := blk_cell bC.out 4 _ rfl
    have x5 := blk_cell bC.out 5 _ rfl
    have x6 := blk_cell bC.out 6 _ rfl
    have x7 := blk_cell bC.out 7 _ rfl
    have x8 := blk_cell bC.out 8 _ rfl
    have y0 := blk_cell b2.out 0 _ rfl
    have y1 := blk_cell b2.out 1 _ rfl
    have y2 := blk_cell b2.out 2 _ rfl
    have y3 := blk_cell b2.out 3 _ rfl
    have y4 := blk_cell b2.out 4 _ rfl
    have y5 := blk_cell b2.out 5 _ rfl
    have y6 := blk_cell b2.out 6 _ rfl
    have y7 := blk_cell b2.out 7 _ rfl
    have y8 := blk_cell b2.out 8 _ rfl
    have f0 := blk_free b2.out 0
    have f1 := blk_free b2.out 1
    have f2 := blk_free b2.out 2
    have f3 := blk_free b2.out 3
    have f4 := blk_free b2.out 4
    have f5 := blk_free b2.out 5
    have f6 := blk_free b2.out 6
    have f7 := blk_free b2.out 7
    have f8 := blk_free b2.out 8
    go_wp2_with fail
    refine bodyPost_ret (v := .tuple #[gtv g2 k2, .slice none 0 0]) (by simp [results, Tryz.results47, go_sem, gtv, y0, y1, y2, y3, y4, y5, y6, y7, y8]) rfl ?_
    rw [HE.out]
    have hT := turns_set (turns_set (turns_set (turns_set (turns_set (turns_set (turns_set (turns_set (turns_set (World.grownBy.refl w6 (some (w.heap.size + 1 + 1))) 0 (.slice k2.a k2.n k2.c)) 1 (.int .i64 g2.fu)) 2 (.bool g2.up)) 3 (.int .i64 g2.t.r.v)) 4 (.slice k2.ak k2.nk k2.ck)) 5 (.int .i64 g2.t.r.t)) 6 (.int .i64 g2.t.ver)) 7 (.slice k2.av k2.nv k2.cv)) 8 (.slice k2.ad k2.nd k2.cd)
    exact ⟨⟨k2, none, 0, 0, rfl, rin_turns HB2.out.gin HB2.out.fr hF hT, .inl rfl, rfl, Nat.le_refl _⟩, turns_below hw hT hx hw.size⟩
  have e6 : (m.k == 6) = false := by simpa using q6
  have Q6 := hide q6
  clear q6
  by_cases q7 : m.k = 7
  rotate_left
  · have e7 : (m.k == 7) = false := by simpa using q7
    have HE := HE0.out
    rw [ghK_0 Q3.out Q6.out q7] at HE
    replace HE := hide HE
    clear HE0 q7 Q3 Q6 HSs
    have HB := hide HG.out.bx
    clear bC
    have bC := hide HB.out.box
    unfold gtO at bC
    have x0 := blk_cell bC.out 0 _ rfl
    have x1 := blk_cell bC.out 1 _ rfl
    have x2 := blk_cell bC.out 2 _ rfl
    have x3 := blk_cell bC.out 3 _ rfl
    have x4 := blk_cell bC.out 4 _ rfl
    have x5 := blk_cell bC.out 5 _ rfl
    have x6 := blk_cell bC.out 6 _ rfl
    have x7 := blk_cell bC.out 7 _ rfl
    have x8 := blk_cell bC.out 8 _ rfl
    have y0 := blk_cell b2.out 0 _ rfl
    have y1 := blk_cell b2.out 1 _ rfl
    have y2 := blk_cell b2.out 2 _ rfl
    have y3 := blk_cell b2.out 3 _ rfl
    have y4 := blk_cell b2.out 4 _ rfl
    have y5 := blk_cell b2.out 5 _ rfl
    have y6 := blk_cell b2.out 6 _ rfl
    have y7 := blk_cell b2.out 7 _ rfl
    have y8 := blk_cell b2.out 8 _ rfl
    have f0 := blk_free b2.out 0
    have f1 := blk_free b2.out 1
    have f2 := blk_free b2.out 2
    have f3 := blk_free b2.out 3
    have f4 := blk_free b2.out 4
    have f5 := blk_free b2.out 5
    have f6 := blk_free b2.out 6
    have f7 := blk_free b2.out 7
    have f8 := blk_free b2.out 8
    go_wp2_with fail
    refine bodyPost_ret (v := .tuple #[gtv g k, .slice none 0 0]) (by simp [results, Tryz.results47, go_sem, gtv, y0, y1, y2, y3, y4, y5, y6, y7, y8]) rfl ?_
    rw [HE.out]
    have hT := turns_set (turns_set (turns_set (turns_set (turns_set (turns_set (turns_set (turns_set (turns_set (World.grownBy.refl w4 (some (w.heap.size + 1 + 1))) 0 (.slice k.a k.n k.c)) 1 (.int .i64 g.fu)) 2 (.bool g.up)) 3 (.int .i64 g.t.r.v)) 4 (.slice k.ak k.nk k.ck)) 5 (.int .i64 g.t.r.t)) 6 (.int .i64 g.t.ver)) 7 (.slice k.av k.nv k.cv)) 8 (.slice k.ad k.nd k.cd)
    exact ⟨⟨k, none, 0, 0, rfl, rin_turns HB.out.gin HB.out.fr hF hT, .inl rfl, rfl, Nat.le_refl _⟩, turns_below hw hT hx hw.size⟩
  rw [q7] at u0
  clear e3 e6 Q3 Q6
  have Q7 := hide q7
  clear q7
  cases pd : pend s m && !decG s
  rotate_left
  · have HE := HE0.out
    rw [ghK_7 Q7.out, pd] at HE
    replace HE := hide HE
    clear HE0 Q7 HSs
    obtain ⟨p1, p2⟩ : pend s m = true ∧ decG s = false := by simpa using pd
    rw [p1, p2]
    clear pd p1 p2
    have HB := hide HG.out.bx
    clear bC
    have bC := hide HB.out.box
    unfold gtO at bC
    have x0 := blk_cell bC.out 0 _ rfl
    have x1 := blk_cell bC.out 1 _ rfl
    have x2 := blk_cell bC.out 2 _ rfl
    have x3 := blk_cell bC.out 3 _ rfl
    have x4 := blk_cell bC.out 4 _ rfl
    have x5 := blk_cell bC.out 5 _ rfl
    have x6 := blk_cell bC.out 6 _ rfl
    have x7 := blk_cell bC.out 7 _ rfl
    have x8 := blk_cell bC.out 8 _ rfl
    have y0 := blk_cell b2.out 0 _ rfl
    have y1 := blk_cell b2.out 1 _ rfl
    have y2 := blk_cell b2.out 2 _ rfl
    have y3 := blk_cell b2.out 3 _ rfl
    have y4 := blk_cell b2.out 4 _ rfl
    have y5 := blk_cell b2.out 5 _ rfl
    have y6 := blk_cell b2.out 6 _ rfl
    have y7 := blk_cell b2.out 7 _ rfl
    have y8 := blk_cell b2.out 8 _ rfl
    have f0 := blk_free b2.out 0
    have f1 := blk_free b2.out 1
    have f2 := blk_free b2.out 2
    have f3 := blk_free b2.out 3
    have f4 := blk_free b2.out 4
    have f5 := blk_free b2.out 5
    have f6 := blk_free b2.out 6
    have f7 := blk_free b2.out 7
    have f8 := blk_free b2.out 8
    go_wp2_with fail
    refine bodyPost_ret (v := .tuple #[gtv g k, .slice none 0 0]) (by simp [results, Tryz.results47, go_sem, gtv, y0, y1, y2, y3, y4, y5, y6, y7, y8]) rfl ?_
    rw [HE.out]
    have hT := turns_set (turns_set (turns_set (turns_set (turns_set (turns_set (turns_set (turns_set (turns_set (World.grownBy.refl w4 (some (w.heap.size + 1 + 1))) 0 (.slice k.a k.n k.c)) 1 (.int .i64 g.fu)) 2 (.bool g.up)) 3 (.int .i64 g.t.r.v)) 4 (.slice k.ak k.nk k.ck)) 5 (.int .i64 g.t.r.t)) 6 (.int .i64 g.t.ver)) 7 (.slice k.av k.nv k.cv)) 8 (.slice k.ad k.nd k.cd)
    exact ⟨⟨k, none, 0, 0, rfl, rin_turns HB.out.gin HB.out.fr hF hT, .inl rfl, rfl, Nat.le_refl _⟩, turns_below hw hT hx hw.size⟩
  have HE := HE0.out
  rw [ghK_7 Q7.out, pd] at HE
  replace HE := hide HE
  clear HE0 Q7 HSs bC u6
  cases p1 : pend s m
  · clear pd p1
    have s0 := blk_cell bS.out 0 _ rfl
    have s2 := blk_cell bS.out 2 _ rfl
    have u2 := blk_cell b1.out 2 _ rfl
    go_upto_region 15 with fail
    go_cut [104] (fun v wx => v = .bool (decide (s.n = m.n) && s.co) ∧ wx = w4)
    case first =>
      by_cases p1 : s.n = m.n
      · have d1 : (s.n == m.n) = true := by simpa using p1
        go_wp2_with fail
        go_meet
        case rel => exact ⟨congrArg Value.bool (by simp [p1]), rfl⟩
      · have d1 : (s.n == m.n) = false := by simpa using p1
        go_wp2_with fail
        go_meet
        case rel => exact ⟨congrArg Value.bool (by simp [p1]), rfl⟩
    obtain ⟨rfl, hW⟩ := hcut
    replace hW := hW.symm
    subst hW
    clear s0 s2 u2
    have HKK : Hid (∀ b, (decide (s.n = m.n) && s.co) = b → verd s m.u m.n = ⟨if b = true then 4 else 5, m.u, m.n, 0, 0, [], false⟩) := fun b e => by unfold verd; rw [e]
    generalize (decide (s.n = m.n) && s.co) = bb at *
    have HV := hide (HKK.out bb rfl)
    clear HKK
    go_upto_if 104 with fail
    go_cut [9] (fun v wx => v = .int .i64 (if bb = true then 4 else 5) ∧ wx = w4)
    case first =>
      cases bb
      · go_wp2_with fail
        go_meet
        case rel => exact ⟨rfl, rfl⟩
      · go_wp2_with fail
        go_meet
        case rel => exact ⟨rfl, rfl⟩
    obtain ⟨rfl, hW⟩ := hcut
    replace hW := hW.symm
    subst hW
    rw [HV.out] at HE
    clear HV
    generalize (if bb = true then (4 : Int) else 5) = kk at *
    go_upto_region 17 with fail
    have hSb := blk_lt bS.out
    have hR4 := blk_lt b2.out
    refine wp_region_held_drew (S := fun W' => (W'.cell? ⟨w.heap.size, 0, none⟩ = some (.slice k.a k.n k.c) ∧ W'.cell? ⟨w.heap.size, 1, none⟩ = some (.int .i64 g.fu) ∧ W'.cell? ⟨w.heap.size, 2, none⟩ = some (.bool g.up) ∧ W'.cell? ⟨w.heap.size, 3, none⟩ = some (.int .i64 g.t.r.v) ∧ W'.cell? ⟨w.heap.size, 4, none⟩ = some (.slice k.ak k.nk k.ck) ∧ W'.cell? ⟨w.heap.size, 5, none⟩ = some (.int .i64 g.t.r.t) ∧ W'.cell? ⟨w.heap.size, 6, none⟩ = some (.int .i64 g.t.ver) ∧ W'.cell? ⟨w.heap.size, 7, none⟩ = some (.slice k.av k.nv k.cv) ∧ W'.cell? ⟨w.heap.size, 8, none⟩ = some (.slice k.ad k.nd k.cd)) ∧ (W'.cell? ⟨S, 0, none⟩ = some (.int .i64 s.n) ∧ W'.cell? ⟨S, 1, none⟩ = some (.int .i64 s.v) ∧ W'.cell? ⟨S, 2, none⟩ = some (.bool s.co) ∧ W'.cell? ⟨S, 3, none⟩ = some (.bool s.ab) ∧ W'.cell? ⟨S, 4, none⟩ = some (.bool s.en)) ∧ W'.cell? ⟨w.heap.size + 1, 1, none⟩ = some (.int .i64 m.u) ∧ W'.cell? ⟨w.heap.size + 1, 2, none⟩ = some (.int .i64 m.n) ∧ w4.grownBy W' (some (w.heap.size + 1 + 1))) (by kernel_rfl) (hearR HG.out.bx.box bS.out b1.out (by omega) (by omega) (by omega) (turns_of (Below.refl _ _).drew _)) ?_
    intro hHeld
    have b2d := hide (blk_below b2.out (Below.refl w4.heap.size w4).drew)
    have hg0 : w4.grownBy w4.drew (some (w.heap.size + 1 + 1)) := turns_of (Below.refl _ _).drew _
    have hd0 : w4.drew.heap.size = w4.heap.size := rfl
    have HGd := hide (HG.out.bx.below (Below.refl w4.heap.size w4).drew)
    generalize w4.drew = X0 at *
    refine wpAnyH_take (i := 0) (v := ?_) (by simp only [List.getElem?_toArray, List.getElem?_cons_zero]; rfl) (by kernel_rfl) (by kernel_rfl) (by kernel_rfl) (by exact fun _ _ _ h => h) (Or.inl ⟨by rfl, ?_⟩) (by assumption) ?_
    rotate_left
    · intro w hSw
      try dsimp only at hSw
      go_simp
      try with_reducible rfl
    try simp only [Act.put, List.setIfInBounds_toArray, List.set_cons_zero, List.set_cons_succ]
    refine wpAnyH_take (i := 1) (v := ?_) (by simp only [List.getElem?_toArray, List.getElem?_cons_zero, List.getElem?_cons_succ]; rfl) (by kernel_rfl) (by kernel_rfl) (by kernel_rfl) (by exact fun _ _ _ h => h) (Or.inl ⟨by rfl, ?_⟩) (by assumption) ?_
    rotate_left
    · intro w hSw
      try dsimp only at hSw
      go_simp
      try with_reducible rfl
    try simp only [Act.put, List.setIfInBounds_toArray, List.set_cons_zero, List.set_cons_succ]
    refine wpAnyH_take (i := 2) (v := ?_) (by simp only [List.getElem?_toArray, List.getElem?_cons_zero, List.getElem?_cons_succ]; rfl) (by kernel_rfl) (by kernel_rfl) (by kernel_rfl) (by exact fun _ _ _ h => h) (Or.inl ⟨by rfl, ?_⟩) (by assumption) ?_
    rotate_left
    · intro w hSw
      try dsimp only at hSw
      go_simp
      try with_reducible rfl
    try simp only [Act.put, List.setIfInBounds_toArray, List.set_cons_zero, List.set_cons_succ]
    refine wpAnyH_take (i := 3) (v := ?_) (by simp only [List.getElem?_toArray, List.getElem?_cons_zero, List.getElem?_cons_succ]; rfl) (by kernel_rfl) (by kernel_rfl) (by kernel_rfl) (by exact fun _ _ _ h => h) (Or.inl ⟨by rfl, ?_⟩) (by assumption) ?_
    rotate_left
    · intro w hSw
      try dsimp only at hSw
      go_simp
      try with_reducible rfl
    try simp only [Act.put, List.setIfInBounds_toArray, List.set_cons_zero, List.set_cons_succ]
    refine wpAnyH_take (i := 4) (v := ?_) (by simp only [List.getElem?_toArray, List.getElem?_cons_zero, List.getElem?_cons_succ]; rfl) (by kernel_rfl) (by kernel_rfl) (by kernel_rfl) (by exact fun _ _ _ h => h) (Or.inl ⟨by rfl, ?_⟩) (by assumption) ?_
    rotate_left
    · intro w hSw
      try dsimp only at hSw
      go_simp
      try with_reducible rfl
    try simp only [Act.put, List.setIfInBounds_toArray, List.set_cons_zero, List.set_cons_succ]
    refine wpAnyH_take (i := 5) (v := ?_) (by simp only [List.getElem?_toArray, List.getElem?_cons_zero, List.getElem?_cons_succ]; rfl) (by kernel_rfl) (by kernel_rfl) (by kernel_rfl) (by exact fun _ _ _ h => h) (Or.inl ⟨by rfl, ?_⟩) (by assumption) ?_
    rotate_left
    · intro w hSw
      try dsimp only at hSw
      go_simp
      try with_reducible rfl
    try simp only [Act.put, List.setIfInBounds_toArray, List.set_cons_zero, List.set_cons_succ]
    refine wpAnyH_take (i := 6) (v := ?_) (by simp only [List.getElem?_toArray, List.getElem?_cons_zero, List.getElem?_cons_succ]; rfl) (by kernel_rfl) (by kernel_rfl) (by kernel_rfl) (by exact fun _ _ _ h => h) (Or.inl ⟨by rfl, ?_⟩) (by assumption) ?_
    rotate_left
    · intro w hSw
      try dsimp only at hSw
      go_simp
      try with_reducible rfl
    try simp only [Act.put, List.setIfInBounds_toArray, List.set_cons_zero, List.set_cons_succ]
    refine wpAnyH_ready (rs := [7, 8]) (by kernel_rfl) (by simp) ?_
    refine AllReadyH.cons (by simp only [List.getElem?_toArray, List.getElem?_cons_zero, List.getElem?_cons_succ]; rfl) (fun K hK => ?_) (AllReadyH.cons (by simp only [List.getElem?_toArray, List.getElem?_cons_zero, List.getElem?_cons_succ]; rfl) (fun K hK => ?_) AllReadyH.nil)
    · go_simp
      have hbm : Below X0.heap.size X0 (X0.alloc (.cells #[.int .i64 kk, .int .i64 m.u, .int .i64 m.n, .int .i64 0, .int .i64 0, .slice none 0 0, .bool false] 31)) := below_new (Below.refl _ _) _
      have hg1 := hg0.trans (turns_of hbm (w.heap.size + 1 + 1))
      refine hK.out _ _ (hearR HG.out.bx.box bS.out b1.out (by omega) (by omega) (by omega) (hg1)) (fun hHeld => ?_)
      clear hK K
      try simp only [Act.put, List.setIfInBounds_toArray, List.set_cons_zero, List.set_cons_succ]
      have bM := hide (heap_alloc_last X0 (.cells #[.int .i64 kk, .int .i64 m.u, .int .i64 m.n, .int .i64 0, .int .i64 0, .slice none 0 0, .bool false] 31))
      have b2e := hide (blk_below b2d.out hbm)
      have HGe := hide (HGd.out.below hbm)
      have hX0 : w.heap.size + 1 + 1 < X0.heap.size := by omega
      generalize X0.alloc (.cells #[.int .i64 kk, .int .i64 m.u, .int .i64 m.n, .int .i64 0, .int .i64 0, .slice none 0 0, .bool false] 31) = X1 at *
      have y0 := blk_cell b2e.out 0 _ rfl
      have y1 := blk_cell b2e.out 1 _ rfl
      have y2 := blk_cell b2e.out 2 _ rfl
      have y3 := blk_cell b2e.out 3 _ rfl
      have y4 := blk_cell b2e.out 4 _ rfl
      have y5 := blk_cell b2e.out 5 _ rfl
      have y6 := blk_cell b2e.out 6 _ rfl
      have y7 := blk_cell b2e.out 7 _ rfl
      have y8 := blk_cell b2e.out 8 _ rfl
      have f0 := blk_free b2e.out 0
      have f1 := blk_free b2e.out 1
      have f2 := blk_free b2e.out 2
      have f3 := blk_free b2e.out 3
      have f4 := blk_free b2e.out 4
      have f5 := blk_free b2e.out 5
      have f6 := blk_free b2e.out 6
      have f7 := blk_free b2e.out 7
      have f8 := blk_free b2e.out 8
      have hT := turns_set (turns_set (turns_set (turns_set (turns_set (turns_set (turns_set (turns_set (turns_set (World.grownBy.refl X1 (some (w.heap.size + 1 + 1))) 0 (.slice k.a k.n k.c)) 1 (.int .i64 g.fu)) 2 (.bool g.up)) 3 (.int .i64 g.t.r.v)) 4 (.slice k.ak k.nk k.ck)) 5 (.int .i64 g.t.r.t)) 6 (.int .i64 g.t.ver)) 7 (.slice k.av k.nv k.cv)) 8 (.slice k.ad k.nd k.cd)
      refine wpAnyH_ready (rs := [8]) (by kernel_rfl) (by simp) ?_
      refine AllReadyH.cons (by simp only [List.getElem?_toArray, List.getElem?_cons_zero, List.getElem?_cons_succ]; rfl) (fun K hK => ?_) AllReadyH.nil
      go_simp
      refine hK.out _ _ (hearR HG.out.bx.box bS.out b1.out (by omega) (by omega) (by omega) (hg1.trans hT)) (fun hHeld => ?_)
      clear hK K
      try simp only [Act.put, List.setIfInBounds_toArray, List.set_cons_zero, List.set_cons_succ]
      have bM2 := hide (blk_turns bM.out hT (by omega))
      refine wpAnyH_take (i := 9) (v := ?_) (by simp only [List.getElem?_toArray, List.getElem?_cons_zero, List.getElem?_cons_succ]; rfl) (by kernel_rfl) (by kernel_rfl) (by kernel_rfl) (by exact fun _ _ _ h => h) (Or.inl ⟨by rfl, ?_⟩) (by assumption) ?_
      rotate_left
      · intro w hSw
        try dsimp only at hSw
        go_simp
        try with_reducible rfl
      try simp only [Act.put, List.setIfInBounds_toArray, List.set_cons_zero, List.set_cons_succ]
      refine wpAnyH_done (by kernel_rfl) ?_ _
      go_wp2_with fail
      refine bodyPost_ret (v := .tuple #[gtv g k, .slice (some ⟨X0.heap.size, 0, none⟩) 1 1]) (by simp [results, Tryz.results47, go_sem, gtv, y0, y1, y2, y3, y4, y5, y6, y7, y8]) rfl ?_
      rw [HE.out]
      exact ⟨⟨k, _, 1, 1, rfl, rin_turns HGe.out.gin HGe.out.fr hF hT, isMsgs_one rfl bM2.out, rfl, Nat.le_refl _⟩, turns_below hw (hg1.trans hT) hx hw.size⟩
    · have y0 := blk_cell b2d.out 0 _ rfl
      have y1 := blk_cell b2d.out 1 _ rfl
      have y2 := blk_cell b2d.out 2 _ rfl
      have y3 := blk_cell b2d.out 3 _ rfl
      have y4 := blk_cell b2d.out 4 _ rfl
      have y5 := blk_cell b2d.out 5 _ rfl
      have y6 := blk_cell b2d.out 6 _ rfl
      have y7 := blk_cell b2d.out 7 _ rfl
      have y8 := blk_cell b2d.out 8 _ rfl
      have f0 := blk_free b2d.out 0
      have f1 := blk_free b2d.out 1
      have f2 := blk_free b2d.out 2
      have f3 := blk_free b2d.out 3
      have f4 := blk_free b2d.out 4
      have f5 := blk_free b2d.out 5
      have f6 := blk_free b2d.out 6
      have f7 := blk_free b2d.out 7
      have f8 := blk_free b2d.out 8
      have hT := turns_set (turns_set (turns_set (turns_set (turns_set (turns_set (turns_set (turns_set (turns_set (World.grownBy.refl X0 (some (w.heap.size + 1 + 1))) 0 (.slice k.a k.n k.c)) 1 (.int .i64 g.fu)) 2 (.bool g.up)) 3 (.int .i64 g.t.r.v)) 4 (.slice k.ak k.nk k.ck)) 5 (.int .i64 g.t.r.t)) 6 (.int .i64 g.t.ver)) 7 (.slice k.av k.nv k.cv)) 8 (.slice k.ad k.nd k.cd)
      go_simp
      refine hK.out _ _ (hearR HG.out.bx.box bS.out b1.out (by omega) (by omega) (by omega) (hg0.trans hT)) (fun hHeld => ?_)
      clear hK K
      try simp only [Act.put, List.setIfInBounds_toArray, List.set_cons_zero, List.set_cons_succ]
      have b2e := hide (rt_set9 (v0 := .slice k.a k.n k.c) (v1 := .int .i64 g.fu) (v2 := .bool g.up) (v3 := .int .i64 g.t.r.v) (v4 := .slice k.ak k.nk k.ck) (v5 := .int .i64 g.t.r.t) (v6 := .int .i64 g.t.ver) (v7 := .slice k.av k.nv k.cv) (v8 := .slice k.ad k.nd k.cd) b2d.out)
      have hg1 := hg0.trans hT
      have HGe := hide (rin_turns HGd.out.gin HGd.out.fr hF hT)
      clear y0 f0 y1 f1 y2 f2 y3 f3 y4 f4 y5 f5 y6 f6 y7 f7 y8 f8
      generalize (((((((((X0.setCell ⟨w.heap.size + 1 + 1, 0, none⟩ (.slice k.a k.n k.c)).setCell ⟨w.heap.size + 1 + 1, 1, none⟩ (.int .i64 g.fu)).setCell ⟨w.heap.size + 1 + 1, 2, none⟩ (.bool g.up)).setCell ⟨w.heap.size + 1 + 1, 3, none⟩ (.int .i64 g.t.r.v)).setCell ⟨w.heap.size + 1 + 1, 4, none⟩ (.slice k.ak k.nk k.ck)).setCell ⟨w.heap.size + 1 + 1, 5, none⟩ (.int .i64 g.t.r.t)).setCell ⟨w.heap.size + 1 + 1, 6, none⟩ (.int .i64 g.t.ver)).setCell ⟨w.heap.size + 1 + 1, 7, none⟩ (.slice k.av k.nv k.cv)).setCell ⟨w.heap.size + 1 + 1, 8, none⟩ (.slice k.ad k.nd k.cd)) = X1 at *
      refine wpAnyH_ready (rs := [7]) (by kernel_rfl) (by simp) ?_
      refine AllReadyH.cons (by simp only [List.getElem?_toArray, List.getElem?_cons_zero, List.getElem?_cons_succ]; rfl) (fun K hK => ?_) AllReadyH.nil
      go_simp
      have hbm : Below X1.heap.size X1 (X1.alloc (.cells #[.int .i64 kk, .int .i64 m.u, .int .i64 m.n, .int .i64 0, .int .i64 0, .slice none 0 0, .bool false] 31)) := below_new (Below.refl _ _) _
      refine hK.out _ _ (hearR HG.out.bx.box bS.out b1.out (by omega) (by omega) (by omega) (hg1.trans (turns_of hbm (w.heap.size + 1 + 1)))) (fun hHeld => ?_)
      clear hK K
      try simp only [Act.put, List.setIfInBounds_toArray, List.set_cons_zero, List.set_cons_succ]
      have bM := hide (heap_alloc_last X1 (.cells #[.int .i64 kk, .int .i64 m.u, .int .i64 m.n, .int .i64 0, .int .i64 0, .slice none 0 0, .bool false] 31))
      have b2f := hide (blk_below b2e.out hbm)
      have hw2 := turns_below hw (hg1.trans (turns_of hbm (w.heap.size + 1 + 1))) hx hw.size
      have HGf := hide (HGe.out.below hbm)
      generalize X1.alloc (.cells #[.int .i64 kk, .int .i64 m.u, .int .i64 m.n, .int .i64 0, .int .i64 0, .slice none 0 0, .bool false] 31) = X2 at *
      refine wpAnyH_take (i := 9) (v := ?_) (by simp only [List.getElem?_toArray, List.getElem?_cons_zero, List.getElem?_cons_succ]; rfl) (by kernel_rfl) (by kernel_rfl) (by kernel_rfl) (by exact fun _ _ _ h => h) (Or.inl ⟨by rfl, ?_⟩) (by assumption) ?_
      rotate_left
      · intro w hSw
        try dsimp only at hSw
        go_simp
        try with_reducible rfl
      try simp only [Act.put, List.setIfInBounds_toArray, List.set_cons_zero, List.set_cons_succ]
      refine wpAnyH_done (by kernel_rfl) ?_ _
      have y0 := blk_cell b2f.out 0 _ rfl
      have y1 := blk_cell b2f.out 1 _ rfl
      have y2 := blk_cell b2f.out 2 _ rfl
      have y3 := blk_cell b2f.out 3 _ rfl
      have y4 := blk_cell b2f.out 4 _ rfl
      have y5 := blk_cell b2f.out 5 _ rfl
      have y6 := blk_cell b2f.out 6 _ rfl
      have y7 := blk_cell b2f.out 7 _ rfl
      have y8 := blk_cell b2f.out 8 _ rfl
      go_wp2_with fail
      refine bodyPost_ret (v := .tuple #[gtv g k, .slice (some ⟨X1.heap.size, 0, none⟩) 1 1]) (by simp [results, Tryz.results47, go_sem, gtv, y0, y1, y2, y3, y4, y5, y6, y7, y8]) rfl ?_
      rw [HE.out]
      exact ⟨⟨k, _, 1, 1, rfl, HGf.out, isMsgs_one rfl bM.out, rfl, Nat.le_refl _⟩, hw2⟩
  · cases p2 : decG s
    · rw [p1, p2] at pd
      cases pd
    · clear pd p1 p2
      have s0 := blk_cell bS.out 0 _ rfl
      have s2 := blk_cell bS.out 2 _ rfl
      have u2 := blk_cell b1.out 2 _ rfl
      go_upto_region 15 with fail
      go_cut [104] (fun v wx => v = .bool (decide (s.n = m.n) && s.co) ∧ wx = w4)
      case first =>
        by_cases p1 : s.n = m.n
        · have d1 : (s.n == m.n) = true := by simpa using p1
          go_wp2_with fail
          go_meet
          case rel => exact ⟨congrArg Value.bool (by simp [p1]), rfl⟩
        · have d1 : (s.n == m.n) = false := by simpa using p1
          go_wp2_with fail
          go_meet
          case rel => exact ⟨congrArg Value.bool (by simp [p1]), rfl⟩
      obtain ⟨rfl, hW⟩ := hcut
      replace hW := hW.symm
      subst hW
      clear s0 s2 u2
      have HKK : Hid (∀ b, (decide (s.n = m.n) && s.co) = b → verd s m.u m.n = ⟨if b = true then 4 else 5, m.u, m.n, 0, 0, [], false⟩) := fun b e => by unfold verd; rw [e]
      generalize (decide (s.n = m.n) && s.co) = bb at *
      have HV := hide (HKK.out bb rfl)
      clear HKK
      go_upto_if 104 with fail
      go_cut [9] (fun v wx => v = .int .i64 (if bb = true then 4 else 5) ∧ wx = w4)
      case first =>
        cases bb
        · go_wp2_with fail
          go_meet
          case rel => exact ⟨rfl, rfl⟩
        · go_wp2_with fail
          go_meet
          case rel => exact ⟨rfl, rfl⟩
      obtain ⟨rfl, hW⟩ := hcut
      replace hW := hW.symm
      subst hW
      rw [HV.out] at HE
      clear HV
      generalize (if bb = true then (4 : Int) else 5) = kk at *
      go_upto_region 17 with fail
      have hSb := blk_lt bS.out
      have hR4 := blk_lt b2.out
      refine wp_region_held_drew (S := fun W' => (W'.cell? ⟨w.heap.size, 0, none⟩ = some (.slice k.a k.n k.c) ∧ W'.cell? ⟨w.heap.size, 1, none⟩ = some (.int .i64 g.fu) ∧ W'.cell? ⟨w.heap.size, 2, none⟩ = some (.bool g.up) ∧ W'.cell? ⟨w.heap.size, 3, none⟩ = some (.int .i64 g.t.r.v) ∧ W'.cell? ⟨w.heap.size, 4, none⟩ = some (.slice k.ak k.nk k.ck) ∧ W'.cell? ⟨w.heap.size, 5, none⟩ = some (.int .i64 g.t.r.t) ∧ W'.cell? ⟨w.heap.size, 6, none⟩ = some (.int .i64 g.t.ver) ∧ W'.cell? ⟨w.heap.size, 7, none⟩ = some (.slice k.av k.nv k.cv) ∧ W'.cell? ⟨w.heap.size, 8, none⟩ = some (.slice k.ad k.nd k.cd)) ∧ (W'.cell? ⟨S, 0, none⟩ = some (.int .i64 s.n) ∧ W'.cell? ⟨S, 1, none⟩ = some (.int .i64 s.v) ∧ W'.cell? ⟨S, 2, none⟩ = some (.bool s.co) ∧ W'.cell? ⟨S, 3, none⟩ = some (.bool s.ab) ∧ W'.cell? ⟨S, 4, none⟩ = some (.bool s.en)) ∧ W'.cell? ⟨w.heap.size + 1, 1, none⟩ = some (.int .i64 m.u) ∧ W'.cell? ⟨w.heap.size + 1, 2, none⟩ = some (.int .i64 m.n) ∧ w4.grownBy W' (some (w.heap.size + 1 + 1))) (by kernel_rfl) (hearR HG.out.bx.box bS.out b1.out (by omega) (by omega) (by omega) (turns_of (Below.refl _ _).drew _)) ?_
      intro hHeld
      have b2d := hide (blk_below b2.out (Below.refl w4.heap.size w4).drew)
      have hg0 : w4.grownBy w4.drew (some (w.heap.size + 1 + 1)) := turns_of (Below.refl _ _).drew _
      have hd0 : w4.drew.heap.size = w4.heap.size := rfl
      have HGd := hide (HG.out.bx.below (Below.refl w4.heap.size w4).drew)
      generalize w4.drew = X0 at *
      refine wpAnyH_take (i := 0) (v := ?_) (by simp only [List.getElem?_toArray, List.getElem?_cons_zero]; rfl) (by kernel_rfl) (by kernel_rfl) (by kernel_rfl) (by exact fun _ _ _ h => h) (Or.inl ⟨by rfl, ?_⟩) (by assumption) ?_
      rotate_left
      · intro w hSw
        try dsimp only at hSw
        go_simp
        try with_reducible rfl
      try simp only [Act.put, List.setIfInBounds_toArray, List.set_cons_zero, List.set_cons_succ]
      refine wpAnyH_take (i := 1) (v := ?_) (by simp only [List.getElem?_toArray, List.getElem?_cons_zero, List.getElem?_cons_succ]; rfl) (by kernel_rfl) (by kernel_rfl) (by kernel_rfl) (by exact fun _ _ _ h => h) (Or.inl ⟨by rfl, ?_⟩) (by assumption) ?_
      rotate_left
      · intro w hSw
        try dsimp only at hSw
        go_simp
        try with_reducible rfl
      try simp only [Act.put, List.setIfInBounds_toArray, List.set_cons_zero, List.set_cons_succ]
      refine wpAnyH_take (i := 2) (v := ?_) (by simp only [List.getElem?_toArray, List.getElem?_cons_zero, List.getElem?_cons_succ]; rfl) (by kernel_rfl) (by kernel_rfl) (by kernel_rfl) (by exact fun _ _ _ h => h) (Or.inl ⟨by rfl, ?_⟩) (by assumption) ?_
      rotate_left
      · intro w hSw
        try dsimp only at hSw
        go_simp
        try with_reducible rfl
      try simp only [Act.put, List.setIfInBounds_toArray, List.set_cons_zero, List.set_cons_succ]
      refine wpAnyH_take (i := 3) (v := ?_) (by simp only [List.getElem?_toArray, List.getElem?_cons_zero, List.getElem?_cons_succ]; rfl) (by kernel_rfl) (by kernel_rfl) (by kernel_rfl) (by exact fun _ _ _ h => h) (Or.inl ⟨by rfl, ?_⟩) (by assumption) ?_
      rotate_left
      · intro w hSw
        try dsimp only at hSw
        go_simp
        try with_reducible rfl
      try simp only [Act.put, List.setIfInBounds_toArray, List.set_cons_zero, List.set_cons_succ]
      refine wpAnyH_take (i := 4) (v := ?_) (by simp only [List.getElem?_toArray, List.getElem?_cons_zero, List.getElem?_cons_succ]; rfl) (by kernel_rfl) (by kernel_rfl) (by kernel_rfl) (by exact fun _ _ _ h => h) (Or.inl ⟨by rfl, ?_⟩) (by assumption) ?_
      rotate_left
      · intro w hSw
        try dsimp only at hSw
        go_simp
        try with_reducible rfl
      try simp only [Act.put, List.setIfInBounds_toArray, List.set_cons_zero, List.set_cons_succ]
      refine wpAnyH_take (i := 5) (v := ?_) (by simp only [List.getElem?_toArray, List.getElem?_cons_zero, List.getElem?_cons_succ]; rfl) (by kernel_rfl) (by kernel_rfl) (by kernel_rfl) (by exact fun _ _ _ h => h) (Or.inl ⟨by rfl, ?_⟩) (by assumption) ?_
      rotate_left
      · intro w hSw
        try dsimp only at hSw
        go_simp
        try with_reducible rfl
      try simp only [Act.put, List.setIfInBounds_toArray, List.set_cons_zero, List.set_cons_succ]
      refine wpAnyH_take (i := 6) (v := ?_) (by simp only [List.getElem?_toArray, List.getElem?_cons_zero, List.getElem?_cons_succ]; rfl) (by kernel_rfl) (by kernel_rfl) (by kernel_rfl) (by exact fun _ _ _ h => h) (Or.inl ⟨by rfl, ?_⟩) (by assumption) ?_
      rotate_left
      · intro w hSw
        try dsimp only at hSw
        go_simp
        try with_reducible rfl
      try simp only [Act.put, List.setIfInBounds_toArray, List.set_cons_zero, List.set_cons_succ]
      refine wpAnyH_ready (rs := [7, 8]) (by kernel_rfl) (by simp) ?_
      refine AllReadyH.cons (by simp only [List.getElem?_toArray, List.getElem?_cons_zero, List.getElem?_cons_succ]; rfl) (fun K hK => ?_) (AllReadyH.cons (by simp only [List.getElem?_toArray, List.getElem?_cons_zero, List.getElem?_cons_succ]; rfl) (fun K hK => ?_) AllReadyH.nil)
      · go_simp
        have hbm : Below X0.heap.size X0 (X0.alloc (.cells #[.int .i64 kk, .int .i64 m.u, .int .i64 m.n, .int .i64 0, .int .i64 0, .slice none 0 0, .bool false] 31)) := below_new (Below.refl _ _) _
        have hg1 := hg0.trans (turns_of hbm (w.heap.size + 1 + 1))
        refine hK.out _ _ (hearR HG.out.bx.box bS.out b1.out (by omega) (by omega) (by omega) (hg1)) (fun hHeld => ?_)
        clear hK K
        try simp only [Act.put, List.setIfInBounds_toArray, List.set_cons_zero, List.set_cons_succ]
        have bM := hide (heap_alloc_last X0 (.cells #[.int .i64 kk, .int .i64 m.u, .int .i64 m.n, .int .i64 0, .int .i64 0, .slice none 0 0, .bool false] 31))
        have b2e := hide (blk_below b2d.out hbm)
        have HGe := hide (HGd.out.below hbm)
        have hX0 : w.heap.size + 1 + 1 < X0.heap.size := by omega
        generalize X0.alloc (.cells #[.int .i64 kk, .int .i64 m.u, .int .i64 m.n, .int .i64 0, .int .i64 0, .slice none 0 0, .bool false] 31) = X1 at *
        have y0 := blk_cell b2e.out 0 _ rfl
        have y1 := blk_cell b2e.out 1 _ rfl
        have y2 := blk_cell b2e.out 2 _ rfl
        have y3 := blk_cell b2e.out 3 _ rfl
        have y4 := blk_cell b2e.out 4 _ rfl
        have y5 := blk_cell b2e.out 5 _ rfl
        have y6 := blk_cell b2e.out 6 _ rfl
        have y7 := blk_cell b2e.out 7 _ rfl
        have y8 := blk_cell b2e.out 8 _ rfl
        have f0 := blk_free b2e.out 0
        have f1 := blk_free b2e.out 1
        have f2 := blk_free b2e.out 2
        have f3 := blk_free b2e.out 3
        have f4 := blk_free b2e.out 4
        have f5 := blk_free b2e.out 5
        have f6 := blk_free b2e.out 6
        have f7 := blk_free b2e.out 7
        have f8 := blk_free b2e.out 8
        have hT := turns_set (turns_set (turns_set (turns_set (turns_set (turns_set (turns_set (turns_set (turns_set (World.grownBy.refl X1 (some (w.heap.size + 1 + 1))) 0 (.slice k.a k.n k.c)) 1 (.int .i64 g.fu)) 2 (.bool g.up)) 3 (.int .i64 g.t.r.v)) 4 (.slice k.ak k.nk k.ck)) 5 (.int .i64 g.t.r.t)) 6 (.int .i64 g.t.ver)) 7 (.slice k.av k.nv k.cv)) 8 (.slice k.ad k.nd k.cd)
        refine wpAnyH_ready (rs := [8]) (by kernel_rfl) (by simp) ?_
        refine AllReadyH.cons (by simp only [List.getElem?_toArray, List.getElem?_cons_zero, List.getElem?_cons_succ]; rfl) (fun K hK => ?_) AllReadyH.nil
        go_simp
        refine hK.out _ _ (hearR HG.out.bx.box bS.out b1.out (by omega) (by omega) (by omega) (hg1.trans hT)) (fun hHeld => ?_)
        clear hK K
        try simp only [Act.put, List.setIfInBounds_toArray, List.set_cons_zero, List.set_cons_succ]
        have bM2 := hide (blk_turns bM.out hT (by omega))
        refine wpAnyH_take (i := 9) (v := ?_) (by simp only [List.getElem?_toArray, List.getElem?_cons_zero, List.getElem?_cons_succ]; rfl) (by kernel_rfl) (by kernel_rfl) (by kernel_rfl) (by exact fun _ _ _ h => h) (Or.inl ⟨by rfl, ?_⟩) (by assumption) ?_
        rotate_left
        · intro w hSw
          try dsimp only at hSw
          go_simp
          try with_reducible rfl
        try simp only [Act.put, List.setIfInBounds_toArray, List.set_cons_zero, List.set_cons_succ]
        refine wpAnyH_done (by kernel_rfl) ?_ _
        go_wp2_with fail
        refine bodyPost_ret (v := .tuple #[gtv g k, .slice (some ⟨X0.heap.size, 0, none⟩) 1 1]) (by simp [results, Tryz.results47, go_sem, gtv, y0, y1, y2, y3, y4, y5, y6, y7, y8]) rfl ?_
        rw [HE.out]
        exact ⟨⟨k, _, 1, 1, rfl, rin_turns HGe.out.gin HGe.out.fr hF hT, isMsgs_one rfl bM2.out, rfl, Nat.le_refl _⟩, turns_below hw (hg1.trans hT) hx hw.size⟩
      · have y0 := blk_cell b2d.out 0 _ rfl
        have y1 := blk_cell b2d.out 1 _ rfl
        have y2 := blk_cell b2d.out 2 _ rfl
        have y3 := blk_cell b2d.out 3 _ rfl
        have y4 := blk_cell b2d.out 4 _ rfl
        have y5 := blk_cell b2d.out 5 _ rfl
        have y6 := blk_cell b2d.out 6 _ rfl
        have y7 := blk_cell b2d.out 7 _ rfl
        have y8 := blk_cell b2d.out 8 _ rfl
        have f0 := blk_free b2d.out 0
        have f1 := blk_free b2d.out 1
        have f2 := blk_free b2d.out 2
        have f3 := blk_free b2d.out 3
        have f4 := blk_free b2d.out 4
        have f5 := blk_free b2d.out 5
        have f6 := blk_free b2d.out 6
        have f7 := blk_free b2d.out 7
        have f8 := blk_free b2d.out 8
        have hT := turns_set (turns_set (turns_set (turns_set (turns_set (turns_set (turns_set (turns_set (turns_set (World.grownBy.refl X0 (some (w.heap.size + 1 + 1))) 0 (.slice k.a k.n k.c)) 1 (.int .i64 g.fu)) 2 (.bool g.up)) 3 (.int .i64 g.t.r.v)) 4 (.slice k.ak k.nk k.ck)) 5 (.int .i64 g.t.r.t)) 6 (.int .i64 g.t.ver)) 7 (.slice k.av k.nv k.cv)) 8 (.slice k.ad k.nd k.cd)
        go_simp
        refine hK.out _ _ (hearR HG.out.bx.box bS.out b1.out (by omega) (by omega) (by omega) (hg0.trans hT)) (fun hHeld => ?_)
        clear hK K
        try simp only [Act.put, List.setIfInBounds_toArray, List.set_cons_zero, List.set_cons_succ]
        have b2e := hide (rt_set9 (v0 := .slice k.a k.n k.c) (v1 := .int .i64 g.fu) (v2 := .bool g.up) (v3 := .int .i64 g.t.r.v) (v4 := .slice k.ak k.nk k.ck) (v5 := .int .i64 g.t.r.t) (v6 := .int .i64 g.t.ver) (v7 := .slice k.av k.nv k.cv) (v8 := .slice k.ad k.nd k.cd) b2d.out)
        have hg1 := hg0.trans hT
        have HGe := hide (rin_turns HGd.out.gin HGd.out.fr hF hT)
        clear y0 f0 y1 f1 y2 f2 y3 f3 y4 f4 y5 f5 y6 f6 y7 f7 y8 f8
        generalize (((((((((X0.setCell ⟨w.heap.size + 1 + 1, 0, none⟩ (.slice k.a k.n k.c)).setCell ⟨w.heap.size + 1 + 1, 1, none⟩ (.int .i64 g.fu)).setCell ⟨w.heap.size + 1 + 1, 2, none⟩ (.bool g.up)).setCell ⟨w.heap.size + 1 + 1, 3, none⟩ (.int .i64 g.t.r.v)).setCell ⟨w.heap.size + 1 + 1, 4, none⟩ (.slice k.ak k.nk k.ck)).setCell ⟨w.heap.size + 1 + 1, 5, none⟩ (.int .i64 g.t.r.t)).setCell ⟨w.heap.size + 1 + 1, 6, none⟩ (.int .i64 g.t.ver)).setCell ⟨w.heap.size + 1 + 1, 7, none⟩ (.slice k.av k.nv k.cv)).setCell ⟨w.heap.size + 1 + 1, 8, none⟩ (.slice k.ad k.nd k.cd)) = X1 at *
        refine wpAnyH_ready (rs := [7]) (by kernel_rfl) (by simp) ?_
        refine AllReadyH.cons (by simp only [List.getElem?_toArray, List.getElem?_cons_zero, List.getElem?_cons_succ]; rfl) (fun K hK => ?_) AllReadyH.nil
        go_simp
        have hbm : Below X1.heap.size X1 (X1.alloc (.cells #[.int .i64 kk, .int .i64 m.u, .int .i64 m.n, .int .i64 0, .int .i64 0, .slice none 0 0, .bool false] 31)) := below_new (Below.refl _ _) _
        refine hK.out _ _ (hearR HG.out.bx.box bS.out b1.out (by omega) (by omega) (by omega) (hg1.trans (turns_of hbm (w.heap.size + 1 + 1)))) (fun hHeld => ?_)
        clear hK K
        try simp only [Act.put, List.setIfInBounds_toArray, List.set_cons_zero, List.set_cons_succ]
        have bM := hide (heap_alloc_last X1 (.cells #[.int .i64 kk, .int .i64 m.u, .int .i64 m.n, .int .i64 0, .int .i64 0, .slice none 0 0, .bool false] 31))
        have b2f := hide (blk_below b2e.out hbm)
        have hw2 := turns_below hw (hg1.trans (turns_of hbm (w.heap.size + 1 + 1))) hx hw.size
        have HGf := hide (HGe.out.below hbm)
        generalize X1.alloc (.cells #[.int .i64 kk, .int .i64 m.u, .int .i64 m.n, .int .i64 0, .int .i64 0, .slice none 0 0, .bool false] 31) = X2 at *
        refine wpAnyH_take (i := 9) (v := ?_) (by simp only [List.getElem?_toArray, List.getElem?_cons_zero, List.getElem?_cons_succ]; rfl) (by kernel_rfl) (by kernel_rfl) (by kernel_rfl) (by exact fun _ _ _ h => h) (Or.inl ⟨by rfl, ?_⟩) (by assumption) ?_
        rotate_left
        · intro w hSw
          try dsimp only at hSw
          go_simp
          try with_reducible rfl
        try simp only [Act.put, List.setIfInBounds_toArray, List.set_cons_zero, List.set_cons_succ]
        refine wpAnyH_done (by kernel_rfl) ?_ _
        have y0 := blk_cell b2f.out 0 _ rfl
        have y1 := blk_cell b2f.out 1 _ rfl
        have y2 := blk_cell b2f.out 2 _ rfl
        have y3 := blk_cell b2f.out 3 _ rfl
        have y4 := blk_cell b2f.out 4 _ rfl
        have y5 := blk_cell b2f.out 5 _ rfl
        have y6 := blk_cell b2f.out 6 _ rfl
        have y7 := blk_cell b2f.out 7 _ rfl
        have y8 := blk_cell b2f.out 8 _ rfl
        go_wp2_with fail
        refine bodyPost_ret (v := .tuple #[gtv g k, .slice (some ⟨X1.heap.size, 0, none⟩) 1 1]) (by simp [results, Tryz.results47, go_sem, gtv, y0, y1, y2, y3, y4, y5, y6, y7, y8]) rfl ?_
        rw [HE.out]
        exact ⟨⟨k, _, 1, 1, rfl, HGf.out, isMsgs_one rfl bM.out, rfl, Nat.le_refl _⟩, hw2⟩

end Go.Proofs.YtgngpmgjoifepaaGreatDoor
