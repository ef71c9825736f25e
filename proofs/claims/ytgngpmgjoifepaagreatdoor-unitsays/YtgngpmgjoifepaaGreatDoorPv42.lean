/- The walk of the law UnitSays: any unit is made, checked, booted, told, and hears any message, as the document says, errors too. -/
import Derived.Test.YtgngpmgjoifepaaGreatDoorPv36
import Derived.Test.YtgngpmgjoifepaaGreatDoorPv38
import Derived.Test.YtgngpmgjoifepaaGreatDoorPv39
import Derived.Test.YtgngpmgjoifepaaGreatDoorPv40
import Derived.Test.YtgngpmgjoifepaaGreatDoorPv41
import Derived.Deep.DeepCutAuto
namespace Go.Proofs.YtgngpmgjoifepaaGreatDoor
open Go.RowKit
attribute [local go_sem ↓] Go.wp_at_zero Go.wp_at_succ

theorem sameU_self (u : Un) : sameU u u = true := by unfold sameU eqL; simp
theorem say5 {W W' : World} {B : Nat} {v0 v1 v2 v3 v4 : Value} {t : TypeId} (h : W.heap[B]? = some (.cells #[v0, v1, v2, v3, v4] t (0, 0))) (hb : Below W.heap.size W W') : W'.cell? ⟨B, 0, none⟩ = some v0 ∧ W'.cell? ⟨B, 1, none⟩ = some v1 ∧ W'.cell? ⟨B, 2, none⟩ = some v2 ∧ W'.cell? ⟨B, 3, none⟩ = some v3 ∧ W'.cell? ⟨B, 4, none⟩ = some v4 := by
  have q := blk_below h hb
  exact ⟨blk_cell q 0 _ rfl, blk_cell q 1 _ rfl, blk_cell q 2 _ rfl, blk_cell q 3 _ rfl, blk_cell q 4 _ rfl⟩
theorem say7 {W W' : World} {B : Nat} {v0 v1 v2 v3 v4 v5 v6 : Value} {t : TypeId} (h : W.heap[B]? = some (.cells #[v0, v1, v2, v3, v4, v5, v6] t (0, 0))) (hb : Below W.heap.size W W') : W'.cell? ⟨B, 0, none⟩ = some v0 ∧ W'.cell? ⟨B, 1, none⟩ = some v1 ∧ W'.cell? ⟨B, 2, none⟩ = some v2 ∧ W'.cell? ⟨B, 3, none⟩ = some v3 ∧ W'.cell? ⟨B, 4, none⟩ = some v4 ∧ W'.cell? ⟨B, 5, none⟩ = some v5 ∧ W'.cell? ⟨B, 6, none⟩ = some v6 := by
  have q := blk_below h hb
  exact ⟨blk_cell q 0 _ rfl, blk_cell q 1 _ rfl, blk_cell q 2 _ rfl, blk_cell q 3 _ rfl, blk_cell q 4 _ rfl, blk_cell q 5 _ rfl, blk_cell q 6 _ rfl⟩
theorem un_set01 {W : World} {b : Nat} {v0 v1 x0 x1 x2 x3 x4 : Value} {t : TypeId} (h : W.heap[b]? = some (.cells #[x0, x1, x2, x3, x4] t (0, 0))) : ((W.setCell ⟨b, 0, none⟩ v0).setCell ⟨b, 1, none⟩ v1).heap[b]? = some (.cells #[v0, v1, x2, x3, x4] t (0, 0)) := by
  simp only [World.setCell, Array.getElem?_modify]
  simp [h]
def nuE (image : List Int) (name : Int) : Int := if imgE image ≠ 0 then imgE image else if inB name 1 60 = false then 3 else 0
theorem newU_nuE {image : List Int} {name : Int} (h : nuE image name ≠ 0) : newU image name = (un0, nuE image name) := by
  unfold nuE at *
  by_cases h1 : imgE image = 0
  {
  rw [if_neg (by simpa using h1)] at h ⊢
  cases h2 : inB name 1 60
  { rw [newU_3 h1 h2]; rfl }
  { rw [h2] at h; exact absurd rfl h }
  }
  { rw [if_pos h1, newU_e h1] }
theorem newU_ok {image : List Int} {name : Int} (h : nuE image name = 0) : imgE image = 0 ∧ inB name 1 60 = true ∧ newU image name = (⟨nuW image name, -1, true, 0, 0⟩, 0) := by
  unfold nuE at h
  by_cases h1 : imgE image = 0
  {
  rw [if_neg (by simpa using h1)] at h
  cases h2 : inB name 1 60
  { rw [h2] at h; cases h }
  { exact ⟨h1, rfl, by rw [newU_0 h1 h2, new_plain h1 h2]⟩ }
  }
  {
  rw [if_pos h1] at h; exact absurd h h1

  }
theorem refImg_name {ws : List Int} {p : Nat} (h : headB ws p = true) : (refImgT ws p).2 ≠ 0 := by
  unfold refImgT
  rw [if_neg (by rw [h]; decide)]
  unfold headB sealB inB at h
  simp at h
  show ws.getD (p + 1) 0 ≠ 0
  rw [List.getD_eq_getElem?_getD]
  omega
theorem refImg_no {ws : List Int} {p : Nat} (h : headB ws p = false) : refImgT ws p = ([], 0) := by unfold refImgT; rw [if_pos h]
theorem runs_ref {u : Un} {sl : Nat} (hu : unE u = 0) (hs : (stOf u.ws).slot = (sl : Int)) (h1 : sl ≤ 1) :
    (refImgT u.ws (64 + 64 * sl) = ([], 0) ∧ imgS u.ws u.fu (stOf u.ws).slot = ([], 0, 4)) ∨ ((refImgT u.ws (64 + 64 * sl)).2 ≠ 0 ∧ imgS u.ws u.fu (stOf u.ws).slot = ((refImgT u.ws (64 + 64 * sl)).1, (refImgT u.ws (64 + 64 * sl)).2, 0)) := by
  have q := unE_ok hu
  have hE : slotE u.ws u.fu sl = 0 := slotE_ok (lchk_parts q.1).1 q.2.1 h1
  rw [hs, imgS_ref hE]
  cases hb : headB u.ws (64 + 64 * sl)
  { rw [if_pos rfl]; exact .inl ⟨refImg_no hb, rfl⟩ }
  {
  rw [if_neg (by decide)]; exact .inr ⟨refImg_name hb, rfl⟩

  }
set_option maxRecDepth 100000 in
set_option maxHeartbeats 25600000 in
theorem unitSays_walk (ab : Option Addr) (nb cb : Nat) (ss : List ByteArray) (u : Un) (a : Option Addr) (n c : Nat) (m : Ms) (am : Option Addr) (nm cm : Nat) (ai : Option Addr) (ni ci : Nat) (image : List Int) (name : Int) (w : World)
    (hB : BB w ab nb cb ss) (hU : BW w a n c u.ws) (hM : BI w am nm m.ws) (hI : BI w ai ni image) (hT : Tab w) (hroom : n * 8 ≤ 140737488351232) :
    Calls Tryz.prog 3 #[bookv ab nb cb, unv u a n c, msv m am nm cm, .slice ai ni ci, .int .i64 name] w fun e w' => e = .returned (.bool true) ∧ Below w.heap.size w w' := by
  have hw : Below w.heap.size w ((((w.alloc (.cells #[.slice ab nb cb] 24)).alloc (.cells #[.slice a n c, .int .i64 u.fu, .bool u.up, .int .i64 u.n, .int .i64 u.hv] 29)).alloc (.cells #[.int .i64 m.k, .int .i64 m.u, .int .i64 m.n, .int .i64 m.at', .int .i64 m.im, .slice am nm cm, .bool m.y] 31)).alloc (.cells #[.slice a n c, .int .i64 u.fu, .bool u.up, .int .i64 u.n, .int .i64 u.hv] 29)) := below_new (below_new (below_new (below_new (Below.refl _ _) _) _) _) _
  have bb : Hid (((((w.alloc (.cells #[.slice ab nb cb] 24)).alloc (.cells #[.slice a n c, .int .i64 u.fu, .bool u.up, .int .i64 u.n, .int .i64 u.hv] 29)).alloc (.cells #[.int .i64 m.k, .int .i64 m.u, .int .i64 m.n, .int .i64 m.at', .int .i64 m.im, .slice am nm cm, .bool m.y] 31)).alloc (.cells #[.slice a n c, .int .i64 u.fu, .bool u.up, .int .i64 u.n, .int .i64 u.hv] 29)).heap[w.heap.size]? = some (.cells #[.slice ab nb cb] 24 (0, 0))) := blk_alloc (blk_alloc (blk_alloc (heap_alloc_last _ _) _) _) _
  have bu : Hid (((((w.alloc (.cells #[.slice ab nb cb] 24)).alloc (.cells #[.slice a n c, .int .i64 u.fu, .bool u.up, .int .i64 u.n, .int .i64 u.hv] 29)).alloc (.cells #[.int .i64 m.k, .int .i64 m.u, .int .i64 m.n, .int .i64 m.at', .int .i64 m.im, .slice am nm cm, .bool m.y] 31)).alloc (.cells #[.slice a n c, .int .i64 u.fu, .bool u.up, .int .i64 u.n, .int .i64 u.hv] 29)).heap[w.heap.size + 1]? = some (.cells #[.slice a n c, .int .i64 u.fu, .bool u.up, .int .i64 u.n, .int .i64 u.hv] 29 (0, 0))) := blk_alloc (blk_alloc (uLast1 _ _ _) _) _
  have bm : Hid (((((w.alloc (.cells #[.slice ab nb cb] 24)).alloc (.cells #[.slice a n c, .int .i64 u.fu, .bool u.up, .int .i64 u.n, .int .i64 u.hv] 29)).alloc (.cells #[.int .i64 m.k, .int .i64 m.u, .int .i64 m.n, .int .i64 m.at', .int .i64 m.im, .slice am nm cm, .bool m.y] 31)).alloc (.cells #[.slice a n c, .int .i64 u.fu, .bool u.up, .int .i64 u.n, .int .i64 u.hv] 29)).heap[w.heap.size + 1 + 1]? = some (.cells #[.int .i64 m.k, .int .i64 m.u, .int .i64 m.n, .int .i64 m.at', .int .i64 m.im, .slice am nm cm, .bool m.y] 31 (0, 0))) := blk_alloc (uLast2 _ _ _ _) _
  have bo : Hid (((((w.alloc (.cells #[.slice ab nb cb] 24)).alloc (.cells #[.slice a n c, .int .i64 u.fu, .bool u.up, .int .i64 u.n, .int .i64 u.hv] 29)).alloc (.cells #[.int .i64 m.k, .int .i64 m.u, .int .i64 m.n, .int .i64 m.at', .int .i64 m.im, .slice am nm cm, .bool m.y] 31)).alloc (.cells #[.slice a n c, .int .i64 u.fu, .bool u.up, .int .i64 u.n, .int .i64 u.hv] 29)).heap[w.heap.size + 1 + 1 + 1]? = some (.cells #[.slice a n c, .int .i64 u.fu, .bool u.up, .int .i64 u.n, .int .i64 u.hv] 29 (0, 0))) := uLast3 _ _ _ _ _
  have HOw := hide (fun W (hW : Below w.heap.size w W) => ownFlash_any a n c u.ws u.fu W (hU.below hW).at_ hU.len hroom)
  have HP := hide (fun W (hW : Below w.heap.size w W) => hU.below hW)
  have HUt := hide (fun W (hW : Below w.heap.size w W) => lawUnited_any W (hT.below hW))
  have HHr := hide (fun b k d W (hW : Below w.heap.size w W) hk => unitHear_any ab nb cb ss u b k d m am nm cm W (hB.below hW) (hT.below hW) hk (hM.below hW))
  have HNw := hide (fun W (hW : Below w.heap.size w W) => unitNew_any ai ni ci image name W (hI.below hW))
  have HCu := hide (fun W (hW : Below w.heap.size w W) => refCheckUnit_any u a n c W (hU.below hW))
  have HCp := hide (fun W (hW : Below w.heap.size w W) => unitCheck_any u a n c W (hU.below hW))
  have HMp := hide (fun W (hW : Below w.heap.size w W) => checkMessage_any m am nm cm W (hM.below hW))
  have HMr := hide (fun W (hW : Below w.heap.size w W) => refCheckMessage_any m am nm cm W (hM.below hW))
  have HCI := hide (fun W (hW : Below w.heap.size w W) => refCheckImage_any ai ni ci image W (hI.below hW).at_ hI.len hI.max)
  have HCB := hide (fun W (hW : Below w.heap.size w W) => refCheckBook_any ab nb cb ss W (hB.below hW).at_ hB.len hB.max hB.short)
  have HRN := hide (fun h0 h1 W (hW : Below w.heap.size w W) => refNewUnit_any ai ni ci image name W (hI.below hW) h0 h1)
  have HSt := hide (fun hk W (hW : Below w.heap.size w W) => unitStateOf_any u a n c W (hU.below hW) hk)
  have HUh := hide (fun (e : n = 192) h0 h1 h2 W (hW : Below w.heap.size w W) => refUnitHears_any ab nb cb ss u a c m am nm cm W (hB.below hW) (hT.below hW) (by subst e; exact hU.below hW) (hM.below hW) h0 h1 h2)
  have HIm := hide (fun (e : n = 192) hok (sn : Nat) hs W (hW : Below w.heap.size w W) => imageOf_any a c u.ws u.fu sn (64 + 64 * sn) W (hU.below hW).at_ (hU.len.trans e) hok (by have := hU.cap; omega) hs rfl)
  have HLn := hide hU.len
  clear hB hU hM hI hT hroom
  unfold bookv unv msv at HHr HUh
  unfold unv at HCu HCp HSt
  unfold msv at HMp HMr
  unfold bookv at HCB
  unfold usv at HSt
  unfold unv at HRN
  unfold bookv unv msv
  obtain ⟨x0, x1, x2, x3, x4⟩ := cl5 bu.out
  go_enter Tryz.func3, Tryz.ntmps3
  go_upto_region 2 with fail
  generalize ((((w.alloc (.cells #[.slice ab nb cb] 24)).alloc (.cells #[.slice a n c, .int .i64 u.fu, .bool u.up, .int .i64 u.n, .int .i64 u.hv] 29)).alloc (.cells #[.int .i64 m.k, .int .i64 m.u, .int .i64 m.n, .int .i64 m.at', .int .i64 m.im, .slice am nm cm, .bool m.y] 31)).alloc (.cells #[.slice a n c, .int .i64 u.fu, .bool u.up, .int .i64 u.n, .int .i64 u.hv] 29)) = W at *
  have hOW := blk_lt bo.out
  go_wp2_with fail
  refine (unhide HOw _ hw).mono ?_
  rintro e w1 ⟨g, co, hgw, hco, rfl, hoc, hb⟩
  clear HOw x0 x1 x2 x3 x4
  replace bb := hide (blk_below bb.out hb)
  replace bu := hide (blk_below bu.out hb)
  replace bm := hide (blk_below bm.out hb)
  replace bo := hide (blk_below bo.out hb)
  replace hw := hw.trans (hb.mono hw.size)
  have z0 := blk_cell bo.out 0 _ rfl
  have z1 := blk_cell bo.out 1 _ rfl
  have f0 := blk_free bo.out 0
  have f1 := blk_free bo.out 1
  go_upto_region 3 with fail
  have hT : w1.grownBy ((w1.setCell ⟨w.heap.size + 1 + 1 + 1, 0, none⟩ (.slice (some ⟨g, 0, none⟩) n co)).setCell ⟨w.heap.size + 1 + 1 + 1, 1, none⟩ (.int .i64 u.fu)) (some (w.heap.size + 1 + 1 + 1)) := turns_set (turns_set (World.grownBy.refl _ _) _ _) _ _
  have bN : Hid (((w1.setCell ⟨w.heap.size + 1 + 1 + 1, 0, none⟩ (.slice (some ⟨g, 0, none⟩) n co)).setCell ⟨w.heap.size + 1 + 1 + 1, 1, none⟩ (.int .i64 u.fu)).heap[w.heap.size + 1 + 1 + 1]? = some (.cells #[.slice (some ⟨g, 0, none⟩) n co, .int .i64 u.fu, .bool u.up, .int .i64 u.n, .int .i64 u.hv] 29 (0, 0))) := un_set01 bo.out
  have HK := hide (show BW ((w1.setCell ⟨w.heap.size + 1 + 1 + 1, 0, none⟩ (.slice (some ⟨g, 0, none⟩) n co)).setCell ⟨w.heap.size + 1 + 1 + 1, 1, none⟩ (.int .i64 u.fu)) (some ⟨g, 0, none⟩) n co u.ws from ⟨ints_turns hoc.isInts hT (fun ad e => by cases e; show g ≠ w.heap.size + 1 + 1 + 1; omega), HLn.out, hco, (HP.out _ (Below.refl _ _)).max⟩)
  replace bb := hide (blk_turns bb.out hT (by omega))
  replace bu := hide (blk_turns bu.out hT (by omega))
  replace bm := hide (blk_turns bm.out hT (by omega))
  replace hw := turns_below hw hT (by omega) hw.size
  clear bo z0 z1 f0 f1 hT hoc hb hgw hOW
  have bo := bN
  clear bN
  generalize ((w1.setCell ⟨w.heap.size + 1 + 1 + 1, 0, none⟩ (.slice (some ⟨g, 0, none⟩) n co)).setCell ⟨w.heap.size + 1 + 1 + 1, 1, none⟩ (.int .i64 u.fu)) = W1 at *
  have HB1 := hide (HHr.out (some ⟨g, 0, none⟩) n co _ hw HK.out)
  have HEa := hide (fun (hz : heE ss u m ≠ 0) => hearA_e (ss := ss) (u := u) (m := m) hz)
  have HEo : Hid (heE ss u m = 0 → hearA ss u m = ((hearS ss u m).1, (hearS ss u m).2, 0)) := fun hz => by unfold hearA; rw [if_neg (by simpa using hz)]
  unfold HearAns unv at HB1
  generalize hearA ss u m = R1 at *
  obtain ⟨xg, xl, xe⟩ := R1
  dsimp only at HB1 HEa HEo
  obtain ⟨x0, x1, x2, x3, x4⟩ := cl5 bo.out
  obtain ⟨m0, m1, m2, m3, m4, m5, m6⟩ := cl7 bm.out
  have y0 := blk_cell bb.out 0 _ rfl
  go_wp2_with fail
  refine (unhide HB1).mono ?_
  rintro e w2 ⟨⟨ax, nx, cx, al, nl, cl, rfl, hgx, hml, hnl, hcl, hc1⟩, hb⟩
  clear HB1 HHr y0 x0 x1 x2 x3 x4 m0 m1 m2 m3 m4 m5 m6
  go_upto_region 4 with fail
  have hb1 : Below W1.heap.size W1 (w2.alloc (.cells #[.slice ax nx cx, .int .i64 xg.fu, .bool xg.up, .int .i64 xg.n, .int .i64 xg.hv] 29)) := below_new hb _
  have hbz : Below w2.heap.size w2 (w2.alloc (.cells #[.slice ax nx cx, .int .i64 xg.fu, .bool xg.up, .int .i64 xg.n, .int .i64 xg.hv] 29)) := below_new (Below.refl _ _) _
  have HX := hide (hgx.below hbz)
  have HXl := hide (hml.below hbz)
  replace bb := hide (blk_below bb.out hb1)
  replace bu := hide (blk_below bu.out hb1)
  replace bm := hide (blk_below bm.out hb1)
  replace bo := hide (blk_below bo.out hb1)
  replace HK := hide (HK.out.below hb1)
  replace hw := hw.trans (hb1.mono hw.size)
  have bX := hide (heap_alloc_last w2 (.cells #[.slice ax nx cx, .int .i64 xg.fu, .bool xg.up, .int .i64 xg.n, .int .i64 xg.hv] 29))
  clear hb hb1 hbz
  clear hgx hml
  generalize w2.alloc (.cells #[.slice ax nx cx, .int .i64 xg.fu, .bool xg.up, .int .i64 xg.n, .int .i64 xg.hv] 29) = W2 at *
  generalize w2.heap.size = X at *
  have HEn := hide (fun hz => newU_nuE (image := image) (name := name) hz)
  have HEn0 := hide (fun hz => newU_ok (image := image) (name := name) hz)
  unfold UnAns unv at HNw
  generalize newU image name = R1 at *
  obtain ⟨ng, ne⟩ := R1
  dsimp only at HNw HEn HEn0
  go_wp2_with fail
  refine (unhide HNw _ hw).mono ?_
  rintro e w3 ⟨⟨an, nn, cn, rfl, hgn⟩, hb⟩
  clear HNw
  go_upto_region 5 with fail
  have hb1 : Below W2.heap.size W2 (w3.alloc (.cells #[.slice an nn cn, .int .i64 ng.fu, .bool ng.up, .int .i64 ng.n, .int .i64 ng.hv] 29)) := below_new hb _
  have hbz : Below w3.heap.size w3 (w3.alloc (.cells #[.slice an nn cn, .int .i64 ng.fu, .bool ng.up, .int .i64 ng.n, .int .i64 ng.hv] 29)) := below_new (Below.refl _ _) _
  have HN := hide (hgn.below hbz)
  replace bb := hide (blk_below bb.out hb1)
  replace bu := hide (blk_below bu.out hb1)
  replace bm := hide (blk_below bm.out hb1)
  replace bo := hide (blk_below bo.out hb1)
  replace bX := hide (blk_below bX.out hb1)
  replace HK := hide (HK.out.below hb1)
  replace HX := hide (HX.out.below hb1)
  replace HXl := hide (HXl.out.below hb1)
  replace hw := hw.trans (hb1.mono hw.size)
  have bN := hide (heap_alloc_last w3 (.cells #[.slice an nn cn, .int .i64 ng.fu, .bool ng.up, .int .i64 ng.n, .int .i64 ng.hv] 29))
  clear hb hb1 hbz
  clear hgn
  generalize w3.alloc (.cells #[.slice an nn cn, .int .i64 ng.fu, .bool ng.up, .int .i64 ng.n, .int .i64 ng.hv] 29) = W3 at *
  generalize w3.heap.size = NB at *
  have HB1 := hide (unitRead_any u (some ⟨g, 0, none⟩) n co W3 HK.out)
  have HEs := hide (fun hz => uReadS_e (u := u) hz)
  have HEs0 := hide (fun hz => uReadS_0 (u := u) hz)
  unfold unv usv at HB1
  generalize uReadS u = R1 at *
  obtain ⟨s, se⟩ := R1
  dsimp only at HB1 HEs HEs0
  obtain ⟨x0, x1, x2, x3, x4⟩ := cl5 bo.out
  go_wp2_with fail
  refine (unhide HB1).mono ?_
  rintro e w4 ⟨rfl, hb⟩
  clear HB1 x0 x1 x2 x3 x4
  go_upto_region 6 with fail
  have hb1 : Below W3.heap.size W3 (w4.alloc (.cells #[.int .i64 s.slot, .int .i64 s.by', .int .i64 s.rdy] 40)) := below_new hb _
  have hbz : Below w4.heap.size w4 (w4.alloc (.cells #[.int .i64 s.slot, .int .i64 s.by', .int .i64 s.rdy] 40)) := below_new (Below.refl _ _) _
  replace bb := hide (blk_below bb.out hb1)
  replace bu := hide (blk_below bu.out hb1)
  replace bm := hide (blk_below bm.out hb1)
  replace bo := hide (blk_below bo.out hb1)
  replace bX := hide (blk_below bX.out hb1)
  replace bN := hide (blk_below bN.out hb1)
  replace HK := hide (HK.out.below hb1)
  replace HX := hide (HX.out.below hb1)
  replace HXl := hide (HXl.out.below hb1)
  replace HN := hide (HN.out.below hb1)
  replace hw := hw.trans (hb1.mono hw.size)
  have bS := hide (heap_alloc_last w4 (.cells #[.int .i64 s.slot, .int .i64 s.by', .int .i64 s.rdy] 40))
  clear hb hb1 hbz
  generalize w4.alloc (.cells #[.int .i64 s.slot, .int .i64 s.by', .int .i64 s.rdy] 40) = W4 at *
  generalize w4.heap.size = S at *
  have HB1 := hide (unitRuns_any u (some ⟨g, 0, none⟩) n co W4 HK.out)
  have HEr := hide (fun hz => runsS_e (u := u) hz)
  have HEr0 := hide (fun hz => runsS_0 (u := u) hz)
  unfold Shows unv at HB1
  generalize runsS u = R1 at *
  obtain ⟨rw_, rk, re⟩ := R1
  dsimp only at HB1 HEr HEr0
  obtain ⟨x0, x1, x2, x3, x4⟩ := cl5 bo.out
  go_wp2_with fail
  refine (unhide HB1).mono ?_
  rintro e w5 ⟨⟨ar, nr, cr, rfl, hir, hnr, hcr, hfr⟩, hb⟩
  clear HB1 hfr x0 x1 x2 x3 x4
  have HR := hide hir
  have HRl := hide hnr
  clear hir hnr
  replace bb := hide (blk_below bb.out hb)
  replace bu := hide (blk_below bu.out hb)
  replace bm := hide (blk_below bm.out hb)
  replace bo := hide (blk_below bo.out hb)
  replace bX := hide (blk_below bX.out hb)
  replace bN := hide (blk_below bN.out hb)
  replace bS := hide (blk_below bS.out hb)
  replace HK := hide (HK.out.below hb)
  replace HX := hide (HX.out.below hb)
  replace HXl := hide (HXl.out.below hb)
  replace HN := hide (HN.out.below hb)
  replace hw := hw.trans (hb.mono hw.size)
  clear hb
  have HB1 := hide (unitBoot_any u (some ⟨g, 0, none⟩) n co w5 HK.out)
  have HEb := hide (fun hz => bootS_e (u := u) hz)
  have HEb0 := hide (fun hz => bootS_0 (u := u) hz)
  unfold UnAns unv at HB1
  generalize bootS u = R1 at *
  obtain ⟨vg, ve⟩ := R1
  dsimp only at HB1 HEb HEb0
  obtain ⟨x0, x1, x2, x3, x4⟩ := cl5 bo.out
  go_wp2_with fail
  refine (unhide HB1).mono ?_
  rintro e w6 ⟨⟨av, nv, cv, rfl, hgv⟩, hb⟩
  clear HB1 x0 x1 x2 x3 x4
  go_upto_region 8 with fail
  have hb1 : Below w5.heap.size w5 (w6.alloc (.cells #[.slice av nv cv, .int .i64 vg.fu, .bool vg.up, .int .i64 vg.n, .int .i64 vg.hv] 29)) := below_new hb _
  have hbz : Below w6.heap.size w6 (w6.alloc (.cells #[.slice av nv cv, .int .i64 vg.fu, .bool vg.up, .int .i64 vg.n, .int .i64 vg.hv] 29)) := below_new (Below.refl _ _) _
  have HV := hide (hgv.below hbz)
  replace bb := hide (blk_below bb.out hb1)
  replace bu := hide (blk_below bu.out hb1)
  replace bm := hide (blk_below bm.out hb1)
  replace bo := hide (blk_below bo.out hb1)
  replace bX := hide (blk_below bX.out hb1)
  replace bN := hide (blk_below bN.out hb1)
  replace bS := hide (blk_below bS.out hb1)
  replace HK := hide (HK.out.below hb1)
  replace HX := hide (HX.out.below hb1)
  replace HXl := hide (HXl.out.below hb1)
  replace HN := hide (HN.out.below hb1)
  replace HR := hide (HR.out.below hb1)
  replace hw := hw.trans (hb1.mono hw.size)
  have bV := hide (heap_alloc_last w6 (.cells #[.slice av nv cv, .int .i64 vg.fu, .bool vg.up, .int .i64 vg.n, .int .i64 vg.hv] 29))
  clear hb hb1 hbz
  clear hgv
  generalize w6.alloc (.cells #[.slice av nv cv, .int .i64 vg.fu, .bool vg.up, .int .i64 vg.n, .int .i64 vg.hv] 29) = W6 at *
  generalize w6.heap.size = VB at *
  have hb : Below W6.heap.size W6 W6 := Below.refl _ _
  go_upto_region 9 with fail
  have hb1 : Below W6.heap.size W6 (W6.alloc (.cells #[.slice none 0 0, .int .i64 0, .bool false, .int .i64 0, .int .i64 0] 29)) := below_new hb _
  have hbz : Below W6.heap.size W6 (W6.alloc (.cells #[.slice none 0 0, .int .i64 0, .bool false, .int .i64 0, .int .i64 0] 29)) := below_new (Below.refl _ _) _
  replace bb := hide (blk_below bb.out hb1)
  replace bu := hide (blk_below bu.out hb1)
  replace bm := hide (blk_below bm.out hb1)
  replace bo := hide (blk_below bo.out hb1)
  replace bX := hide (blk_below bX.out hb1)
  replace bN := hide (blk_below bN.out hb1)
  replace bS := hide (blk_below bS.out hb1)
  replace bV := hide (blk_below bV.out hb1)
  replace HK := hide (HK.out.below hb1)
  replace HX := hide (HX.out.below hb1)
  replace HXl := hide (HXl.out.below hb1)
  replace HN := hide (HN.out.below hb1)
  replace HR := hide (HR.out.below hb1)
  replace HV := hide (HV.out.below hb1)
  replace hw := hw.trans (hb1.mono hw.size)
  have bZ := hide (heap_alloc_last W6 (.cells #[.slice none 0 0, .int .i64 0, .bool false, .int .i64 0, .int .i64 0] 29))
  clear hb hb1 hbz
  generalize W6.alloc (.cells #[.slice none 0 0, .int .i64 0, .bool false, .int .i64 0, .int .i64 0] 29) = W7 at *
  generalize W6.heap.size = ZB at *
  obtain ⟨u0, u1, u2, u3, u4⟩ := cl5 bu.out
  go_wp2_with fail
  refine (unhide HCu _ hw).mono ?_
  rintro e w8 ⟨rfl, hb⟩
  clear HCu u0 u1 u2 u3 u4
  replace bb := hide (blk_below bb.out hb)
  replace bu := hide (blk_below bu.out hb)
  replace bm := hide (blk_below bm.out hb)
  replace bo := hide (blk_below bo.out hb)
  replace bX := hide (blk_below bX.out hb)
  replace bN := hide (blk_below bN.out hb)
  replace bS := hide (blk_below bS.out hb)
  replace bV := hide (blk_below bV.out hb)
  replace bZ := hide (blk_below bZ.out hb)
  replace HK := hide (HK.out.below hb)
  replace HX := hide (HX.out.below hb)
  replace HXl := hide (HXl.out.below hb)
  replace HN := hide (HN.out.below hb)
  replace HR := hide (HR.out.below hb)
  replace HV := hide (HV.out.below hb)
  replace hw := hw.trans (hb.mono hw.size)
  clear hb
  go_upto_region 10 with fail
  have hk0 : Below w8.heap.size w8 w8.drew := (Below.refl _ _).drew
  have dq : (unE u != unE u) = false := by simp
  have dm : (msE m != msE m) = false := by simp
  refine wp_region_held_drew (S := fun W' => (W'.cell? ⟨w.heap.size + 1, 0, none⟩ = some (.slice a n c) ∧ W'.cell? ⟨w.heap.size + 1, 1, none⟩ = some (.int .i64 u.fu) ∧ W'.cell? ⟨w.heap.size + 1, 2, none⟩ = some (.bool u.up) ∧ W'.cell? ⟨w.heap.size + 1, 3, none⟩ = some (.int .i64 u.n) ∧ W'.cell? ⟨w.heap.size + 1, 4, none⟩ = some (.int .i64 u.hv)) ∧ (W'.cell? ⟨w.heap.size + 1 + 1, 0, none⟩ = some (.int .i64 m.k) ∧ W'.cell? ⟨w.heap.size + 1 + 1, 1, none⟩ = some (.int .i64 m.u) ∧ W'.cell? ⟨w.heap.size + 1 + 1, 2, none⟩ = some (.int .i64 m.n) ∧ W'.cell? ⟨w.heap.size + 1 + 1, 3, none⟩ = some (.int .i64 m.at') ∧ W'.cell? ⟨w.heap.size + 1 + 1, 4, none⟩ = some (.int .i64 m.im) ∧ W'.cell? ⟨w.heap.size + 1 + 1, 5, none⟩ = some (.slice am nm cm) ∧ W'.cell? ⟨w.heap.size + 1 + 1, 6, none⟩ = some (.bool m.y)) ∧ (W'.cell? ⟨w.heap.size + 1 + 1 + 1, 0, none⟩ = some (.slice (some ⟨g, 0, none⟩) n co) ∧ W'.cell? ⟨w.heap.size + 1 + 1 + 1, 1, none⟩ = some (.int .i64 u.fu) ∧ W'.cell? ⟨w.heap.size + 1 + 1 + 1, 2, none⟩ = some (.bool u.up) ∧ W'.cell? ⟨w.heap.size + 1 + 1 + 1, 3, none⟩ = some (.int .i64 u.n) ∧ W'.cell? ⟨w.heap.size + 1 + 1 + 1, 4, none⟩ = some (.int .i64 u.hv)) ∧ Below w8.heap.size w8 W') (by kernel_rfl) (⟨say5 bu.out (hk0), say7 bm.out (hk0), say5 bo.out (hk0), hk0⟩) ?_
  intro hHeld
  refine wpAnyH_ready (rs := [0]) (by kernel_rfl) (by simp) ?_
  refine AllReadyH.cons (by rfl) (fun K hK => ?_) AllReadyH.nil
  go_simp
  refine (unhide HUt _ (hw.trans (hk0.mono hw.size))).mono ?_
  rintro e w9 ⟨rfl, hb⟩
  have hk1 := hk0.trans (hb.mono hk0.size)
  go_wp2_with fail
  refine hK.out _ _ (⟨say5 bu.out (hk1), say7 bm.out (hk1), say5 bo.out (hk1), hk1⟩) (fun hHeld2 => ?_)
  clear hK K hHeld
  try simp only [sq]
  have hHeld := hHeld2
  clear hHeld2
  refine Htake (i := 1) (v := ?_) (by rfl) (by kernel_rfl) (by exact fun _ _ _ h => h) (Or.inl ⟨by rfl, ?_⟩) (by assumption) ?_
  rotate_left
  {
  intro w hSw
  try dsimp only at hSw
  go_simp
  try with_reducible rfl
  }
  try simp only [sq]
  refine Htake (i := 2) (v := ?_) (by rfl) (by kernel_rfl) (by exact fun _ _ _ h => h) (Or.inl ⟨by rfl, ?_⟩) (by assumption) ?_
  rotate_left
  {
  intro w hSw
  try dsimp only at hSw
  go_simp
  try with_reducible rfl
  }
  try simp only [sq]
  refine Htake (i := 3) (v := ?_) (by rfl) (by kernel_rfl) (by exact fun _ _ _ h => h) (Or.inl ⟨by rfl, ?_⟩) (by assumption) ?_
  rotate_left
  {
  intro w hSw
  try dsimp only at hSw
  go_simp
  try with_reducible rfl
  }
  try simp only [sq]
  refine Htake (i := 5) (v := ?_) (by rfl) (by kernel_rfl) (by exact fun _ _ _ h => h) (Or.inl ⟨by rfl, ?_⟩) (by assumption) ?_
  rotate_left
  {
  intro w hSw
  try dsimp only at hSw
  go_simp
  try with_reducible rfl
  }
  try simp only [sq]
  refine wpAnyH_ready (rs := [4]) (by kernel_rfl) (by simp) ?_
  refine AllReadyH.cons (by rfl) (fun K hK => ?_) AllReadyH.nil
  go_simp
  refine (unhide HCp _ (hw.trans (hk1.mono hw.size))).mono ?_
  rintro e w10 ⟨rfl, hb2⟩
  have hk2 := hk1.trans (hb2.mono hk1.size)
  go_wp2_with fail
  refine hK.out _ _ (⟨say5 bu.out (hk2), say7 bm.out (hk2), say5 bo.out (hk2), hk2⟩) (fun hHeld2 => ?_)
  clear hK K hHeld
  try simp only [sq]
  have hHeld := hHeld2
  clear hHeld2
  refine Htake (i := 6) (v := ?_) (by rfl) (by kernel_rfl) (by exact fun _ _ _ h => h) (Or.inl ⟨by rfl, ?_⟩) (by assumption) ?_
  rotate_left
  {
  intro w hSw
  try dsimp only at hSw
  go_simp
  try with_reducible rfl
  }
  try simp only [sq]
  refine Htake (i := 7) (v := ?_) (by rfl) (by kernel_rfl) (by exact fun _ _ _ h => h) (Or.inl ⟨by rfl, ?_⟩) (by assumption) ?_
  rotate_left
  {
  intro w hSw
  try dsimp only at hSw
  go_simp
  try with_reducible rfl
  }
  try simp only [sq]
  refine Htake (i := 8) (v := ?_) (by rfl) (by kernel_rfl) (by exact fun _ _ _ h => h) (Or.inl ⟨by rfl, ?_⟩) (by assumption) ?_
  rotate_left
  {
  intro w hSw
  try dsimp only at hSw
  go_simp
  try with_reducible rfl
  }
  try simp only [sq]
  refine Htake (i := 9) (v := ?_) (by rfl) (by kernel_rfl) (by exact fun _ _ _ h => h) (Or.inl ⟨by rfl, ?_⟩) (by assumption) ?_
  rotate_left
  {
  intro w hSw
  try dsimp only at hSw
  go_simp
  try with_reducible rfl
  }
  try simp only [sq]
  refine Htake (i := 11) (v := ?_) (by rfl) (by kernel_rfl) (by exact fun _ _ _ h => h) (Or.inl ⟨by rfl, ?_⟩) (by assumption) ?_
  rotate_left
  {
  intro w hSw
  try dsimp only at hSw
  go_simp
  try with_reducible rfl
  }
  try simp only [sq]
  refine wpAnyH_ready (rs := [10]) (by kernel_rfl) (by simp) ?_
  refine AllReadyH.cons (by rfl) (fun K hK => ?_) AllReadyH.nil
  go_simp
  refine (unhide HMp _ (hw.trans (hk2.mono hw.size))).mono ?_
  rintro e w11 ⟨rfl, hb3⟩
  have hk3 := hk2.trans (hb3.mono hk2.size)
  go_wp2_with fail
  refine hK.out _ _ (⟨say5 bu.out (hk3), say7 bm.out (hk3), say5 bo.out (hk3), hk3⟩) (fun hHeld2 => ?_)
  clear hK K hHeld
  try simp only [sq]
  have hHeld := hHeld2
  clear hHeld2
  refine wpAnyH_ready (rs := [12]) (by kernel_rfl) (by simp) ?_
  refine AllReadyH.cons (by rfl) (fun K hK => ?_) AllReadyH.nil
  go_simp
  refine (unhide HMr _ (hw.trans (hk3.mono hw.size))).mono ?_
  rintro e w12 ⟨rfl, hb4⟩
  have hk4 := hk3.trans (hb4.mono hk3.size)
  go_wp2_with fail
  refine hK.out _ _ (⟨say5 bu.out (hk4), say7 bm.out (hk4), say5 bo.out (hk4), hk4⟩) (fun hHeld2 => ?_)
  clear hK K hHeld
  try simp only [sq]
  have hHeld := hHeld2
  clear hHeld2
  refine Htake (i := 13) (v := ?_) (by rfl) (by kernel_rfl) (by exact fun _ _ _ h => h) (Or.inl ⟨by rfl, ?_⟩) (by assumption) ?_
  rotate_left
  {
  intro w hSw
  try dsimp only at hSw
  go_simp
  try with_reducible rfl
  }
  try simp only [sq]
  refine Htake (i := 14) (v := ?_) (by rfl) (by kernel_rfl) (by exact fun _ _ _ h => h) (Or.inl ⟨by rfl, ?_⟩) (by assumption) ?_
  rotate_left
  {
  intro w hSw
  try dsimp only at hSw
  go_simp
  try with_reducible rfl
  }
  try simp only [sq]
  refine Htake (i := 15) (v := ?_) (by rfl) (by kernel_rfl) (by exact fun _ _ _ h => h) (Or.inl ⟨by rfl, ?_⟩) (by assumption) ?_
  rotate_left
  {
  intro w hSw
  try dsimp only at hSw
  go_simp
  try with_reducible rfl
  }
  try simp only [sq]
  refine Htake (i := 16) (v := ?_) (by rfl) (by kernel_rfl) (by exact fun _ _ _ h => h) (Or.inl ⟨by rfl, ?_⟩) (by assumption) ?_
  rotate_left
  {
  intro w hSw
  try dsimp only at hSw
  go_simp
  try with_reducible rfl
  }
  try simp only [sq]
  refine Htake (i := 17) (v := ?_) (by rfl) (by kernel_rfl) (by exact fun _ _ _ h => h) (Or.inl ⟨by rfl, ?_⟩) (by assumption) ?_
  rotate_left
  {
  intro w hSw
  try dsimp only at hSw
  go_simp
  try with_reducible rfl
  }
  try simp only [sq]
  have HSm := hide (sameUnit_any u (some ⟨g, 0, none⟩) n co u a n c w12 (HK.out.below hk4) (HP.out _ (hw.trans (hk4.mono hw.size))))
  rw [sameU_self] at HSm
  unfold unv at HSm
  refine wpAnyH_ready (rs := [18]) (by kernel_rfl) (by simp) ?_
  refine AllReadyH.cons (by rfl) (fun K hK => ?_) AllReadyH.nil
  go_simp
  refine (unhide HSm).mono ?_
  rintro e w13 ⟨rfl, hb5⟩
  have hk5 := hk4.trans (hb5.mono hk4.size)
  go_wp2_with fail
  refine hK.out _ _ (⟨say5 bu.out (hk5), say7 bm.out (hk5), say5 bo.out (hk5), hk5⟩) (fun hHeld2 => ?_)
  clear hK K hHeld
  try simp only [sq]
  have hHeld := hHeld2
  clear hHeld2
  refine Htake (i := 19) (v := ?_) (by rfl) (by kernel_rfl) (by exact fun _ _ _ h => h) (Or.inl ⟨by rfl, ?_⟩) (by assumption) ?_
  rotate_left
  {
  intro w hSw
  try dsimp only at hSw
  go_simp
  try with_reducible rfl
  }
  try simp only [sq]
  refine Htake (i := 20) (v := ?_) (by rfl) (by kernel_rfl) (by exact fun _ _ _ h => h) (Or.inl ⟨by rfl, ?_⟩) (by assumption) ?_
  rotate_left
  {
  intro w hSw
  try dsimp only at hSw
  go_simp
  try with_reducible rfl
  }
  try simp only [sq]
  refine wpAnyH_done (by kernel_rfl) ?_ _
  clear hHeld HSm hb hb2 hb3 hb4 hb5 hk0 hk1 hk2 hk3 hk4 dq dm HUt HCp HMp
  replace bb := hide (blk_below bb.out hk5)
  replace bu := hide (blk_below bu.out hk5)
  replace bm := hide (blk_below bm.out hk5)
  replace bo := hide (blk_below bo.out hk5)
  replace bX := hide (blk_below bX.out hk5)
  replace bN := hide (blk_below bN.out hk5)
  replace bS := hide (blk_below bS.out hk5)
  replace bV := hide (blk_below bV.out hk5)
  replace bZ := hide (blk_below bZ.out hk5)
  replace HK := hide (HK.out.below hk5)
  replace HX := hide (HX.out.below hk5)
  replace HXl := hide (HXl.out.below hk5)
  replace HN := hide (HN.out.below hk5)
  replace HR := hide (HR.out.below hk5)
  replace HV := hide (HV.out.below hk5)
  replace hw := hw.trans (hk5.mono hw.size)
  clear hk5
  go_wp2_with fail
  refine (unhide HCI _ hw).mono ?_
  rintro e wx ⟨rfl, hwx⟩
  replace hwx := hwx.symm
  subst hwx
  clear HCI
  go_upto_region 13 with fail
  by_cases zi : imgE image = 0
  rotate_left
  {
  have HnE : Hid (nuE image name = imgE image) := by show _ = _; unfold nuE; rw [if_pos zi]
  have hne : nuE image name ≠ 0 := by rw [HnE.out]; exact zi
  have e2 := HEn.out hne
  rw [HnE.out] at e2
  cases e2
  clear HEn HEn0 HnE hne HRN
  have d_i : (imgE image == 0) = false := by simpa using zi
  have d_i2 : (imgE image != 0) = true := by simpa using zi
  have d_i3 : (imgE image != imgE image) = false := by simp
  clear zi
  generalize imgE image = iq at *
  unfold un0 at bN
  have HSm := hide (sameUnit_any un0 an nn cn un0 none 0 0 w13 HN.out ⟨.inl rfl, rfl, Nat.le_refl _, Nat.zero_le _⟩)
  rw [sameU_self] at HSm
  unfold unv un0 at HSm
  obtain ⟨v0, v1, v2, v3, v4⟩ := cl5 bN.out
  obtain ⟨z0, z1, z2, z3, z4⟩ := cl5 bZ.out
  dsimp only at *
  go_wp2_with fail
  refine (unhide HSm).mono ?_
  rintro e w14 ⟨rfl, hb⟩
  clear HSm v0 v1 v2 v3 v4 z0 z1 z2 z3 z4 d_i d_i2 d_i3
  replace bb := hide (blk_below bb.out hb)
  replace bu := hide (blk_below bu.out hb)
  replace bm := hide (blk_below bm.out hb)
  replace bo := hide (blk_below bo.out hb)
  replace bX := hide (blk_below bX.out hb)
  replace bN := hide (blk_below bN.out hb)
  replace bS := hide (blk_below bS.out hb)
  replace bV := hide (blk_below bV.out hb)
  replace bZ := hide (blk_below bZ.out hb)
  replace HK := hide (HK.out.below hb)
  replace HX := hide (HX.out.below hb)
  replace HXl := hide (HXl.out.below hb)
  replace HN := hide (HN.out.below hb)
  replace HR := hide (HR.out.below hb)
  replace HV := hide (HV.out.below hb)
  replace hw := hw.trans (hb.mono hw.size)
  clear hb
  go_upto_region 20 with fail
  by_cases zu : unE u = 0
  rotate_left
  {
  have e4 := HEs.out zu
  have e5 := HEr.out zu
  have e6 := HEb.out zu
  cases e4
  cases e5
  cases e6
  have d_u : (unE u != 0) = true := by simpa using zu
  have d_uu : (unE u != unE u) = false := by simp
  have HRl0 := HRl.out
  simp only [List.length_nil] at HRl0
  subst HRl0
  unfold us0 at bS
  unfold un0 at bV
  clear HEs HEs0 HEr HEr0 HEb HEb0 HSt HIm HUh HMr HEo
  have HSm := hide (sameUnit_any un0 av nv cv un0 none 0 0 w14 HV.out ⟨.inl rfl, rfl, Nat.le_refl _, Nat.zero_le _⟩)
  rw [sameU_self] at HSm
  unfold unv un0 at HSm
  have s0 := blk_cell bS.out 0 _ rfl
  have s1 := blk_cell bS.out 1 _ rfl
  have s2 := blk_cell bS.out 2 _ rfl
  obtain ⟨v0, v1, v2, v3, v4⟩ := cl5 bV.out
  obtain ⟨z0, z1, z2, z3, z4⟩ := cl5 bZ.out
  dsimp only at *
  go_wp2_with fail
  refine (unhide HSm).mono ?_
  rintro e w20 ⟨rfl, hb⟩
  clear HSm s0 s1 s2 v0 v1 v2 v3 v4 z0 z1 z2 z3 z4 d_uu
  replace bb := hide (blk_below bb.out hb)
  replace bu := hide (blk_below bu.out hb)
  replace bm := hide (blk_below bm.out hb)
  replace bo := hide (blk_below bo.out hb)
  replace bX := hide (blk_below bX.out hb)
  replace bN := hide (blk_below bN.out hb)
  replace bS := hide (blk_below bS.out hb)
  replace bV := hide (blk_below bV.out hb)
  replace bZ := hide (blk_below bZ.out hb)
  replace HK := hide (HK.out.below hb)
  replace HX := hide (HX.out.below hb)
  replace HXl := hide (HXl.out.below hb)
  replace HN := hide (HN.out.below hb)
  replace HR := hide (HR.out.below hb)
  replace HV := hide (HV.out.below hb)
  replace hw := hw.trans (hb.mono hw.size)
  clear hb
  have y0 := blk_cell bb.out 0 _ rfl
  go_wp2_with fail
  refine (unhide HCB _ hw).mono ?_
  rintro e w21 ⟨rfl, hb⟩
  clear HCB y0
  replace bb := hide (blk_below bb.out hb)
  replace bu := hide (blk_below bu.out hb)
  replace bm := hide (blk_below bm.out hb)
  replace bo := hide (blk_below bo.out hb)
  replace bX := hide (blk_below bX.out hb)
  replace bN := hide (blk_below bN.out hb)
  replace bS := hide (blk_below bS.out hb)
  replace bV := hide (blk_below bV.out hb)
  replace bZ := hide (blk_below bZ.out hb)
  replace HK := hide (HK.out.below hb)
  replace HX := hide (HX.out.below hb)
  replace HXl := hide (HXl.out.below hb)
  replace HN := hide (HN.out.below hb)
  replace HR := hide (HR.out.below hb)
  replace HV := hide (HV.out.below hb)
  replace hw := hw.trans (hb.mono hw.size)
  clear hb
  by_cases zb : bookE ss = 0
  rotate_left
  {
  have HhE : Hid (heE ss u m = bookE ss) := heE_1 zb
  have hne : heE ss u m ≠ 0 := by rw [HhE.out]; exact zb
  have e1 := HEa.out hne
  rw [HhE.out] at e1
  cases e1
  have d_b : (bookE ss != 0) = true := by simpa using zb
  have d_q : (bookE ss == 0) = false := by simpa using zb
  have d_q2 : (bookE ss != 0) = true := by simpa using zb
  have d_q3 : (bookE ss == bookE ss) = true := by simp
  have hnl0 := hnl
  simp only [List.length_nil] at hnl0
  subst hnl0
  unfold un0 at bX
  clear HEa hne HhE zu zb
  have HSm := hide (sameUnit_any un0 ax nx cx un0 none 0 0 w21 HX.out ⟨.inl rfl, rfl, Nat.le_refl _, Nat.zero_le _⟩)
  rw [sameU_self] at HSm
  unfold unv un0 at HSm
  obtain ⟨v0, v1, v2, v3, v4⟩ := cl5 bX.out
  obtain ⟨z0, z1, z2, z3, z4⟩ := cl5 bZ.out
  generalize bookE ss = qq at *
  dsimp only at *
  go_wp2_with fail
  refine (unhide HSm).mono ?_
  rintro e w22 ⟨rfl, hb⟩
  go_wp2_with fail
  go_ret
  exact ⟨rfl, hw.trans (hb.mono hw.size)⟩
  }
  have HhE : Hid (heE ss u m = unE u) := heE_2 zb zu
  have hne : heE ss u m ≠ 0 := by rw [HhE.out]; exact zu
  have e1 := HEa.out hne
  rw [HhE.out] at e1
  cases e1
  have d_b : (bookE ss != 0) = false := by simpa using zb
  have d_q : (unE u == 0) = false := by simpa using zu
  have d_q2 : (unE u != 0) = true := by simpa using zu
  have d_q3 : (unE u == unE u) = true := by simp
  have hnl0 := hnl
  simp only [List.length_nil] at hnl0
  subst hnl0
  unfold un0 at bX
  clear HEa hne HhE zu zb
  have HSm := hide (sameUnit_any un0 ax nx cx un0 none 0 0 w21 HX.out ⟨.inl rfl, rfl, Nat.le_refl _, Nat.zero_le _⟩)
  rw [sameU_self] at HSm
  unfold unv un0 at HSm
  obtain ⟨v0, v1, v2, v3, v4⟩ := cl5 bX.out
  obtain ⟨z0, z1, z2, z3, z4⟩ := cl5 bZ.out
  generalize unE u = qq at *
  dsimp only at *
  go_wp2_with fail
  refine (unhide HSm).mono ?_
  rintro e w22 ⟨rfl, hb⟩
  go_wp2_with fail
  go_ret
  exact ⟨rfl, hw.trans (hb.mono hw.size)⟩
  }
  have e4 := HEs0.out zu
  have e6 := HEb0.out zu
  cases e4
  cases e6
  obtain ⟨hl1, hl2, hl3⟩ := unE_ok zu
  obtain rfl : n = 192 := HLn.out.symm.trans hl2
  have hok := (lchk_parts hl1).2.2.2.1
  have hsl := oth_0 zu
  obtain ⟨sl, hsl0⟩ : ∃ v : Nat, (stOf u.ws).slot = (v : Int) := ⟨(stOf u.ws).slot.toNat, by unfold oth at hsl; omega⟩
  have hsl1 : sl ≤ 1 := by unfold oth at hsl; omega
  have hrr := runs_ref zu hsl0 hsl1
  rw [← HEr0.out zu] at hrr
  have HSt1 := hide (HSt.out hl1)
  have HIm1 := hide (HIm.out rfl hok sl hsl1)
  have HIl : Hid ((refImgT u.ws (64 + 64 * sl)).1.length ≤ 192) := by show _ ≤ _; unfold refImgT; split; simp; rw [List.length_take, List.length_drop, hl2]; omega
  unfold TellsI at HIm1
  generalize refImgT u.ws (64 + 64 * sl) = I at *
  have HSl := hide hsl0
  clear HEs HEs0 HEr HEr0 HEb HEb0 HSt HIm hl1 hl2 hl3 hok hsl hsl1 hsl0
  obtain ⟨T, hTT⟩ : ∃ T, T = stOf u.ws := ⟨_, rfl⟩
  rw [← hTT] at bS HSt1 HSl
  clear hTT
  have d_u : (unE u != 0) = false := by rw [zu]; rfl
  obtain ⟨u0, u1, u2, u3, u4⟩ := cl5 bu.out
  go_wp2_with fail
  refine (unhide HSt1 _ hw).mono ?_
  rintro e w20 ⟨rfl, hb⟩
  clear HSt1 u0 u1 u2 u3 u4
  go_upto_region 24 with fail
  have hb1 : Below w14.heap.size w14 (w20.alloc (.cells #[.int .i64 T.slot, .int .i64 T.by', .int .i64 T.rdy] 40)) := below_new hb _
  have hbz : Below w20.heap.size w20 (w20.alloc (.cells #[.int .i64 T.slot, .int .i64 T.by', .int .i64 T.rdy] 40)) := below_new (Below.refl _ _) _
  replace bb := hide (blk_below bb.out hb1)
  replace bu := hide (blk_below bu.out hb1)
  replace bm := hide (blk_below bm.out hb1)
  replace bo := hide (blk_below bo.out hb1)
  replace bX := hide (blk_below bX.out hb1)
  replace bN := hide (blk_below bN.out hb1)
  replace bS := hide (blk_below bS.out hb1)
  replace bV := hide (blk_below bV.out hb1)
  replace bZ := hide (blk_below bZ.out hb1)
  replace HK := hide (HK.out.below hb1)
  replace HX := hide (HX.out.below hb1)
  replace HXl := hide (HXl.out.below hb1)
  replace HN := hide (HN.out.below hb1)
  replace HR := hide (HR.out.below hb1)
  replace HV := hide (HV.out.below hb1)
  replace hw := hw.trans (hb1.mono hw.size)
  have bT := hide (heap_alloc_last w20 (.cells #[.int .i64 T.slot, .int .i64 T.by', .int .i64 T.rdy] 40))
  clear hb hb1 hbz
  generalize w20.alloc (.cells #[.int .i64 T.slot, .int .i64 T.by', .int .i64 T.rdy] 40) = W20 at *
  generalize w20.heap.size = TB at *
  have u0 := blk_cell bu.out 0 _ rfl
  have u1 := blk_cell bu.out 1 _ rfl
  have t0 := blk_cell bT.out 0 _ rfl
  rw [HSl.out] at t0
  go_wp2_with fail
  refine (unhide HIm1 _ hw).mono ?_
  rintro e w21 ⟨⟨aI, nI, cI, rfl, hii, hni⟩, hb⟩
  clear HIm1 u0 u1 t0 HSl
  replace bb := hide (blk_below bb.out hb)
  replace bu := hide (blk_below bu.out hb)
  replace bm := hide (blk_below bm.out hb)
  replace bo := hide (blk_below bo.out hb)
  replace bX := hide (blk_below bX.out hb)
  replace bN := hide (blk_below bN.out hb)
  replace bS := hide (blk_below bS.out hb)
  replace bV := hide (blk_below bV.out hb)
  replace bZ := hide (blk_below bZ.out hb)
  replace bT := hide (blk_below bT.out hb)
  replace HK := hide (HK.out.below hb)
  replace HX := hide (HX.out.below hb)
  replace HXl := hide (HXl.out.below hb)
  replace HN := hide (HN.out.below hb)
  replace HR := hide (HR.out.below hb)
  replace HV := hide (HV.out.below hb)
  replace hw := hw.trans (hb.mono hw.size)
  clear hb
  have HII := hide hii
  have HIn := hide hni
  clear hii hni
  rcases hrr with ⟨hI, hrr⟩ | ⟨hI, hrr⟩
  {
  cases hrr
  subst hI
  have HQe := hide (equal_at ar aI nr nI cr cI [] [] true w21 HR.out HII.out HRl.out HIn.out rfl (by rw [← HRl.out]; decide) (by rw [← HIn.out]; decide))
  have s0 := blk_cell bS.out 0 _ rfl
  have s1 := blk_cell bS.out 1 _ rfl
  have s2 := blk_cell bS.out 2 _ rfl
  have t0 := blk_cell bT.out 0 _ rfl
  have t1 := blk_cell bT.out 1 _ rfl
  have t2 := blk_cell bT.out 2 _ rfl
  have dT : ∀ x : Int, (x != x) = false := fun x => by simp
  go_wp2_with fail
  refine (unhide HQe).mono ?_
  rintro e w22 ⟨rfl, nd, hw22⟩
  have hb : Below w21.heap.size w21 w22 := by rw [hw22]; exact below_drewN (Below.refl _ _) nd
  clear hw22 HQe s0 s1 s2 t0 t1 t2 dT
  replace bb := hide (blk_below bb.out hb)
  replace bu := hide (blk_below bu.out hb)
  replace bm := hide (blk_below bm.out hb)
  replace bo := hide (blk_below bo.out hb)
  replace bX := hide (blk_below bX.out hb)
  replace bN := hide (blk_below bN.out hb)
  replace bS := hide (blk_below bS.out hb)
  replace bV := hide (blk_below bV.out hb)
  replace bZ := hide (blk_below bZ.out hb)
  replace bT := hide (blk_below bT.out hb)
  replace HK := hide (HK.out.below hb)
  replace HX := hide (HX.out.below hb)
  replace HXl := hide (HXl.out.below hb)
  replace HN := hide (HN.out.below hb)
  replace HR := hide (HR.out.below hb)
  replace HV := hide (HV.out.below hb)
  replace HII := hide (HII.out.below hb)
  replace hw := hw.trans (hb.mono hw.size)
  clear hb
  have HSm := hide (sameUnit_any ⟨u.ws, -1, true, 0, 0⟩ av nv cv ⟨u.ws, -1, true, 0, 0⟩ a 192 c w22 HV.out (HP.out _ hw))
  rw [sameU_self] at HSm
  unfold unv at HSm
  dsimp only at HSm bV
  obtain ⟨v0, v1, v2, v3, v4⟩ := cl5 bV.out
  have u0 := blk_cell bu.out 0 _ rfl
  go_wp2_with fail
  refine (unhide HSm).mono ?_
  rintro e w23 ⟨rfl, hb⟩
  clear HSm v0 v1 v2 v3 v4 u0
  replace bb := hide (blk_below bb.out hb)
  replace bu := hide (blk_below bu.out hb)
  replace bm := hide (blk_below bm.out hb)
  replace bo := hide (blk_below bo.out hb)
  replace bX := hide (blk_below bX.out hb)
  replace bN := hide (blk_below bN.out hb)
  replace bS := hide (blk_below bS.out hb)
  replace bV := hide (blk_below bV.out hb)
  replace bZ := hide (blk_below bZ.out hb)
  replace bT := hide (blk_below bT.out hb)
  replace HK := hide (HK.out.below hb)
  replace HX := hide (HX.out.below hb)
  replace HXl := hide (HXl.out.below hb)
  replace HN := hide (HN.out.below hb)
  replace HR := hide (HR.out.below hb)
  replace HV := hide (HV.out.below hb)
  replace HII := hide (HII.out.below hb)
  replace hw := hw.trans (hb.mono hw.size)
  clear hb
  have y0 := blk_cell bb.out 0 _ rfl
  go_wp2_with fail
  refine (unhide HCB _ hw).mono ?_
  rintro e w24 ⟨rfl, hb⟩
  clear HCB y0
  replace bb := hide (blk_below bb.out hb)
  replace bu := hide (blk_below bu.out hb)
  replace bm := hide (blk_below bm.out hb)
  replace bo := hide (blk_below bo.out hb)
  replace bX := hide (blk_below bX.out hb)
  replace bN := hide (blk_below bN.out hb)
  replace bS := hide (blk_below bS.out hb)
  replace bV := hide (blk_below bV.out hb)
  replace bZ := hide (blk_below bZ.out hb)
  replace bT := hide (blk_below bT.out hb)
  replace HK := hide (HK.out.below hb)
  replace HX := hide (HX.out.below hb)
  replace HXl := hide (HXl.out.below hb)
  replace HN := hide (HN.out.below hb)
  replace HR := hide (HR.out.below hb)
  replace HV := hide (HV.out.below hb)
  replace HII := hide (HII.out.below hb)
  replace hw := hw.trans (hb.mono hw.size)
  clear hb
  by_cases zb : bookE ss = 0
  rotate_left
  {
  have hne : heE ss u m ≠ 0 := by rw [heE_1 zb]; exact zb
  have e1 := HEa.out hne
  rw [heE_1 zb] at e1
  cases e1
  have d_q : (bookE ss == 0) = false := by simpa using zb
  have d_q2 : (bookE ss != 0) = true := by simpa using zb
  have d_q3 : (bookE ss == bookE ss) = true := by simp
  have hnl0 := hnl
  simp only [List.length_nil] at hnl0
  subst hnl0
  unfold un0 at bX
  clear HEa hne HEo HUh
  have HSm := hide (sameUnit_any un0 ax nx cx un0 none 0 0 w24 HX.out ⟨.inl rfl, rfl, Nat.le_refl _, Nat.zero_le _⟩)
  rw [sameU_self] at HSm
  unfold unv un0 at HSm
  obtain ⟨v0, v1, v2, v3, v4⟩ := cl5 bX.out
  obtain ⟨z0, z1, z2, z3, z4⟩ := cl5 bZ.out
  dsimp only at *
  have d_b : (bookE ss != 0) = true := by simpa using zb
  clear zb zu HMr
  generalize bookE ss = qq at *
  go_wp2_with fail
  refine (unhide HSm).mono ?_
  rintro e w25 ⟨rfl, hb⟩
  go_wp2_with fail
  go_ret
  exact ⟨rfl, hw.trans (hb.mono hw.size)⟩
  }
  have d_b : (bookE ss != 0) = false := by simpa using zb
  have d_u2 : (unE u == 0) = true := by rw [zu]; rfl
  obtain ⟨m0, m1, m2, m3, m4, m5, m6⟩ := cl7 bm.out
  go_wp2_with fail
  refine (unhide HMr _ hw).mono ?_
  rintro e w25 ⟨rfl, hb⟩
  clear HMr m0 m1 m2 m3 m4 m5 m6 d_u2
  replace bb := hide (blk_below bb.out hb)
  replace bu := hide (blk_below bu.out hb)
  replace bm := hide (blk_below bm.out hb)
  replace bo := hide (blk_below bo.out hb)
  replace bX := hide (blk_below bX.out hb)
  replace bN := hide (blk_below bN.out hb)
  replace bS := hide (blk_below bS.out hb)
  replace bV := hide (blk_below bV.out hb)
  replace bZ := hide (blk_below bZ.out hb)
  replace bT := hide (blk_below bT.out hb)
  replace HK := hide (HK.out.below hb)
  replace HX := hide (HX.out.below hb)
  replace HXl := hide (HXl.out.below hb)
  replace HN := hide (HN.out.below hb)
  replace HR := hide (HR.out.below hb)
  replace HV := hide (HV.out.below hb)
  replace HII := hide (HII.out.below hb)
  replace hw := hw.trans (hb.mono hw.size)
  clear hb
  by_cases zm : msE m = 0
  rotate_left
  {
  have hne : heE ss u m ≠ 0 := by rw [heE_3 zb zu]; exact zm
  have e1 := HEa.out hne
  rw [heE_3 zb zu] at e1
  cases e1
  have d_q : (msE m == 0) = false := by simpa using zm
  have d_q2 : (msE m != 0) = true := by simpa using zm
  have d_q3 : (msE m == msE m) = true := by simp
  have hnl0 := hnl
  simp only [List.length_nil] at hnl0
  subst hnl0
  unfold un0 at bX
  clear HEa hne HEo HUh
  have HSm := hide (sameUnit_any un0 ax nx cx un0 none 0 0 w25 HX.out ⟨.inl rfl, rfl, Nat.le_refl _, Nat.zero_le _⟩)
  rw [sameU_self] at HSm
  unfold unv un0 at HSm
  obtain ⟨v0, v1, v2, v3, v4⟩ := cl5 bX.out
  obtain ⟨z0, z1, z2, z3, z4⟩ := cl5 bZ.out
  dsimp only at *
  clear zb zu zm
  generalize msE m = qq at *
  go_wp2_with fail
  refine (unhide HSm).mono ?_
  rintro e w26 ⟨rfl, hb⟩
  go_wp2_with fail
  go_ret
  exact ⟨rfl, hw.trans (hb.mono hw.size)⟩
  }
  have e1 := HEo.out ((heE_3 zb zu).trans zm)
  cases e1
  have d_m : (msE m != 0) = false := by rw [zm]; rfl
  have HUh1 := hide (HUh.out (by trivial) zb zu zm)
  clear HUh HEa HEo zb zu zm
  unfold RefAns unv at HUh1
  generalize hearS ss u m = R9 at *
  obtain ⟨xg, xl⟩ := R9
  dsimp only at *
  obtain ⟨m0, m1, m2, m3, m4, m5, m6⟩ := cl7 bm.out
  have y0 := blk_cell bb.out 0 _ rfl
  obtain ⟨u0, u1, u2, u3, u4⟩ := cl5 bu.out
  go_wp2_with fail
  refine (unhide HUh1 _ hw).mono ?_
  rintro e w26 ⟨⟨aR, nR, cR, aL, nL, cL, rfl, hgR, hmR, hnR, hcR, hc9⟩, hb⟩
  clear HUh1 y0 m0 m1 m2 m3 m4 m5 m6 u0 u1 u2 u3 u4
  go_upto_region 37 with fail
  have hb1 : Below w25.heap.size w25 (w26.alloc (.cells #[.slice aR nR cR, .int .i64 xg.fu, .bool xg.up, .int .i64 xg.n, .int .i64 xg.hv] 29)) := below_new hb _
  have hbz : Below w26.heap.size w26 (w26.alloc (.cells #[.slice aR nR cR, .int .i64 xg.fu, .bool xg.up, .int .i64 xg.n, .int .i64 xg.hv] 29)) := below_new (Below.refl _ _) _
  have HGR := hide (hgR.below hbz)
  have HMR := hide (hmR.below hbz)
  replace bb := hide (blk_below bb.out hb1)
  replace bu := hide (blk_below bu.out hb1)
  replace bm := hide (blk_below bm.out hb1)
  replace bo := hide (blk_below bo.out hb1)
  replace bX := hide (blk_below bX.out hb1)
  replace bN := hide (blk_below bN.out hb1)
  replace bS := hide (blk_below bS.out hb1)
  replace bV := hide (blk_below bV.out hb1)
  replace bZ := hide (blk_below bZ.out hb1)
  replace bT := hide (blk_below bT.out hb1)
  replace HK := hide (HK.out.below hb1)
  replace HX := hide (HX.out.below hb1)
  replace HXl := hide (HXl.out.below hb1)
  replace HN := hide (HN.out.below hb1)
  replace HR := hide (HR.out.below hb1)
  replace HV := hide (HV.out.below hb1)
  replace HII := hide (HII.out.below hb1)
  replace hw := hw.trans (hb1.mono hw.size)
  have bR := hide (heap_alloc_last w26 (.cells #[.slice aR nR cR, .int .i64 xg.fu, .bool xg.up, .int .i64 xg.n, .int .i64 xg.hv] 29))
  clear hb hb1 hbz
  clear hgR hmR
  generalize w26.alloc (.cells #[.slice aR nR cR, .int .i64 xg.fu, .bool xg.up, .int .i64 xg.n, .int .i64 xg.hv] 29) = W26 at *
  generalize w26.heap.size = RB at *
  have HSm := hide (sameUnit_any xg ax nx cx xg aR nR cR W26 HX.out HGR.out)
  rw [sameU_self] at HSm
  unfold unv at HSm
  obtain ⟨v0, v1, v2, v3, v4⟩ := cl5 bX.out
  obtain ⟨z0, z1, z2, z3, z4⟩ := cl5 bR.out
  go_wp2_with fail
  refine (unhide HSm).mono ?_
  rintro e w27 ⟨rfl, hb⟩
  clear HSm v0 v1 v2 v3 v4 z0 z1 z2 z3 z4
  have HSM := hide (sameMessages_any al aL nl nL cl cL xl xl w27 (HXl.out.below hb).msw (HMR.out.below hb).msw hnl hnR (by omega) (by omega))
  rw [eqM_refl] at HSM
  go_wp2_with fail
  refine (unhide HSM).mono ?_
  rintro e w28 ⟨rfl, hb2⟩
  go_wp2_with fail
  go_ret
  exact ⟨rfl, hw.trans ((hb.trans (hb2.mono hb.size)).mono hw.size)⟩
  }
  {
  cases hrr
  have d_k : (I.2 != 0) = true := by simpa using hI
  have d_k2 : (I.2 != I.2) = false := by simp
  have HQe := hide (equal_at ar aI nr nI cr cI I.1 I.1 true w21 HR.out HII.out HRl.out HIn.out (by unfold eqL; simp) (by rw [← HRl.out]; have h := HIl.out; unfold maxLen; omega) (by rw [← HIn.out]; have h := HIl.out; unfold maxLen; omega))
  clear hI
  have s0 := blk_cell bS.out 0 _ rfl
  have s1 := blk_cell bS.out 1 _ rfl
  have s2 := blk_cell bS.out 2 _ rfl
  have t0 := blk_cell bT.out 0 _ rfl
  have t1 := blk_cell bT.out 1 _ rfl
  have t2 := blk_cell bT.out 2 _ rfl
  have dT : ∀ x : Int, (x != x) = false := fun x => by simp
  go_wp2_with fail
  refine (unhide HQe).mono ?_
  rintro e w22 ⟨rfl, nd, hw22⟩
  have hb : Below w21.heap.size w21 w22 := by rw [hw22]; exact below_drewN (Below.refl _ _) nd
  clear hw22 HQe s0 s1 s2 t0 t1 t2 dT d_k d_k2
  replace bb := hide (blk_below bb.out hb)
  replace bu := hide (blk_below bu.out hb)
  replace bm := hide (blk_below bm.out hb)
  replace bo := hide (blk_below bo.out hb)
  replace bX := hide (blk_below bX.out hb)
  replace bN := hide (blk_below bN.out hb)
  replace bS := hide (blk_below bS.out hb)
  replace bV := hide (blk_below bV.out hb)
  replace bZ := hide (blk_below bZ.out hb)
  replace bT := hide (blk_below bT.out hb)
  replace HK := hide (HK.out.below hb)
  replace HX := hide (HX.out.below hb)
  replace HXl := hide (HXl.out.below hb)
  replace HN := hide (HN.out.below hb)
  replace HR := hide (HR.out.below hb)
  replace HV := hide (HV.out.below hb)
  replace HII := hide (HII.out.below hb)
  replace hw := hw.trans (hb.mono hw.size)
  clear hb
  have HSm := hide (sameUnit_any ⟨u.ws, -1, true, 0, 0⟩ av nv cv ⟨u.ws, -1, true, 0, 0⟩ a 192 c w22 HV.out (HP.out _ hw))
  rw [sameU_self] at HSm
  unfold unv at HSm
  dsimp only at HSm bV
  obtain ⟨v0, v1, v2, v3, v4⟩ := cl5 bV.out
  have u0 := blk_cell bu.out 0 _ rfl
  go_wp2_with fail
  refine (unhide HSm).mono ?_
  rintro e w23 ⟨rfl, hb⟩
  clear HSm v0 v1 v2 v3 v4 u0
  replace bb := hide (blk_below bb.out hb)
  replace bu := hide (blk_below bu.out hb)
  replace bm := hide (blk_below bm.out hb)
  replace bo := hide (blk_below bo.out hb)
  replace bX := hide (blk_below bX.out hb)
  replace bN := hide (blk_below bN.out hb)
  replace bS := hide (blk_below bS.out hb)
  replace bV := hide (blk_below bV.out hb)
  replace bZ := hide (blk_below bZ.out hb)
  replace bT := hide (blk_below bT.out hb)
  replace HK := hide (HK.out.below hb)
  replace HX := hide (HX.out.below hb)
  replace HXl := hide (HXl.out.below hb)
  replace HN := hide (HN.out.below hb)
  replace HR := hide (HR.out.below hb)
  replace HV := hide (HV.out.below hb)
  replace HII := hide (HII.out.below hb)
  replace hw := hw.trans (hb.mono hw.size)
  clear hb
  have y0 := blk_cell bb.out 0 _ rfl
  go_wp2_with fail
  refine (unhide HCB _ hw).mono ?_
  rintro e w24 ⟨rfl, hb⟩
  clear HCB y0
  replace bb := hide (blk_below bb.out hb)
  replace bu := hide (blk_below bu.out hb)
  replace bm := hide (blk_below bm.out hb)
  replace bo := hide (blk_below bo.out hb)
  replace bX := hide (blk_below bX.out hb)
  replace bN := hide (blk_below bN.out hb)
  replace bS := hide (blk_below bS.out hb)
  replace bV := hide (blk_below bV.out hb)
  replace bZ := hide (blk_below bZ.out hb)
  replace bT := hide (blk_below bT.out hb)
  replace HK := hide (HK.out.below hb)
  replace HX := hide (HX.out.below hb)
  replace HXl := hide (HXl.out.below hb)
  replace HN := hide (HN.out.below hb)
  replace HR := hide (HR.out.below hb)
  replace HV := hide (HV.out.below hb)
  replace HII := hide (HII.out.below hb)
  replace hw := hw.trans (hb.mono hw.size)
  clear hb
  by_cases zb : bookE ss = 0
  rotate_left
  {
  have hne : heE ss u m ≠ 0 := by rw [heE_1 zb]; exact zb
  have e1 := HEa.out hne
  rw [heE_1 zb] at e1
  cases e1
  have d_q : (bookE ss == 0) = false := by simpa using zb
  have d_q2 : (bookE ss != 0) = true := by simpa using zb
  have d_q3 : (bookE ss == bookE ss) = true := by simp
  have hnl0 := hnl
  simp only [List.length_nil] at hnl0
  subst hnl0
  unfold un0 at bX
  clear HEa hne HEo HUh
  have HSm := hide (sameUnit_any un0 ax nx cx un0 none 0 0 w24 HX.out ⟨.inl rfl, rfl, Nat.le_refl _, Nat.zero_le _⟩)
  rw [sameU_self] at HSm
  unfold unv un0 at HSm
  obtain ⟨v0, v1, v2, v3, v4⟩ := cl5 bX.out
  obtain ⟨z0, z1, z2, z3, z4⟩ := cl5 bZ.out
  dsimp only at *
  have d_b : (bookE ss != 0) = true := by simpa using zb
  clear zb zu HMr
  generalize bookE ss = qq at *
  go_wp2_with fail
  refine (unhide HSm).mono ?_
  rintro e w25 ⟨rfl, hb⟩
  go_wp2_with fail
  go_ret
  exact ⟨rfl, hw.trans (hb.mono hw.size)⟩
  }
  have d_b : (bookE ss != 0) = false := by simpa using zb
  have d_u2 : (unE u == 0) = true := by rw [zu]; rfl
  obtain ⟨m0, m1, m2, m3, m4, m5, m6⟩ := cl7 bm.out
  go_wp2_with fail
  refine (unhide HMr _ hw).mono ?_
  rintro e w25 ⟨rfl, hb⟩
  clear HMr m0 m1 m2 m3 m4 m5 m6 d_u2
  replace bb := hide (blk_below bb.out hb)
  replace bu := hide (blk_below bu.out hb)
  replace bm := hide (blk_below bm.out hb)
  replace bo := hide (blk_below bo.out hb)
  replace bX := hide (blk_below bX.out hb)
  replace bN := hide (blk_below bN.out hb)
  replace bS := hide (blk_below bS.out hb)
  replace bV := hide (blk_below bV.out hb)
  replace bZ := hide (blk_below bZ.out hb)
  replace bT := hide (blk_below bT.out hb)
  replace HK := hide (HK.out.below hb)
  replace HX := hide (HX.out.below hb)
  replace HXl := hide (HXl.out.below hb)
  replace HN := hide (HN.out.below hb)
  replace HR := hide (HR.out.below hb)
  replace HV := hide (HV.out.below hb)
  replace HII := hide (HII.out.below hb)
  replace hw := hw.trans (hb.mono hw.size)
  clear hb
  by_cases zm : msE m = 0
  rotate_left
  {
  have hne : heE ss u m ≠ 0 := by rw [heE_3 zb zu]; exact zm
  have e1 := HEa.out hne
  rw [heE_3 zb zu] at e1
  cases e1
  have d_q : (msE m == 0) = false := by simpa using zm
  have d_q2 : (msE m != 0) = true := by simpa using zm
  have d_q3 : (msE m == msE m) = true := by simp
  have hnl0 := hnl
  simp only [List.length_nil] at hnl0
  subst hnl0
  unfold un0 at bX
  clear HEa hne HEo HUh
  have HSm := hide (sameUnit_any un0 ax nx cx un0 none 0 0 w25 HX.out ⟨.inl rfl, rfl, Nat.le_refl _, Nat.zero_le _⟩)
  rw [sameU_self] at HSm
  unfold unv un0 at HSm
  obtain ⟨v0, v1, v2, v3, v4⟩ := cl5 bX.out
  obtain ⟨z0, z1, z2, z3, z4⟩ := cl5 bZ.out
  dsimp only at *
  clear zb zu zm
  generalize msE m = qq at *
  go_wp2_with fail
  refine (unhide HSm).mono ?_
  rintro e w26 ⟨rfl, hb⟩
  go_wp2_with fail
  go_ret
  exact ⟨rfl, hw.trans (hb.mono hw.size)⟩
  }
  have e1 := HEo.out ((heE_3 zb zu).trans zm)
  cases e1
  have d_m : (msE m != 0) = false := by rw [zm]; rfl
  have HUh1 := hide (HUh.out (by trivial) zb zu zm)
  clear HUh HEa HEo zb zu zm
  unfold RefAns unv at HUh1
  generalize hearS ss u m = R9 at *
  obtain ⟨xg, xl⟩ := R9
  dsimp only at *
  obtain ⟨m0, m1, m2, m3, m4, m5, m6⟩ := cl7 bm.out
  have y0 := blk_cell bb.out 0 _ rfl
  obtain ⟨u0, u1, u2, u3, u4⟩ := cl5 bu.out
  go_wp2_with fail
  refine (unhide HUh1 _ hw).mono ?_
  rintro e w26 ⟨⟨aR, nR, cR, aL, nL, cL, rfl, hgR, hmR, hnR, hcR, hc9⟩, hb⟩
  clear HUh1 y0 m0 m1 m2 m3 m4 m5 m6 u0 u1 u2 u3 u4
  go_upto_region 37 with fail
  have hb1 : Below w25.heap.size w25 (w26.alloc (.cells #[.slice aR nR cR, .int .i64 xg.fu, .bool xg.up, .int .i64 xg.n, .int .i64 xg.hv] 29)) := below_new hb _
  have hbz : Below w26.heap.size w26 (w26.alloc (.cells #[.slice aR nR cR, .int .i64 xg.fu, .bool xg.up, .int .i64 xg.n, .int .i64 xg.hv] 29)) := below_new (Below.refl _ _) _
  have HGR := hide (hgR.below hbz)
  have HMR := hide (hmR.below hbz)
  replace bb := hide (blk_below bb.out hb1)
  replace bu := hide (blk_below bu.out hb1)
  replace bm := hide (blk_below bm.out hb1)
  replace bo := hide (blk_below bo.out hb1)
  replace bX := hide (blk_below bX.out hb1)
  replace bN := hide (blk_below bN.out hb1)
  replace bS := hide (blk_below bS.out hb1)
  replace bV := hide (blk_below bV.out hb1)
  replace bZ := hide (blk_below bZ.out hb1)
  replace bT := hide (blk_below bT.out hb1)
  replace HK := hide (HK.out.below hb1)
  replace HX := hide (HX.out.below hb1)
  replace HXl := hide (HXl.out.below hb1)
  replace HN := hide (HN.out.below hb1)
  replace HR := hide (HR.out.below hb1)
  replace HV := hide (HV.out.below hb1)
  replace HII := hide (HII.out.below hb1)
  replace hw := hw.trans (hb1.mono hw.size)
  have bR := hide (heap_alloc_last w26 (.cells #[.slice aR nR cR, .int .i64 xg.fu, .bool xg.up, .int .i64 xg.n, .int .i64 xg.hv] 29))
  clear hb hb1 hbz
  clear hgR hmR
  generalize w26.alloc (.cells #[.slice aR nR cR, .int .i64 xg.fu, .bool xg.up, .int .i64 xg.n, .int .i64 xg.hv] 29) = W26 at *
  generalize w26.heap.size = RB at *
  have HSm := hide (sameUnit_any xg ax nx cx xg aR nR cR W26 HX.out HGR.out)
  rw [sameU_self] at HSm
  unfold unv at HSm
  obtain ⟨v0, v1, v2, v3, v4⟩ := cl5 bX.out
  obtain ⟨z0, z1, z2, z3, z4⟩ := cl5 bR.out
  go_wp2_with fail
  refine (unhide HSm).mono ?_
  rintro e w27 ⟨rfl, hb⟩
  clear HSm v0 v1 v2 v3 v4 z0 z1 z2 z3 z4
  have HSM := hide (sameMessages_any al aL nl nL cl cL xl xl w27 (HXl.out.below hb).msw (HMR.out.below hb).msw hnl hnR (by omega) (by omega))
  rw [eqM_refl] at HSM
  go_wp2_with fail
  refine (unhide HSM).mono ?_
  rintro e w28 ⟨rfl, hb2⟩
  go_wp2_with fail
  go_ret
  exact ⟨rfl, hw.trans ((hb.trans (hb2.mono hb.size)).mono hw.size)⟩
  }
  }
  by_cases y1 : 1 ≤ name
  rotate_left
  {
  have g1 : name < 1 := by omega
  have HnE : Hid (nuE image name = 3) := by show _ = _; unfold nuE; rw [if_neg (by simpa using zi), if_pos (by unfold inB; simp; omega)]
  have hne : nuE image name ≠ 0 := by rw [HnE.out]; decide
  have e2 := HEn.out hne
  rw [HnE.out] at e2
  cases e2
  clear HEn HEn0 HnE hne HRN
  rw [zi]
  clear zi
  unfold un0 at bN
  have HSm := hide (sameUnit_any un0 an nn cn un0 none 0 0 w13 HN.out ⟨.inl rfl, rfl, Nat.le_refl _, Nat.zero_le _⟩)
  rw [sameU_self] at HSm
  unfold unv un0 at HSm
  obtain ⟨v0, v1, v2, v3, v4⟩ := cl5 bN.out
  obtain ⟨z0, z1, z2, z3, z4⟩ := cl5 bZ.out
  dsimp only at *
  go_wp2_with fail
  refine (unhide HSm).mono ?_
  rintro e w14 ⟨rfl, hb⟩
  clear HSm v0 v1 v2 v3 v4 z0 z1 z2 z3 z4
  replace bb := hide (blk_below bb.out hb)
  replace bu := hide (blk_below bu.out hb)
  replace bm := hide (blk_below bm.out hb)
  replace bo := hide (blk_below bo.out hb)
  replace bX := hide (blk_below bX.out hb)
  replace bN := hide (blk_below bN.out hb)
  replace bS := hide (blk_below bS.out hb)
  replace bV := hide (blk_below bV.out hb)
  replace bZ := hide (blk_below bZ.out hb)
  replace HK := hide (HK.out.below hb)
  replace HX := hide (HX.out.below hb)
  replace HXl := hide (HXl.out.below hb)
  replace HN := hide (HN.out.below hb)
  replace HR := hide (HR.out.below hb)
  replace HV := hide (HV.out.below hb)
  replace hw := hw.trans (hb.mono hw.size)
  clear hb
  go_upto_region 20 with fail
  by_cases zu : unE u = 0
  rotate_left
  {
  have e4 := HEs.out zu
  have e5 := HEr.out zu
  have e6 := HEb.out zu
  cases e4
  cases e5
  cases e6
  have d_u : (unE u != 0) = true := by simpa using zu
  have d_uu : (unE u != unE u) = false := by simp
  have HRl0 := HRl.out
  simp only [List.length_nil] at HRl0
  subst HRl0
  unfold us0 at bS
  unfold un0 at bV
  clear HEs HEs0 HEr HEr0 HEb HEb0 HSt HIm HUh HMr HEo
  have HSm := hide (sameUnit_any un0 av nv cv un0 none 0 0 w14 HV.out ⟨.inl rfl, rfl, Nat.le_refl _, Nat.zero_le _⟩)
  rw [sameU_self] at HSm
  unfold unv un0 at HSm
  have s0 := blk_cell bS.out 0 _ rfl
  have s1 := blk_cell bS.out 1 _ rfl
  have s2 := blk_cell bS.out 2 _ rfl
  obtain ⟨v0, v1, v2, v3, v4⟩ := cl5 bV.out
  obtain ⟨z0, z1, z2, z3, z4⟩ := cl5 bZ.out
  dsimp only at *
  go_wp2_with fail
  refine (unhide HSm).mono ?_
  rintro e w20 ⟨rfl, hb⟩
  clear HSm s0 s1 s2 v0 v1 v2 v3 v4 z0 z1 z2 z3 z4 d_uu
  replace bb := hide (blk_below bb.out hb)
  replace bu := hide (blk_below bu.out hb)
  replace bm := hide (blk_below bm.out hb)
  replace bo := hide (blk_below bo.out hb)
  replace bX := hide (blk_below bX.out hb)
  replace bN := hide (blk_below bN.out hb)
  replace bS := hide (blk_below bS.out hb)
  replace bV := hide (blk_below bV.out hb)
  replace bZ := hide (blk_below bZ.out hb)
  replace HK := hide (HK.out.below hb)
  replace HX := hide (HX.out.below hb)
  replace HXl := hide (HXl.out.below hb)
  replace HN := hide (HN.out.below hb)
  replace HR := hide (HR.out.below hb)
  replace HV := hide (HV.out.below hb)
  replace hw := hw.trans (hb.mono hw.size)
  clear hb
  have y0 := blk_cell bb.out 0 _ rfl
  go_wp2_with fail
  refine (unhide HCB _ hw).mono ?_
  rintro e w21 ⟨rfl, hb⟩
  clear HCB y0
  replace bb := hide (blk_below bb.out hb)
  replace bu := hide (blk_below bu.out hb)
  replace bm := hide (blk_below bm.out hb)
  replace bo := hide (blk_below bo.out hb)
  replace bX := hide (blk_below bX.out hb)
  replace bN := hide (blk_below bN.out hb)
  replace bS := hide (blk_below bS.out hb)
  replace bV := hide (blk_below bV.out hb)
  replace bZ := hide (blk_below bZ.out hb)
  replace HK := hide (HK.out.below hb)
  replace HX := hide (HX.out.below hb)
  replace HXl := hide (HXl.out.below hb)
  replace HN := hide (HN.out.below hb)
  replace HR := hide (HR.out.below hb)
  replace HV := hide (HV.out.below hb)
  replace hw := hw.trans (hb.mono hw.size)
  clear hb
  by_cases zb : bookE ss = 0
  rotate_left
  {
  have HhE : Hid (heE ss u m = bookE ss) := heE_1 zb
  have hne : heE ss u m ≠ 0 := by rw [HhE.out]; exact zb
  have e1 := HEa.out hne
  rw [HhE.out] at e1
  cases e1
  have d_b : (bookE ss != 0) = true := by simpa using zb
  have d_q : (bookE ss == 0) = false := by simpa using zb
  have d_q2 : (bookE ss != 0) = true := by simpa using zb
  have d_q3 : (bookE ss == bookE ss) = true := by simp
  have hnl0 := hnl
  simp only [List.length_nil] at hnl0
  subst hnl0
  unfold un0 at bX
  clear HEa hne HhE zu zb
  have HSm := hide (sameUnit_any un0 ax nx cx un0 none 0 0 w21 HX.out ⟨.inl rfl, rfl, Nat.le_refl _, Nat.zero_le _⟩)
  rw [sameU_self] at HSm
  unfold unv un0 at HSm
  obtain ⟨v0, v1, v2, v3, v4⟩ := cl5 bX.out
  obtain ⟨z0, z1, z2, z3, z4⟩ := cl5 bZ.out
  generalize bookE ss = qq at *
  dsimp only at *
  go_wp2_with fail
  refine (unhide HSm).mono ?_
  rintro e w22 ⟨rfl, hb⟩
  go_wp2_with fail
  go_ret
  exact ⟨rfl, hw.trans (hb.mono hw.size)⟩
  }
  have HhE : Hid (heE ss u m = unE u) := heE_2 zb zu
  have hne : heE ss u m ≠ 0 := by rw [HhE.out]; exact zu
  have e1 := HEa.out hne
  rw [HhE.out] at e1
  cases e1
  have d_b : (bookE ss != 0) = false := by simpa using zb
  have d_q : (unE u == 0) = false := by simpa using zu
  have d_q2 : (unE u != 0) = true := by simpa using zu
  have d_q3 : (unE u == unE u) = true := by simp
  have hnl0 := hnl
  simp only [List.length_nil] at hnl0
  subst hnl0
  unfold un0 at bX
  clear HEa hne HhE zu zb
  have HSm := hide (sameUnit_any un0 ax nx cx un0 none 0 0 w21 HX.out ⟨.inl rfl, rfl, Nat.le_refl _, Nat.zero_le _⟩)
  rw [sameU_self] at HSm
  unfold unv un0 at HSm
  obtain ⟨v0, v1, v2, v3, v4⟩ := cl5 bX.out
  obtain ⟨z0, z1, z2, z3, z4⟩ := cl5 bZ.out
  generalize unE u = qq at *
  dsimp only at *
  go_wp2_with fail
  refine (unhide HSm).mono ?_
  rintro e w22 ⟨rfl, hb⟩
  go_wp2_with fail
  go_ret
  exact ⟨rfl, hw.trans (hb.mono hw.size)⟩
  }
  have e4 := HEs0.out zu
  have e6 := HEb0.out zu
  cases e4
  cases e6
  obtain ⟨hl1, hl2, hl3⟩ := unE_ok zu
  obtain rfl : n = 192 := HLn.out.symm.trans hl2
  have hok := (lchk_parts hl1).2.2.2.1
  have hsl := oth_0 zu
  obtain ⟨sl, hsl0⟩ : ∃ v : Nat, (stOf u.ws).slot = (v : Int) := ⟨(stOf u.ws).slot.toNat, by unfold oth at hsl; omega⟩
  have hsl1 : sl ≤ 1 := by unfold oth at hsl; omega
  have hrr := runs_ref zu hsl0 hsl1
  rw [← HEr0.out zu] at hrr
  have HSt1 := hide (HSt.out hl1)
  have HIm1 := hide (HIm.out rfl hok sl hsl1)
  have HIl : Hid ((refImgT u.ws (64 + 64 * sl)).1.length ≤ 192) := by show _ ≤ _; unfold refImgT; split; simp; rw [List.length_take, List.length_drop, hl2]; omega
  unfold TellsI at HIm1
  generalize refImgT u.ws (64 + 64 * sl) = I at *
  have HSl := hide hsl0
  clear HEs HEs0 HEr HEr0 HEb HEb0 HSt HIm hl1 hl2 hl3 hok hsl hsl1 hsl0
  obtain ⟨T, hTT⟩ : ∃ T, T = stOf u.ws := ⟨_, rfl⟩
  rw [← hTT] at bS HSt1 HSl
  clear hTT
  have d_u : (unE u != 0) = false := by rw [zu]; rfl
  obtain ⟨u0, u1, u2, u3, u4⟩ := cl5 bu.out
  go_wp2_with fail
  refine (unhide HSt1 _ hw).mono ?_
  rintro e w20 ⟨rfl, hb⟩
  clear HSt1 u0 u1 u2 u3 u4
  go_upto_region 24 with fail
  have hb1 : Below w14.heap.size w14 (w20.alloc (.cells #[.int .i64 T.slot, .int .i64 T.by', .int .i64 T.rdy] 40)) := below_new hb _
  have hbz : Below w20.heap.size w20 (w20.alloc (.cells #[.int .i64 T.slot, .int .i64 T.by', .int .i64 T.rdy] 40)) := below_new (Below.refl _ _) _
  replace bb := hide (blk_below bb.out hb1)
  replace bu := hide (blk_below bu.out hb1)
  replace bm := hide (blk_below bm.out hb1)
  replace bo := hide (blk_below bo.out hb1)
  replace bX := hide (blk_below bX.out hb1)
  replace bN := hide (blk_below bN.out hb1)
  replace bS := hide (blk_below bS.out hb1)
  replace bV := hide (blk_below bV.out hb1)
  replace bZ := hide (blk_below bZ.out hb1)
  replace HK := hide (HK.out.below hb1)
  replace HX := hide (HX.out.below hb1)
  replace HXl := hide (HXl.out.below hb1)
  replace HN := hide (HN.out.below hb1)
  replace HR := hide (HR.out.below hb1)
  replace HV := hide (HV.out.below hb1)
  replace hw := hw.trans (hb1.mono hw.size)
  have bT := hide (heap_alloc_last w20 (.cells #[.int .i64 T.slot, .int .i64 T.by', .int .i64 T.rdy] 40))
  clear hb hb1 hbz
  generalize w20.alloc (.cells #[.int .i64 T.slot, .int .i64 T.by', .int .i64 T.rdy] 40) = W20 at *
  generalize w20.heap.size = TB at *
  have u0 := blk_cell bu.out 0 _ rfl
  have u1 := blk_cell bu.out 1 _ rfl
  have t0 := blk_cell bT.out 0 _ rfl
  rw [HSl.out] at t0
  go_wp2_with fail
  refine (unhide HIm1 _ hw).mono ?_
  rintro e w21 ⟨⟨aI, nI, cI, rfl, hii, hni⟩, hb⟩
  clear HIm1 u0 u1 t0 HSl
  replace bb := hide (blk_below bb.out hb)
  replace bu := hide (blk_below bu.out hb)
  replace bm := hide (blk_below bm.out hb)
  replace bo := hide (blk_below bo.out hb)
  replace bX := hide (blk_below bX.out hb)
  replace bN := hide (blk_below bN.out hb)
  replace bS := hide (blk_below bS.out hb)
  replace bV := hide (blk_below bV.out hb)
  replace bZ := hide (blk_below bZ.out hb)
  replace bT := hide (blk_below bT.out hb)
  replace HK := hide (HK.out.below hb)
  replace HX := hide (HX.out.below hb)
  replace HXl := hide (HXl.out.below hb)
  replace HN := hide (HN.out.below hb)
  replace HR := hide (HR.out.below hb)
  replace HV := hide (HV.out.below hb)
  replace hw := hw.trans (hb.mono hw.size)
  clear hb
  have HII := hide hii
  have HIn := hide hni
  clear hii hni
  rcases hrr with ⟨hI, hrr⟩ | ⟨hI, hrr⟩
  {
  cases hrr
  subst hI
  have HQe := hide (equal_at ar aI nr nI cr cI [] [] true w21 HR.out HII.out HRl.out HIn.out rfl (by rw [← HRl.out]; decide) (by rw [← HIn.out]; decide))
  have s0 := blk_cell bS.out 0 _ rfl
  have s1 := blk_cell bS.out 1 _ rfl
  have s2 := blk_cell bS.out 2 _ rfl
  have t0 := blk_cell bT.out 0 _ rfl
  have t1 := blk_cell bT.out 1 _ rfl
  have t2 := blk_cell bT.out 2 _ rfl
  have dT : ∀ x : Int, (x != x) = false := fun x => by simp
  go_wp2_with fail
  refine (unhide HQe).mono ?_
  rintro e w22 ⟨rfl, nd, hw22⟩
  have hb : Below w21.heap.size w21 w22 := by rw [hw22]; exact below_drewN (Below.refl _ _) nd
  clear hw22 HQe s0 s1 s2 t0 t1 t2 dT
  replace bb := hide (blk_below bb.out hb)
  replace bu := hide (blk_below bu.out hb)
  replace bm := hide (blk_below bm.out hb)
  replace bo := hide (blk_below bo.out hb)
  replace bX := hide (blk_below bX.out hb)
  replace bN := hide (blk_below bN.out hb)
  replace bS := hide (blk_below bS.out hb)
  replace bV := hide (blk_below bV.out hb)
  replace bZ := hide (blk_below bZ.out hb)
  replace bT := hide (blk_below bT.out hb)
  replace HK := hide (HK.out.below hb)
  replace HX := hide (HX.out.below hb)
  replace HXl := hide (HXl.out.below hb)
  replace HN := hide (HN.out.below hb)
  replace HR := hide (HR.out.below hb)
  replace HV := hide (HV.out.below hb)
  replace HII := hide (HII.out.below hb)
  replace hw := hw.trans (hb.mono hw.size)
  clear hb
  have HSm := hide (sameUnit_any ⟨u.ws, -1, true, 0, 0⟩ av nv cv ⟨u.ws, -1, true, 0, 0⟩ a 192 c w22 HV.out (HP.out _ hw))
  rw [sameU_self] at HSm
  unfold unv at HSm
  dsimp only at HSm bV
  obtain ⟨v0, v1, v2, v3, v4⟩ := cl5 bV.out
  have u0 := blk_cell bu.out 0 _ rfl
  go_wp2_with fail
  refine (unhide HSm).mono ?_
  rintro e w23 ⟨rfl, hb⟩
  clear HSm v0 v1 v2 v3 v4 u0
  replace bb := hide (blk_below bb.out hb)
  replace bu := hide (blk_below bu.out hb)
  replace bm := hide (blk_below bm.out hb)
  replace bo := hide (blk_below bo.out hb)
  replace bX := hide (blk_below bX.out hb)
  replace bN := hide (blk_below bN.out hb)
  replace bS := hide (blk_below bS.out hb)
  replace bV := hide (blk_below bV.out hb)
  replace bZ := hide (blk_below bZ.out hb)
  replace bT := hide (blk_below bT.out hb)
  replace HK := hide (HK.out.below hb)
  replace HX := hide (HX.out.below hb)
  replace HXl := hide (HXl.out.below hb)
  replace HN := hide (HN.out.below hb)
  replace HR := hide (HR.out.below hb)
  replace HV := hide (HV.out.below hb)
  replace HII := hide (HII.out.below hb)
  replace hw := hw.trans (hb.mono hw.size)
  clear hb
  have y0 := blk_cell bb.out 0 _ rfl
  go_wp2_with fail
  refine (unhide HCB _ hw).mono ?_
  rintro e w24 ⟨rfl, hb⟩
  clear HCB y0
  replace bb := hide (blk_below bb.out hb)
  replace bu := hide (blk_below bu.out hb)
  replace bm := hide (blk_below bm.out hb)
  replace bo := hide (blk_below bo.out hb)
  replace bX := hide (blk_below bX.out hb)
  replace bN := hide (blk_below bN.out hb)
  replace bS := hide (blk_below bS.out hb)
  replace bV := hide (blk_below bV.out hb)
  replace bZ := hide (blk_below bZ.out hb)
  replace bT := hide (blk_below bT.out hb)
  replace HK := hide (HK.out.below hb)
  replace HX := hide (HX.out.below hb)
  replace HXl := hide (HXl.out.below hb)
  replace HN := hide (HN.out.below hb)
  replace HR := hide (HR.out.below hb)
  replace HV := hide (HV.out.below hb)
  replace HII := hide (HII.out.below hb)
  replace hw := hw.trans (hb.mono hw.size)
  clear hb
  by_cases zb : bookE ss = 0
  rotate_left
  {
  have hne : heE ss u m ≠ 0 := by rw [heE_1 zb]; exact zb
  have e1 := HEa.out hne
  rw [heE_1 zb] at e1
  cases e1
  have d_q : (bookE ss == 0) = false := by simpa using zb
  have d_q2 : (bookE ss != 0) = true := by simpa using zb
  have d_q3 : (bookE ss == bookE ss) = true := by simp
  have hnl0 := hnl
  simp only [List.length_nil] at hnl0
  subst hnl0
  unfold un0 at bX
  clear HEa hne HEo HUh
  have HSm := hide (sameUnit_any un0 ax nx cx un0 none 0 0 w24 HX.out ⟨.inl rfl, rfl, Nat.le_refl _, Nat.zero_le _⟩)
  rw [sameU_self] at HSm
  unfold unv un0 at HSm
  obtain ⟨v0, v1, v2, v3, v4⟩ := cl5 bX.out
  obtain ⟨z0, z1, z2, z3, z4⟩ := cl5 bZ.out
  dsimp only at *
  have d_b : (bookE ss != 0) = true := by simpa using zb
  clear zb zu HMr
  generalize bookE ss = qq at *
  go_wp2_with fail
  refine (unhide HSm).mono ?_
  rintro e w25 ⟨rfl, hb⟩
  go_wp2_with fail
  go_ret
  exact ⟨rfl, hw.trans (hb.mono hw.size)⟩
  }
  have d_b : (bookE ss != 0) = false := by simpa using zb
  have d_u2 : (unE u == 0) = true := by rw [zu]; rfl
  obtain ⟨m0, m1, m2, m3, m4, m5, m6⟩ := cl7 bm.out
  go_wp2_with fail
  refine (unhide HMr _ hw).mono ?_
  rintro e w25 ⟨rfl, hb⟩
  clear HMr m0 m1 m2 m3 m4 m5 m6 d_u2
  replace bb := hide (blk_below bb.out hb)
  replace bu := hide (blk_below bu.out hb)
  replace bm := hide (blk_below bm.out hb)
  replace bo := hide (blk_below bo.out hb)
  replace bX := hide (blk_below bX.out hb)
  replace bN := hide (blk_below bN.out hb)
  replace bS := hide (blk_below bS.out hb)
  replace bV := hide (blk_below bV.out hb)
  replace bZ := hide (blk_below bZ.out hb)
  replace bT := hide (blk_below bT.out hb)
  replace HK := hide (HK.out.below hb)
  replace HX := hide (HX.out.below hb)
  replace HXl := hide (HXl.out.below hb)
  replace HN := hide (HN.out.below hb)
  replace HR := hide (HR.out.below hb)
  replace HV := hide (HV.out.below hb)
  replace HII := hide (HII.out.below hb)
  replace hw := hw.trans (hb.mono hw.size)
  clear hb
  by_cases zm : msE m = 0
  rotate_left
  {
  have hne : heE ss u m ≠ 0 := by rw [heE_3 zb zu]; exact zm
  have e1 := HEa.out hne
  rw [heE_3 zb zu] at e1
  cases e1
  have d_q : (msE m == 0) = false := by simpa using zm
  have d_q2 : (msE m != 0) = true := by simpa using zm
  have d_q3 : (msE m == msE m) = true := by simp
  have hnl0 := hnl
  simp only [List.length_nil] at hnl0
  subst hnl0
  unfold un0 at bX
  clear HEa hne HEo HUh
  have HSm := hide (sameUnit_any un0 ax nx cx un0 none 0 0 w25 HX.out ⟨.inl rfl, rfl, Nat.le_refl _, Nat.zero_le _⟩)
  rw [sameU_self] at HSm
  unfold unv un0 at HSm
  obtain ⟨v0, v1, v2, v3, v4⟩ := cl5 bX.out
  obtain ⟨z0, z1, z2, z3, z4⟩ := cl5 bZ.out
  dsimp only at *
  clear zb zu zm
  generalize msE m = qq at *
  go_wp2_with fail
  refine (unhide HSm).mono ?_
  rintro e w26 ⟨rfl, hb⟩
  go_wp2_with fail
  go_ret
  exact ⟨rfl, hw.trans (hb.mono hw.size)⟩
  }
  have e1 := HEo.out ((heE_3 zb zu).trans zm)
  cases e1
  have d_m : (msE m != 0) = false := by rw [zm]; rfl
  have HUh1 := hide (HUh.out (by trivial) zb zu zm)
  clear HUh HEa HEo zb zu zm
  unfold RefAns unv at HUh1
  generalize hearS ss u m = R9 at *
  obtain ⟨xg, xl⟩ := R9
  dsimp only at *
  obtain ⟨m0, m1, m2, m3, m4, m5, m6⟩ := cl7 bm.out
  have y0 := blk_cell bb.out 0 _ rfl
  obtain ⟨u0, u1, u2, u3, u4⟩ := cl5 bu.out
  go_wp2_with fail
  refine (unhide HUh1 _ hw).mono ?_
  rintro e w26 ⟨⟨aR, nR, cR, aL, nL, cL, rfl, hgR, hmR, hnR, hcR, hc9⟩, hb⟩
  clear HUh1 y0 m0 m1 m2 m3 m4 m5 m6 u0 u1 u2 u3 u4
  go_upto_region 37 with fail
  have hb1 : Below w25.heap.size w25 (w26.alloc (.cells #[.slice aR nR cR, .int .i64 xg.fu, .bool xg.up, .int .i64 xg.n, .int .i64 xg.hv] 29)) := below_new hb _
  have hbz : Below w26.heap.size w26 (w26.alloc (.cells #[.slice aR nR cR, .int .i64 xg.fu, .bool xg.up, .int .i64 xg.n, .int .i64 xg.hv] 29)) := below_new (Below.refl _ _) _
  have HGR := hide (hgR.below hbz)
  have HMR := hide (hmR.below hbz)
  replace bb := hide (blk_below bb.out hb1)
  replace bu := hide (blk_below bu.out hb1)
  replace bm := hide (blk_below bm.out hb1)
  replace bo := hide (blk_below bo.out hb1)
  replace bX := hide (blk_below bX.out hb1)
  replace bN := hide (blk_below bN.out hb1)
  replace bS := hide (blk_below bS.out hb1)
  replace bV := hide (blk_below bV.out hb1)
  replace bZ := hide (blk_below bZ.out hb1)
  replace bT := hide (blk_below bT.out hb1)
  replace HK := hide (HK.out.below hb1)
  replace HX := hide (HX.out.below hb1)
  replace HXl := hide (HXl.out.below hb1)
  replace HN := hide (HN.out.below hb1)
  replace HR := hide (HR.out.below hb1)
  replace HV := hide (HV.out.below hb1)
  replace HII := hide (HII.out.below hb1)
  replace hw := hw.trans (hb1.mono hw.size)
  have bR := hide (heap_alloc_last w26 (.cells #[.slice aR nR cR, .int .i64 xg.fu, .bool xg.up, .int .i64 xg.n, .int .i64 xg.hv] 29))
  clear hb hb1 hbz
  clear hgR hmR
  generalize w26.alloc (.cells #[.slice aR nR cR, .int .i64 xg.fu, .bool xg.up, .int .i64 xg.n, .int .i64 xg.hv] 29) = W26 at *
  generalize w26.heap.size = RB at *
  have HSm := hide (sameUnit_any xg ax nx cx xg aR nR cR W26 HX.out HGR.out)
  rw [sameU_self] at HSm
  unfold unv at HSm
  obtain ⟨v0, v1, v2, v3, v4⟩ := cl5 bX.out
  obtain ⟨z0, z1, z2, z3, z4⟩ := cl5 bR.out
  go_wp2_with fail
  refine (unhide HSm).mono ?_
  rintro e w27 ⟨rfl, hb⟩
  clear HSm v0 v1 v2 v3 v4 z0 z1 z2 z3 z4
  have HSM := hide (sameMessages_any al aL nl nL cl cL xl xl w27 (HXl.out.below hb).msw (HMR.out.below hb).msw hnl hnR (by omega) (by omega))
  rw [eqM_refl] at HSM
  go_wp2_with fail
  refine (unhide HSM).mono ?_
  rintro e w28 ⟨rfl, hb2⟩
  go_wp2_with fail
  go_ret
  exact ⟨rfl, hw.trans ((hb.trans (hb2.mono hb.size)).mono hw.size)⟩
  }
  {
  cases hrr
  have d_k : (I.2 != 0) = true := by simpa using hI
  have d_k2 : (I.2 != I.2) = false := by simp
  have HQe := hide (equal_at ar aI nr nI cr cI I.1 I.1 true w21 HR.out HII.out HRl.out HIn.out (by unfold eqL; simp) (by rw [← HRl.out]; have h := HIl.out; unfold maxLen; omega) (by rw [← HIn.out]; have h := HIl.out; unfold maxLen; omega))
  clear hI
  have s0 := blk_cell bS.out 0 _ rfl
  have s1 := blk_cell bS.out 1 _ rfl
  have s2 := blk_cell bS.out 2 _ rfl
  have t0 := blk_cell bT.out 0 _ rfl
  have t1 := blk_cell bT.out 1 _ rfl
  have t2 := blk_cell bT.out 2 _ rfl
  have dT : ∀ x : Int, (x != x) = false := fun x => by simp
  go_wp2_with fail
  refine (unhide HQe).mono ?_
  rintro e w22 ⟨rfl, nd, hw22⟩
  have hb : Below w21.heap.size w21 w22 := by rw [hw22]; exact below_drewN (Below.refl _ _) nd
  clear hw22 HQe s0 s1 s2 t0 t1 t2 dT d_k d_k2
  replace bb := hide (blk_below bb.out hb)
  replace bu := hide (blk_below bu.out hb)
  replace bm := hide (blk_below bm.out hb)
  replace bo := hide (blk_below bo.out hb)
  replace bX := hide (blk_below bX.out hb)
  replace bN := hide (blk_below bN.out hb)
  replace bS := hide (blk_below bS.out hb)
  replace bV := hide (blk_below bV.out hb)
  replace bZ := hide (blk_below bZ.out hb)
  replace bT := hide (blk_below bT.out hb)
  replace HK := hide (HK.out.below hb)
  replace HX := hide (HX.out.below hb)
  replace HXl := hide (HXl.out.below hb)
  replace HN := hide (HN.out.below hb)
  replace HR := hide (HR.out.below hb)
  replace HV := hide (HV.out.below hb)
  replace HII := hide (HII.out.below hb)
  replace hw := hw.trans (hb.mono hw.size)
  clear hb
  have HSm := hide (sameUnit_any ⟨u.ws, -1, true, 0, 0⟩ av nv cv ⟨u.ws, -1, true, 0, 0⟩ a 192 c w22 HV.out (HP.out _ hw))
  rw [sameU_self] at HSm
  unfold unv at HSm
  dsimp only at HSm bV
  obtain ⟨v0, v1, v2, v3, v4⟩ := cl5 bV.out
  have u0 := blk_cell bu.out 0 _ rfl
  go_wp2_with fail
  refine (unhide HSm).mono ?_
  rintro e w23 ⟨rfl, hb⟩
  clear HSm v0 v1 v2 v3 v4 u0
  replace bb := hide (blk_below bb.out hb)
  replace bu := hide (blk_below bu.out hb)
  replace bm := hide (blk_below bm.out hb)
  replace bo := hide (blk_below bo.out hb)
  replace bX := hide (blk_below bX.out hb)
  replace bN := hide (blk_below bN.out hb)
  replace bS := hide (blk_below bS.out hb)
  replace bV := hide (blk_below bV.out hb)
  replace bZ := hide (blk_below bZ.out hb)
  replace bT := hide (blk_below bT.out hb)
  replace HK := hide (HK.out.below hb)
  replace HX := hide (HX.out.below hb)
  replace HXl := hide (HXl.out.below hb)
  replace HN := hide (HN.out.below hb)
  replace HR := hide (HR.out.below hb)
  replace HV := hide (HV.out.below hb)
  replace HII := hide (HII.out.below hb)
  replace hw := hw.trans (hb.mono hw.size)
  clear hb
  have y0 := blk_cell bb.out 0 _ rfl
  go_wp2_with fail
  refine (unhide HCB _ hw).mono ?_
  rintro e w24 ⟨rfl, hb⟩
  clear HCB y0
  replace bb := hide (blk_below bb.out hb)
  replace bu := hide (blk_below bu.out hb)
  replace bm := hide (blk_below bm.out hb)
  replace bo := hide (blk_below bo.out hb)
  replace bX := hide (blk_below bX.out hb)
  replace bN := hide (blk_below bN.out hb)
  replace bS := hide (blk_below bS.out hb)
  replace bV := hide (blk_below bV.out hb)
  replace bZ := hide (blk_below bZ.out hb)
  replace bT := hide (blk_below bT.out hb)
  replace HK := hide (HK.out.below hb)
  replace HX := hide (HX.out.below hb)
  replace HXl := hide (HXl.out.below hb)
  replace HN := hide (HN.out.below hb)
  replace HR := hide (HR.out.below hb)
  replace HV := hide (HV.out.below hb)
  replace HII := hide (HII.out.below hb)
  replace hw := hw.trans (hb.mono hw.size)
  clear hb
  by_cases zb : bookE ss = 0
  rotate_left
  {
  have hne : heE ss u m ≠ 0 := by rw [heE_1 zb]; exact zb
  have e1 := HEa.out hne
  rw [heE_1 zb] at e1
  cases e1
  have d_q : (bookE ss == 0) = false := by simpa using zb
  have d_q2 : (bookE ss != 0) = true := by simpa using zb
  have d_q3 : (bookE ss == bookE ss) = true := by simp
  have hnl0 := hnl
  simp only [List.length_nil] at hnl0
  subst hnl0
  unfold un0 at bX
  clear HEa hne HEo HUh
  have HSm := hide (sameUnit_any un0 ax nx cx un0 none 0 0 w24 HX.out ⟨.inl rfl, rfl, Nat.le_refl _, Nat.zero_le _⟩)
  rw [sameU_self] at HSm
  unfold unv un0 at HSm
  obtain ⟨v0, v1, v2, v3, v4⟩ := cl5 bX.out
  obtain ⟨z0, z1, z2, z3, z4⟩ := cl5 bZ.out
  dsimp only at *
  have d_b : (bookE ss != 0) = true := by simpa using zb
  clear zb zu HMr
  generalize bookE ss = qq at *
  go_wp2_with fail
  refine (unhide HSm).mono ?_
  rintro e w25 ⟨rfl, hb⟩
  go_wp2_with fail
  go_ret
  exact ⟨rfl, hw.trans (hb.mono hw.size)⟩
  }
  have d_b : (bookE ss != 0) = false := by simpa using zb
  have d_u2 : (unE u == 0) = true := by rw [zu]; rfl
  obtain ⟨m0, m1, m2, m3, m4, m5, m6⟩ := cl7 bm.out
  go_wp2_with fail
  refine (unhide HMr _ hw).mono ?_
  rintro e w25 ⟨rfl, hb⟩
  clear HMr m0 m1 m2 m3 m4 m5 m6 d_u2
  replace bb := hide (blk_below bb.out hb)
  replace bu := hide (blk_below bu.out hb)
  replace bm := hide (blk_below bm.out hb)
  replace bo := hide (blk_below bo.out hb)
  replace bX := hide (blk_below bX.out hb)
  replace bN := hide (blk_below bN.out hb)
  replace bS := hide (blk_below bS.out hb)
  replace bV := hide (blk_below bV.out hb)
  replace bZ := hide (blk_below bZ.out hb)
  replace bT := hide (blk_below bT.out hb)
  replace HK := hide (HK.out.below hb)
  replace HX := hide (HX.out.below hb)
  replace HXl := hide (HXl.out.below hb)
  replace HN := hide (HN.out.below hb)
  replace HR := hide (HR.out.below hb)
  replace HV := hide (HV.out.below hb)
  replace HII := hide (HII.out.below hb)
  replace hw := hw.trans (hb.mono hw.size)
  clear hb
  by_cases zm : msE m = 0
  rotate_left
  {
  have hne : heE ss u m ≠ 0 := by rw [heE_3 zb zu]; exact zm
  have e1 := HEa.out hne
  rw [heE_3 zb zu] at e1
  cases e1
  have d_q : (msE m == 0) = false := by simpa using zm
  have d_q2 : (msE m != 0) = true := by simpa using zm
  have d_q3 : (msE m == msE m) = true := by simp
  have hnl0 := hnl
  simp only [List.length_nil] at hnl0
  subst hnl0
  unfold un0 at bX
  clear HEa hne HEo HUh
  have HSm := hide (sameUnit_any un0 ax nx cx un0 none 0 0 w25 HX.out ⟨.inl rfl, rfl, Nat.le_refl _, Nat.zero_le _⟩)
  rw [sameU_self] at HSm
  unfold unv un0 at HSm
  obtain ⟨v0, v1, v2, v3, v4⟩ := cl5 bX.out
  obtain ⟨z0, z1, z2, z3, z4⟩ := cl5 bZ.out
  dsimp only at *
  clear zb zu zm
  generalize msE m = qq at *
  go_wp2_with fail
  refine (unhide HSm).mono ?_
  rintro e w26 ⟨rfl, hb⟩
  go_wp2_with fail
  go_ret
  exact ⟨rfl, hw.trans (hb.mono hw.size)⟩
  }
  have e1 := HEo.out ((heE_3 zb zu).trans zm)
  cases e1
  have d_m : (msE m != 0) = false := by rw [zm]; rfl
  have HUh1 := hide (HUh.out (by trivial) zb zu zm)
  clear HUh HEa HEo zb zu zm
  unfold RefAns unv at HUh1
  generalize hearS ss u m = R9 at *
  obtain ⟨xg, xl⟩ := R9
  dsimp only at *
  obtain ⟨m0, m1, m2, m3, m4, m5, m6⟩ := cl7 bm.out
  have y0 := blk_cell bb.out 0 _ rfl
  obtain ⟨u0, u1, u2, u3, u4⟩ := cl5 bu.out
  go_wp2_with fail
  refine (unhide HUh1 _ hw).mono ?_
  rintro e w26 ⟨⟨aR, nR, cR, aL, nL, cL, rfl, hgR, hmR, hnR, hcR, hc9⟩, hb⟩
  clear HUh1 y0 m0 m1 m2 m3 m4 m5 m6 u0 u1 u2 u3 u4
  go_upto_region 37 with fail
  have hb1 : Below w25.heap.size w25 (w26.alloc (.cells #[.slice aR nR cR, .int .i64 xg.fu, .bool xg.up, .int .i64 xg.n, .int .i64 xg.hv] 29)) := below_new hb _
  have hbz : Below w26.heap.size w26 (w26.alloc (.cells #[.slice aR nR cR, .int .i64 xg.fu, .bool xg.up, .int .i64 xg.n, .int .i64 xg.hv] 29)) := below_new (Below.refl _ _) _
  have HGR := hide (hgR.below hbz)
  have HMR := hide (hmR.below hbz)
  replace bb := hide (blk_below bb.out hb1)
  replace bu := hide (blk_below bu.out hb1)
  replace bm := hide (blk_below bm.out hb1)
  replace bo := hide (blk_below bo.out hb1)
  replace bX := hide (blk_below bX.out hb1)
  replace bN := hide (blk_below bN.out hb1)
  replace bS := hide (blk_below bS.out hb1)
  replace bV := hide (blk_below bV.out hb1)
  replace bZ := hide (blk_below bZ.out hb1)
  replace bT := hide (blk_below bT.out hb1)
  replace HK := hide (HK.out.below hb1)
  replace HX := hide (HX.out.below hb1)
  replace HXl := hide (HXl.out.below hb1)
  replace HN := hide (HN.out.below hb1)
  replace HR := hide (HR.out.below hb1)
  replace HV := hide (HV.out.below hb1)
  replace HII := hide (HII.out.below hb1)
  replace hw := hw.trans (hb1.mono hw.size)
  have bR := hide (heap_alloc_last w26 (.cells #[.slice aR nR cR, .int .i64 xg.fu, .bool xg.up, .int .i64 xg.n, .int .i64 xg.hv] 29))
  clear hb hb1 hbz
  clear hgR hmR
  generalize w26.alloc (.cells #[.slice aR nR cR, .int .i64 xg.fu, .bool xg.up, .int .i64 xg.n, .int .i64 xg.hv] 29) = W26 at *
  generalize w26.heap.size = RB at *
  have HSm := hide (sameUnit_any xg ax nx cx xg aR nR cR W26 HX.out HGR.out)
  rw [sameU_self] at HSm
  unfold unv at HSm
  obtain ⟨v0, v1, v2, v3, v4⟩ := cl5 bX.out
  obtain ⟨z0, z1, z2, z3, z4⟩ := cl5 bR.out
  go_wp2_with fail
  refine (unhide HSm).mono ?_
  rintro e w27 ⟨rfl, hb⟩
  clear HSm v0 v1 v2 v3 v4 z0 z1 z2 z3 z4
  have HSM := hide (sameMessages_any al aL nl nL cl cL xl xl w27 (HXl.out.below hb).msw (HMR.out.below hb).msw hnl hnR (by omega) (by omega))
  rw [eqM_refl] at HSM
  go_wp2_with fail
  refine (unhide HSM).mono ?_
  rintro e w28 ⟨rfl, hb2⟩
  go_wp2_with fail
  go_ret
  exact ⟨rfl, hw.trans ((hb.trans (hb2.mono hb.size)).mono hw.size)⟩
  }
  }
  by_cases y2 : name ≤ 60
  rotate_left
  {
  have g1 : ¬ name < 1 := by omega
  have g2 : 60 < name := by omega
  have HnE : Hid (nuE image name = 3) := by show _ = _; unfold nuE; rw [if_neg (by simpa using zi), if_pos (by unfold inB; simp; omega)]
  have hne : nuE image name ≠ 0 := by rw [HnE.out]; decide
  have e2 := HEn.out hne
  rw [HnE.out] at e2
  cases e2
  clear HEn HEn0 HnE hne HRN
  rw [zi]
  clear zi
  unfold un0 at bN
  have HSm := hide (sameUnit_any un0 an nn cn un0 none 0 0 w13 HN.out ⟨.inl rfl, rfl, Nat.le_refl _, Nat.zero_le _⟩)
  rw [sameU_self] at HSm
  unfold unv un0 at HSm
  obtain ⟨v0, v1, v2, v3, v4⟩ := cl5 bN.out
  obtain ⟨z0, z1, z2, z3, z4⟩ := cl5 bZ.out
  dsimp only at *
  go_wp2_with fail
  refine (unhide HSm).mono ?_
  rintro e w14 ⟨rfl, hb⟩
  clear HSm v0 v1 v2 v3 v4 z0 z1 z2 z3 z4
  replace bb := hide (blk_below bb.out hb)
  replace bu := hide (blk_below bu.out hb)
  replace bm := hide (blk_below bm.out hb)
  replace bo := hide (blk_below bo.out hb)
  replace bX := hide (blk_below bX.out hb)
  replace bN := hide (blk_below bN.out hb)
  replace bS := hide (blk_below bS.out hb)
  replace bV := hide (blk_below bV.out hb)
  replace bZ := hide (blk_below bZ.out hb)
  replace HK := hide (HK.out.below hb)
  replace HX := hide (HX.out.below hb)
  replace HXl := hide (HXl.out.below hb)
  replace HN := hide (HN.out.below hb)
  replace HR := hide (HR.out.below hb)
  replace HV := hide (HV.out.below hb)
  replace hw := hw.trans (hb.mono hw.size)
  clear hb
  go_upto_region 20 with fail
  by_cases zu : unE u = 0
  rotate_left
  {
  have e4 := HEs.out zu
  have e5 := HEr.out zu
  have e6 := HEb.out zu
  cases e4
  cases e5
  cases e6
  have d_u : (unE u != 0) = true := by simpa using zu
  have d_uu : (unE u != unE u) = false := by simp
  have HRl0 := HRl.out
  simp only [List.length_nil] at HRl0
  subst HRl0
  unfold us0 at bS
  unfold un0 at bV
  clear HEs HEs0 HEr HEr0 HEb HEb0 HSt HIm HUh HMr HEo
  have HSm := hide (sameUnit_any un0 av nv cv un0 none 0 0 w14 HV.out ⟨.inl rfl, rfl, Nat.le_refl _, Nat.zero_le _⟩)
  rw [sameU_self] at HSm
  unfold unv un0 at HSm
  have s0 := blk_cell bS.out 0 _ rfl
  have s1 := blk_cell bS.out 1 _ rfl
  have s2 := blk_cell bS.out 2 _ rfl
  obtain ⟨v0, v1, v2, v3, v4⟩ := cl5 bV.out
  obtain ⟨z0, z1, z2, z3, z4⟩ := cl5 bZ.out
  dsimp only at *
  go_wp2_with fail
  refine (unhide HSm).mono ?_
  rintro e w20 ⟨rfl, hb⟩
  clear HSm s0 s1 s2 v0 v1 v2 v3 v4 z0 z1 z2 z3 z4 d_uu
  replace bb := hide (blk_below bb.out hb)
  replace bu := hide (blk_below bu.out hb)
  replace bm := hide (blk_below bm.out hb)
  replace bo := hide (blk_below bo.out hb)
  replace bX := hide (blk_below bX.out hb)
  replace bN := hide (blk_below bN.out hb)
  replace bS := hide (blk_below bS.out hb)
  replace bV := hide (blk_below bV.out hb)
  replace bZ := hide (blk_below bZ.out hb)
  replace HK := hide (HK.out.below hb)
  replace HX := hide (HX.out.below hb)
  replace HXl := hide (HXl.out.below hb)
  replace HN := hide (HN.out.below hb)
  replace HR := hide (HR.out.below hb)
  replace HV := hide (HV.out.below hb)
  replace hw := hw.trans (hb.mono hw.size)
  clear hb
  have y0 := blk_cell bb.out 0 _ rfl
  go_wp2_with fail
  refine (unhide HCB _ hw).mono ?_
  rintro e w21 ⟨rfl, hb⟩
  clear HCB y0
  replace bb := hide (blk_below bb.out hb)
  replace bu := hide (blk_below bu.out hb)
  replace bm := hide (blk_below bm.out hb)
  replace bo := hide (blk_below bo.out hb)
  replace bX := hide (blk_below bX.out hb)
  replace bN := hide (blk_below bN.out hb)
  replace bS := hide (blk_below bS.out hb)
  replace bV := hide (blk_below bV.out hb)
  replace bZ := hide (blk_below bZ.out hb)
  replace HK := hide (HK.out.below hb)
  replace HX := hide (HX.out.below hb)
  replace HXl := hide (HXl.out.below hb)
  replace HN := hide (HN.out.below hb)
  replace HR := hide (HR.out.below hb)
  replace HV := hide (HV.out.below hb)
  replace hw := hw.trans (hb.mono hw.size)
  clear hb
  by_cases zb : bookE ss = 0
  rotate_left
  {
  have HhE : Hid (heE ss u m = bookE ss) := heE_1 zb
  have hne : heE ss u m ≠ 0 := by rw [HhE.out]; exact zb
  have e1 := HEa.out hne
  rw [HhE.out] at e1
  cases e1
  have d_b : (bookE ss != 0) = true := by simpa using zb
  have d_q : (bookE ss == 0) = false := by simpa using zb
  have d_q2 : (bookE ss != 0) = true := by simpa using zb
  have d_q3 : (bookE ss == bookE ss) = true := by simp
  have hnl0 := hnl
  simp only [List.length_nil] at hnl0
  subst hnl0
  unfold un0 at bX
  clear HEa hne HhE zu zb
  have HSm := hide (sameUnit_any un0 ax nx cx un0 none 0 0 w21 HX.out ⟨.inl rfl, rfl, Nat.le_refl _, Nat.zero_le _⟩)
  rw [sameU_self] at HSm
  unfold unv un0 at HSm
  obtain ⟨v0, v1, v2, v3, v4⟩ := cl5 bX.out
  obtain ⟨z0, z1, z2, z3, z4⟩ := cl5 bZ.out
  generalize bookE ss = qq at *
  dsimp only at *
  go_wp2_with fail
  refine (unhide HSm).mono ?_
  rintro e w22 ⟨rfl, hb⟩
  go_wp2_with fail
  go_ret
  exact ⟨rfl, hw.trans (hb.mono hw.size)⟩
  }
  have HhE : Hid (heE ss u m = unE u) := heE_2 zb zu
  have hne : heE ss u m ≠ 0 := by rw [HhE.out]; exact zu
  have e1 := HEa.out hne
  rw [HhE.out] at e1
  cases e1
  have d_b : (bookE ss != 0) = false := by simpa using zb
  have d_q : (unE u == 0) = false := by simpa using zu
  have d_q2 : (unE u != 0) = true := by simpa using zu
  have d_q3 : (unE u == unE u) = true := by simp
  have hnl0 := hnl
  simp only [List.length_nil] at hnl0
  subst hnl0
  unfold un0 at bX
  clear HEa hne HhE zu zb
  have HSm := hide (sameUnit_any un0 ax nx cx un0 none 0 0 w21 HX.out ⟨.inl rfl, rfl, Nat.le_refl _, Nat.zero_le _⟩)
  rw [sameU_self] at HSm
  unfold unv un0 at HSm
  obtain ⟨v0, v1, v2, v3, v4⟩ := cl5 bX.out
  obtain ⟨z0, z1, z2, z3, z4⟩ := cl5 bZ.out
  generalize unE u = qq at *
  dsimp only at *
  go_wp2_with fail
  refine (unhide HSm).mono ?_
  rintro e w22 ⟨rfl, hb⟩
  go_wp2_with fail
  go_ret
  exact ⟨rfl, hw.trans (hb.mono hw.size)⟩
  }
  have e4 := HEs0.out zu
  have e6 := HEb0.out zu
  cases e4
  cases e6
  obtain ⟨hl1, hl2, hl3⟩ := unE_ok zu
  obtain rfl : n = 192 := HLn.out.symm.trans hl2
  have hok := (lchk_parts hl1).2.2.2.1
  have hsl := oth_0 zu
  obtain ⟨sl, hsl0⟩ : ∃ v : Nat, (stOf u.ws).slot = (v : Int) := ⟨(stOf u.ws).slot.toNat, by unfold oth at hsl; omega⟩
  have hsl1 : sl ≤ 1 := by unfold oth at hsl; omega
  have hrr := runs_ref zu hsl0 hsl1
  rw [← HEr0.out zu] at hrr
  have HSt1 := hide (HSt.out hl1)
  have HIm1 := hide (HIm.out rfl hok sl hsl1)
  have HIl : Hid ((refImgT u.ws (64 + 64 * sl)).1.length ≤ 192) := by show _ ≤ _; unfold refImgT; split; simp; rw [List.length_take, List.length_drop, hl2]; omega
  unfold TellsI at HIm1
  generalize refImgT u.ws (64 + 64 * sl) = I at *
  have HSl := hide hsl0
  clear HEs HEs0 HEr HEr0 HEb HEb0 HSt HIm hl1 hl2 hl3 hok hsl hsl1 hsl0
  obtain ⟨T, hTT⟩ : ∃ T, T = stOf u.ws := ⟨_, rfl⟩
  rw [← hTT] at bS HSt1 HSl
  clear hTT
  have d_u : (unE u != 0) = false := by rw [zu]; rfl
  obtain ⟨u0, u1, u2, u3, u4⟩ := cl5 bu.out
  go_wp2_with fail
  refine (unhide HSt1 _ hw).mono ?_
  rintro e w20 ⟨rfl, hb⟩
  clear HSt1 u0 u1 u2 u3 u4
  go_upto_region 24 with fail
  have hb1 : Below w14.heap.size w14 (w20.alloc (.cells #[.int .i64 T.slot, .int .i64 T.by', .int .i64 T.rdy] 40)) := below_new hb _
  have hbz : Below w20.heap.size w20 (w20.alloc (.cells #[.int .i64 T.slot, .int .i64 T.by', .int .i64 T.rdy] 40)) := below_new (Below.refl _ _) _
  replace bb := hide (blk_below bb.out hb1)
  replace bu := hide (blk_below bu.out hb1)
  replace bm := hide (blk_below bm.out hb1)
  replace bo := hide (blk_below bo.out hb1)
  replace bX := hide (blk_below bX.out hb1)
  replace bN := hide (blk_below bN.out hb1)
  replace bS := hide (blk_below bS.out hb1)
  replace bV := hide (blk_below bV.out hb1)
  replace bZ := hide (blk_below bZ.out hb1)
  replace HK := hide (HK.out.below hb1)
  replace HX := hide (HX.out.below hb1)
  replace HXl := hide (HXl.out.below hb1)
  replace HN := hide (HN.out.below hb1)
  replace HR := hide (HR.out.below hb1)
  replace HV := hide (HV.out.below hb1)
  replace hw := hw.trans (hb1.mono hw.size)
  have bT := hide (heap_alloc_last w20 (.cells #[.int .i64 T.slot, .int .i64 T.by', .int .i64 T.rdy] 40))
  clear hb hb1 hbz
  generalize w20.alloc (.cells #[.int .i64 T.slot, .int .i64 T.by', .int .i64 T.rdy] 40) = W20 at *
  generalize w20.heap.size = TB at *
  have u0 := blk_cell bu.out 0 _ rfl
  have u1 := blk_cell bu.out 1 _ rfl
  have t0 := blk_cell bT.out 0 _ rfl
  rw [HSl.out] at t0
  go_wp2_with fail
  refine (unhide HIm1 _ hw).mono ?_
  rintro e w21 ⟨⟨aI, nI, cI, rfl, hii, hni⟩, hb⟩
  clear HIm1 u0 u1 t0 HSl
  replace bb := hide (blk_below bb.out hb)
  replace bu := hide (blk_below bu.out hb)
  replace bm := hide (blk_below bm.out hb)
  replace bo := hide (blk_below bo.out hb)
  replace bX := hide (blk_below bX.out hb)
  replace bN := hide (blk_below bN.out hb)
  replace bS := hide (blk_below bS.out hb)
  replace bV := hide (blk_below bV.out hb)
  replace bZ := hide (blk_below bZ.out hb)
  replace bT := hide (blk_below bT.out hb)
  replace HK := hide (HK.out.below hb)
  replace HX := hide (HX.out.below hb)
  replace HXl := hide (HXl.out.below hb)
  replace HN := hide (HN.out.below hb)
  replace HR := hide (HR.out.below hb)
  replace HV := hide (HV.out.below hb)
  replace hw := hw.trans (hb.mono hw.size)
  clear hb
  have HII := hide hii
  have HIn := hide hni
  clear hii hni
  rcases hrr with ⟨hI, hrr⟩ | ⟨hI, hrr⟩
  {
  cases hrr
  subst hI
  have HQe := hide (equal_at ar aI nr nI cr cI [] [] true w21 HR.out HII.out HRl.out HIn.out rfl (by rw [← HRl.out]; decide) (by rw [← HIn.out]; decide))
  have s0 := blk_cell bS.out 0 _ rfl
  have s1 := blk_cell bS.out 1 _ rfl
  have s2 := blk_cell bS.out 2 _ rfl
  have t0 := blk_cell bT.out 0 _ rfl
  have t1 := blk_cell bT.out 1 _ rfl
  have t2 := blk_cell bT.out 2 _ rfl
  have dT : ∀ x : Int, (x != x) = false := fun x => by simp
  go_wp2_with fail
  refine (unhide HQe).mono ?_
  rintro e w22 ⟨rfl, nd, hw22⟩
  have hb : Below w21.heap.size w21 w22 := by rw [hw22]; exact below_drewN (Below.refl _ _) nd
  clear hw22 HQe s0 s1 s2 t0 t1 t2 dT
  replace bb := hide (blk_below bb.out hb)
  replace bu := hide (blk_below bu.out hb)
  replace bm := hide (blk_below bm.out hb)
  replace bo := hide (blk_below bo.out hb)
  replace bX := hide (blk_below bX.out hb)
  replace bN := hide (blk_below bN.out hb)
  replace bS := hide (blk_below bS.out hb)
  replace bV := hide (blk_below bV.out hb)
  replace bZ := hide (blk_below bZ.out hb)
  replace bT := hide (blk_below bT.out hb)
  replace HK := hide (HK.out.below hb)
  replace HX := hide (HX.out.below hb)
  replace HXl := hide (HXl.out.below hb)
  replace HN := hide (HN.out.below hb)
  replace HR := hide (HR.out.below hb)
  replace HV := hide (HV.out.below hb)
  replace HII := hide (HII.out.below hb)
  replace hw := hw.trans (hb.mono hw.size)
  clear hb
  have HSm := hide (sameUnit_any ⟨u.ws, -1, true, 0, 0⟩ av nv cv ⟨u.ws, -1, true, 0, 0⟩ a 192 c w22 HV.out (HP.out _ hw))
  rw [sameU_self] at HSm
  unfold unv at HSm
  dsimp only at HSm bV
  obtain ⟨v0, v1, v2, v3, v4⟩ := cl5 bV.out
  have u0 := blk_cell bu.out 0 _ rfl
  go_wp2_with fail
  refine (unhide HSm).mono ?_
  rintro e w23 ⟨rfl, hb⟩
  clear HSm v0 v1 v2 v3 v4 u0
  replace bb := hide (blk_below bb.out hb)
  replace bu := hide (blk_below bu.out hb)
  replace bm := hide (blk_below bm.out hb)
  replace bo := hide (blk_below bo.out hb)
  replace bX := hide (blk_below bX.out hb)
  replace bN := hide (blk_below bN.out hb)
  replace bS := hide (blk_below bS.out hb)
  replace bV := hide (blk_below bV.out hb)
  replace bZ := hide (blk_below bZ.out hb)
  replace bT := hide (blk_below bT.out hb)
  replace HK := hide (HK.out.below hb)
  replace HX := hide (HX.out.below hb)
  replace HXl := hide (HXl.out.below hb)
  replace HN := hide (HN.out.below hb)
  replace HR := hide (HR.out.below hb)
  replace HV := hide (HV.out.below hb)
  replace HII := hide (HII.out.below hb)
  replace hw := hw.trans (hb.mono hw.size)
  clear hb
  have y0 := blk_cell bb.out 0 _ rfl
  go_wp2_with fail
  refine (unhide HCB _ hw).mono ?_
  rintro e w24 ⟨rfl, hb⟩
  clear HCB y0
  replace bb := hide (blk_below bb.out hb)
  replace bu := hide (blk_below bu.out hb)
  replace bm := hide (blk_below bm.out hb)
  replace bo := hide (blk_below bo.out hb)
  replace bX := hide (blk_below bX.out hb)
  replace bN := hide (blk_below bN.out hb)
  replace bS := hide (blk_below bS.out hb)
  replace bV := hide (blk_below bV.out hb)
  replace bZ := hide (blk_below bZ.out hb)
  replace bT := hide (blk_below bT.out hb)
  replace HK := hide (HK.out.below hb)
  replace HX := hide (HX.out.below hb)
  replace HXl := hide (HXl.out.below hb)
  replace HN := hide (HN.out.below hb)
  replace HR := hide (HR.out.below hb)
  replace HV := hide (HV.out.below hb)
  replace HII := hide (HII.out.below hb)
  replace hw := hw.trans (hb.mono hw.size)
  clear hb
  by_cases zb : bookE ss = 0
  rotate_left
  {
  have hne : heE ss u m ≠ 0 := by rw [heE_1 zb]; exact zb
  have e1 := HEa.out hne
  rw [heE_1 zb] at e1
  cases e1
  have d_q : (bookE ss == 0) = false := by simpa using zb
  have d_q2 : (bookE ss != 0) = true := by simpa using zb
  have d_q3 : (bookE ss == bookE ss) = true := by simp
  have hnl0 := hnl
  simp only [List.length_nil] at hnl0
  subst hnl0
  unfold un0 at bX
  clear HEa hne HEo HUh
  have HSm := hide (sameUnit_any un0 ax nx cx un0 none 0 0 w24 HX.out ⟨.inl rfl, rfl, Nat.le_refl _, Nat.zero_le _⟩)
  rw [sameU_self] at HSm
  unfold unv un0 at HSm
  obtain ⟨v0, v1, v2, v3, v4⟩ := cl5 bX.out
  obtain ⟨z0, z1, z2, z3, z4⟩ := cl5 bZ.out
  dsimp only at *
  have d_b : (bookE ss != 0) = true := by simpa using zb
  clear zb zu HMr
  generalize bookE ss = qq at *
  go_wp2_with fail
  refine (unhide HSm).mono ?_
  rintro e w25 ⟨rfl, hb⟩
  go_wp2_with fail
  go_ret
  exact ⟨rfl, hw.trans (hb.mono hw.size)⟩
  }
  have d_b : (bookE ss != 0) = false := by simpa using zb
  have d_u2 : (unE u == 0) = true := by rw [zu]; rfl
  obtain ⟨m0, m1, m2, m3, m4, m5, m6⟩ := cl7 bm.out
  go_wp2_with fail
  refine (unhide HMr _ hw).mono ?_
  rintro e w25 ⟨rfl, hb⟩
  clear HMr m0 m1 m2 m3 m4 m5 m6 d_u2
  replace bb := hide (blk_below bb.out hb)
  replace bu := hide (blk_below bu.out hb)
  replace bm := hide (blk_below bm.out hb)
  replace bo := hide (blk_below bo.out hb)
  replace bX := hide (blk_below bX.out hb)
  replace bN := hide (blk_below bN.out hb)
  replace bS := hide (blk_below bS.out hb)
  replace bV := hide (blk_below bV.out hb)
  replace bZ := hide (blk_below bZ.out hb)
  replace bT := hide (blk_below bT.out hb)
  replace HK := hide (HK.out.below hb)
  replace HX := hide (HX.out.below hb)
  replace HXl := hide (HXl.out.below hb)
  replace HN := hide (HN.out.below hb)
  replace HR := hide (HR.out.below hb)
  replace HV := hide (HV.out.below hb)
  replace HII := hide (HII.out.below hb)
  replace hw := hw.trans (hb.mono hw.size)
  clear hb
  by_cases zm : msE m = 0
  rotate_left
  {
  have hne : heE ss u m ≠ 0 := by rw [heE_3 zb zu]; exact zm
  have e1 := HEa.out hne
  rw [heE_3 zb zu] at e1
  cases e1
  have d_q : (msE m == 0) = false := by simpa using zm
  have d_q2 : (msE m != 0) = true := by simpa using zm
  have d_q3 : (msE m == msE m) = true := by simp
  have hnl0 := hnl
  simp only [List.length_nil] at hnl0
  subst hnl0
  unfold un0 at bX
  clear HEa hne HEo HUh
  have HSm := hide (sameUnit_any un0 ax nx cx un0 none 0 0 w25 HX.out ⟨.inl rfl, rfl, Nat.le_refl _, Nat.zero_le _⟩)
  rw [sameU_self] at HSm
  unfold unv un0 at HSm
  obtain ⟨v0, v1, v2, v3, v4⟩ := cl5 bX.out
  obtain ⟨z0, z1, z2, z3, z4⟩ := cl5 bZ.out
  dsimp only at *
  clear zb zu zm
  generalize msE m = qq at *
  go_wp2_with fail
  refine (unhide HSm).mono ?_
  rintro e w26 ⟨rfl, hb⟩
  go_wp2_with fail
  go_ret
  exact ⟨rfl, hw.trans (hb.mono hw.size)⟩
  }
  have e1 := HEo.out ((heE_3 zb zu).trans zm)
  cases e1
  have d_m : (msE m != 0) = false := by rw [zm]; rfl
  have HUh1 := hide (HUh.out (by trivial) zb zu zm)
  clear HUh HEa HEo zb zu zm
  unfold RefAns unv at HUh1
  generalize hearS ss u m = R9 at *
  obtain ⟨xg, xl⟩ := R9
  dsimp only at *
  obtain ⟨m0, m1, m2, m3, m4, m5, m6⟩ := cl7 bm.out
  have y0 := blk_cell bb.out 0 _ rfl
  obtain ⟨u0, u1, u2, u3, u4⟩ := cl5 bu.out
  go_wp2_with fail
  refine (unhide HUh1 _ hw).mono ?_
  rintro e w26 ⟨⟨aR, nR, cR, aL, nL, cL, rfl, hgR, hmR, hnR, hcR, hc9⟩, hb⟩
  clear HUh1 y0 m0 m1 m2 m3 m4 m5 m6 u0 u1 u2 u3 u4
  go_upto_region 37 with fail
  have hb1 : Below w25.heap.size w25 (w26.alloc (.cells #[.slice aR nR cR, .int .i64 xg.fu, .bool xg.up, .int .i64 xg.n, .int .i64 xg.hv] 29)) := below_new hb _
  have hbz : Below w26.heap.size w26 (w26.alloc (.cells #[.slice aR nR cR, .int .i64 xg.fu, .bool xg.up, .int .i64 xg.n, .int .i64 xg.hv] 29)) := below_new (Below.refl _ _) _
  have HGR := hide (hgR.below hbz)
  have HMR := hide (hmR.below hbz)
  replace bb := hide (blk_below bb.out hb1)
  replace bu := hide (blk_below bu.out hb1)
  replace bm := hide (blk_below bm.out hb1)
  replace bo := hide (blk_below bo.out hb1)
  replace bX := hide (blk_below bX.out hb1)
  replace bN := hide (blk_below bN.out hb1)
  replace bS := hide (blk_below bS.out hb1)
  replace bV := hide (blk_below bV.out hb1)
  replace bZ := hide (blk_below bZ.out hb1)
  replace bT := hide (blk_below bT.out hb1)
  replace HK := hide (HK.out.below hb1)
  replace HX := hide (HX.out.below hb1)
  replace HXl := hide (HXl.out.below hb1)
  replace HN := hide (HN.out.below hb1)
  replace HR := hide (HR.out.below hb1)
  replace HV := hide (HV.out.below hb1)
  replace HII := hide (HII.out.below hb1)
  replace hw := hw.trans (hb1.mono hw.size)
  have bR := hide (heap_alloc_last w26 (.cells #[.slice aR nR cR, .int .i64 xg.fu, .bool xg.up, .int .i64 xg.n, .int .i64 xg.hv] 29))
  clear hb hb1 hbz
  clear hgR hmR
  generalize w26.alloc (.cells #[.slice aR nR cR, .int .i64 xg.fu, .bool xg.up, .int .i64 xg.n, .int .i64 xg.hv] 29) = W26 at *
  generalize w26.heap.size = RB at *
  have HSm := hide (sameUnit_any xg ax nx cx xg aR nR cR W26 HX.out HGR.out)
  rw [sameU_self] at HSm
  unfold unv at HSm
  obtain ⟨v0, v1, v2, v3, v4⟩ := cl5 bX.out
  obtain ⟨z0, z1, z2, z3, z4⟩ := cl5 bR.out
  go_wp2_with fail
  refine (unhide HSm).mono ?_
  rintro e w27 ⟨rfl, hb⟩
  clear HSm v0 v1 v2 v3 v4 z0 z1 z2 z3 z4
  have HSM := hide (sameMessages_any al aL nl nL cl cL xl xl w27 (HXl.out.below hb).msw (HMR.out.below hb).msw hnl hnR (by omega) (by omega))
  rw [eqM_refl] at HSM
  go_wp2_with fail
  refine (unhide HSM).mono ?_
  rintro e w28 ⟨rfl, hb2⟩
  go_wp2_with fail
  go_ret
  exact ⟨rfl, hw.trans ((hb.trans (hb2.mono hb.size)).mono hw.size)⟩
  }
  {
  cases hrr
  have d_k : (I.2 != 0) = true := by simpa using hI
  have d_k2 : (I.2 != I.2) = false := by simp
  have HQe := hide (equal_at ar aI nr nI cr cI I.1 I.1 true w21 HR.out HII.out HRl.out HIn.out (by unfold eqL; simp) (by rw [← HRl.out]; have h := HIl.out; unfold maxLen; omega) (by rw [← HIn.out]; have h := HIl.out; unfold maxLen; omega))
  clear hI
  have s0 := blk_cell bS.out 0 _ rfl
  have s1 := blk_cell bS.out 1 _ rfl
  have s2 := blk_cell bS.out 2 _ rfl
  have t0 := blk_cell bT.out 0 _ rfl
  have t1 := blk_cell bT.out 1 _ rfl
  have t2 := blk_cell bT.out 2 _ rfl
  have dT : ∀ x : Int, (x != x) = false := fun x => by simp
  go_wp2_with fail
  refine (unhide HQe).mono ?_
  rintro e w22 ⟨rfl, nd, hw22⟩
  have hb : Below w21.heap.size w21 w22 := by rw [hw22]; exact below_drewN (Below.refl _ _) nd
  clear hw22 HQe s0 s1 s2 t0 t1 t2 dT d_k d_k2
  replace bb := hide (blk_below bb.out hb)
  replace bu := hide (blk_below bu.out hb)
  replace bm := hide (blk_below bm.out hb)
  replace bo := hide (blk_below bo.out hb)
  replace bX := hide (blk_below bX.out hb)
  replace bN := hide (blk_below bN.out hb)
  replace bS := hide (blk_below bS.out hb)
  replace bV := hide (blk_below bV.out hb)
  replace bZ := hide (blk_below bZ.out hb)
  replace bT := hide (blk_below bT.out hb)
  replace HK := hide (HK.out.below hb)
  replace HX := hide (HX.out.below hb)
  replace HXl := hide (HXl.out.below hb)
  replace HN := hide (HN.out.below hb)
  replace HR := hide (HR.out.below hb)
  replace HV := hide (HV.out.below hb)
  replace HII := hide (HII.out.below hb)
  replace hw := hw.trans (hb.mono hw.size)
  clear hb
  have HSm := hide (sameUnit_any ⟨u.ws, -1, true, 0, 0⟩ av nv cv ⟨u.ws, -1, true, 0, 0⟩ a 192 c w22 HV.out (HP.out _ hw))
  rw [sameU_self] at HSm
  unfold unv at HSm
  dsimp only at HSm bV
  obtain ⟨v0, v1, v2, v3, v4⟩ := cl5 bV.out
  have u0 := blk_cell bu.out 0 _ rfl
  go_wp2_with fail
  refine (unhide HSm).mono ?_
  rintro e w23 ⟨rfl, hb⟩
  clear HSm v0 v1 v2 v3 v4 u0
  replace bb := hide (blk_below bb.out hb)
  replace bu := hide (blk_below bu.out hb)
  replace bm := hide (blk_below bm.out hb)
  replace bo := hide (blk_below bo.out hb)
  replace bX := hide (blk_below bX.out hb)
  replace bN := hide (blk_below bN.out hb)
  replace bS := hide (blk_below bS.out hb)
  replace bV := hide (blk_below bV.out hb)
  replace bZ := hide (blk_below bZ.out hb)
  replace bT := hide (blk_below bT.out hb)
  replace HK := hide (HK.out.below hb)
  replace HX := hide (HX.out.below hb)
  replace HXl := hide (HXl.out.below hb)
  replace HN := hide (HN.out.below hb)
  replace HR := hide (HR.out.below hb)
  replace HV := hide (HV.out.below hb)
  replace HII := hide (HII.out.below hb)
  replace hw := hw.trans (hb.mono hw.size)
  clear hb
  have y0 := blk_cell bb.out 0 _ rfl
  go_wp2_with fail
  refine (unhide HCB _ hw).mono ?_
  rintro e w24 ⟨rfl, hb⟩
  clear HCB y0
  replace bb := hide (blk_below bb.out hb)
  replace bu := hide (blk_below bu.out hb)
  replace bm := hide (blk_below bm.out hb)
  replace bo := hide (blk_below bo.out hb)
  replace bX := hide (blk_below bX.out hb)
  replace bN := hide (blk_below bN.out hb)
  replace bS := hide (blk_below bS.out hb)
  replace bV := hide (blk_below bV.out hb)
  replace bZ := hide (blk_below bZ.out hb)
  replace bT := hide (blk_below bT.out hb)
  replace HK := hide (HK.out.below hb)
  replace HX := hide (HX.out.below hb)
  replace HXl := hide (HXl.out.below hb)
  replace HN := hide (HN.out.below hb)
  replace HR := hide (HR.out.below hb)
  replace HV := hide (HV.out.below hb)
  replace HII := hide (HII.out.below hb)
  replace hw := hw.trans (hb.mono hw.size)
  clear hb
  by_cases zb : bookE ss = 0
  rotate_left
  {
  have hne : heE ss u m ≠ 0 := by rw [heE_1 zb]; exact zb
  have e1 := HEa.out hne
  rw [heE_1 zb] at e1
  cases e1
  have d_q : (bookE ss == 0) = false := by simpa using zb
  have d_q2 : (bookE ss != 0) = true := by simpa using zb
  have d_q3 : (bookE ss == bookE ss) = true := by simp
  have hnl0 := hnl
  simp only [List.length_nil] at hnl0
  subst hnl0
  unfold un0 at bX
  clear HEa hne HEo HUh
  have HSm := hide (sameUnit_any un0 ax nx cx un0 none 0 0 w24 HX.out ⟨.inl rfl, rfl, Nat.le_refl _, Nat.zero_le _⟩)
  rw [sameU_self] at HSm
  unfold unv un0 at HSm
  obtain ⟨v0, v1, v2, v3, v4⟩ := cl5 bX.out
  obtain ⟨z0, z1, z2, z3, z4⟩ := cl5 bZ.out
  dsimp only at *
  have d_b : (bookE ss != 0) = true := by simpa using zb
  clear zb zu HMr
  generalize bookE ss = qq at *
  go_wp2_with fail
  refine (unhide HSm).mono ?_
  rintro e w25 ⟨rfl, hb⟩
  go_wp2_with fail
  go_ret
  exact ⟨rfl, hw.trans (hb.mono hw.size)⟩
  }
  have d_b : (bookE ss != 0) = false := by simpa using zb
  have d_u2 : (unE u == 0) = true := by rw [zu]; rfl
  obtain ⟨m0, m1, m2, m3, m4, m5, m6⟩ := cl7 bm.out
  go_wp2_with fail
  refine (unhide HMr _ hw).mono ?_
  rintro e w25 ⟨rfl, hb⟩
  clear HMr m0 m1 m2 m3 m4 m5 m6 d_u2
  replace bb := hide (blk_below bb.out hb)
  replace bu := hide (blk_below bu.out hb)
  replace bm := hide (blk_below bm.out hb)
  replace bo := hide (blk_below bo.out hb)
  replace bX := hide (blk_below bX.out hb)
  replace bN := hide (blk_below bN.out hb)
  replace bS := hide (blk_below bS.out hb)
  replace bV := hide (blk_below bV.out hb)
  replace bZ := hide (blk_below bZ.out hb)
  replace bT := hide (blk_below bT.out hb)
  replace HK := hide (HK.out.below hb)
  replace HX := hide (HX.out.below hb)
  replace HXl := hide (HXl.out.below hb)
  replace HN := hide (HN.out.below hb)
  replace HR := hide (HR.out.below hb)
  replace HV := hide (HV.out.below hb)
  replace HII := hide (HII.out.below hb)
  replace hw := hw.trans (hb.mono hw.size)
  clear hb
  by_cases zm : msE m = 0
  rotate_left
  {
  have hne : heE ss u m ≠ 0 := by rw [heE_3 zb zu]; exact zm
  have e1 := HEa.out hne
  rw [heE_3 zb zu] at e1
  cases e1
  have d_q : (msE m == 0) = false := by simpa using zm
  have d_q2 : (msE m != 0) = true := by simpa using zm
  have d_q3 : (msE m == msE m) = true := by simp
  have hnl0 := hnl
  simp only [List.length_nil] at hnl0
  subst hnl0
  unfold un0 at bX
  clear HEa hne HEo HUh
  have HSm := hide (sameUnit_any un0 ax nx cx un0 none 0 0 w25 HX.out ⟨.inl rfl, rfl, Nat.le_refl _, Nat.zero_le _⟩)
  rw [sameU_self] at HSm
  unfold unv un0 at HSm
  obtain ⟨v0, v1, v2, v3, v4⟩ := cl5 bX.out
  obtain ⟨z0, z1, z2, z3, z4⟩ := cl5 bZ.out
  dsimp only at *
  clear zb zu zm
  generalize msE m = qq at *
  go_wp2_with fail
  refine (unhide HSm).mono ?_
  rintro e w26 ⟨rfl, hb⟩
  go_wp2_with fail
  go_ret
  exact ⟨rfl, hw.trans (hb.mono hw.size)⟩
  }
  have e1 := HEo.out ((heE_3 zb zu).trans zm)
  cases e1
  have d_m : (msE m != 0) = false := by rw [zm]; rfl
  have HUh1 := hide (HUh.out (by trivial) zb zu zm)
  clear HUh HEa HEo zb zu zm
  unfold RefAns unv at HUh1
  generalize hearS ss u m = R9 at *
  obtain ⟨xg, xl⟩ := R9
  dsimp only at *
  obtain ⟨m0, m1, m2, m3, m4, m5, m6⟩ := cl7 bm.out
  have y0 := blk_cell bb.out 0 _ rfl
  obtain ⟨u0, u1, u2, u3, u4⟩ := cl5 bu.out
  go_wp2_with fail
  refine (unhide HUh1 _ hw).mono ?_
  rintro e w26 ⟨⟨aR, nR, cR, aL, nL, cL, rfl, hgR, hmR, hnR, hcR, hc9⟩, hb⟩
  clear HUh1 y0 m0 m1 m2 m3 m4 m5 m6 u0 u1 u2 u3 u4
  go_upto_region 37 with fail
  have hb1 : Below w25.heap.size w25 (w26.alloc (.cells #[.slice aR nR cR, .int .i64 xg.fu, .bool xg.up, .int .i64 xg.n, .int .i64 xg.hv] 29)) := below_new hb _
  have hbz : Below w26.heap.size w26 (w26.alloc (.cells #[.slice aR nR cR, .int .i64 xg.fu, .bool xg.up, .int .i64 xg.n, .int .i64 xg.hv] 29)) := below_new (Below.refl _ _) _
  have HGR := hide (hgR.below hbz)
  have HMR := hide (hmR.below hbz)
  replace bb := hide (blk_below bb.out hb1)
  replace bu := hide (blk_below bu.out hb1)
  replace bm := hide (blk_below bm.out hb1)
  replace bo := hide (blk_below bo.out hb1)
  replace bX := hide (blk_below bX.out hb1)
  replace bN := hide (blk_below bN.out hb1)
  replace bS := hide (blk_below bS.out hb1)
  replace bV := hide (blk_below bV.out hb1)
  replace bZ := hide (blk_below bZ.out hb1)
  replace bT := hide (blk_below bT.out hb1)
  replace HK := hide (HK.out.below hb1)
  replace HX := hide (HX.out.below hb1)
  replace HXl := hide (HXl.out.below hb1)
  replace HN := hide (HN.out.below hb1)
  replace HR := hide (HR.out.below hb1)
  replace HV := hide (HV.out.below hb1)
  replace HII := hide (HII.out.below hb1)
  replace hw := hw.trans (hb1.mono hw.size)
  have bR := hide (heap_alloc_last w26 (.cells #[.slice aR nR cR, .int .i64 xg.fu, .bool xg.up, .int .i64 xg.n, .int .i64 xg.hv] 29))
  clear hb hb1 hbz
  clear hgR hmR
  generalize w26.alloc (.cells #[.slice aR nR cR, .int .i64 xg.fu, .bool xg.up, .int .i64 xg.n, .int .i64 xg.hv] 29) = W26 at *
  generalize w26.heap.size = RB at *
  have HSm := hide (sameUnit_any xg ax nx cx xg aR nR cR W26 HX.out HGR.out)
  rw [sameU_self] at HSm
  unfold unv at HSm
  obtain ⟨v0, v1, v2, v3, v4⟩ := cl5 bX.out
  obtain ⟨z0, z1, z2, z3, z4⟩ := cl5 bR.out
  go_wp2_with fail
  refine (unhide HSm).mono ?_
  rintro e w27 ⟨rfl, hb⟩
  clear HSm v0 v1 v2 v3 v4 z0 z1 z2 z3 z4
  have HSM := hide (sameMessages_any al aL nl nL cl cL xl xl w27 (HXl.out.below hb).msw (HMR.out.below hb).msw hnl hnR (by omega) (by omega))
  rw [eqM_refl] at HSM
  go_wp2_with fail
  refine (unhide HSM).mono ?_
  rintro e w28 ⟨rfl, hb2⟩
  go_wp2_with fail
  go_ret
  exact ⟨rfl, hw.trans ((hb.trans (hb2.mono hb.size)).mono hw.size)⟩
  }
  }
  have HnE : Hid (nuE image name = 0) := by show _ = _; unfold nuE; rw [if_neg (by simpa using zi), if_neg (by unfold inB; simp; omega)]
  obtain ⟨hi0, hi1, e2⟩ := HEn0.out HnE.out
  cases e2
  have HRN1 := hide (HRN.out hi0 hi1)
  clear HEn HEn0 HnE HRN hi0 hi1
  rw [zi]
  clear zi
  have g1 : ¬ name < 1 := by omega
  have g2 : ¬ 60 < name := by omega
  go_upto_region 18 with fail
  clear g1 g2 y1 y2
  dsimp only at bN
  have hk0 : Below w13.heap.size w13 w13.drew := (Below.refl _ _).drew
  refine wp_region_held_drew (S := fun W' => (W'.cell? ⟨NB, 0, none⟩ = some (.slice an nn cn) ∧ W'.cell? ⟨NB, 1, none⟩ = some (.int .i64 (-1)) ∧ W'.cell? ⟨NB, 2, none⟩ = some (.bool true) ∧ W'.cell? ⟨NB, 3, none⟩ = some (.int .i64 0) ∧ W'.cell? ⟨NB, 4, none⟩ = some (.int .i64 0)) ∧ Below w13.heap.size w13 W') (by kernel_rfl) (⟨say5 bN.out (hk0), hk0⟩) ?_
  intro hHeld
  refine Htake (i := 0) (v := ?_) (by rfl) (by kernel_rfl) (by exact fun _ _ _ h => h) (Or.inl ⟨by rfl, ?_⟩) (by assumption) ?_
  rotate_left
  {
  intro w hSw
  try dsimp only at hSw
  go_simp
  try with_reducible rfl
  }
  try simp only [sq]
  refine Htake (i := 1) (v := ?_) (by rfl) (by kernel_rfl) (by exact fun _ _ _ h => h) (Or.inl ⟨by rfl, ?_⟩) (by assumption) ?_
  rotate_left
  {
  intro w hSw
  try dsimp only at hSw
  go_simp
  try with_reducible rfl
  }
  try simp only [sq]
  refine Htake (i := 2) (v := ?_) (by rfl) (by kernel_rfl) (by exact fun _ _ _ h => h) (Or.inl ⟨by rfl, ?_⟩) (by assumption) ?_
  rotate_left
  {
  intro w hSw
  try dsimp only at hSw
  go_simp
  try with_reducible rfl
  }
  try simp only [sq]
  refine Htake (i := 3) (v := ?_) (by rfl) (by kernel_rfl) (by exact fun _ _ _ h => h) (Or.inl ⟨by rfl, ?_⟩) (by assumption) ?_
  rotate_left
  {
  intro w hSw
  try dsimp only at hSw
  go_simp
  try with_reducible rfl
  }
  try simp only [sq]
  refine Htake (i := 4) (v := ?_) (by rfl) (by kernel_rfl) (by exact fun _ _ _ h => h) (Or.inl ⟨by rfl, ?_⟩) (by assumption) ?_
  rotate_left
  {
  intro w hSw
  try dsimp only at hSw
  go_simp
  try with_reducible rfl
  }
  try simp only [sq]
  refine Htake (i := 5) (v := ?_) (by rfl) (by kernel_rfl) (by exact fun _ _ _ h => h) (Or.inl ⟨by rfl, ?_⟩) (by assumption) ?_
  rotate_left
  {
  intro w hSw
  try dsimp only at hSw
  go_simp
  try with_reducible rfl
  }
  try simp only [sq]
  refine wpAnyH_ready (rs := [6]) (by kernel_rfl) (by simp) ?_
  refine AllReadyH.cons (by rfl) (fun K hK => ?_) AllReadyH.nil
  go_simp
  refine (unhide HRN1 _ (hw.trans (hk0.mono hw.size))).mono ?_
  rintro e w14 ⟨⟨bq, kq, dq, rfl, hgq⟩, hb⟩
  have hk1 := hk0.trans (hb.mono hk0.size)
  go_wp2_with fail
  refine hK.out _ _ (⟨say5 bN.out (hk1), hk1⟩) (fun hHeld2 => ?_)
  clear hK K hHeld
  try simp only [sq]
  have hHeld := hHeld2
  clear hHeld2
  have HSm := hide (sameUnit_any ⟨nuW image name, -1, true, 0, 0⟩ an nn cn ⟨nuW image name, -1, true, 0, 0⟩ bq kq dq w14 (HN.out.below hk1) hgq)
  rw [sameU_self] at HSm
  unfold unv at HSm
  dsimp only at HSm
  refine wpAnyH_ready (rs := [7]) (by kernel_rfl) (by simp) ?_
  refine AllReadyH.cons (by rfl) (fun K hK => ?_) AllReadyH.nil
  go_simp
  refine (unhide HSm).mono ?_
  rintro e w15 ⟨rfl, hb2⟩
  have hk2 := hk1.trans (hb2.mono hk1.size)
  go_wp2_with fail
  refine hK.out _ _ (⟨say5 bN.out (hk2), hk2⟩) (fun hHeld2 => ?_)
  clear hK K hHeld
  try simp only [sq]
  have hHeld := hHeld2
  clear hHeld2
  refine Htake (i := 8) (v := ?_) (by rfl) (by kernel_rfl) (by exact fun _ _ _ h => h) (Or.inl ⟨by rfl, ?_⟩) (by assumption) ?_
  rotate_left
  {
  intro w hSw
  try dsimp only at hSw
  go_simp
  try with_reducible rfl
  }
  try simp only [sq]
  refine Htake (i := 9) (v := ?_) (by rfl) (by kernel_rfl) (by exact fun _ _ _ h => h) (Or.inl ⟨by rfl, ?_⟩) (by assumption) ?_
  rotate_left
  {
  intro w hSw
  try dsimp only at hSw
  go_simp
  try with_reducible rfl
  }
  try simp only [sq]
  refine wpAnyH_done (by kernel_rfl) ?_ _
  clear hHeld HSm HRN1 hgq hb hb2 hk0 hk1
  replace bb := hide (blk_below bb.out hk2)
  replace bu := hide (blk_below bu.out hk2)
  replace bm := hide (blk_below bm.out hk2)
  replace bo := hide (blk_below bo.out hk2)
  replace bX := hide (blk_below bX.out hk2)
  replace bN := hide (blk_below bN.out hk2)
  replace bS := hide (blk_below bS.out hk2)
  replace bV := hide (blk_below bV.out hk2)
  replace bZ := hide (blk_below bZ.out hk2)
  replace HK := hide (HK.out.below hk2)
  replace HX := hide (HX.out.below hk2)
  replace HXl := hide (HXl.out.below hk2)
  replace HN := hide (HN.out.below hk2)
  replace HR := hide (HR.out.below hk2)
  replace HV := hide (HV.out.below hk2)
  replace hw := hw.trans (hk2.mono hw.size)
  clear hk2
  go_upto_region 20 with fail
  by_cases zu : unE u = 0
  rotate_left
  {
  have e4 := HEs.out zu
  have e5 := HEr.out zu
  have e6 := HEb.out zu
  cases e4
  cases e5
  cases e6
  have d_u : (unE u != 0) = true := by simpa using zu
  have d_uu : (unE u != unE u) = false := by simp
  have HRl0 := HRl.out
  simp only [List.length_nil] at HRl0
  subst HRl0
  unfold us0 at bS
  unfold un0 at bV
  clear HEs HEs0 HEr HEr0 HEb HEb0 HSt HIm HUh HMr HEo
  have HSm := hide (sameUnit_any un0 av nv cv un0 none 0 0 w15 HV.out ⟨.inl rfl, rfl, Nat.le_refl _, Nat.zero_le _⟩)
  rw [sameU_self] at HSm
  unfold unv un0 at HSm
  have s0 := blk_cell bS.out 0 _ rfl
  have s1 := blk_cell bS.out 1 _ rfl
  have s2 := blk_cell bS.out 2 _ rfl
  obtain ⟨v0, v1, v2, v3, v4⟩ := cl5 bV.out
  obtain ⟨z0, z1, z2, z3, z4⟩ := cl5 bZ.out
  dsimp only at *
  go_wp2_with fail
  refine (unhide HSm).mono ?_
  rintro e w20 ⟨rfl, hb⟩
  clear HSm s0 s1 s2 v0 v1 v2 v3 v4 z0 z1 z2 z3 z4 d_uu
  replace bb := hide (blk_below bb.out hb)
  replace bu := hide (blk_below bu.out hb)
  replace bm := hide (blk_below bm.out hb)
  replace bo := hide (blk_below bo.out hb)
  replace bX := hide (blk_below bX.out hb)
  replace bN := hide (blk_below bN.out hb)
  replace bS := hide (blk_below bS.out hb)
  replace bV := hide (blk_below bV.out hb)
  replace bZ := hide (blk_below bZ.out hb)
  replace HK := hide (HK.out.below hb)
  replace HX := hide (HX.out.below hb)
  replace HXl := hide (HXl.out.below hb)
  replace HN := hide (HN.out.below hb)
  replace HR := hide (HR.out.below hb)
  replace HV := hide (HV.out.below hb)
  replace hw := hw.trans (hb.mono hw.size)
  clear hb
  have y0 := blk_cell bb.out 0 _ rfl
  go_wp2_with fail
  refine (unhide HCB _ hw).mono ?_
  rintro e w21 ⟨rfl, hb⟩
  clear HCB y0
  replace bb := hide (blk_below bb.out hb)
  replace bu := hide (blk_below bu.out hb)
  replace bm := hide (blk_below bm.out hb)
  replace bo := hide (blk_below bo.out hb)
  replace bX := hide (blk_below bX.out hb)
  replace bN := hide (blk_below bN.out hb)
  replace bS := hide (blk_below bS.out hb)
  replace bV := hide (blk_below bV.out hb)
  replace bZ := hide (blk_below bZ.out hb)
  replace HK := hide (HK.out.below hb)
  replace HX := hide (HX.out.below hb)
  replace HXl := hide (HXl.out.below hb)
  replace HN := hide (HN.out.below hb)
  replace HR := hide (HR.out.below hb)
  replace HV := hide (HV.out.below hb)
  replace hw := hw.trans (hb.mono hw.size)
  clear hb
  by_cases zb : bookE ss = 0
  rotate_left
  {
  have HhE : Hid (heE ss u m = bookE ss) := heE_1 zb
  have hne : heE ss u m ≠ 0 := by rw [HhE.out]; exact zb
  have e1 := HEa.out hne
  rw [HhE.out] at e1
  cases e1
  have d_b : (bookE ss != 0) = true := by simpa using zb
  have d_q : (bookE ss == 0) = false := by simpa using zb
  have d_q2 : (bookE ss != 0) = true := by simpa using zb
  have d_q3 : (bookE ss == bookE ss) = true := by simp
  have hnl0 := hnl
  simp only [List.length_nil] at hnl0
  subst hnl0
  unfold un0 at bX
  clear HEa hne HhE zu zb
  have HSm := hide (sameUnit_any un0 ax nx cx un0 none 0 0 w21 HX.out ⟨.inl rfl, rfl, Nat.le_refl _, Nat.zero_le _⟩)
  rw [sameU_self] at HSm
  unfold unv un0 at HSm
  obtain ⟨v0, v1, v2, v3, v4⟩ := cl5 bX.out
  obtain ⟨z0, z1, z2, z3, z4⟩ := cl5 bZ.out
  generalize bookE ss = qq at *
  dsimp only at *
  go_wp2_with fail
  refine (unhide HSm).mono ?_
  rintro e w22 ⟨rfl, hb⟩
  go_wp2_with fail
  go_ret
  exact ⟨rfl, hw.trans (hb.mono hw.size)⟩
  }
  have HhE : Hid (heE ss u m = unE u) := heE_2 zb zu
  have hne : heE ss u m ≠ 0 := by rw [HhE.out]; exact zu
  have e1 := HEa.out hne
  rw [HhE.out] at e1
  cases e1
  have d_b : (bookE ss != 0) = false := by simpa using zb
  have d_q : (unE u == 0) = false := by simpa using zu
  have d_q2 : (unE u != 0) = true := by simpa using zu
  have d_q3 : (unE u == unE u) = true := by simp
  have hnl0 := hnl
  simp only [List.length_nil] at hnl0
  subst hnl0
  unfold un0 at bX
  clear HEa hne HhE zu zb
  have HSm := hide (sameUnit_any un0 ax nx cx un0 none 0 0 w21 HX.out ⟨.inl rfl, rfl, Nat.le_refl _, Nat.zero_le _⟩)
  rw [sameU_self] at HSm
  unfold unv un0 at HSm
  obtain ⟨v0, v1, v2, v3, v4⟩ := cl5 bX.out
  obtain ⟨z0, z1, z2, z3, z4⟩ := cl5 bZ.out
  generalize unE u = qq at *
  dsimp only at *
  go_wp2_with fail
  refine (unhide HSm).mono ?_
  rintro e w22 ⟨rfl, hb⟩
  go_wp2_with fail
  go_ret
  exact ⟨rfl, hw.trans (hb.mono hw.size)⟩
  }
  have e4 := HEs0.out zu
  have e6 := HEb0.out zu
  cases e4
  cases e6
  obtain ⟨hl1, hl2, hl3⟩ := unE_ok zu
  obtain rfl : n = 192 := HLn.out.symm.trans hl2
  have hok := (lchk_parts hl1).2.2.2.1
  have hsl := oth_0 zu
  obtain ⟨sl, hsl0⟩ : ∃ v : Nat, (stOf u.ws).slot = (v : Int) := ⟨(stOf u.ws).slot.toNat, by unfold oth at hsl; omega⟩
  have hsl1 : sl ≤ 1 := by unfold oth at hsl; omega
  have hrr := runs_ref zu hsl0 hsl1
  rw [← HEr0.out zu] at hrr
  have HSt1 := hide (HSt.out hl1)
  have HIm1 := hide (HIm.out rfl hok sl hsl1)
  have HIl : Hid ((refImgT u.ws (64 + 64 * sl)).1.length ≤ 192) := by show _ ≤ _; unfold refImgT; split; simp; rw [List.length_take, List.length_drop, hl2]; omega
  unfold TellsI at HIm1
  generalize refImgT u.ws (64 + 64 * sl) = I at *
  have HSl := hide hsl0
  clear HEs HEs0 HEr HEr0 HEb HEb0 HSt HIm hl1 hl2 hl3 hok hsl hsl1 hsl0
  obtain ⟨T, hTT⟩ : ∃ T, T = stOf u.ws := ⟨_, rfl⟩
  rw [← hTT] at bS HSt1 HSl
  clear hTT
  have d_u : (unE u != 0) = false := by rw [zu]; rfl
  obtain ⟨u0, u1, u2, u3, u4⟩ := cl5 bu.out
  go_wp2_with fail
  refine (unhide HSt1 _ hw).mono ?_
  rintro e w20 ⟨rfl, hb⟩
  clear HSt1 u0 u1 u2 u3 u4
  go_upto_region 24 with fail
  have hb1 : Below w15.heap.size w15 (w20.alloc (.cells #[.int .i64 T.slot, .int .i64 T.by', .int .i64 T.rdy] 40)) := below_new hb _
  have hbz : Below w20.heap.size w20 (w20.alloc (.cells #[.int .i64 T.slot, .int .i64 T.by', .int .i64 T.rdy] 40)) := below_new (Below.refl _ _) _
  replace bb := hide (blk_below bb.out hb1)
  replace bu := hide (blk_below bu.out hb1)
  replace bm := hide (blk_below bm.out hb1)
  replace bo := hide (blk_below bo.out hb1)
  replace bX := hide (blk_below bX.out hb1)
  replace bN := hide (blk_below bN.out hb1)
  replace bS := hide (blk_below bS.out hb1)
  replace bV := hide (blk_below bV.out hb1)
  replace bZ := hide (blk_below bZ.out hb1)
  replace HK := hide (HK.out.below hb1)
  replace HX := hide (HX.out.below hb1)
  replace HXl := hide (HXl.out.below hb1)
  replace HN := hide (HN.out.below hb1)
  replace HR := hide (HR.out.below hb1)
  replace HV := hide (HV.out.below hb1)
  replace hw := hw.trans (hb1.mono hw.size)
  have bT := hide (heap_alloc_last w20 (.cells #[.int .i64 T.slot, .int .i64 T.by', .int .i64 T.rdy] 40))
  clear hb hb1 hbz
  generalize w20.alloc (.cells #[.int .i64 T.slot, .int .i64 T.by', .int .i64 T.rdy] 40) = W20 at *
  generalize w20.heap.size = TB at *
  have u0 := blk_cell bu.out 0 _ rfl
  have u1 := blk_cell bu.out 1 _ rfl
  have t0 := blk_cell bT.out 0 _ rfl
  rw [HSl.out] at t0
  go_wp2_with fail
  refine (unhide HIm1 _ hw).mono ?_
  rintro e w21 ⟨⟨aI, nI, cI, rfl, hii, hni⟩, hb⟩
  clear HIm1 u0 u1 t0 HSl
  replace bb := hide (blk_below bb.out hb)
  replace bu := hide (blk_below bu.out hb)
  replace bm := hide (blk_below bm.out hb)
  replace bo := hide (blk_below bo.out hb)
  replace bX := hide (blk_below bX.out hb)
  replace bN := hide (blk_below bN.out hb)
  replace bS := hide (blk_below bS.out hb)
  replace bV := hide (blk_below bV.out hb)
  replace bZ := hide (blk_below bZ.out hb)
  replace bT := hide (blk_below bT.out hb)
  replace HK := hide (HK.out.below hb)
  replace HX := hide (HX.out.below hb)
  replace HXl := hide (HXl.out.below hb)
  replace HN := hide (HN.out.below hb)
  replace HR := hide (HR.out.below hb)
  replace HV := hide (HV.out.below hb)
  replace hw := hw.trans (hb.mono hw.size)
  clear hb
  have HII := hide hii
  have HIn := hide hni
  clear hii hni
  rcases hrr with ⟨hI, hrr⟩ | ⟨hI, hrr⟩
  {
  cases hrr
  subst hI
  have HQe := hide (equal_at ar aI nr nI cr cI [] [] true w21 HR.out HII.out HRl.out HIn.out rfl (by rw [← HRl.out]; decide) (by rw [← HIn.out]; decide))
  have s0 := blk_cell bS.out 0 _ rfl
  have s1 := blk_cell bS.out 1 _ rfl
  have s2 := blk_cell bS.out 2 _ rfl
  have t0 := blk_cell bT.out 0 _ rfl
  have t1 := blk_cell bT.out 1 _ rfl
  have t2 := blk_cell bT.out 2 _ rfl
  have dT : ∀ x : Int, (x != x) = false := fun x => by simp
  go_wp2_with fail
  refine (unhide HQe).mono ?_
  rintro e w22 ⟨rfl, nd, hw22⟩
  have hb : Below w21.heap.size w21 w22 := by rw [hw22]; exact below_drewN (Below.refl _ _) nd
  clear hw22 HQe s0 s1 s2 t0 t1 t2 dT
  replace bb := hide (blk_below bb.out hb)
  replace bu := hide (blk_below bu.out hb)
  replace bm := hide (blk_below bm.out hb)
  replace bo := hide (blk_below bo.out hb)
  replace bX := hide (blk_below bX.out hb)
  replace bN := hide (blk_below bN.out hb)
  replace bS := hide (blk_below bS.out hb)
  replace bV := hide (blk_below bV.out hb)
  replace bZ := hide (blk_below bZ.out hb)
  replace bT := hide (blk_below bT.out hb)
  replace HK := hide (HK.out.below hb)
  replace HX := hide (HX.out.below hb)
  replace HXl := hide (HXl.out.below hb)
  replace HN := hide (HN.out.below hb)
  replace HR := hide (HR.out.below hb)
  replace HV := hide (HV.out.below hb)
  replace HII := hide (HII.out.below hb)
  replace hw := hw.trans (hb.mono hw.size)
  clear hb
  have HSm := hide (sameUnit_any ⟨u.ws, -1, true, 0, 0⟩ av nv cv ⟨u.ws, -1, true, 0, 0⟩ a 192 c w22 HV.out (HP.out _ hw))
  rw [sameU_self] at HSm
  unfold unv at HSm
  dsimp only at HSm bV
  obtain ⟨v0, v1, v2, v3, v4⟩ := cl5 bV.out
  have u0 := blk_cell bu.out 0 _ rfl
  go_wp2_with fail
  refine (unhide HSm).mono ?_
  rintro e w23 ⟨rfl, hb⟩
  clear HSm v0 v1 v2 v3 v4 u0
  replace bb := hide (blk_below bb.out hb)
  replace bu := hide (blk_below bu.out hb)
  replace bm := hide (blk_below bm.out hb)
  replace bo := hide (blk_below bo.out hb)
  replace bX := hide (blk_below bX.out hb)
  replace bN := hide (blk_below bN.out hb)
  replace bS := hide (blk_below bS.out hb)
  replace bV := hide (blk_below bV.out hb)
  replace bZ := hide (blk_below bZ.out hb)
  replace bT := hide (blk_below bT.out hb)
  replace HK := hide (HK.out.below hb)
  replace HX := hide (HX.out.below hb)
  replace HXl := hide (HXl.out.below hb)
  replace HN := hide (HN.out.below hb)
  replace HR := hide (HR.out.below hb)
  replace HV := hide (HV.out.below hb)
  replace HII := hide (HII.out.below hb)
  replace hw := hw.trans (hb.mono hw.size)
  clear hb
  have y0 := blk_cell bb.out 0 _ rfl
  go_wp2_with fail
  refine (unhide HCB _ hw).mono ?_
  rintro e w24 ⟨rfl, hb⟩
  clear HCB y0
  replace bb := hide (blk_below bb.out hb)
  replace bu := hide (blk_below bu.out hb)
  replace bm := hide (blk_below bm.out hb)
  replace bo := hide (blk_below bo.out hb)
  replace bX := hide (blk_below bX.out hb)
  replace bN := hide (blk_below bN.out hb)
  replace bS := hide (blk_below bS.out hb)
  replace bV := hide (blk_below bV.out hb)
  replace bZ := hide (blk_below bZ.out hb)
  replace bT := hide (blk_below bT.out hb)
  replace HK := hide (HK.out.below hb)
  replace HX := hide (HX.out.below hb)
  replace HXl := hide (HXl.out.below hb)
  replace HN := hide (HN.out.below hb)
  replace HR := hide (HR.out.below hb)
  replace HV := hide (HV.out.below hb)
  replace HII := hide (HII.out.below hb)
  replace hw := hw.trans (hb.mono hw.size)
  clear hb
  by_cases zb : bookE ss = 0
  rotate_left
  {
  have hne : heE ss u m ≠ 0 := by rw [heE_1 zb]; exact zb
  have e1 := HEa.out hne
  rw [heE_1 zb] at e1
  cases e1
  have d_q : (bookE ss == 0) = false := by simpa using zb
  have d_q2 : (bookE ss != 0) = true := by simpa using zb
  have d_q3 : (bookE ss == bookE ss) = true := by simp
  have hnl0 := hnl
  simp only [List.length_nil] at hnl0
  subst hnl0
  unfold un0 at bX
  clear HEa hne HEo HUh
  have HSm := hide (sameUnit_any un0 ax nx cx un0 none 0 0 w24 HX.out ⟨.inl rfl, rfl, Nat.le_refl _, Nat.zero_le _⟩)
  rw [sameU_self] at HSm
  unfold unv un0 at HSm
  obtain ⟨v0, v1, v2, v3, v4⟩ := cl5 bX.out
  obtain ⟨z0, z1, z2, z3, z4⟩ := cl5 bZ.out
  dsimp only at *
  have d_b : (bookE ss != 0) = true := by simpa using zb
  clear zb zu HMr
  generalize bookE ss = qq at *
  go_wp2_with fail
  refine (unhide HSm).mono ?_
  rintro e w25 ⟨rfl, hb⟩
  go_wp2_with fail
  go_ret
  exact ⟨rfl, hw.trans (hb.mono hw.size)⟩
  }
  have d_b : (bookE ss != 0) = false := by simpa using zb
  have d_u2 : (unE u == 0) = true := by rw [zu]; rfl
  obtain ⟨m0, m1, m2, m3, m4, m5, m6⟩ := cl7 bm.out
  go_wp2_with fail
  refine (unhide HMr _ hw).mono ?_
  rintro e w25 ⟨rfl, hb⟩
  clear HMr m0 m1 m2 m3 m4 m5 m6 d_u2
  replace bb := hide (blk_below bb.out hb)
  replace bu := hide (blk_below bu.out hb)
  replace bm := hide (blk_below bm.out hb)
  replace bo := hide (blk_below bo.out hb)
  replace bX := hide (blk_below bX.out hb)
  replace bN := hide (blk_below bN.out hb)
  replace bS := hide (blk_below bS.out hb)
  replace bV := hide (blk_below bV.out hb)
  replace bZ := hide (blk_below bZ.out hb)
  replace bT := hide (blk_below bT.out hb)
  replace HK := hide (HK.out.below hb)
  replace HX := hide (HX.out.below hb)
  replace HXl := hide (HXl.out.below hb)
  replace HN := hide (HN.out.below hb)
  replace HR := hide (HR.out.below hb)
  replace HV := hide (HV.out.below hb)
  replace HII := hide (HII.out.below hb)
  replace hw := hw.trans (hb.mono hw.size)
  clear hb
  by_cases zm : msE m = 0
  rotate_left
  {
  have hne : heE ss u m ≠ 0 := by rw [heE_3 zb zu]; exact zm
  have e1 := HEa.out hne
  rw [heE_3 zb zu] at e1
  cases e1
  have d_q : (msE m == 0) = false := by simpa using zm
  have d_q2 : (msE m != 0) = true := by simpa using zm
  have d_q3 : (msE m == msE m) = true := by simp
  have hnl0 := hnl
  simp only [List.length_nil] at hnl0
  subst hnl0
  unfold un0 at bX
  clear HEa hne HEo HUh
  have HSm := hide (sameUnit_any un0 ax nx cx un0 none 0 0 w25 HX.out ⟨.inl rfl, rfl, Nat.le_refl _, Nat.zero_le _⟩)
  rw [sameU_self] at HSm
  unfold unv un0 at HSm
  obtain ⟨v0, v1, v2, v3, v4⟩ := cl5 bX.out
  obtain ⟨z0, z1, z2, z3, z4⟩ := cl5 bZ.out
  dsimp only at *
  clear zb zu zm
  generalize msE m = qq at *
  go_wp2_with fail
  refine (unhide HSm).mono ?_
  rintro e w26 ⟨rfl, hb⟩
  go_wp2_with fail
  go_ret
  exact ⟨rfl, hw.trans (hb.mono hw.size)⟩
  }
  have e1 := HEo.out ((heE_3 zb zu).trans zm)
  cases e1
  have d_m : (msE m != 0) = false := by rw [zm]; rfl
  have HUh1 := hide (HUh.out (by trivial) zb zu zm)
  clear HUh HEa HEo zb zu zm
  unfold RefAns unv at HUh1
  generalize hearS ss u m = R9 at *
  obtain ⟨xg, xl⟩ := R9
  dsimp only at *
  obtain ⟨m0, m1, m2, m3, m4, m5, m6⟩ := cl7 bm.out
  have y0 := blk_cell bb.out 0 _ rfl
  obtain ⟨u0, u1, u2, u3, u4⟩ := cl5 bu.out
  go_wp2_with fail
  refine (unhide HUh1 _ hw).mono ?_
  rintro e w26 ⟨⟨aR, nR, cR, aL, nL, cL, rfl, hgR, hmR, hnR, hcR, hc9⟩, hb⟩
  clear HUh1 y0 m0 m1 m2 m3 m4 m5 m6 u0 u1 u2 u3 u4
  go_upto_region 37 with fail
  have hb1 : Below w25.heap.size w25 (w26.alloc (.cells #[.slice aR nR cR, .int .i64 xg.fu, .bool xg.up, .int .i64 xg.n, .int .i64 xg.hv] 29)) := below_new hb _
  have hbz : Below w26.heap.size w26 (w26.alloc (.cells #[.slice aR nR cR, .int .i64 xg.fu, .bool xg.up, .int .i64 xg.n, .int .i64 xg.hv] 29)) := below_new (Below.refl _ _) _
  have HGR := hide (hgR.below hbz)
  have HMR := hide (hmR.below hbz)
  replace bb := hide (blk_below bb.out hb1)
  replace bu := hide (blk_below bu.out hb1)
  replace bm := hide (blk_below bm.out hb1)
  replace bo := hide (blk_below bo.out hb1)
  replace bX := hide (blk_below bX.out hb1)
  replace bN := hide (blk_below bN.out hb1)
  replace bS := hide (blk_below bS.out hb1)
  replace bV := hide (blk_below bV.out hb1)
  replace bZ := hide (blk_below bZ.out hb1)
  replace bT := hide (blk_below bT.out hb1)
  replace HK := hide (HK.out.below hb1)
  replace HX := hide (HX.out.below hb1)
  replace HXl := hide (HXl.out.below hb1)
  replace HN := hide (HN.out.below hb1)
  replace HR := hide (HR.out.below hb1)
  replace HV := hide (HV.out.below hb1)
  replace HII := hide (HII.out.below hb1)
  replace hw := hw.trans (hb1.mono hw.size)
  have bR := hide (heap_alloc_last w26 (.cells #[.slice aR nR cR, .int .i64 xg.fu, .bool xg.up, .int .i64 xg.n, .int .i64 xg.hv] 29))
  clear hb hb1 hbz
  clear hgR hmR
  generalize w26.alloc (.cells #[.slice aR nR cR, .int .i64 xg.fu, .bool xg.up, .int .i64 xg.n, .int .i64 xg.hv] 29) = W26 at *
  generalize w26.heap.size = RB at *
  have HSm := hide (sameUnit_any xg ax nx cx xg aR nR cR W26 HX.out HGR.out)
  rw [sameU_self] at HSm
  unfold unv at HSm
  obtain ⟨v0, v1, v2, v3, v4⟩ := cl5 bX.out
  obtain ⟨z0, z1, z2, z3, z4⟩ := cl5 bR.out
  go_wp2_with fail
  refine (unhide HSm).mono ?_
  rintro e w27 ⟨rfl, hb⟩
  clear HSm v0 v1 v2 v3 v4 z0 z1 z2 z3 z4
  have HSM := hide (sameMessages_any al aL nl nL cl cL xl xl w27 (HXl.out.below hb).msw (HMR.out.below hb).msw hnl hnR (by omega) (by omega))
  rw [eqM_refl] at HSM
  go_wp2_with fail
  refine (unhide HSM).mono ?_
  rintro e w28 ⟨rfl, hb2⟩
  go_wp2_with fail
  go_ret
  exact ⟨rfl, hw.trans ((hb.trans (hb2.mono hb.size)).mono hw.size)⟩
  }
  {
  cases hrr
  have d_k : (I.2 != 0) = true := by simpa using hI
  have d_k2 : (I.2 != I.2) = false := by simp
  have HQe := hide (equal_at ar aI nr nI cr cI I.1 I.1 true w21 HR.out HII.out HRl.out HIn.out (by unfold eqL; simp) (by rw [← HRl.out]; have h := HIl.out; unfold maxLen; omega) (by rw [← HIn.out]; have h := HIl.out; unfold maxLen; omega))
  clear hI
  have s0 := blk_cell bS.out 0 _ rfl
  have s1 := blk_cell bS.out 1 _ rfl
  have s2 := blk_cell bS.out 2 _ rfl
  have t0 := blk_cell bT.out 0 _ rfl
  have t1 := blk_cell bT.out 1 _ rfl
  have t2 := blk_cell bT.out 2 _ rfl
  have dT : ∀ x : Int, (x != x) = false := fun x => by simp
  go_wp2_with fail
  refine (unhide HQe).mono ?_
  rintro e w22 ⟨rfl, nd, hw22⟩
  have hb : Below w21.heap.size w21 w22 := by rw [hw22]; exact below_drewN (Below.refl _ _) nd
  clear hw22 HQe s0 s1 s2 t0 t1 t2 dT d_k d_k2
  replace bb := hide (blk_below bb.out hb)
  replace bu := hide (blk_below bu.out hb)
  replace bm := hide (blk_below bm.out hb)
  replace bo := hide (blk_below bo.out hb)
  replace bX := hide (blk_below bX.out hb)
  replace bN := hide (blk_below bN.out hb)
  replace bS := hide (blk_below bS.out hb)
  replace bV := hide (blk_below bV.out hb)
  replace bZ := hide (blk_below bZ.out hb)
  replace bT := hide (blk_below bT.out hb)
  replace HK := hide (HK.out.below hb)
  replace HX := hide (HX.out.below hb)
  replace HXl := hide (HXl.out.below hb)
  replace HN := hide (HN.out.below hb)
  replace HR := hide (HR.out.below hb)
  replace HV := hide (HV.out.below hb)
  replace HII := hide (HII.out.below hb)
  replace hw := hw.trans (hb.mono hw.size)
  clear hb
  have HSm := hide (sameUnit_any ⟨u.ws, -1, true, 0, 0⟩ av nv cv ⟨u.ws, -1, true, 0, 0⟩ a 192 c w22 HV.out (HP.out _ hw))
  rw [sameU_self] at HSm
  unfold unv at HSm
  dsimp only at HSm bV
  obtain ⟨v0, v1, v2, v3, v4⟩ := cl5 bV.out
  have u0 := blk_cell bu.out 0 _ rfl
  go_wp2_with fail
  refine (unhide HSm).mono ?_
  rintro e w23 ⟨rfl, hb⟩
  clear HSm v0 v1 v2 v3 v4 u0
  replace bb := hide (blk_below bb.out hb)
  replace bu := hide (blk_below bu.out hb)
  replace bm := hide (blk_below bm.out hb)
  replace bo := hide (blk_below bo.out hb)
  replace bX := hide (blk_below bX.out hb)
  replace bN := hide (blk_below bN.out hb)
  replace bS := hide (blk_below bS.out hb)
  replace bV := hide (blk_below bV.out hb)
  replace bZ := hide (blk_below bZ.out hb)
  replace bT := hide (blk_below bT.out hb)
  replace HK := hide (HK.out.below hb)
  replace HX := hide (HX.out.below hb)
  replace HXl := hide (HXl.out.below hb)
  replace HN := hide (HN.out.below hb)
  replace HR := hide (HR.out.below hb)
  replace HV := hide (HV.out.below hb)
  replace HII := hide (HII.out.below hb)
  replace hw := hw.trans (hb.mono hw.size)
  clear hb
  have y0 := blk_cell bb.out 0 _ rfl
  go_wp2_with fail
  refine (unhide HCB _ hw).mono ?_
  rintro e w24 ⟨rfl, hb⟩
  clear HCB y0
  replace bb := hide (blk_below bb.out hb)
  replace bu := hide (blk_below bu.out hb)
  replace bm := hide (blk_below bm.out hb)
  replace bo := hide (blk_below bo.out hb)
  replace bX := hide (blk_below bX.out hb)
  replace bN := hide (blk_below bN.out hb)
  replace bS := hide (blk_below bS.out hb)
  replace bV := hide (blk_below bV.out hb)
  replace bZ := hide (blk_below bZ.out hb)
  replace bT := hide (blk_below bT.out hb)
  replace HK := hide (HK.out.below hb)
  replace HX := hide (HX.out.below hb)
  replace HXl := hide (HXl.out.below hb)
  replace HN := hide (HN.out.below hb)
  replace HR := hide (HR.out.below hb)
  replace HV := hide (HV.out.below hb)
  replace HII := hide (HII.out.below hb)
  replace hw := hw.trans (hb.mono hw.size)
  clear hb
  by_cases zb : bookE ss = 0
  rotate_left
  {
  have hne : heE ss u m ≠ 0 := by rw [heE_1 zb]; exact zb
  have e1 := HEa.out hne
  rw [heE_1 zb] at e1
  cases e1
  have d_q : (bookE ss == 0) = false := by simpa using zb
  have d_q2 : (bookE ss != 0) = true := by simpa using zb
  have d_q3 : (bookE ss == bookE ss) = true := by simp
  have hnl0 := hnl
  simp only [List.length_nil] at hnl0
  subst hnl0
  unfold un0 at bX
  clear HEa hne HEo HUh
  have HSm := hide (sameUnit_any un0 ax nx cx un0 none 0 0 w24 HX.out ⟨.inl rfl, rfl, Nat.le_refl _, Nat.zero_le _⟩)
  rw [sameU_self] at HSm
  unfold unv un0 at HSm
  obtain ⟨v0, v1, v2, v3, v4⟩ := cl5 bX.out
  obtain ⟨z0, z1, z2, z3, z4⟩ := cl5 bZ.out
  dsimp only at *
  have d_b : (bookE ss != 0) = true := by simpa using zb
  clear zb zu HMr
  generalize bookE ss = qq at *
  go_wp2_with fail
  refine (unhide HSm).mono ?_
  rintro e w25 ⟨rfl, hb⟩
  go_wp2_with fail
  go_ret
  exact ⟨rfl, hw.trans (hb.mono hw.size)⟩
  }
  have d_b : (bookE ss != 0) = false := by simpa using zb
  have d_u2 : (unE u == 0) = true := by rw [zu]; rfl
  obtain ⟨m0, m1, m2, m3, m4, m5, m6⟩ := cl7 bm.out
  go_wp2_with fail
  refine (unhide HMr _ hw).mono ?_
  rintro e w25 ⟨rfl, hb⟩
  clear HMr m0 m1 m2 m3 m4 m5 m6 d_u2
  replace bb := hide (blk_below bb.out hb)
  replace bu := hide (blk_below bu.out hb)
  replace bm := hide (blk_below bm.out hb)
  replace bo := hide (blk_below bo.out hb)
  replace bX := hide (blk_below bX.out hb)
  replace bN := hide (blk_below bN.out hb)
  replace bS := hide (blk_below bS.out hb)
  replace bV := hide (blk_below bV.out hb)
  replace bZ := hide (blk_below bZ.out hb)
  replace bT := hide (blk_below bT.out hb)
  replace HK := hide (HK.out.below hb)
  replace HX := hide (HX.out.below hb)
  replace HXl := hide (HXl.out.below hb)
  replace HN := hide (HN.out.below hb)
  replace HR := hide (HR.out.below hb)
  replace HV := hide (HV.out.below hb)
  replace HII := hide (HII.out.below hb)
  replace hw := hw.trans (hb.mono hw.size)
  clear hb
  by_cases zm : msE m = 0
  rotate_left
  {
  have hne : heE ss u m ≠ 0 := by rw [heE_3 zb zu]; exact zm
  have e1 := HEa.out hne
  rw [heE_3 zb zu] at e1
  cases e1
  have d_q : (msE m == 0) = false := by simpa using zm
  have d_q2 : (msE m != 0) = true := by simpa using zm
  have d_q3 : (msE m == msE m) = true := by simp
  have hnl0 := hnl
  simp only [List.length_nil] at hnl0
  subst hnl0
  unfold un0 at bX
  clear HEa hne HEo HUh
  have HSm := hide (sameUnit_any un0 ax nx cx un0 none 0 0 w25 HX.out ⟨.inl rfl, rfl, Nat.le_refl _, Nat.zero_le _⟩)
  rw [sameU_self] at HSm
  unfold unv un0 at HSm
  obtain ⟨v0, v1, v2, v3, v4⟩ := cl5 bX.out
  obtain ⟨z0, z1, z2, z3, z4⟩ := cl5 bZ.out
  dsimp only at *
  clear zb zu zm
  generalize msE m = qq at *
  go_wp2_with fail
  refine (unhide HSm).mono ?_
  rintro e w26 ⟨rfl, hb⟩
  go_wp2_with fail
  go_ret
  exact ⟨rfl, hw.trans (hb.mono hw.size)⟩
  }
  have e1 := HEo.out ((heE_3 zb zu).trans zm)
  cases e1
  have d_m : (msE m != 0) = false := by rw [zm]; rfl
  have HUh1 := hide (HUh.out (by trivial) zb zu zm)
  clear HUh HEa HEo zb zu zm
  unfold RefAns unv at HUh1
  generalize hearS ss u m = R9 at *
  obtain ⟨xg, xl⟩ := R9
  dsimp only at *
  obtain ⟨m0, m1, m2, m3, m4, m5, m6⟩ := cl7 bm.out
  have y0 := blk_cell bb.out 0 _ rfl
  obtain ⟨u0, u1, u2, u3, u4⟩ := cl5 bu.out
  go_wp2_with fail
  refine (unhide HUh1 _ hw).mono ?_
  rintro e w26 ⟨⟨aR, nR, cR, aL, nL, cL, rfl, hgR, hmR, hnR, hcR, hc9⟩, hb⟩
  clear HUh1 y0 m0 m1 m2 m3 m4 m5 m6 u0 u1 u2 u3 u4
  go_upto_region 37 with fail
  have hb1 : Below w25.heap.size w25 (w26.alloc (.cells #[.slice aR nR cR, .int .i64 xg.fu, .bool xg.up, .int .i64 xg.n, .int .i64 xg.hv] 29)) := below_new hb _
  have hbz : Below w26.heap.size w26 (w26.alloc (.cells #[.slice aR nR cR, .int .i64 xg.fu, .bool xg.up, .int .i64 xg.n, .int .i64 xg.hv] 29)) := below_new (Below.refl _ _) _
  have HGR := hide (hgR.below hbz)
  have HMR := hide (hmR.below hbz)
  replace bb := hide (blk_below bb.out hb1)
  replace bu := hide (blk_below bu.out hb1)
  replace bm := hide (blk_below bm.out hb1)
  replace bo := hide (blk_below bo.out hb1)
  replace bX := hide (blk_below bX.out hb1)
  replace bN := hide (blk_below bN.out hb1)
  replace bS := hide (blk_below bS.out hb1)
  replace bV := hide (blk_below bV.out hb1)
  replace bZ := hide (blk_below bZ.out hb1)
  replace bT := hide (blk_below bT.out hb1)
  replace HK := hide (HK.out.below hb1)
  replace HX := hide (HX.out.below hb1)
  replace HXl := hide (HXl.out.below hb1)
  replace HN := hide (HN.out.below hb1)
  replace HR := hide (HR.out.below hb1)
  replace HV := hide (HV.out.below hb1)
  replace HII := hide (HII.out.below hb1)
  replace hw := hw.trans (hb1.mono hw.size)
  have bR := hide (heap_alloc_last w26 (.cells #[.slice aR nR cR, .int .i64 xg.fu, .bool xg.up, .int .i64 xg.n, .int .i64 xg.hv] 29))
  clear hb hb1 hbz
  clear hgR hmR
  generalize w26.alloc (.cells #[.slice aR nR cR, .int .i64 xg.fu, .bool xg.up, .int .i64 xg.n, .int .i64 xg.hv] 29) = W26 at *
  generalize w26.heap.size = RB at *
  have HSm := hide (sameUnit_any xg ax nx cx xg aR nR cR W26 HX.out HGR.out)
  rw [sameU_self] at HSm
  unfold unv at HSm
  obtain ⟨v0, v1, v2, v3, v4⟩ := cl5 bX.out
  obtain ⟨z0, z1, z2, z3, z4⟩ := cl5 bR.out
  go_wp2_with fail
  refine (unhide HSm).mono ?_
  rintro e w27 ⟨rfl, hb⟩
  clear HSm v0 v1 v2 v3 v4 z0 z1 z2 z3 z4
  have HSM := hide (sameMessages_any al aL nl nL cl cL xl xl w27 (HXl.out.below hb).msw (HMR.out.below hb).msw hnl hnR (by omega) (by omega))
  rw [eqM_refl] at HSM
  go_wp2_with fail
  refine (unhide HSM).mono ?_
  rintro e w28 ⟨rfl, hb2⟩
  go_wp2_with fail
  go_ret
  exact ⟨rfl, hw.trans ((hb.trans (hb2.mono hb.size)).mono hw.size)⟩

  }
end Go.Proofs.YtgngpmgjoifepaaGreatDoor
