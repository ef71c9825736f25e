/- The walk of the law UnitReady: a unit that says that it is ready has a whole image of the name that it was asked for; told to commit it runs that; told to abort it is ready no more. The closed fact is its premise. -/
import Derived.Test.YtanpglfpopbfkabGreatDoorPk40
import Derived.Test.YtanpglfpopbfkabGreatDoorPk41
import Derived.Test.YtanpglfpopbfkabGreatDoorPk17
namespace Go.Proofs.YtanpglfpopbfkabGreatDoor
open Go.RowKit
attribute [local go_sem ↓] Go.wp_at_zero Go.wp_at_succ

/-- What takes more room than a block has doesn't lie in it. -/
theorem ints_big {w : World} {a : Option Addr} {xs : List Int} {b : Nat} {cs : Array Value} {t : TypeId} (h : IsInts w a xs) (hb : w.heap[b]? = some (.cells cs t (0, 0))) (hs : cs.size < xs.length) : Off b a := by
  rcases h with h | ⟨g, off, rfl, hi⟩
  · subst h; simp at hs
  · intro ad e
    cases e
    intro hgb
    have hgb : g = b := hgb
    subst hgb
    have hc := hi (xs.length - 1) (by omega)
    rw [cell_of_row w g (off + (xs.length - 1)) cs t (0, 0) hb, Array.getElem?_eq_none (by omega)] at hc
    cases hc
theorem runs_lenR (u : Un) : (runsS u).1.length ≤ u.ws.length := by
  unfold runsS
  split
  · simp
  · unfold imgS
    split
    · simp
    · split
      · simp
      · simp; omega
theorem eqL_refl3 (xs : List Int) : eqL xs xs = true := by unfold eqL; simp
theorem sameU_refl3 (u : Un) : sameU u u = true := by unfold sameU; rw [eqL_refl3]; simp
/-- A message of another kind. -/
def kd (m : Ms) (k : Int) : Ms := ⟨k, m.u, m.n, m.at', m.im, m.ws, m.y⟩
theorem hearA_z3 {ss : List ByteArray} {u : Un} {m : Ms} (h : (hearA ss u m).2.2 = 0) : heE ss u m = 0 ∧ hearA ss u m = ((hearS ss u m).1, (hearS ss u m).2, 0) := by
  rcases Decidable.em (heE ss u m = 0) with g | g
  · exact ⟨g, by unfold hearA; rw [if_neg (by simpa using g)]⟩
  · rw [hearA_e g] at h; exact absurd h g
theorem word_k {W : World} {b : Nat} {k x y : Int} {t : TypeId} (h : W.heap[b]? = some (.cells #[.int .i64 k, .int .i64 x, .int .i64 y, .int .i64 0, .int .i64 0, .slice none 0 0, .bool false] t (0, 0))) (j : Int) : (W.setCell ⟨b, 0, none⟩ (.int .i64 j)).heap[b]? = some (.cells #[.int .i64 j, .int .i64 x, .int .i64 y, .int .i64 0, .int .i64 0, .slice none 0 0, .bool false] t (0, 0)) := by
  simp only [World.setCell, Array.getElem?_modify]
  simp [h]

set_option maxRecDepth 100000 in
set_option maxHeartbeats 51200000 in
theorem unitReady_walk (HUn : ∀ W : World, Tab W → Calls Tryz.prog 28 #[] W fun e w' => e = .returned (.bool true) ∧ Below W.heap.size W w')
    (ab : Option Addr) (nb cb : Nat) (ss : List ByteArray) (u : Un) (a : Option Addr) (n c : Nat) (m : Ms) (am : Option Addr) (nm cm : Nat) (w : World) (hB : BB w ab nb cb ss) (hT : Tab w) (hU : BW w a n c u.ws) (hM : BI w am nm m.ws) :
    Calls Tryz.prog 5 #[bookv ab nb cb, unv u a n c, msv m am nm cm] w fun e w' => e = .returned (.bool true) ∧ Below w.heap.size w w' := by
  obtain ⟨v, hv⟩ : ∃ v, v = fuU u (-1) := ⟨_, rfl⟩
  obtain ⟨p, hp⟩ : ∃ p, p = kd m 2 := ⟨_, rfl⟩
  have hw : Below w.heap.size w (((w.alloc (.cells #[.slice ab nb cb] 46)).alloc (.cells #[.slice a n c, .int .i64 (-1), .bool u.up, .int .i64 u.n, .int .i64 u.hv] 50)).alloc (.cells #[.int .i64 2, .int .i64 m.u, .int .i64 m.n, .int .i64 m.at', .int .i64 m.im, .slice am nm cm, .bool m.y] 52)) := below_3 _ _ _ _
  have hV : BW w a n c v.ws := by rw [hv]; exact hU
  have hM2 : BI w am nm p.ws := by rw [hp]; exact hM
  have hF : Hid (v.fu = -1 ∧ p.k = 2) := by rw [hv, hp]; exact ⟨rfl, rfl⟩
  have HD := hide (fun W (hW : Below w.heap.size w W) => unitRead_any v a n c W (hV.below hW))
  have HH := hide (fun W (hW : Below w.heap.size w W) => unitHear_any ab nb cb ss v a n c p am nm cm W (hB.below hW) (hT.below hW) (hV.below hW) (hM2.below hW))
  have HG := hide (fun x ax nx cx W (hW : Below w.heap.size w W) (hx : BW W ax nx cx x.ws) => unitHear_any ab nb cb ss x ax nx cx p am nm cm W (hB.below hW) (hT.below hW) hx (hM2.below hW))
  have HK := hide (fun k x ax nx cx W (hW : Below w.heap.size w W) (hx : BW W ax nx cx x.ws) => unitHear_any ab nb cb ss x ax nx cx (wordM k p) none 0 0 W (hB.below hW) (hT.below hW) hx ⟨.inl rfl, rfl, by decide⟩)
  have HN := hide (fun a2 n2 c2 xs W (hW : Below w.heap.size w W) (h2 : IsInts W a2 xs) hl hm => imageName_any ab nb cb ss a2 n2 c2 xs W (hB.below hW).at_ hB.len hB.cap hB.max hB.short h2 hl hm (hT.below hW))
  have HUn' := hide (fun W (hW : Below w.heap.size w W) => HUn W (hT.below hW))
  have b0 : Hid ((((w.alloc (.cells #[.slice ab nb cb] 46)).alloc (.cells #[.slice a n c, .int .i64 (-1), .bool u.up, .int .i64 u.n, .int .i64 u.hv] 50)).alloc (.cells #[.int .i64 2, .int .i64 m.u, .int .i64 m.n, .int .i64 m.at', .int .i64 m.im, .slice am nm cm, .bool m.y] 52)).heap[w.heap.size]? = some (.cells #[.slice ab nb cb] 46 (0, 0))) := bk3.1
  have b1 : Hid ((((w.alloc (.cells #[.slice ab nb cb] 46)).alloc (.cells #[.slice a n c, .int .i64 (-1), .bool u.up, .int .i64 u.n, .int .i64 u.hv] 50)).alloc (.cells #[.int .i64 2, .int .i64 m.u, .int .i64 m.n, .int .i64 m.at', .int .i64 m.im, .slice am nm cm, .bool m.y] 52)).heap[w.heap.size + 1]? = some (.cells #[.slice a n c, .int .i64 v.fu, .bool v.up, .int .i64 v.n, .int .i64 v.hv] 50 (0, 0))) := by rw [hv]; exact bk3.2.1
  have b2 : Hid ((((w.alloc (.cells #[.slice ab nb cb] 46)).alloc (.cells #[.slice a n c, .int .i64 (-1), .bool u.up, .int .i64 u.n, .int .i64 u.hv] 50)).alloc (.cells #[.int .i64 2, .int .i64 m.u, .int .i64 m.n, .int .i64 m.at', .int .i64 m.im, .slice am nm cm, .bool m.y] 52)).heap[w.heap.size + 1 + 1]? = some (.cells #[.int .i64 p.k, .int .i64 p.u, .int .i64 p.n, .int .i64 p.at', .int .i64 p.im, .slice am nm cm, .bool p.y] 52 (0, 0))) := by rw [hp]; exact bk3.2.2
  clear hV hB hT hU hM hM2 HUn hv hp
  unfold bookv unv msv at *
  unfold wordM at HK
  try dsimp only at HK
  have E1 := hide (fun h => uReadS_e (u := v) h)
  have E2 := hide (fun h => uReadS_0 (u := v) h)
  obtain ⟨D, hD⟩ : ∃ D, D = uReadS v := ⟨_, rfl⟩
  obtain ⟨A, hA⟩ : ∃ A, A = hearA ss v p := ⟨_, rfl⟩
  rw [← hD] at HD E1 E2
  rw [← hA] at HH
  replace hA := hide hA
  clear hD
  unfold usv at *
  go_enter Tryz.func5, Tryz.ntmps5
  go_upto_region 3 with fail
  generalize ((w.alloc (.cells #[.slice ab nb cb] 46)).alloc (.cells #[.slice a n c, .int .i64 (-1), .bool u.up, .int .i64 u.n, .int .i64 u.hv] 50)).alloc (.cells #[.int .i64 2, .int .i64 m.u, .int .i64 m.n, .int .i64 m.at', .int .i64 m.im, .slice am nm cm, .bool m.y] 52) = W at *
  have b1_0 := blk_cell b1.out 0 _ rfl
  have b1_1 := blk_cell b1.out 1 _ rfl
  have b1_2 := blk_cell b1.out 2 _ rfl
  have b1_3 := blk_cell b1.out 3 _ rfl
  have b1_4 := blk_cell b1.out 4 _ rfl
  go_wp2_with fail
  refine (unhide HD _ hw).mono ?_
  rintro e w1 ⟨rfl, hb⟩
  clear b1_0 b1_1 b1_2 b1_3 b1_4
  replace b0 := hide (blk_below b0.out hb)
  replace b1 := hide (blk_below b1.out hb)
  replace b2 := hide (blk_below b2.out hb)
  replace hw := hw.trans (hb.mono hw.size)
  clear hb HD
  have hbA : Below w1.heap.size w1 (w1.alloc (.cells #[.int .i64 D.1.slot, .int .i64 D.1.by', .int .i64 D.1.rdy] 57)) := (Below.refl _ _).alloc (Nat.le_refl _) _
  have bS := hide (heap_alloc_last w1 (.cells #[.int .i64 D.1.slot, .int .i64 D.1.by', .int .i64 D.1.rdy] 57))
  replace b0 := hide (blk_below b0.out hbA)
  replace b1 := hide (blk_below b1.out hbA)
  replace b2 := hide (blk_below b2.out hbA)
  replace hw := hw.trans (hbA.mono hw.size)
  clear hbA
  go_upto_region 4 with fail
  generalize w1.heap.size = S at *
  generalize w1.alloc (.cells #[.int .i64 D.1.slot, .int .i64 D.1.by', .int .i64 D.1.rdy] 57) = W1 at *
  have b0_0 := blk_cell b0.out 0 _ rfl
  have b1_0 := blk_cell b1.out 0 _ rfl
  have b1_1 := blk_cell b1.out 1 _ rfl
  have b1_2 := blk_cell b1.out 2 _ rfl
  have b1_3 := blk_cell b1.out 3 _ rfl
  have b1_4 := blk_cell b1.out 4 _ rfl
  have b2_0 := blk_cell b2.out 0 _ rfl
  have b2_1 := blk_cell b2.out 1 _ rfl
  have b2_2 := blk_cell b2.out 2 _ rfl
  have b2_3 := blk_cell b2.out 3 _ rfl
  have b2_4 := blk_cell b2.out 4 _ rfl
  have b2_5 := blk_cell b2.out 5 _ rfl
  have b2_6 := blk_cell b2.out 6 _ rfl
  go_wp2_with fail
  refine (unhide HH _ hw).mono ?_
  rintro e w4 ⟨⟨ax, nx, cx, al, nl, cl, rfl, hbx, hms, hl, hcl, hc1⟩, hb⟩
  have BX := hide hbx
  have MSL := hide hms
  have HL := hide hl
  clear b0_0 b1_0 b1_1 b1_2 b1_3 b1_4 b2_0 b2_1 b2_2 b2_3 b2_4 b2_5 b2_6
  replace b0 := hide (blk_below b0.out hb)
  replace b1 := hide (blk_below b1.out hb)
  replace b2 := hide (blk_below b2.out hb)
  replace bS := hide (blk_below bS.out hb)
  replace hw := hw.trans (hb.mono hw.size)
  clear hb hbx hms hl HH b1
  unfold unv
  have hbA : Below w4.heap.size w4 (w4.alloc (.cells #[.slice ax nx cx, .int .i64 A.1.fu, .bool A.1.up, .int .i64 A.1.n, .int .i64 A.1.hv] 50)) := (Below.refl _ _).alloc (Nat.le_refl _) _
  have bX := hide (heap_alloc_last w4 (.cells #[.slice ax nx cx, .int .i64 A.1.fu, .bool A.1.up, .int .i64 A.1.n, .int .i64 A.1.hv] 50))
  replace b0 := hide (blk_below b0.out hbA)
  replace b2 := hide (blk_below b2.out hbA)
  replace bS := hide (blk_below bS.out hbA)
  replace BX := hide (BX.out.below hbA)
  replace MSL := hide (MSL.out.below hbA)
  replace hw := hw.trans (hbA.mono hw.size)
  clear hbA
  go_upto_region 5 with fail
  generalize w4.heap.size = X at *
  generalize w4.alloc (.cells #[.slice ax nx cx, .int .i64 A.1.fu, .bool A.1.up, .int .i64 A.1.n, .int .i64 A.1.hv] 50) = W4 at *
  go_wp2_with fail
  refine (unhide HUn' _ hw).mono ?_
  rintro e w5 ⟨rfl, hb⟩
  replace b0 := hide (blk_below b0.out hb)
  replace b2 := hide (blk_below b2.out hb)
  replace bS := hide (blk_below bS.out hb)
  replace bX := hide (blk_below bX.out hb)
  replace BX := hide (BX.out.below hb)
  replace MSL := hide (MSL.out.below hb)
  replace hw := hw.trans (hb.mono hw.size)
  clear hb
  by_cases z1 : D.2 = 0
  rotate_left
  · have d1 : (D.2 != 0) = true := by simpa using z1
    clear z1
    go_wp2_with fail
    refine (unhide HUn' _ hw).mono ?_
    rintro e w6 ⟨rfl, hb⟩
    go_wp2_with fail
    go_ret
    exact ⟨rfl, hw.trans (hb.mono hw.size)⟩
  have d1 : (D.2 != 0) = false := by simpa using z1
  by_cases z2 : A.2.2 = 0
  rotate_left
  · have d2 : (A.2.2 != 0) = true := by simpa using z2
    clear z1 z2
    go_wp2_with fail
    refine (unhide HUn' _ hw).mono ?_
    rintro e w6 ⟨rfl, hb⟩
    go_wp2_with fail
    go_ret
    exact ⟨rfl, hw.trans (hb.mono hw.size)⟩
  have d2 : (A.2.2 != 0) = false := by simpa using z2
  by_cases z3 : nl = 0
  · subst z3
    clear z1 z2
    go_wp2_with fail
    refine (unhide HUn' _ hw).mono ?_
    rintro e w6 ⟨rfl, hb⟩
    go_wp2_with fail
    go_ret
    exact ⟨rfl, hw.trans (hb.mono hw.size)⟩
  obtain rfl : nl = 1 := by omega
  obtain ⟨q, hq⟩ : ∃ q, A.2.1 = [q] := by
    have := HL.out
    match h : A.2.1, this with
    | [q], _ => exact ⟨q, rfl⟩
  have HQ := hide hq
  have hE : unE v = 0 := by
    rcases Decidable.em (unE v = 0) with h | h
    · exact h
    · have := E1.out h; rw [this] at z1; exact absurd z1 h
  have hDs := hide (E2.out hE)
  have HE := hide hE
  obtain ⟨bl, rfl, hcs⟩ : ∃ bl, al = some ⟨bl, 0, none⟩ ∧ _ := MSL.out.resolve_left (by rw [hq]; simp)
  have q6 : w5.cell? ⟨bl, 6, none⟩ = some (.bool q.y) := (hcs 0 q (by rw [hq]; rfl)).2.2.2.2.2.2.2
  have Z2 := hide z2
  clear z1 z2 z3 hq hE hcs E1 E2
  cases zy : q.y
  · rw [zy] at q6
    clear zy
    go_wp2_with fail
    refine (unhide HUn' _ hw).mono ?_
    rintro e w6 ⟨rfl, hb⟩
    go_wp2_with fail
    go_ret
    exact ⟨rfl, hw.trans (hb.mono hw.size)⟩
  rw [zy] at q6
  by_cases zr : D.1.rdy = 0
  rotate_left
  · have d4 : (D.1.rdy != 0) = true := by simpa using zr
    have bS_2 := blk_cell bS.out 2 _ rfl
    clear zy zr
    go_wp2_with fail
    refine (unhide HUn' _ hw).mono ?_
    rintro e w6 ⟨rfl, hb⟩
    go_wp2_with fail
    go_ret
    exact ⟨rfl, hw.trans (hb.mono hw.size)⟩
  have d4 : (D.1.rdy != 0) = false := by simpa using zr
  have bS_2 := blk_cell bS.out 2 _ rfl
  have hs : D.1 = stOf v.ws := by rw [hDs.out]
  have hRA : A = (A.1, [voteM p true], 0) ∧ RdyA ss v p A.1 := by
    have z2 := Z2.out
    rw [hA.out] at z2
    obtain ⟨z5, z6⟩ := hearA_z3 z2
    have hql : (hearS ss v p).2 = q :: [] := by have := HQ.out; rw [hA.out, z6] at this; exact this
    obtain ⟨y, y1, y2⟩ := ready_plain hF.out.1 hF.out.2 z5 (by rw [← hs]; exact zr) hql zy
    have e : A = (y, [voteM p true], 0) := by rw [hA.out, z6, y1]
    rw [e]
    exact ⟨rfl, y2⟩
  have RA := hide hRA.2
  have hl1 : A.2.1 = [voteM p true] := by rw [hRA.1]
  have HL1 := hide hl1
  clear zy zr hRA hl1 hA HQ Z2 HL
  have HDx := hide (fun W (hW : BW W ax nx cx A.1.ws) => unitRead_any A.1 ax nx cx W hW)
  rw [uReadS_0 RA.out.ok] at HDx
  obtain ⟨t, ht⟩ : ∃ t, t = stOf A.1.ws := ⟨_, rfl⟩
  rw [← ht] at HDx
  have HG1 := hide (fun W hW hx => unhide HG A.1 ax nx cx W hW hx)
  rw [RA.out.again] at HG1
  have g1 : (t.rdy != p.n) = false := by rw [ht, RA.out.rdy]; simp
  have g2 : (t.slot != D.1.slot) = false := by rw [ht, RA.out.slot, hs]; simp
  have HS := hide hs
  unfold unv usv at *
  try dsimp only at HG1
  clear ht HG hs
  have bX_0 := blk_cell bX.out 0 _ rfl
  have bX_1 := blk_cell bX.out 1 _ rfl
  have bX_2 := blk_cell bX.out 2 _ rfl
  have bX_3 := blk_cell bX.out 3 _ rfl
  have bX_4 := blk_cell bX.out 4 _ rfl
  go_wp2_with fail
  refine (unhide HDx _ BX.out).mono ?_
  rintro e w6 ⟨rfl, hb⟩
  clear bX_0 bX_1 bX_2 bX_3 bX_4
  clear q6 bS_2
  replace b0 := hide (blk_below b0.out hb)
  replace b2 := hide (blk_below b2.out hb)
  replace bS := hide (blk_below bS.out hb)
  replace bX := hide (blk_below bX.out hb)
  replace BX := hide (BX.out.below hb)
  replace MSL := hide (MSL.out.below hb)
  replace hw := hw.trans (hb.mono hw.size)
  clear hb HDx
  have hbA : Below w6.heap.size w6 (w6.alloc (.cells #[.int .i64 t.slot, .int .i64 t.by', .int .i64 t.rdy] 57)) := (Below.refl _ _).alloc (Nat.le_refl _) _
  have bT := hide (heap_alloc_last w6 (.cells #[.int .i64 t.slot, .int .i64 t.by', .int .i64 t.rdy] 57))
  replace b0 := hide (blk_below b0.out hbA)
  replace b2 := hide (blk_below b2.out hbA)
  replace bS := hide (blk_below bS.out hbA)
  replace bX := hide (blk_below bX.out hbA)
  replace BX := hide (BX.out.below hbA)
  replace MSL := hide (MSL.out.below hbA)
  replace hw := hw.trans (hbA.mono hw.size)
  clear hbA
  go_upto_region 8 with fail
  generalize w6.heap.size = T at *
  generalize w6.alloc (.cells #[.int .i64 t.slot, .int .i64 t.by', .int .i64 t.rdy] 57) = W6 at *
  have b0_0 := blk_cell b0.out 0 _ rfl
  have bX_0 := blk_cell bX.out 0 _ rfl
  have bX_1 := blk_cell bX.out 1 _ rfl
  have bX_2 := blk_cell bX.out 2 _ rfl
  have bX_3 := blk_cell bX.out 3 _ rfl
  have bX_4 := blk_cell bX.out 4 _ rfl
  have b2_0 := blk_cell b2.out 0 _ rfl
  have b2_1 := blk_cell b2.out 1 _ rfl
  have b2_2 := blk_cell b2.out 2 _ rfl
  have b2_3 := blk_cell b2.out 3 _ rfl
  have b2_4 := blk_cell b2.out 4 _ rfl
  have b2_5 := blk_cell b2.out 5 _ rfl
  have b2_6 := blk_cell b2.out 6 _ rfl
  go_wp2_with fail
  refine (unhide HG1 _ hw BX.out).mono ?_
  rintro e w7 ⟨⟨ay, ny, cy, ak, nk, ck, rfl, hby, hmk, hlk, hck, hck1⟩, hb⟩
  have BY := hide hby
  have MSK := hide hmk
  obtain rfl : nk = 1 := hlk.symm
  clear b0_0 bX_0 bX_1 bX_2 bX_3 bX_4 b2_0 b2_1 b2_2 b2_3 b2_4 b2_5 b2_6
  replace b0 := hide (blk_below b0.out hb)
  replace b2 := hide (blk_below b2.out hb)
  replace bS := hide (blk_below bS.out hb)
  replace bX := hide (blk_below bX.out hb)
  replace bT := hide (blk_below bT.out hb)
  replace BX := hide (BX.out.below hb)
  replace MSL := hide (MSL.out.below hb)
  replace hw := hw.trans (hb.mono hw.size)
  clear hb hby hmk HG1
  unfold unv
  try dsimp only
  have hbA : Below w7.heap.size w7 (w7.alloc (.cells #[.slice ay ny cy, .int .i64 A.1.fu, .bool A.1.up, .int .i64 A.1.n, .int .i64 A.1.hv] 50)) := (Below.refl _ _).alloc (Nat.le_refl _) _
  have bY := hide (heap_alloc_last w7 (.cells #[.slice ay ny cy, .int .i64 A.1.fu, .bool A.1.up, .int .i64 A.1.n, .int .i64 A.1.hv] 50))
  replace b0 := hide (blk_below b0.out hbA)
  replace b2 := hide (blk_below b2.out hbA)
  replace bS := hide (blk_below bS.out hbA)
  replace bX := hide (blk_below bX.out hbA)
  replace bT := hide (blk_below bT.out hbA)
  replace BX := hide (BX.out.below hbA)
  replace MSL := hide (MSL.out.below hbA)
  replace BY := hide (BY.out.below hbA)
  replace MSK := hide (MSK.out.below hbA)
  replace hw := hw.trans (hbA.mono hw.size)
  clear hbA
  go_upto_region 9 with fail
  generalize w7.heap.size = Y at *
  generalize w7.alloc (.cells #[.slice ay ny cy, .int .i64 A.1.fu, .bool A.1.up, .int .i64 A.1.n, .int .i64 A.1.hv] 50) = W7 at *
  have HSM := hide (fun W h0 h1 => sameMessages_any (some ⟨bl, 0, none⟩) ak 1 1 cl ck A.2.1 [voteM p true] W h0 h1 (by rw [HL1.out]; rfl) rfl (by decide) (by decide))
  rw [show eqM A.2.1 [voteM p true] = true by rw [HL1.out]; exact eqM_refl _] at HSM
  have HSU := hide (fun W h0 h1 => sameUnit_any A.1 ax nx cx A.1 ay ny cy W h0 h1)
  rw [sameU_refl3] at HSU
  unfold unv at HSU
  have bT_0 := blk_cell bT.out 0 _ rfl
  have bT_2 := blk_cell bT.out 2 _ rfl
  have b2_2 := blk_cell b2.out 2 _ rfl
  have bS_0 := blk_cell bS.out 0 _ rfl
  go_wp2_with fail
  refine (unhide HSM _ MSL.out.msw MSK.out.msw).mono ?_
  rintro e w8 ⟨rfl, hb⟩
  clear bT_0 bT_2 b2_2 bS_0
  replace b0 := hide (blk_below b0.out hb)
  replace b2 := hide (blk_below b2.out hb)
  replace bS := hide (blk_below bS.out hb)
  replace bX := hide (blk_below bX.out hb)
  replace bY := hide (blk_below bY.out hb)
  replace BX := hide (BX.out.below hb)
  replace BY := hide (BY.out.below hb)
  replace hw := hw.trans (hb.mono hw.size)
  clear hb HSM MSL MSK bT
  have bX_0 := blk_cell bX.out 0 _ rfl
  have bX_1 := blk_cell bX.out 1 _ rfl
  have bX_2 := blk_cell bX.out 2 _ rfl
  have bX_3 := blk_cell bX.out 3 _ rfl
  have bX_4 := blk_cell bX.out 4 _ rfl
  have bY_0 := blk_cell bY.out 0 _ rfl
  have bY_1 := blk_cell bY.out 1 _ rfl
  have bY_2 := blk_cell bY.out 2 _ rfl
  have bY_3 := blk_cell bY.out 3 _ rfl
  have bY_4 := blk_cell bY.out 4 _ rfl
  go_wp2_with fail
  refine (unhide HSU _ BX.out BY.out).mono ?_
  rintro e w9 ⟨rfl, hb⟩
  clear bX_0 bX_1 bX_2 bX_3 bX_4 bY_0 bY_1 bY_2 bY_3 bY_4
  replace b0 := hide (blk_below b0.out hb)
  replace b2 := hide (blk_below b2.out hb)
  replace bS := hide (blk_below bS.out hb)
  replace bX := hide (blk_below bX.out hb)
  replace BX := hide (BX.out.below hb)
  replace hw := hw.trans (hb.mono hw.size)
  clear hb HSU bY BY g1 g2
  have hC0 := Nat.ne_of_lt (blk_lt b0.out)
  have hC1 := Nat.ne_of_lt (blk_lt bS.out)
  have hC2 := Nat.ne_of_lt (blk_lt bX.out)
  have hCw := hw.size
  have hbA : Below w9.heap.size w9 (w9.alloc (.cells #[.int .i64 4, .int .i64 p.u, .int .i64 p.n, .int .i64 0, .int .i64 0, .slice none 0 0, .bool false] 52)) := (Below.refl _ _).alloc (Nat.le_refl _) _
  have bC := hide (heap_alloc_last w9 (.cells #[.int .i64 4, .int .i64 p.u, .int .i64 p.n, .int .i64 0, .int .i64 0, .slice none 0 0, .bool false] 52))
  have b2_1 := blk_cell b2.out 1 _ rfl
  have b2_2 := blk_cell b2.out 2 _ rfl
  go_upto_region 12 with fail
  clear b2_1 b2_2
  replace b0 := hide (blk_below b0.out hbA)
  replace b2 := hide (blk_below b2.out hbA)
  replace bS := hide (blk_below bS.out hbA)
  replace bX := hide (blk_below bX.out hbA)
  replace BX := hide (BX.out.below hbA)
  replace hw := hw.trans (hbA.mono hw.size)
  clear hbA
  generalize w9.heap.size = C at *
  generalize w9.alloc (.cells #[.int .i64 4, .int .i64 p.u, .int .i64 p.n, .int .i64 0, .int .i64 0, .slice none 0 0, .bool false] 52) = W9 at *
  have HK4 := hide (fun W hW hx => unhide HK 4 A.1 ax nx cx W hW hx)
  rcases RA.out.com with hcom | ⟨z, ws, hcom, hrun, hin, hnm, hlen, hlate⟩
  · -- there is no room in the log
    have hcom' : hearA ss A.1 ⟨4, p.u, p.n, 0, 0, [], false⟩ = (A.1, [], 0) := hcom
    rw [hcom'] at HK4
    try dsimp only at HK4
    clear hcom hcom' 
    have b0_0 := blk_cell b0.out 0 _ rfl
    have bX_0 := blk_cell bX.out 0 _ rfl
    have bX_1 := blk_cell bX.out 1 _ rfl
    have bX_2 := blk_cell bX.out 2 _ rfl
    have bX_3 := blk_cell bX.out 3 _ rfl
    have bX_4 := blk_cell bX.out 4 _ rfl
    have bC_0 := blk_cell bC.out 0 _ rfl
    have bC_1 := blk_cell bC.out 1 _ rfl
    have bC_2 := blk_cell bC.out 2 _ rfl
    have bC_3 := blk_cell bC.out 3 _ rfl
    have bC_4 := blk_cell bC.out 4 _ rfl
    have bC_5 := blk_cell bC.out 5 _ rfl
    have bC_6 := blk_cell bC.out 6 _ rfl
    go_wp2_with fail
    refine (unhide HK4 _ hw BX.out).mono ?_
    rintro e w10 ⟨⟨az, nz, cz, ad, nd, cd, rfl, hbz, -, hld, hcd, hcd1⟩, hb⟩
    have BZ := hide hbz
    clear b0_0 bX_0 bX_1 bX_2 bX_3 bX_4 bC_0 bC_1 bC_2 bC_3 bC_4 bC_5 bC_6
    replace b0 := hide (blk_below b0.out hb)
    replace b2 := hide (blk_below b2.out hb)
    replace bS := hide (blk_below bS.out hb)
    replace bX := hide (blk_below bX.out hb)
    replace bC := hide (blk_below bC.out hb)
    replace BX := hide (BX.out.below hb)
    replace hw := hw.trans (hb.mono hw.size)
    clear hb hbz HK4
    unfold unv
    try dsimp only
    obtain rfl : nd = 0 := hld.symm
    have hbA : Below w10.heap.size w10 (w10.alloc (.cells #[.slice az nz cz, .int .i64 A.1.fu, .bool A.1.up, .int .i64 A.1.n, .int .i64 A.1.hv] 50)) := (Below.refl _ _).alloc (Nat.le_refl _) _
    have bZ := hide (heap_alloc_last w10 (.cells #[.slice az nz cz, .int .i64 A.1.fu, .bool A.1.up, .int .i64 A.1.n, .int .i64 A.1.hv] 50))
    replace bX := hide (blk_below bX.out hbA)
    replace BX := hide (BX.out.below hbA)
    replace BZ := hide (BZ.out.below hbA)
    replace hw := hw.trans (hbA.mono hw.size)
    clear hbA
    go_upto_region 13 with fail
    generalize w10.heap.size = Z at *
    generalize w10.alloc (.cells #[.slice az nz cz, .int .i64 A.1.fu, .bool A.1.up, .int .i64 A.1.n, .int .i64 A.1.hv] 50) = W10 at *
    have HRz := hide (fun W hW => unitRuns_any A.1 az nz cz W hW)
    unfold unv at HRz
    generalize runsS A.1 = R at *
    have bZ_0 := blk_cell bZ.out 0 _ rfl
    have bZ_1 := blk_cell bZ.out 1 _ rfl
    have bZ_2 := blk_cell bZ.out 2 _ rfl
    have bZ_3 := blk_cell bZ.out 3 _ rfl
    have bZ_4 := blk_cell bZ.out 4 _ rfl
    go_wp2_with fail
    refine (unhide HRz _ BZ.out).mono ?_
    rintro e w11 ⟨⟨av, nv, cv, rfl, -, -, -, -⟩, hb⟩
    clear bZ_0 bZ_1 bZ_2 bZ_3 bZ_4
    replace bX := hide (blk_below bX.out hb)
    replace bZ := hide (blk_below bZ.out hb)
    replace BX := hide (BX.out.below hb)
    replace BZ := hide (BZ.out.below hb)
    replace hw := hw.trans (hb.mono hw.size)
    clear hb HRz
    have HSF := hide (fun W (h0 : BW W az nz cz A.1.ws) (h1 : BW W ax nx cx A.1.ws) => refSame_any az nz cz A.1.ws A.1.fu ax nx cx A.1.ws A.1.fu W h0.at_ h0.len h0.max h1.at_ h1.len h1.max)
    rw [eqL_refl3] at HSF
    simp only [decide_true, Bool.and_self] at HSF
    have bX_0 := blk_cell bX.out 0 _ rfl
    have bX_1 := blk_cell bX.out 1 _ rfl
    have bX_2 := blk_cell bX.out 2 _ rfl
    have bX_3 := blk_cell bX.out 3 _ rfl
    have bX_4 := blk_cell bX.out 4 _ rfl
    have bZ_0 := blk_cell bZ.out 0 _ rfl
    have bZ_1 := blk_cell bZ.out 1 _ rfl
    have bZ_2 := blk_cell bZ.out 2 _ rfl
    have bZ_3 := blk_cell bZ.out 3 _ rfl
    have bZ_4 := blk_cell bZ.out 4 _ rfl
    go_wp2_with fail
    refine (unhide HSF _ BZ.out BX.out).mono ?_
    rintro e w12 ⟨rfl, hb⟩
    go_wp2_with fail
    go_ret
    exact ⟨rfl, hw.trans (hb.mono hw.size)⟩
  have hcom' : hearA ss A.1 ⟨4, p.u, p.n, 0, 0, [], false⟩ = (z, [doneM p], 0) := hcom
  rw [hcom'] at HK4
  try dsimp only at HK4
  have HLate := hide hlate
  have HLen := hide hlen
  clear hcom hcom' hlate hlen
  have b0_0 := blk_cell b0.out 0 _ rfl
  have bX_0 := blk_cell bX.out 0 _ rfl
  have bX_1 := blk_cell bX.out 1 _ rfl
  have bX_2 := blk_cell bX.out 2 _ rfl
  have bX_3 := blk_cell bX.out 3 _ rfl
  have bX_4 := blk_cell bX.out 4 _ rfl
  have bC_0 := blk_cell bC.out 0 _ rfl
  have bC_1 := blk_cell bC.out 1 _ rfl
  have bC_2 := blk_cell bC.out 2 _ rfl
  have bC_3 := blk_cell bC.out 3 _ rfl
  have bC_4 := blk_cell bC.out 4 _ rfl
  have bC_5 := blk_cell bC.out 5 _ rfl
  have bC_6 := blk_cell bC.out 6 _ rfl
  go_wp2_with fail
  refine (unhide HK4 _ hw BX.out).mono ?_
  rintro e w10 ⟨⟨az, nz, cz, ad, nd, cd, rfl, hbz, -, hld, hcd, hcd1⟩, hb⟩
  have BZ := hide hbz
  clear b0_0 bX_0 bX_1 bX_2 bX_3 bX_4 bC_0 bC_1 bC_2 bC_3 bC_4 bC_5 bC_6
  replace b0 := hide (blk_below b0.out hb)
  replace b2 := hide (blk_below b2.out hb)
  replace bS := hide (blk_below bS.out hb)
  replace bX := hide (blk_below bX.out hb)
  replace bC := hide (blk_below bC.out hb)
  replace BX := hide (BX.out.below hb)
  replace hw := hw.trans (hb.mono hw.size)
  clear hb hbz HK4
  unfold unv
  try dsimp only
  obtain rfl : nd = 1 := hld.symm
  have hC3 := Nat.ne_of_gt (blk_lt bC.out)
  have hbA : Below w10.heap.size w10 (w10.alloc (.cells #[.slice az nz cz, .int .i64 z.fu, .bool z.up, .int .i64 z.n, .int .i64 z.hv] 50)) := (Below.refl _ _).alloc (Nat.le_refl _) _
  have bZ := hide (heap_alloc_last w10 (.cells #[.slice az nz cz, .int .i64 z.fu, .bool z.up, .int .i64 z.n, .int .i64 z.hv] 50))
  replace b0 := hide (blk_below b0.out hbA)
  replace b2 := hide (blk_below b2.out hbA)
  replace bS := hide (blk_below bS.out hbA)
  replace bX := hide (blk_below bX.out hbA)
  replace bC := hide (blk_below bC.out hbA)
  replace BX := hide (BX.out.below hbA)
  replace BZ := hide (BZ.out.below hbA)
  replace hw := hw.trans (hbA.mono hw.size)
  clear hbA
  go_upto_region 13 with fail
  generalize w10.heap.size = Z at *
  generalize w10.alloc (.cells #[.slice az nz cz, .int .i64 z.fu, .bool z.up, .int .i64 z.n, .int .i64 z.hv] 50) = W10 at *
  have HRz := hide (fun W hW => unitRuns_any z az nz cz W hW)
  rw [hrun] at HRz
  unfold unv at HRz
  have hzl : z.ws.length = 192 := by
    have := hrun
    rcases Decidable.em (unE z = 0) with h | h
    · exact (unE_ok h).2.1
    · rw [runsS_e h] at this; exact absurd (congrArg (fun r => r.2.2) this) h
  have hwl : Hid (ws.length ≤ maxLen) := by show _ ≤ _; have := runs_lenR z; rw [hrun] at this; exact Nat.le_trans this (by rw [BZ.out.len]; exact BZ.out.max)
  have HZL := hide hzl
  clear hrun hzl
  have bZ_0 := blk_cell bZ.out 0 _ rfl
  have bZ_1 := blk_cell bZ.out 1 _ rfl
  have bZ_2 := blk_cell bZ.out 2 _ rfl
  have bZ_3 := blk_cell bZ.out 3 _ rfl
  have bZ_4 := blk_cell bZ.out 4 _ rfl
  go_wp2_with fail
  refine (unhide HRz _ BZ.out).mono ?_
  rintro e w11 ⟨⟨av, nv, cv, rfl, hiv, hlv, hcv, -⟩, hb⟩
  have IV := hide hiv
  have LV := hide hlv
  clear bZ_0 bZ_1 bZ_2 bZ_3 bZ_4
  replace b0 := hide (blk_below b0.out hb)
  replace b2 := hide (blk_below b2.out hb)
  replace bS := hide (blk_below bS.out hb)
  replace bX := hide (blk_below bX.out hb)
  replace bC := hide (blk_below bC.out hb)
  replace bZ := hide (blk_below bZ.out hb)
  replace BX := hide (BX.out.below hb)
  replace BZ := hide (BZ.out.below hb)
  replace hw := hw.trans (hb.mono hw.size)
  clear hb hiv hlv HRz
  try dsimp only
  have HN1 := hide (fun W hW h2 => unhide HN av nv cv ws W hW h2 LV.out (by rw [← show ws.length = nv from LV.out]; exact hwl.out))
  rw [hin, hnm] at HN1
  have hvl : (nv : Int) = p.at' := by rw [← show ws.length = nv from LV.out]; exact HLen.out
  have k1 : ((nv : Int) != p.at') = false := by rw [hvl]; simp
  clear HN hin hnm hvl
  have b0_0 := blk_cell b0.out 0 _ rfl
  go_wp2_with fail
  refine (unhide HN1 _ hw IV.out).mono ?_
  rintro e w12 ⟨rfl, hb⟩
  clear b0_0
  replace b0 := hide (blk_below b0.out hb)
  replace b2 := hide (blk_below b2.out hb)
  replace bS := hide (blk_below bS.out hb)
  replace bX := hide (blk_below bX.out hb)
  replace bC := hide (blk_below bC.out hb)
  replace bZ := hide (blk_below bZ.out hb)
  replace BX := hide (BX.out.below hb)
  replace BZ := hide (BZ.out.below hb)
  replace hw := hw.trans (hb.mono hw.size)
  clear hb HN1 IV
  have b2_3 := blk_cell b2.out 3 _ rfl
  have b2_4 := blk_cell b2.out 4 _ rfl
  have bC_0 := blk_cell bC.out 0 _ rfl
  have fC := blk_free bC.out 0
  go_upto_region 22 with fail
  clear b2_3 b2_4 bC_0 fC
  have hTn : w12.grownBy (w12.setCell ⟨C, 0, none⟩ (.int .i64 5)) (some C) := turns_set1 _ _ _ _
  have bC5 := hide (word_k bC.out 5)
  have hAl : A.1.ws.length = 192 := (unE_ok RA.out.ok).2.1
  have oX := ints_big BX.out.at_ bC.out (by rw [hAl]; show (7 : Nat) < 192; decide)
  have oZ := ints_big BZ.out.at_ bC.out (by rw [HZL.out]; show (7 : Nat) < 192; decide)
  replace BX := hide (BX.out.turns hTn oX)
  replace BZ := hide (BZ.out.turns hTn oZ)
  replace b0 := hide (blk_turns b0.out hTn hC0)
  replace bS := hide (blk_turns bS.out hTn hC1)
  replace bX := hide (blk_turns bX.out hTn hC2)
  replace bZ := hide (blk_turns bZ.out hTn hC3)
  replace hw := turns_below hw hTn hCw hw.size
  clear hTn oX oZ bC hAl
  generalize w12.setCell ⟨C, 0, none⟩ (.int .i64 5) = W13 at *
  obtain ⟨o, lo, habo, hvo, hor⟩ := RA.out.abo
  have HK5 := hide (fun W hW hx => unhide HK 5 A.1 ax nx cx W hW hx)
  rw [show hearA ss A.1 ⟨5, p.u, p.n, 0, 0, [], false⟩ = (o, lo, 0) from habo] at HK5
  have HKz := hide (fun W hW hx => unhide HK 5 z az nz cz W hW hx)
  rw [show hearA ss z ⟨5, p.u, p.n, 0, 0, [], false⟩ = (z, [], 0) from HLate.out] at HKz
  try dsimp only at HK5
  try dsimp only at HKz
  have HOr := hide hor
  clear HK HLate habo hor
  have b0_0 := blk_cell b0.out 0 _ rfl
  have bX_0 := blk_cell bX.out 0 _ rfl
  have bX_1 := blk_cell bX.out 1 _ rfl
  have bX_2 := blk_cell bX.out 2 _ rfl
  have bX_3 := blk_cell bX.out 3 _ rfl
  have bX_4 := blk_cell bX.out 4 _ rfl
  have bC5_0 := blk_cell bC5.out 0 _ rfl
  have bC5_1 := blk_cell bC5.out 1 _ rfl
  have bC5_2 := blk_cell bC5.out 2 _ rfl
  have bC5_3 := blk_cell bC5.out 3 _ rfl
  have bC5_4 := blk_cell bC5.out 4 _ rfl
  have bC5_5 := blk_cell bC5.out 5 _ rfl
  have bC5_6 := blk_cell bC5.out 6 _ rfl
  go_wp2_with fail
  refine (unhide HK5 _ hw BX.out).mono ?_
  rintro e w14 ⟨⟨ao, no, co, ag, ng, cg, rfl, hbo, -, hlg, hcg, hcg1⟩, hb⟩
  have BO := hide hbo
  have LG := hide hlg
  clear b0_0 bX_0 bX_1 bX_2 bX_3 bX_4 bC5_0 bC5_1 bC5_2 bC5_3 bC5_4 bC5_5 bC5_6
  replace b0 := hide (blk_below b0.out hb)
  replace bS := hide (blk_below bS.out hb)
  replace bC5 := hide (blk_below bC5.out hb)
  replace bZ := hide (blk_below bZ.out hb)
  replace BZ := hide (BZ.out.below hb)
  replace hw := hw.trans (hb.mono hw.size)
  clear hb hbo hlg HK5 bX BX
  unfold unv
  try dsimp only
  have hbA : Below w14.heap.size w14 (w14.alloc (.cells #[.slice ao no co, .int .i64 o.fu, .bool o.up, .int .i64 o.n, .int .i64 o.hv] 50)) := (Below.refl _ _).alloc (Nat.le_refl _) _
  have bO := hide (heap_alloc_last w14 (.cells #[.slice ao no co, .int .i64 o.fu, .bool o.up, .int .i64 o.n, .int .i64 o.hv] 50))
  replace b0 := hide (blk_below b0.out hbA)
  replace bS := hide (blk_below bS.out hbA)
  replace bC5 := hide (blk_below bC5.out hbA)
  replace bZ := hide (blk_below bZ.out hbA)
  replace BZ := hide (BZ.out.below hbA)
  replace BO := hide (BO.out.below hbA)
  replace hw := hw.trans (hbA.mono hw.size)
  clear hbA
  go_upto_region 23 with fail
  generalize w14.heap.size = O at *
  generalize w14.alloc (.cells #[.slice ao no co, .int .i64 o.fu, .bool o.up, .int .i64 o.n, .int .i64 o.hv] 50) = W14 at *
  have HDo := hide (fun W (hW : BW W ao no co o.ws) => unitRead_any o ao no co W hW)
  rw [uReadS_0 hvo] at HDo
  obtain ⟨r, hr⟩ : ∃ r, r = stOf o.ws := ⟨_, rfl⟩
  rw [← hr] at HDo HOr
  unfold unv usv at HDo
  clear hvo hr
  have bO_0 := blk_cell bO.out 0 _ rfl
  have bO_1 := blk_cell bO.out 1 _ rfl
  have bO_2 := blk_cell bO.out 2 _ rfl
  have bO_3 := blk_cell bO.out 3 _ rfl
  have bO_4 := blk_cell bO.out 4 _ rfl
  go_wp2_with fail
  refine (unhide HDo _ BO.out).mono ?_
  rintro e w15 ⟨rfl, hb⟩
  clear bO_0 bO_1 bO_2 bO_3 bO_4
  replace b0 := hide (blk_below b0.out hb)
  replace bS := hide (blk_below bS.out hb)
  replace bC5 := hide (blk_below bC5.out hb)
  replace bZ := hide (blk_below bZ.out hb)
  replace BZ := hide (BZ.out.below hb)
  replace hw := hw.trans (hb.mono hw.size)
  clear hb HDo bO BO
  have hbA : Below w15.heap.size w15 (w15.alloc (.cells #[.int .i64 r.slot, .int .i64 r.by', .int .i64 r.rdy] 57)) := (Below.refl _ _).alloc (Nat.le_refl _) _
  have bR := hide (heap_alloc_last w15 (.cells #[.int .i64 r.slot, .int .i64 r.by', .int .i64 r.rdy] 57))
  replace b0 := hide (blk_below b0.out hbA)
  replace bS := hide (blk_below bS.out hbA)
  replace bC5 := hide (blk_below bC5.out hbA)
  replace bZ := hide (blk_below bZ.out hbA)
  replace BZ := hide (BZ.out.below hbA)
  replace hw := hw.trans (hbA.mono hw.size)
  clear hbA
  go_upto_region 24 with fail
  generalize w15.heap.size = R at *
  generalize w15.alloc (.cells #[.int .i64 r.slot, .int .i64 r.by', .int .i64 r.rdy] 57) = W15 at *
  have b0_0 := blk_cell b0.out 0 _ rfl
  have bZ_0 := blk_cell bZ.out 0 _ rfl
  have bZ_1 := blk_cell bZ.out 1 _ rfl
  have bZ_2 := blk_cell bZ.out 2 _ rfl
  have bZ_3 := blk_cell bZ.out 3 _ rfl
  have bZ_4 := blk_cell bZ.out 4 _ rfl
  have bC5_0 := blk_cell bC5.out 0 _ rfl
  have bC5_1 := blk_cell bC5.out 1 _ rfl
  have bC5_2 := blk_cell bC5.out 2 _ rfl
  have bC5_3 := blk_cell bC5.out 3 _ rfl
  have bC5_4 := blk_cell bC5.out 4 _ rfl
  have bC5_5 := blk_cell bC5.out 5 _ rfl
  have bC5_6 := blk_cell bC5.out 6 _ rfl
  go_wp2_with fail
  refine (unhide HKz _ hw BZ.out).mono ?_
  rintro e w16 ⟨⟨ay, ny, cy, an, nn, cn, rfl, hby, -, hln, hcn, hcn1⟩, hb⟩
  have BY := hide hby
  obtain rfl : nn = 0 := hln.symm
  clear b0_0 bZ_0 bZ_1 bZ_2 bZ_3 bZ_4 bC5_0 bC5_1 bC5_2 bC5_3 bC5_4 bC5_5 bC5_6
  replace bS := hide (blk_below bS.out hb)
  replace bR := hide (blk_below bR.out hb)
  replace bZ := hide (blk_below bZ.out hb)
  replace BZ := hide (BZ.out.below hb)
  replace hw := hw.trans (hb.mono hw.size)
  clear hb hby HKz b0 bC5
  unfold unv
  try dsimp only
  have hbA : Below w16.heap.size w16 (w16.alloc (.cells #[.slice ay ny cy, .int .i64 z.fu, .bool z.up, .int .i64 z.n, .int .i64 z.hv] 50)) := (Below.refl _ _).alloc (Nat.le_refl _) _
  have bY := hide (heap_alloc_last w16 (.cells #[.slice ay ny cy, .int .i64 z.fu, .bool z.up, .int .i64 z.n, .int .i64 z.hv] 50))
  replace bS := hide (blk_below bS.out hbA)
  replace bR := hide (blk_below bR.out hbA)
  replace bZ := hide (blk_below bZ.out hbA)
  replace BZ := hide (BZ.out.below hbA)
  replace BY := hide (BY.out.below hbA)
  replace hw := hw.trans (hbA.mono hw.size)
  clear hbA
  go_upto_region 25 with fail
  generalize w16.heap.size = Y2 at *
  generalize w16.alloc (.cells #[.slice ay ny cy, .int .i64 z.fu, .bool z.up, .int .i64 z.n, .int .i64 z.hv] 50) = W16 at *
  have HSU := hide (fun W h0 h1 => sameUnit_any z ay ny cy z az nz cz W h0 h1)
  rw [sameU_refl3] at HSU
  unfold unv at HSU
  have bS_0 := blk_cell bS.out 0 _ rfl
  have bS_1 := blk_cell bS.out 1 _ rfl
  have bR_0 := blk_cell bR.out 0 _ rfl
  have bR_1 := blk_cell bR.out 1 _ rfl
  have bR_2 := blk_cell bR.out 2 _ rfl
  have bZ_0 := blk_cell bZ.out 0 _ rfl
  have bZ_1 := blk_cell bZ.out 1 _ rfl
  have bZ_2 := blk_cell bZ.out 2 _ rfl
  have bZ_3 := blk_cell bZ.out 3 _ rfl
  have bZ_4 := blk_cell bZ.out 4 _ rfl
  have bY_0 := blk_cell bY.out 0 _ rfl
  have bY_1 := blk_cell bY.out 1 _ rfl
  have bY_2 := blk_cell bY.out 2 _ rfl
  have bY_3 := blk_cell bY.out 3 _ rfl
  have bY_4 := blk_cell bY.out 4 _ rfl
  rcases HOr.out with h0 | ⟨h1, h2, h3, h4⟩
  · obtain rfl : ng = 0 := by rw [← show lo.length = ng from LG.out, h0]; rfl
    clear h0
    go_wp2_with fail
    refine (unhide HSU _ BY.out BZ.out).mono ?_
    rintro e w17 ⟨rfl, hb⟩
    go_wp2_with fail
    go_ret
    exact ⟨rfl, hw.trans (hb.mono hw.size)⟩
  obtain rfl : ng = 1 := by rw [← show lo.length = ng from LG.out]; exact h1
  have k2 : (r.rdy == 0) = true := by simpa using h2
  have k3 : (r.slot == D.1.slot) = true := by rw [HS.out]; simpa using h3
  have k4 : (r.by' == D.1.by') = true := by rw [HS.out]; simpa using h4
  clear h1 h2 h3 h4
  go_wp2_with fail
  refine (unhide HSU _ BY.out BZ.out).mono ?_
  rintro e w17 ⟨rfl, hb⟩
  go_wp2_with fail
  go_ret
  exact ⟨rfl, hw.trans (hb.mono hw.size)⟩

end Go.Proofs.YtanpglfpopbfkabGreatDoor
