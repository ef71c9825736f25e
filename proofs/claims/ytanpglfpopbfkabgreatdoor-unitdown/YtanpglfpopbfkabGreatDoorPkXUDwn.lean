/- The walk of the law UnitDown: a unit that isn't up hears nothing; nor does one hear what isn't for it. The closed fact is its premise. -/
import Derived.Test.YtanpglfpopbfkabGreatDoorPk32
import Derived.Test.YtanpglfpopbfkabGreatDoorPk41
import Derived.Test.YtanpglfpopbfkabGreatDoorPk4
namespace Go.Proofs.YtanpglfpopbfkabGreatDoor
open Go.RowKit
attribute [local go_sem ↓] Go.wp_at_zero Go.wp_at_succ

theorem eqL_refl' (xs : List Int) : eqL xs xs = true := by unfold eqL; simp
theorem sameU_refl (u : Un) : sameU u u = true := by unfold sameU; rw [eqL_refl']; simp
/-- A unit without power. -/
def dn (u : Un) : Un := ⟨u.ws, u.fu, false, u.n, u.hv⟩
/-- The message as another kind. -/
def mk' (m : Ms) (k : Int) : Ms := ⟨k, m.u, m.n, m.at', m.im, m.ws, m.y⟩
theorem hearA_dn {ss : List ByteArray} {u : Un} {m : Ms} (h : heE ss (dn u) m = 0) : hearA ss (dn u) m = (dn u, [], 0) := hearA_down h rfl
theorem hearA_other {ss : List ByteArray} {u : Un} {m : Ms} {k : Int} (hk : k = 3 ∨ k = 6 ∨ k = 7) (h : heE ss u (mk' m k) = 0) : hearA ss u (mk' m k) = (u, [], 0) := by
  cases g : u.up
  · exact hearA_down h g
  · have h1 : (mk' m k).k = k := rfl
    rw [hearA_up h g, hearK_0 (by rw [h1]; omega) (by rw [h1]; omega) (by rw [h1]; omega) (by rw [h1]; omega)]

set_option maxRecDepth 100000 in
set_option maxHeartbeats 12800000 in
theorem unitDown_walk (HUn : ∀ W : World, Tab W → Calls Tryz.prog 28 #[] W fun e w' => e = .returned (.bool true) ∧ Below W.heap.size W w')
    (ab : Option Addr) (nb cb : Nat) (ss : List ByteArray) (u : Un) (a : Option Addr) (n c : Nat) (m : Ms) (am : Option Addr) (nm cm : Nat) (w : World) (hB : BB w ab nb cb ss) (hT : Tab w) (hU : BW w a n c u.ws) (hM : BI w am nm m.ws) (hkk : -9223372036854775808 ≤ m.k ∧ m.k ≤ 9223372036854775807) :
    Calls Tryz.prog 7 #[bookv ab nb cb, unv u a n c, msv m am nm cm] w fun e w' => e = .returned (.bool true) ∧ Below w.heap.size w w' := by
  have hw0 : Below w.heap.size w ((((w.alloc (.cells #[.slice ab nb cb] 46)).alloc (.cells #[.slice a n c, .int .i64 u.fu, .bool u.up, .int .i64 u.n, .int .i64 u.hv] 50)).alloc (.cells #[.int .i64 m.k, .int .i64 m.u, .int .i64 m.n, .int .i64 m.at', .int .i64 m.im, .slice am nm cm, .bool m.y] 52)).alloc (.cells #[.slice a n c, .int .i64 u.fu, .bool false, .int .i64 u.n, .int .i64 u.hv] 50)) := ((((Below.refl _ _).alloc (Nat.le_refl _) _).alloc (by simp) _).alloc (by simp; omega) _).alloc (by simp; omega) _
  have b0 : Hid (((((w.alloc (.cells #[.slice ab nb cb] 46)).alloc (.cells #[.slice a n c, .int .i64 u.fu, .bool u.up, .int .i64 u.n, .int .i64 u.hv] 50)).alloc (.cells #[.int .i64 m.k, .int .i64 m.u, .int .i64 m.n, .int .i64 m.at', .int .i64 m.im, .slice am nm cm, .bool m.y] 52)).alloc (.cells #[.slice a n c, .int .i64 u.fu, .bool false, .int .i64 u.n, .int .i64 u.hv] 50)).heap[w.heap.size]? = some (.cells #[.slice ab nb cb] 46 (0, 0))) := blk_alloc bk3.1 _
  have b1 : Hid (((((w.alloc (.cells #[.slice ab nb cb] 46)).alloc (.cells #[.slice a n c, .int .i64 u.fu, .bool u.up, .int .i64 u.n, .int .i64 u.hv] 50)).alloc (.cells #[.int .i64 m.k, .int .i64 m.u, .int .i64 m.n, .int .i64 m.at', .int .i64 m.im, .slice am nm cm, .bool m.y] 52)).alloc (.cells #[.slice a n c, .int .i64 u.fu, .bool false, .int .i64 u.n, .int .i64 u.hv] 50)).heap[w.heap.size + 1]? = some (.cells #[.slice a n c, .int .i64 u.fu, .bool u.up, .int .i64 u.n, .int .i64 u.hv] 50 (0, 0))) := blk_alloc bk3.2.1 _
  have b2 : Hid (((((w.alloc (.cells #[.slice ab nb cb] 46)).alloc (.cells #[.slice a n c, .int .i64 u.fu, .bool u.up, .int .i64 u.n, .int .i64 u.hv] 50)).alloc (.cells #[.int .i64 m.k, .int .i64 m.u, .int .i64 m.n, .int .i64 m.at', .int .i64 m.im, .slice am nm cm, .bool m.y] 52)).alloc (.cells #[.slice a n c, .int .i64 u.fu, .bool false, .int .i64 u.n, .int .i64 u.hv] 50)).heap[w.heap.size + 1 + 1]? = some (.cells #[.int .i64 m.k, .int .i64 m.u, .int .i64 m.n, .int .i64 m.at', .int .i64 m.im, .slice am nm cm, .bool m.y] 52 (0, 0))) := blk_alloc bk3.2.2 _
  have b3 : Hid (((((w.alloc (.cells #[.slice ab nb cb] 46)).alloc (.cells #[.slice a n c, .int .i64 u.fu, .bool u.up, .int .i64 u.n, .int .i64 u.hv] 50)).alloc (.cells #[.int .i64 m.k, .int .i64 m.u, .int .i64 m.n, .int .i64 m.at', .int .i64 m.im, .slice am nm cm, .bool m.y] 52)).alloc (.cells #[.slice a n c, .int .i64 u.fu, .bool false, .int .i64 u.n, .int .i64 u.hv] 50)).heap[w.heap.size + 1 + 1 + 1]? = some (.cells #[.slice a n c, .int .i64 u.fu, .bool false, .int .i64 u.n, .int .i64 u.hv] 50 (0, 0))) := uLast3 _ _ _ _ _
  have H1 := hide (fun W (hW : Below w.heap.size w W) => unitHear_any ab nb cb ss (dn u) a n c m am nm cm W (hB.below hW) (hT.below hW) (hU.below hW) (hM.below hW))
  have H2 := hide (fun k W (hW : Below w.heap.size w W) => unitHear_any ab nb cb ss u a n c (mk' m k) am nm cm W (hB.below hW) (hT.below hW) (hU.below hW) (hM.below hW))
  have HS1 := hide (fun a2 n2 c2 W (hW : Below w.heap.size w W) (h2 : BW W a2 n2 c2 (dn u).ws) => sameUnit_any (dn u) a2 n2 c2 (dn u) a n c W h2 (hU.below hW))
  have HS2 := hide (fun a2 n2 c2 W (hW : Below w.heap.size w W) (h2 : BW W a2 n2 c2 u.ws) => sameUnit_any u a2 n2 c2 u a n c W h2 (hU.below hW))
  have HUn' := hide (fun W (hW : Below w.heap.size w W) => HUn W (hT.below hW))
  clear hB hT hU hM HUn
  unfold bookv unv msv at *
  go_enter Tryz.func7, Tryz.ntmps7
  go_upto_region 3 with fail
  generalize (((w.alloc (.cells #[.slice ab nb cb] 46)).alloc (.cells #[.slice a n c, .int .i64 u.fu, .bool u.up, .int .i64 u.n, .int .i64 u.hv] 50)).alloc (.cells #[.int .i64 m.k, .int .i64 m.u, .int .i64 m.n, .int .i64 m.at', .int .i64 m.im, .slice am nm cm, .bool m.y] 52)).alloc (.cells #[.slice a n c, .int .i64 u.fu, .bool false, .int .i64 u.n, .int .i64 u.hv] 50) = W at *
  have k0 := blk_cell b0.out 0 _ rfl
  have y0 := blk_cell b2.out 0 _ rfl
  have y1 := blk_cell b2.out 1 _ rfl
  have y2 := blk_cell b2.out 2 _ rfl
  have y3 := blk_cell b2.out 3 _ rfl
  have y4 := blk_cell b2.out 4 _ rfl
  have y5 := blk_cell b2.out 5 _ rfl
  have y6 := blk_cell b2.out 6 _ rfl
  have x0 := blk_cell b3.out 0 _ rfl
  have x1 := blk_cell b3.out 1 _ rfl
  have x2 := blk_cell b3.out 2 _ rfl
  have x3 := blk_cell b3.out 3 _ rfl
  have x4 := blk_cell b3.out 4 _ rfl
  have E1 := hide (fun h => hearA_dn (ss := ss) (u := u) (m := m) h)
  have E1e := hide (fun h => hearA_e (ss := ss) (u := dn u) (m := m) h)
  unfold dn at H1 HS1
  go_wp2_with fail
  refine (unhide H1 _ hw0).mono ?_
  rintro e w1 ⟨⟨a1, n1, c1, am1, nm1, cm1, rfl, hbw1, hms1, hl1, hc1, hx1⟩, hb⟩
  replace b0 := hide (blk_below b0.out hb)
  replace b1 := hide (blk_below b1.out hb)
  replace b2 := hide (blk_below b2.out hb)
  replace b3 := hide (blk_below b3.out hb)
  replace hw0 := hw0.trans (hb.mono hw0.size)
  have BW1 := hide hbw1
  have HL1 := hide hl1
  clear hb H1 hbw1 hms1 hl1 k0 y0 y1 y2 y3 y4 y5 y6 x0 x1 x2 x3 x4
  have HR : Hid ((hearA ss (dn u) m = (dn u, [], 0)) ∨ (hearA ss (dn u) m = (un0, [], heE ss (dn u) m) ∧ heE ss (dn u) m ≠ 0)) := by
    show _ ∨ _
    by_cases z : heE ss (dn u) m = 0
    · exact .inl (E1.out z)
    · exact .inr ⟨E1e.out z, z⟩
  unfold dn at HR
  generalize hearA ss ⟨u.ws, u.fu, false, u.n, u.hv⟩ m = r at *
  generalize heE ss ⟨u.ws, u.fu, false, u.n, u.hv⟩ m = q at *
  clear E1 E1e
  unfold unv
  rcases HR.out with hr | ⟨hr, hq⟩
  · subst hr
    obtain rfl : nm1 = 0 := by rw [← HL1.out]; rfl
    have Z0 := hide (heap_alloc_last w1 (.cells #[.slice a1 n1 c1, .int .i64 u.fu, .bool false, .int .i64 u.n, .int .i64 u.hv] 50))
    have hk1 := hw0.alloc hw0.size (.cells #[.slice a1 n1 c1, .int .i64 u.fu, .bool false, .int .i64 u.n, .int .i64 u.hv] 50)
    have x0 := blk_cell (blk_alloc b3.out (.cells #[.slice a1 n1 c1, .int .i64 u.fu, .bool false, .int .i64 u.n, .int .i64 u.hv] 50)) 0 _ rfl
    have x1 := blk_cell (blk_alloc b3.out (.cells #[.slice a1 n1 c1, .int .i64 u.fu, .bool false, .int .i64 u.n, .int .i64 u.hv] 50)) 1 _ rfl
    have x2 := blk_cell (blk_alloc b3.out (.cells #[.slice a1 n1 c1, .int .i64 u.fu, .bool false, .int .i64 u.n, .int .i64 u.hv] 50)) 2 _ rfl
    have x3 := blk_cell (blk_alloc b3.out (.cells #[.slice a1 n1 c1, .int .i64 u.fu, .bool false, .int .i64 u.n, .int .i64 u.hv] 50)) 3 _ rfl
    have x4 := blk_cell (blk_alloc b3.out (.cells #[.slice a1 n1 c1, .int .i64 u.fu, .bool false, .int .i64 u.n, .int .i64 u.hv] 50)) 4 _ rfl
    have HQ := hide (sameU_refl ⟨u.ws, u.fu, false, u.n, u.hv⟩)
    have BW2 := hide (BW1.out.below ((Below.refl _ _).alloc (Nat.le_refl _) (.cells #[.slice a1 n1 c1, .int .i64 u.fu, .bool false, .int .i64 u.n, .int .i64 u.hv] 50)))
    have b0' := hide (blk_alloc b0.out (.cells #[.slice a1 n1 c1, .int .i64 u.fu, .bool false, .int .i64 u.n, .int .i64 u.hv] 50))
    have b1' := hide (blk_alloc b1.out (.cells #[.slice a1 n1 c1, .int .i64 u.fu, .bool false, .int .i64 u.n, .int .i64 u.hv] 50))
    have b2' := hide (blk_alloc b2.out (.cells #[.slice a1 n1 c1, .int .i64 u.fu, .bool false, .int .i64 u.n, .int .i64 u.hv] 50))

    clear BW1 b0 b1 b2
    go_wp2_with fail
    refine (unhide HS1 a1 n1 c1 _ hk1 BW2.out).mono ?_
    rintro e wc ⟨rfl, hb⟩
    have b0 := hide (blk_below b0'.out hb)
    have b1 := hide (blk_below b1'.out hb)
    have b2 := hide (blk_below b2'.out hb)
    replace hk1 := hk1.trans (hb.mono hk1.size)
    rw [HQ.out]
    clear hb b0' b1' b2' b3 BW2 HQ HS1 x0 x1 x2 x3 x4 Z0 hw0 hx1 HL1 HR
    go_upto_region 6 with fail
    have hat := hide (fun W => at_any m.k 3 W (by decide) (by decide) hkk)
    have h3 : m.k % 3 = 0 ∨ m.k % 3 = 1 ∨ m.k % 3 = 2 := by omega
    have y0 := blk_cell (blk_alloc b2.out (.cells #[.int .i64 3, .int .i64 6, .int .i64 7] 3)) 0 _ rfl
    have fy0 := blk_free (blk_alloc b2.out (.cells #[.int .i64 3, .int .i64 6, .int .i64 7] 3)) 0
    have hszm := blk_lt b2.out
    obtain ⟨kk, hkk3, hkv⟩ : ∃ kk : Int, (kk = 3 ∨ kk = 6 ∨ kk = 7) ∧ Hid ((m.k % 3 = 0 ∧ kk = 3) ∨ (m.k % 3 = 1 ∧ kk = 6) ∨ (m.k % 3 = 2 ∧ kk = 7)) := by
      rcases h3 with h | h | h
      · exact ⟨3, .inl rfl, .inl ⟨h, rfl⟩⟩
      · exact ⟨6, .inr (.inl rfl), .inr (.inl ⟨h, rfl⟩)⟩
      · exact ⟨7, .inr (.inr rfl), .inr (.inr ⟨h, rfl⟩)⟩
    have KK := hide hkk3
    clear h3 hkk hkk3
    go_cut [5] (fun v5 wd => v5 = .pointer (some ⟨w.heap.size + 1 + 1, 0, none⟩) ∧ wd = ((wc.setCell ⟨w.heap.size + 1 + 1, 0, none⟩ (.int .i64 kk)).alloc (.cells #[.int .i64 3, .int .i64 6, .int .i64 7] 3)))
    case first =>
      go_wp2_with fail
      refine (unhide hat _).mono ?_
      rintro e w' ⟨rfl, rfl⟩
      rcases hkv.out with ⟨h, rfl⟩ | ⟨h, rfl⟩ | ⟨h, rfl⟩
      all_goals
        rw [h]
        go_wp2_with fail
        go_meet
        case rel => exact ⟨rfl, rfl⟩
    case rest =>
    obtain ⟨rfl, rfl⟩ := hcut
    have hg := turns_set1 wc (w.heap.size + 1 + 1) 0 (.int .i64 kk)
    have c0 := hide (blk_alloc (blk_turns b0.out hg (by omega)) (.cells #[.int .i64 3, .int .i64 6, .int .i64 7] 3))
    have c1 := hide (blk_alloc (blk_turns b1.out hg (by omega)) (.cells #[.int .i64 3, .int .i64 6, .int .i64 7] 3))
    have c2 : Hid ((wc.setCell ⟨w.heap.size + 1 + 1, 0, none⟩ (.int .i64 kk)).heap[w.heap.size + 1 + 1]? = some (.cells #[.int .i64 kk, .int .i64 m.u, .int .i64 m.n, .int .i64 m.at', .int .i64 m.im, .slice am nm cm, .bool m.y] 52 (0, 0))) := by
      show _ = _
      have h0 := b2.out
      simp only [World.setCell, Array.getElem?_modify]
      simp [h0]
    replace c2 := hide (blk_alloc c2.out (.cells #[.int .i64 3, .int .i64 6, .int .i64 7] 3))
    replace hk1 := hk1.setCell (p := ⟨w.heap.size + 1 + 1, 0, none⟩) (by show w.heap.size ≤ w.heap.size + 1 + 1; omega) (.int .i64 kk)
    replace hk1 := hk1.alloc hk1.size (.cells #[.int .i64 3, .int .i64 6, .int .i64 7] 3)
    have H := hide (H2.out kk _ hk1)
    have HO := hide (fun h => hearA_other (ss := ss) (u := u) (m := m) KK.out h)
    have HOe := hide (fun h => hearA_e (ss := ss) (u := u) (m := mk' m kk) h)
    unfold mk' at H
    clear hat hkv KK hg b0 b1 b2 y0 fy0 hszm H2
    generalize (wc.setCell ⟨w.heap.size + 1 + 1, 0, none⟩ (.int .i64 kk)).alloc (.cells #[.int .i64 3, .int .i64 6, .int .i64 7] 3) = W5 at *
    have k0 := blk_cell c0.out 0 _ rfl
    have x0 := blk_cell c1.out 0 _ rfl
    have x1 := blk_cell c1.out 1 _ rfl
    have x2 := blk_cell c1.out 2 _ rfl
    have x3 := blk_cell c1.out 3 _ rfl
    have x4 := blk_cell c1.out 4 _ rfl
    have y0 := blk_cell c2.out 0 _ rfl
    have y1 := blk_cell c2.out 1 _ rfl
    have y2 := blk_cell c2.out 2 _ rfl
    have y3 := blk_cell c2.out 3 _ rfl
    have y4 := blk_cell c2.out 4 _ rfl
    have y5 := blk_cell c2.out 5 _ rfl
    have y6 := blk_cell c2.out 6 _ rfl
    go_wp2_with fail
    refine (unhide H).mono ?_
    rintro e w6 ⟨⟨a6, n6, c6, am6, nm6, cm6, rfl, hbw6, hms6, hl6, hc6, hx6⟩, hb⟩
    replace c1 := hide (blk_below c1.out hb)
    replace hk1 := hk1.trans (hb.mono hk1.size)
    have BW6 := hide hbw6
    have HL6 := hide hl6
    clear hb H hbw6 hms6 hl6 k0 x0 x1 x2 x3 x4 y0 y1 y2 y3 y4 y5 y6 c0 c2
    have HR : Hid ((hearA ss u (mk' m kk) = (u, [], 0)) ∨ (hearA ss u (mk' m kk) = (un0, [], heE ss u (mk' m kk)) ∧ heE ss u (mk' m kk) ≠ 0)) := by
      show _ ∨ _
      by_cases z : heE ss u (mk' m kk) = 0
      · exact .inl (HO.out z)
      · exact .inr ⟨HOe.out z, z⟩
    unfold mk' at HR
    generalize hearA ss u ⟨kk, m.u, m.n, m.at', m.im, m.ws, m.y⟩ = r6 at *
    generalize heE ss u ⟨kk, m.u, m.n, m.at', m.im, m.ws, m.y⟩ = q6 at *
    clear HO HOe
    unfold unv
    rcases HR.out with hr6 | ⟨hr6, hq6⟩
    · subst hr6
      obtain rfl : nm6 = 0 := by rw [← HL6.out]; rfl
      have HQ := hide (sameU_refl u)
      have BW7 := hide (BW6.out.below ((Below.refl _ _).alloc (Nat.le_refl _) (.cells #[.slice a6 n6 c6, .int .i64 u.fu, .bool u.up, .int .i64 u.n, .int .i64 u.hv] 50)))
      have Y7 := hide (heap_alloc_last w6 (.cells #[.slice a6 n6 c6, .int .i64 u.fu, .bool u.up, .int .i64 u.n, .int .i64 u.hv] 50))
      have c1' := hide (blk_alloc c1.out (.cells #[.slice a6 n6 c6, .int .i64 u.fu, .bool u.up, .int .i64 u.n, .int .i64 u.hv] 50))
      replace hk1 := hk1.alloc hk1.size (.cells #[.slice a6 n6 c6, .int .i64 u.fu, .bool u.up, .int .i64 u.n, .int .i64 u.hv] 50)
      have HUw := hide (HUn'.out _ hk1)
      clear BW6 c1 HUn' HR
      go_wp2_with fail
      refine (unhide HUw).mono ?_
      rintro e w8 ⟨rfl, hb⟩
      replace Y7 := hide (blk_below Y7.out hb)
      replace c1' := hide (blk_below c1'.out hb)
      replace BW7 := hide (BW7.out.below hb)
      replace hk1 := hk1.trans (hb.mono hk1.size)
      clear hb HUw
      have x0 := blk_cell c1'.out 0 _ rfl
      have x1 := blk_cell c1'.out 1 _ rfl
      have x2 := blk_cell c1'.out 2 _ rfl
      have x3 := blk_cell c1'.out 3 _ rfl
      have x4 := blk_cell c1'.out 4 _ rfl
      have z0 := blk_cell Y7.out 0 _ rfl
      have z1 := blk_cell Y7.out 1 _ rfl
      have z2 := blk_cell Y7.out 2 _ rfl
      have z3 := blk_cell Y7.out 3 _ rfl
      have z4 := blk_cell Y7.out 4 _ rfl
      go_wp2_with fail
      refine (unhide HS2 a6 n6 c6 _ hk1 BW7.out).mono ?_
      rintro e w9 ⟨rfl, hb⟩
      rw [HQ.out]
      clear HQ
      go_wp2_with fail
      go_ret
      exact ⟨rfl, hk1.trans (hb.mono hk1.size)⟩
    · subst hr6
      have dq : (q6 != 0) = true := by simpa using hq6
      replace hk1 := hk1.alloc hk1.size (.cells #[.slice a6 n6 c6, .int .i64 0, .bool false, .int .i64 0, .int .i64 0] 50)
      have HUw := hide (HUn'.out _ hk1)
      clear BW6 c1 HUn' HR hq6
      unfold un0
      go_wp2_with fail
      refine (unhide HUw).mono ?_
      rintro e w8 ⟨rfl, hb⟩
      replace hk1 := hk1.trans (hb.mono hk1.size)
      clear hb HUw
      go_wp2_with fail
      go_ret
      exact ⟨rfl, hk1⟩
  · subst hr
    have dq : (q == 0) = false := by simpa using hq
    have wcx : Hid (∃ wc, wc = w1.alloc (.cells #[.slice a1 n1 c1, .int .i64 0, .bool false, .int .i64 0, .int .i64 0] 50)) := ⟨_, rfl⟩
    have hk1 := hw0.alloc hw0.size (.cells #[.slice a1 n1 c1, .int .i64 0, .bool false, .int .i64 0, .int .i64 0] 50)
    replace b0 := hide (blk_alloc b0.out (.cells #[.slice a1 n1 c1, .int .i64 0, .bool false, .int .i64 0, .int .i64 0] 50))
    replace b1 := hide (blk_alloc b1.out (.cells #[.slice a1 n1 c1, .int .i64 0, .bool false, .int .i64 0, .int .i64 0] 50))
    replace b2 := hide (blk_alloc b2.out (.cells #[.slice a1 n1 c1, .int .i64 0, .bool false, .int .i64 0, .int .i64 0] 50))
    clear BW1 b3 HS1 hw0 hx1 HL1 HR hq wcx
    unfold un0
    go_upto_region 6 with fail
    generalize w1.alloc (.cells #[.slice a1 n1 c1, .int .i64 0, .bool false, .int .i64 0, .int .i64 0] 50) = wc at *
    have hat := hide (fun W => at_any m.k 3 W (by decide) (by decide) hkk)
    have h3 : m.k % 3 = 0 ∨ m.k % 3 = 1 ∨ m.k % 3 = 2 := by omega
    have y0 := blk_cell (blk_alloc b2.out (.cells #[.int .i64 3, .int .i64 6, .int .i64 7] 3)) 0 _ rfl
    have fy0 := blk_free (blk_alloc b2.out (.cells #[.int .i64 3, .int .i64 6, .int .i64 7] 3)) 0
    have hszm := blk_lt b2.out
    obtain ⟨kk, hkk3, hkv⟩ : ∃ kk : Int, (kk = 3 ∨ kk = 6 ∨ kk = 7) ∧ Hid ((m.k % 3 = 0 ∧ kk = 3) ∨ (m.k % 3 = 1 ∧ kk = 6) ∨ (m.k % 3 = 2 ∧ kk = 7)) := by
      rcases h3 with h | h | h
      · exact ⟨3, .inl rfl, .inl ⟨h, rfl⟩⟩
      · exact ⟨6, .inr (.inl rfl), .inr (.inl ⟨h, rfl⟩)⟩
      · exact ⟨7, .inr (.inr rfl), .inr (.inr ⟨h, rfl⟩)⟩
    have KK := hide hkk3
    clear h3 hkk hkk3
    go_cut [5] (fun v5 wd => v5 = .pointer (some ⟨w.heap.size + 1 + 1, 0, none⟩) ∧ wd = ((wc.setCell ⟨w.heap.size + 1 + 1, 0, none⟩ (.int .i64 kk)).alloc (.cells #[.int .i64 3, .int .i64 6, .int .i64 7] 3)))
    case first =>
      go_wp2_with fail
      refine (unhide hat _).mono ?_
      rintro e w' ⟨rfl, rfl⟩
      rcases hkv.out with ⟨h, rfl⟩ | ⟨h, rfl⟩ | ⟨h, rfl⟩
      all_goals
        rw [h]
        go_wp2_with fail
        go_meet
        case rel => exact ⟨rfl, rfl⟩
    case rest =>
    obtain ⟨rfl, rfl⟩ := hcut
    have hg := turns_set1 wc (w.heap.size + 1 + 1) 0 (.int .i64 kk)
    have c0 := hide (blk_alloc (blk_turns b0.out hg (by omega)) (.cells #[.int .i64 3, .int .i64 6, .int .i64 7] 3))
    have c1 := hide (blk_alloc (blk_turns b1.out hg (by omega)) (.cells #[.int .i64 3, .int .i64 6, .int .i64 7] 3))
    have c2 : Hid ((wc.setCell ⟨w.heap.size + 1 + 1, 0, none⟩ (.int .i64 kk)).heap[w.heap.size + 1 + 1]? = some (.cells #[.int .i64 kk, .int .i64 m.u, .int .i64 m.n, .int .i64 m.at', .int .i64 m.im, .slice am nm cm, .bool m.y] 52 (0, 0))) := by
      show _ = _
      have h0 := b2.out
      simp only [World.setCell, Array.getElem?_modify]
      simp [h0]
    replace c2 := hide (blk_alloc c2.out (.cells #[.int .i64 3, .int .i64 6, .int .i64 7] 3))
    replace hk1 := hk1.setCell (p := ⟨w.heap.size + 1 + 1, 0, none⟩) (by show w.heap.size ≤ w.heap.size + 1 + 1; omega) (.int .i64 kk)
    replace hk1 := hk1.alloc hk1.size (.cells #[.int .i64 3, .int .i64 6, .int .i64 7] 3)
    have H := hide (H2.out kk _ hk1)
    have HO := hide (fun h => hearA_other (ss := ss) (u := u) (m := m) KK.out h)
    have HOe := hide (fun h => hearA_e (ss := ss) (u := u) (m := mk' m kk) h)
    unfold mk' at H
    clear hat hkv KK hg b0 b1 b2 y0 fy0 hszm H2
    generalize (wc.setCell ⟨w.heap.size + 1 + 1, 0, none⟩ (.int .i64 kk)).alloc (.cells #[.int .i64 3, .int .i64 6, .int .i64 7] 3) = W5 at *
    have k0 := blk_cell c0.out 0 _ rfl
    have x0 := blk_cell c1.out 0 _ rfl
    have x1 := blk_cell c1.out 1 _ rfl
    have x2 := blk_cell c1.out 2 _ rfl
    have x3 := blk_cell c1.out 3 _ rfl
    have x4 := blk_cell c1.out 4 _ rfl
    have y0 := blk_cell c2.out 0 _ rfl
    have y1 := blk_cell c2.out 1 _ rfl
    have y2 := blk_cell c2.out 2 _ rfl
    have y3 := blk_cell c2.out 3 _ rfl
    have y4 := blk_cell c2.out 4 _ rfl
    have y5 := blk_cell c2.out 5 _ rfl
    have y6 := blk_cell c2.out 6 _ rfl
    go_wp2_with fail
    refine (unhide H).mono ?_
    rintro e w6 ⟨⟨a6, n6, c6, am6, nm6, cm6, rfl, hbw6, hms6, hl6, hc6, hx6⟩, hb⟩
    replace c1 := hide (blk_below c1.out hb)
    replace hk1 := hk1.trans (hb.mono hk1.size)
    have BW6 := hide hbw6
    have HL6 := hide hl6
    clear hb H hbw6 hms6 hl6 k0 x0 x1 x2 x3 x4 y0 y1 y2 y3 y4 y5 y6 c0 c2
    have HR : Hid ((hearA ss u (mk' m kk) = (u, [], 0)) ∨ (hearA ss u (mk' m kk) = (un0, [], heE ss u (mk' m kk)) ∧ heE ss u (mk' m kk) ≠ 0)) := by
      show _ ∨ _
      by_cases z : heE ss u (mk' m kk) = 0
      · exact .inl (HO.out z)
      · exact .inr ⟨HOe.out z, z⟩
    unfold mk' at HR
    generalize hearA ss u ⟨kk, m.u, m.n, m.at', m.im, m.ws, m.y⟩ = r6 at *
    generalize heE ss u ⟨kk, m.u, m.n, m.at', m.im, m.ws, m.y⟩ = q6 at *
    clear HO HOe
    unfold unv
    rcases HR.out with hr6 | ⟨hr6, hq6⟩
    · subst hr6
      obtain rfl : nm6 = 0 := by rw [← HL6.out]; rfl
      have HQ := hide (sameU_refl u)
      have BW7 := hide (BW6.out.below ((Below.refl _ _).alloc (Nat.le_refl _) (.cells #[.slice a6 n6 c6, .int .i64 u.fu, .bool u.up, .int .i64 u.n, .int .i64 u.hv] 50)))
      have Y7 := hide (heap_alloc_last w6 (.cells #[.slice a6 n6 c6, .int .i64 u.fu, .bool u.up, .int .i64 u.n, .int .i64 u.hv] 50))
      have c1' := hide (blk_alloc c1.out (.cells #[.slice a6 n6 c6, .int .i64 u.fu, .bool u.up, .int .i64 u.n, .int .i64 u.hv] 50))
      replace hk1 := hk1.alloc hk1.size (.cells #[.slice a6 n6 c6, .int .i64 u.fu, .bool u.up, .int .i64 u.n, .int .i64 u.hv] 50)
      have HUw := hide (HUn'.out _ hk1)
      clear BW6 c1 HUn' HR
      go_wp2_with fail
      refine (unhide HUw).mono ?_
      rintro e w8 ⟨rfl, hb⟩
      replace Y7 := hide (blk_below Y7.out hb)
      replace c1' := hide (blk_below c1'.out hb)
      replace BW7 := hide (BW7.out.below hb)
      replace hk1 := hk1.trans (hb.mono hk1.size)
      clear hb HUw
      have x0 := blk_cell c1'.out 0 _ rfl
      have x1 := blk_cell c1'.out 1 _ rfl
      have x2 := blk_cell c1'.out 2 _ rfl
      have x3 := blk_cell c1'.out 3 _ rfl
      have x4 := blk_cell c1'.out 4 _ rfl
      have z0 := blk_cell Y7.out 0 _ rfl
      have z1 := blk_cell Y7.out 1 _ rfl
      have z2 := blk_cell Y7.out 2 _ rfl
      have z3 := blk_cell Y7.out 3 _ rfl
      have z4 := blk_cell Y7.out 4 _ rfl
      go_wp2_with fail
      refine (unhide HS2 a6 n6 c6 _ hk1 BW7.out).mono ?_
      rintro e w9 ⟨rfl, hb⟩
      rw [HQ.out]
      clear HQ
      go_wp2_with fail
      go_ret
      exact ⟨rfl, hk1.trans (hb.mono hk1.size)⟩
    · subst hr6
      have dq : (q6 != 0) = true := by simpa using hq6
      replace hk1 := hk1.alloc hk1.size (.cells #[.slice a6 n6 c6, .int .i64 0, .bool false, .int .i64 0, .int .i64 0] 50)
      have HUw := hide (HUn'.out _ hk1)
      clear BW6 c1 HUn' HR hq6
      unfold un0
      go_wp2_with fail
      refine (unhide HUw).mono ?_
      rintro e w8 ⟨rfl, hb⟩
      replace hk1 := hk1.trans (hb.mono hk1.size)
      clear hb HUw
      go_wp2_with fail
      go_ret
      exact ⟨rfl, hk1⟩

end Go.Proofs.YtanpglfpopbfkabGreatDoor
