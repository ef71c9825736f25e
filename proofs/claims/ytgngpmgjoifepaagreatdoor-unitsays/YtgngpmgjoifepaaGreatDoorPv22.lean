/- The reference's hands of a unit: what is done to its flash ('hands.flash'), a record ('hands.record'), an answer. Plain facts on package slot: what is done to one slot leaves all else as it was. The reference's erases, as a row; two sectors one behind the other. -/
import Derived.Test.YtgngpmgjoifepaaGreatDoorPv16
import Derived.Test.YtgngpmgjoifepaaGreatDoorPv18
import Derived.Test.YtgngpmgjoifepaaGreatDoorPv21
import Derived.Deep.DeepCutAuto
import Derived.BigRegion
import Derived.Test.YtgngpmgjoifepaaGreatDoorPv9
import Derived.Test.YtgngpmgjoifepaaGreatDoorPv8
import Derived.Test.YtgngpmgjoifepaaGreatDoorPv13
namespace Go.Proofs.YtgngpmgjoifepaaGreatDoor
open Go.RowKit
attribute [local go_sem ↓] Go.wp_at_zero Go.wp_at_succ

def hnO (u : Un) (a : Option Addr) (n c : Nat) (st : Bool) : Obj := .cells #[.slice a n c, .int .i64 u.fu, .bool u.up, .int .i64 u.n, .int .i64 u.hv, .bool st] 137 (0, 0)
structure OwnH (w : World) (H : Nat) (u : Un) (st : Bool) (a : Option Addr) (n c : Nat) : Prop where
  box : w.heap[H]? = some (hnO u a n c st)
  ws : BW w a n c u.ws
  off : Off H a
theorem OwnH.below {w w' : World} {H : Nat} {u : Un} {st : Bool} {a : Option Addr} {n c : Nat} (h : OwnH w H u st a n c) (hb : Below w.heap.size w w') : OwnH w' H u st a n c := ⟨blk_below h.box hb, h.ws.below hb, h.off⟩
theorem hn_set6 {W : World} {H : Nat} {v0 v1 v2 v3 v4 v5 : Value} {x0 x1 x2 x3 x4 x5 : Value} {t : TypeId} (h : W.heap[H]? = some (.cells #[x0, x1, x2, x3, x4, x5] t (0, 0))) : ((((((W.setCell ⟨H, 0, none⟩ v0).setCell ⟨H, 1, none⟩ v1).setCell ⟨H, 2, none⟩ v2).setCell ⟨H, 3, none⟩ v3).setCell ⟨H, 4, none⟩ v4).setCell ⟨H, 5, none⟩ v5).heap[H]? = some (.cells #[v0, v1, v2, v3, v4, v5] t (0, 0)) := by
  simp only [World.setCell, Array.getElem?_modify]
  simp [h]
theorem hn_set3 {W : World} {H : Nat} {v0 v1 v5 : Value} {x0 x1 x2 x3 x4 x5 : Value} {t : TypeId} (h : W.heap[H]? = some (.cells #[x0, x1, x2, x3, x4, x5] t (0, 0))) : (((W.setCell ⟨H, 0, none⟩ v0).setCell ⟨H, 1, none⟩ v1).setCell ⟨H, 5, none⟩ v5).heap[H]? = some (.cells #[v0, v1, x2, x3, x4, v5] t (0, 0)) := by
  simp only [World.setCell, Array.getElem?_modify]
  simp [h]
theorem hn_set1 {W : World} {H : Nat} {v5 : Value} {x0 x1 x2 x3 x4 x5 : Value} {t : TypeId} (h : W.heap[H]? = some (.cells #[x0, x1, x2, x3, x4, x5] t (0, 0))) : (W.setCell ⟨H, 5, none⟩ v5).heap[H]? = some (.cells #[x0, x1, x2, x3, x4, v5] t (0, 0)) := by
  simp only [World.setCell, Array.getElem?_modify]
  simp [h]
def HdOf (w : World) (H : Nat) (r : Un × Bool) (w' : World) : Prop := (∃ a n c, OwnH w' H r.1 (!r.2) a n c) ∧ w.grownBy w' (some H)

set_option maxRecDepth 100000 in
set_option maxHeartbeats 3200000 in
theorem handsFlash_any (H : Nat) (u : Un) (a : Option Addr) (n c : Nat) (r : List Int × Int × Int) (b : Option Addr) (k d : Nat) (w : World) (hH : OwnH w H u false a n c) (hr : BW w b k d r.1) (ho : Off H b) :
    Calls Tryz.prog 73 #[.pointer (some ⟨H, 0, none⟩), .agg #[.slice b k d, .int .i64 r.2.1], .int .i64 r.2.2] w fun e w' => e = .returned (.tuple #[]) ∧ HdOf w H (doU u r) w' := by
  have hw := below_new (Below.refl w.heap.size w) (.cells #[.slice b k d, .int .i64 r.2.1] 27)
  have b0 := hide (blk_below hH.box hw)
  unfold hnO at b0
  have b1 := hide (heap_alloc_last w (.cells #[.slice b k d, .int .i64 r.2.1] 27))
  have HP := hide (hH.below hw)
  have HW := hide (hr.below hw)
  have x0 := blk_cell b0.out 0 _ rfl
  have x1 := blk_cell b0.out 1 _ rfl
  have x2 := blk_cell b0.out 2 _ rfl
  have x3 := blk_cell b0.out 3 _ rfl
  have x4 := blk_cell b0.out 4 _ rfl
  have x5 := blk_cell b0.out 5 _ rfl
  have f0 := blk_free b0.out 0
  have f1 := blk_free b0.out 1
  have f2 := blk_free b0.out 2
  have f3 := blk_free b0.out 3
  have f4 := blk_free b0.out 4
  have f5 := blk_free b0.out 5
  have y0 := blk_cell b1.out 0 _ rfl
  have y1 := blk_cell b1.out 1 _ rfl
  clear hH hr
  go_enter Tryz.func73, Tryz.ntmps73
  by_cases z7 : r.2.2 = 7
  {
  have d0 : (r.2.2 == 0) = false := by rw [z7]; rfl
  have d7 : (r.2.2 == 7) = true := by simpa using z7
  have dn : (r.2.2 != 0) = true := by rw [z7]; rfl
  have HE := hide (doU_7 (u := u) z7)
  clear z7
  go_wp2_with fail
  go_end0
  rw [HE.out]
  have hT : (w.alloc (.cells #[.slice b k d, .int .i64 r.2.1] 27)).grownBy (((((((w.alloc (.cells #[.slice b k d, .int .i64 r.2.1] 27)).setCell ⟨H, 0, none⟩ (.slice b k d)).setCell ⟨H, 1, none⟩ (.int .i64 r.2.1)).setCell ⟨H, 2, none⟩ (.bool false)).setCell ⟨H, 3, none⟩ (.int .i64 0)).setCell ⟨H, 4, none⟩ (.int .i64 0)).setCell ⟨H, 5, none⟩ (.bool true)) (some H) := turns_set (turns_set (turns_set (turns_set (turns_set (turns_set (World.grownBy.refl _ _) _ _) _ _) _ _) _ _) _ _) _ _
  exact ⟨rfl, ⟨b, k, d, hn_set6 b0.out, HW.out.turns hT ho, ho⟩, (turns_of hw H).trans hT⟩
  }
  have d7 : (r.2.2 == 7) = false := by simpa using z7
  by_cases z0 : r.2.2 = 0
  {
  have d0 : (r.2.2 == 0) = true := by simpa using z0
  have dn : (r.2.2 != 0) = false := by rw [z0]; rfl
  have HE := hide (doU_0 (u := u) z0)
  clear z0 z7
  go_wp2_with fail
  go_end0
  rw [HE.out]
  have hT : (w.alloc (.cells #[.slice b k d, .int .i64 r.2.1] 27)).grownBy ((((w.alloc (.cells #[.slice b k d, .int .i64 r.2.1] 27)).setCell ⟨H, 0, none⟩ (.slice b k d)).setCell ⟨H, 1, none⟩ (.int .i64 r.2.1)).setCell ⟨H, 5, none⟩ (.bool false)) (some H) := turns_set (turns_set (turns_set (World.grownBy.refl _ _) _ _) _ _) _ _
  exact ⟨rfl, ⟨b, k, d, hn_set3 b0.out, HW.out.turns hT ho, ho⟩, (turns_of hw H).trans hT⟩
  }
  have d0 : (r.2.2 == 0) = false := by simpa using z0
  have dn : (r.2.2 != 0) = true := by simpa using z0
  have HE := hide (doU_e (u := u) z7 z0)
  clear z0 z7
  go_wp2_with fail
  go_end0
  rw [HE.out]
  have hT : (w.alloc (.cells #[.slice b k d, .int .i64 r.2.1] 27)).grownBy ((w.alloc (.cells #[.slice b k d, .int .i64 r.2.1] 27)).setCell ⟨H, 5, none⟩ (.bool true)) (some H) := turns_set (World.grownBy.refl _ _) _ _
  exact ⟨rfl, ⟨a, n, c, hn_set1 b0.out, HP.out.ws.turns hT HP.out.off, HP.out.off⟩, (turns_of hw H).trans hT⟩

theorem MakingR.on {w0 w w' : World} {v : Value} {rs : List (List Int)} (h : MakingR w0 w v rs) (hb : Below w.heap.size w w') : MakingR w0 w' v rs := by
  obtain ⟨vs, hown, hr⟩ := h.own
  refine ⟨⟨vs, ownsRow_below hown hb, fun i r hi => ?_⟩, h.below.trans (hb.mono h.below.size)⟩
  obtain ⟨g, c, h1, ⟨cur, h2, h3⟩, h4⟩ := hr i r hi
  exact ⟨g, c, h1, ⟨cur, blk_below h2 hb, h3⟩, h4⟩

set_option maxRecDepth 100000 in
set_option maxHeartbeats 6400000 in
theorem handsRecord_any (H : Nat) (u : Un) (a : Option Addr) (n c : Nat) (ar : Option Addr) (nr cr : Nat) (r : List Int) (w : World) (hH : OwnH w H u false a n c) (hr : BI w ar nr r) (hk : lchk u.ws u.fu = 0) :
    Calls Tryz.prog 79 #[.pointer (some ⟨H, 0, none⟩), .slice ar nr cr] w fun e w' => e = .returned (.tuple #[]) ∧ HdOf w H (doV u (.not (stOf u.ws) r)) w' := by
  obtain ⟨irr, hir, rz0, rz1, rz2⟩ := info_parts info_record
  obtain ⟨s, hs⟩ : ∃ s, s = stOf u.ws := ⟨_, rfl⟩
  have b0 := hide hH.box
  unfold hnO at b0
  have HP := hide hH
  have HS := hide (unitStateOf_any u a n c w hH.ws hk)
  have HA := hide (fun ak nk ck (W : World) (hW : Below w.heap.size w W) (hq : IsRecs W ak (keepU s)) (hnk : (keepU s).length = nk) (hmk : nk ≤ maxLen) => appended_any a n c u.ws u.fu ar nr cr r ak nk ck (keepU s) W (hH.ws.below hW).at_ hH.ws.len hH.ws.cap hk (hr.below hW).at_ hr.len hr.max hq hnk hmk)
  rw [← hs] at HS ⊢
  clear hs
  have HD : Hid (doV u (.not s r) = doU u (appS u.ws u.fu r (keepU s))) := rfl
  obtain ⟨R, hR⟩ : ∃ R, R = appS u.ws u.fu r (keepU s) := ⟨_, rfl⟩
  have HLe : Hid (R.1.length ≤ u.ws.length) := by rw [hR]; exact doT_le (.not s r) _ _
  rw [← hR] at HA HD
  have hHw := blk_lt b0.out
  clear hH hr hR hk
  unfold unv usv at HS
  have x0 := blk_cell b0.out 0 _ rfl
  have x1 := blk_cell b0.out 1 _ rfl
  have x2 := blk_cell b0.out 2 _ rfl
  have x3 := blk_cell b0.out 3 _ rfl
  have x4 := blk_cell b0.out 4 _ rfl
  have x5 := blk_cell b0.out 5 _ rfl
  go_enter Tryz.func79, Tryz.ntmps79
  go_wp2_with fail
  refine (unhide HS).mono ?_
  rintro e w1 ⟨rfl, hb⟩
  clear HS x0 x1 x2 x3 x4 x5
  go_upto_region 1 with fail
  have hw : Below w.heap.size w (w1.alloc (.cells #[.int .i64 s.slot, .int .i64 s.by', .int .i64 s.rdy] 40)) := below_new hb _
  have bX := hide (heap_alloc_last w1 (.cells #[.int .i64 s.slot, .int .i64 s.by', .int .i64 s.rdy] 40))
  have hXw : w1.heap.size < (w1.alloc (.cells #[.int .i64 s.slot, .int .i64 s.by', .int .i64 s.rdy] 40)).heap.size := by simp
  have hwX := hb.size
  clear hb
  generalize w1.alloc (.cells #[.int .i64 s.slot, .int .i64 s.by', .int .i64 s.rdy] 40) = W at *
  generalize w1.heap.size = X at *
  have s0 := blk_cell bX.out 0 _ rfl
  have s1 := blk_cell bX.out 1 _ rfl
  have s2 := blk_cell bX.out 2 _ rfl
  go_upto_region 2 with fail
  have hM1 : MakingR W ((W.alloc (.cells #[.int .i64 1, .int .i64 s.slot, .int .i64 s.by'] 3)).alloc (.cells #[.slice (some ⟨W.heap.size, 0, none⟩) 3 3] 133)) (.slice (some ⟨W.heap.size + 1, 0, none⟩) 1 1) [[1, s.slot, s.by']] := by
    refine ⟨⟨[.slice (some ⟨W.heap.size, 0, none⟩) 3 3], ⟨rfl, .inr ⟨_, 1, _, rfl, by omega, uLast1 W (.cells #[.int .i64 1, .int .i64 s.slot, .int .i64 s.by'] 3) (.cells #[.slice (some ⟨W.heap.size, 0, none⟩) 3 3] 133), Nat.le_refl _, by decide, rfl, rfl⟩⟩, fun i r hi => ?_⟩, below_new (below_new (Below.refl _ _) _) _⟩
    match i with
    | 0 => simp at hi; subst hi; exact ⟨_, 3, rfl, ⟨_, blk_alloc (heap_alloc_last W (.cells #[.int .i64 1, .int .i64 s.slot, .int .i64 s.by'] 3)) _, rfl⟩, Nat.le_refl _, by decide⟩
    | i + 1 => simp at hi
  have hb2 : Below W.heap.size W ((W.alloc (.cells #[.int .i64 1, .int .i64 s.slot, .int .i64 s.by'] 3)).alloc (.cells #[.slice (some ⟨W.heap.size, 0, none⟩) 3 3] 133)) := below_new (below_new (Below.refl _ _) _) _
  replace bX := hide (blk_below bX.out hb2)
  clear s0 s1 s2
  have HM1 := hide hM1
  clear hM1
  generalize (W.alloc (.cells #[.int .i64 1, .int .i64 s.slot, .int .i64 s.by'] 3)).alloc (.cells #[.slice (some ⟨W.heap.size, 0, none⟩) 3 3] 133) = W2 at *
  have s2 := blk_cell bX.out 2 _ rfl
  have hW2 := hb2.size
  go_upto_if 19 with fail
  generalize Value.slice (some ⟨W.heap.size + 1, 0, none⟩) 1 1 = q0 at *
  go_cut [5] (fun v wc => ∃ q, q = v ∧ MakingR W wc q (keepU s))
  case first =>
    by_cases z : s.rdy = 0
    {
    have d : (s.rdy != 0) = false := by simpa using z
    have HE := hide (keepU_0 z)
    clear z
    go_wp2_with fail
    go_meet
    case rel => exact ⟨_, rfl, by rw [HE.out]; exact HM1.out⟩
    }
    {
    have d : (s.rdy != 0) = true := by simpa using z
    have HE := hide (keepU_1 z)
    clear z
    obtain ⟨vs, hown, hr⟩ := HM1.out.own
    have hbB := below_new (below_new (Below.refl W2.heap.size W2) (.cells #[.int .i64 2, .int .i64 s.rdy] 3)) (.cells #[.slice (some ⟨W2.heap.size, 0, none⟩) 2 2] 133)
    have hrow := ownsRow_below hown hbB
    have hnews := news_one (W2.alloc (.cells #[.int .i64 2, .int .i64 s.rdy] 3)) (.slice (some ⟨W2.heap.size, 0, none⟩) 2 2) 133
    rw [World.size_alloc] at hnews
    have bR := hide (blk_alloc (heap_alloc_last W2 (.cells #[.int .i64 2, .int .i64 s.rdy] 3)) (.cells #[.slice (some ⟨W2.heap.size, 0, none⟩) 2 2] 133))
    have HO := hide hown
    have HR := hide hr
    have hbe := HM1.out.below
    clear hown hr
    go_wp2_with (at_builtin; refine wpList_append_lies _ rfl _ _ 130 rfl W.heap.size 133 irr _ 1 24 Tryz.underlying130 hir rz0 rz1 rz2 rfl (by omega) q0 1 vs rfl hrow ⟨W2.heap.size + 1, 0, none⟩ 1 1 [.slice (some ⟨W2.heap.size, 0, none⟩) 2 2] rfl rfl hnews (one_one _ _ _) (by omega) (by unfold maxLen; omega) (by omega) (by simp; omega) _ rfl ?_)
    intro g5 cap w5 hown5 hgr hat hlt5
    have hmk5 := hide (MakingR.step (rs := [[1, s.slot, s.by']]) (r := [2, s.rdy]) hbe HO.out HR.out hbB ⟨_, bR.out, rfl⟩ (Nat.le_refl 2) (by decide) hown5 hgr)
    clear hown5 hgr hat hrow hnews
    go_wp2_with fail
    go_meet
    case rel => exact ⟨_, rfl, by rw [HE.out]; exact hmk5.out⟩
    }
  case rest =>
  obtain ⟨q, rfl, hmk⟩ := hcut
  obtain ⟨wr, rfl⟩ : ∃ wr : World, wr = wc := ⟨_, rfl⟩
  obtain ⟨ak, ck, rfl, hc1, hc2, hrc⟩ := hmk.isRecs
  replace b0 := hide (blk_below b0.out (hw.trans (hmk.below.mono hw.size)))
  have hwr := hw.trans (hmk.below.mono hw.size)
  have HRc := hide hrc
  clear hmk hrc HM1 bX s2 hb2
  have x0 := blk_cell b0.out 0 _ rfl
  have x1 := blk_cell b0.out 1 _ rfl
  go_wp2_with fail
  refine (unhide HA ak _ ck _ hwr HRc.out rfl (Nat.le_trans hc1 hc2)).mono ?_
  rintro e w5 ⟨⟨a5, n5, c5, rfl, hi5, hn5, hc5, hf5⟩, hb5⟩
  clear HA HRc x0 x1
  have hmx : n5 ≤ maxLen := by rw [← hn5]; exact Nat.le_trans HLe.out (by rw [HP.out.ws.len]; exact HP.out.ws.max)
  have hw5 := hwr.trans (hb5.mono hwr.size)
  have HF := hide (handsFlash_any H u a n c R a5 n5 c5 w5 (HP.out.below hw5) ⟨hi5, hn5, hc5, hmx⟩ (fun ad e => by have h1 := hf5 ad e; have h2 := hwr.size; omega))
  clear hi5 hn5 hf5
  go_wp2_with fail
  refine (unhide HF).mono ?_
  rintro e w6 ⟨rfl, h6, hg6⟩
  go_wp2_with fail
  go_end0
  rw [HD.out]
  exact ⟨rfl, h6, (turns_of hw5 H).trans hg6⟩

def RefAns (w : World) (r : Un × List Ms) (e : Ending) (w' : World) : Prop :=
  (∃ a n c am nm cm, e = .returned (.tuple #[unv r.1 a n c, .slice am nm cm]) ∧ BW w' a n c r.1.ws ∧ IsMsgs w' am r.2 ∧ r.2.length = nm ∧ nm ≤ cm ∧ cm ≤ 1) ∧ Below w.heap.size w w'
def ansM (m : Ms) (k : Int) (y : Bool) : Ms := ⟨k, m.u, m.n, 0, 0, [], y⟩
def ansU (u : Un) (st : Bool) (m : Ms) (k : Int) (y : Bool) : Un × List Ms := (u, if st = true then [] else [ansM m k y])
theorem unit_set5 {W : World} {b : Nat} {v0 v1 v2 v3 v4 x0 x1 x2 x3 x4 : Value} {t : TypeId} (h : W.heap[b]? = some (.cells #[x0, x1, x2, x3, x4] t (0, 0))) : (((((W.setCell ⟨b, 0, none⟩ v0).setCell ⟨b, 1, none⟩ v1).setCell ⟨b, 2, none⟩ v2).setCell ⟨b, 3, none⟩ v3).setCell ⟨b, 4, none⟩ v4).heap[b]? = some (.cells #[v0, v1, v2, v3, v4] t (0, 0)) := by
  simp only [World.setCell, Array.getElem?_modify]
  simp [h]

set_option maxRecDepth 100000 in
set_option maxHeartbeats 3200000 in
theorem answer_any (H P M : Nat) (u : Un) (st : Bool) (a : Option Addr) (n c : Nat) (m : Ms) (am : Option Addr) (nm cm : Nat) (k : Int) (y : Bool) (w : World) (hH : OwnH w H u st a n c) (hP : w.cell? ⟨P, 0, none⟩ = some (.pointer (some ⟨H, 0, none⟩))) (hM : w.heap[M]? = some (msO m am nm cm)) :
    Calls Tryz.prog 72 #[.int .i64 k, .bool y, .pointer (some ⟨P, 0, none⟩), .pointer (some ⟨M, 0, none⟩)] w (RefAns w (ansU u st m k y)) := by
  have hw := below_new (Below.refl w.heap.size w) (.cells #[.slice none 0 0, .int .i64 0, .bool false, .int .i64 0, .int .i64 0] 29)
  have bZ := hide (heap_alloc_last w (.cells #[.slice none 0 0, .int .i64 0, .bool false, .int .i64 0, .int .i64 0] 29))
  have b0 := hide (blk_below hH.box hw)
  unfold hnO at b0
  have bM := hide (blk_below hM hw)
  unfold msO at bM
  have HP := hide (hH.below hw)
  have hPc := (hw.cell (cell_lt hP)).trans hP
  have hoffZ : Off w.heap.size a ∨ u.ws = [] := (ints_off hH.ws.at_ w.heap.size (Nat.le_refl _)).symm
  have l0P : P < w.heap.size := cell_lt hP
  have l0H := blk_lt hH.box
  have l0M := blk_lt hM
  clear hH hM hP
  have x0 := blk_cell b0.out 0 _ rfl
  have x1 := blk_cell b0.out 1 _ rfl
  have x2 := blk_cell b0.out 2 _ rfl
  have x3 := blk_cell b0.out 3 _ rfl
  have x4 := blk_cell b0.out 4 _ rfl
  have x5 := blk_cell b0.out 5 _ rfl
  obtain ⟨z0, z1, z2, z3, z4⟩ := cl5 bZ.out
  have f0 := blk_free bZ.out 0
  have f1 := blk_free bZ.out 1
  have f2 := blk_free bZ.out 2
  have f3 := blk_free bZ.out 3
  have f4 := blk_free bZ.out 4
  have hBW : Hid (∀ W' : World, (w.alloc (.cells #[.slice none 0 0, .int .i64 0, .bool false, .int .i64 0, .int .i64 0] 29)).grownBy W' (some w.heap.size) → BW W' a n c u.ws) := fun W' hg => by
    rcases hoffZ with h | h
    { exact HP.out.ws.turns hg h }
    { exact ⟨.inl h, HP.out.ws.len, HP.out.ws.cap, HP.out.ws.max⟩ }
  go_enter Tryz.func72, Tryz.ntmps72
  go_upto_region 1 with fail
  generalize w.alloc (.cells #[.slice none 0 0, .int .i64 0, .bool false, .int .i64 0, .int .i64 0] 29) = W at *
  have nM : ¬ M = w.heap.size := by omega
  have nM2 : ¬ w.heap.size = M := by omega
  have nP : ¬ P = w.heap.size := by omega
  have nP2 : ¬ w.heap.size = P := by omega
  have nH : ¬ H = w.heap.size := by omega
  have nH2 : ¬ w.heap.size = H := by omega
  clear l0P l0H l0M
  have lP : P < W.heap.size := cell_lt hPc
  have lH := blk_lt b0.out
  have lM := blk_lt bM.out
  have lZ := blk_lt bZ.out
  cases st with
  | true =>
    go_wp2_with fail
    have hT : W.grownBy (((((W.setCell ⟨w.heap.size, 0, none⟩ (.slice a n c)).setCell ⟨w.heap.size, 1, none⟩ (.int .i64 u.fu)).setCell ⟨w.heap.size, 2, none⟩ (.bool u.up)).setCell ⟨w.heap.size, 3, none⟩ (.int .i64 u.n)).setCell ⟨w.heap.size, 4, none⟩ (.int .i64 u.hv)) (some w.heap.size) := turns_set (turns_set (turns_set (turns_set (turns_set (World.grownBy.refl _ _) _ _) _ _) _ _) _ _) _ _
    have bN := hide (unit_set5 (v0 := .slice a n c) (v1 := .int .i64 u.fu) (v2 := .bool u.up) (v3 := .int .i64 u.n) (v4 := .int .i64 u.hv) bZ.out)
    obtain ⟨r0, r1, r2, r3, r4⟩ := cl5 bN.out
    refine bodyPost_ret (v := .tuple #[unv u a n c, .slice none 0 0]) (by simp [results, Tryz.results72, go_sem, unv, r0, r1, r2, r3, r4]) rfl ?_
    exact ⟨⟨a, n, c, none, 0, 0, rfl, hBW.out _ hT, .inl rfl, rfl, Nat.le_refl _, by omega⟩, turns_below hw hT (Nat.le_refl _) hw.size⟩
  | false =>
    obtain ⟨m0, m1, m2, m3, m4, m5, m6⟩ := cl7 bM.out
    go_upto_region 3 with fail
    go_region
    have hT : W.grownBy (((((W.setCell ⟨w.heap.size, 0, none⟩ (.slice a n c)).setCell ⟨w.heap.size, 1, none⟩ (.int .i64 u.fu)).setCell ⟨w.heap.size, 2, none⟩ (.bool u.up)).setCell ⟨w.heap.size, 3, none⟩ (.int .i64 u.n)).setCell ⟨w.heap.size, 4, none⟩ (.int .i64 u.hv)) (some w.heap.size) := turns_set (turns_set (turns_set (turns_set (turns_set (World.grownBy.refl _ _) _ _) _ _) _ _) _ _) _ _
    have hbA : Below (((((W.setCell ⟨w.heap.size, 0, none⟩ (.slice a n c)).setCell ⟨w.heap.size, 1, none⟩ (.int .i64 u.fu)).setCell ⟨w.heap.size, 2, none⟩ (.bool u.up)).setCell ⟨w.heap.size, 3, none⟩ (.int .i64 u.n)).setCell ⟨w.heap.size, 4, none⟩ (.int .i64 u.hv)).heap.size (((((W.setCell ⟨w.heap.size, 0, none⟩ (.slice a n c)).setCell ⟨w.heap.size, 1, none⟩ (.int .i64 u.fu)).setCell ⟨w.heap.size, 2, none⟩ (.bool u.up)).setCell ⟨w.heap.size, 3, none⟩ (.int .i64 u.n)).setCell ⟨w.heap.size, 4, none⟩ (.int .i64 u.hv)) ((((((W.setCell ⟨w.heap.size, 0, none⟩ (.slice a n c)).setCell ⟨w.heap.size, 1, none⟩ (.int .i64 u.fu)).setCell ⟨w.heap.size, 2, none⟩ (.bool u.up)).setCell ⟨w.heap.size, 3, none⟩ (.int .i64 u.n)).setCell ⟨w.heap.size, 4, none⟩ (.int .i64 u.hv)).alloc (.cells #[.int .i64 k, .int .i64 m.u, .int .i64 m.n, .int .i64 0, .int .i64 0, .slice none 0 0, .bool y] 31)).drew := (below_new (Below.refl _ _) _).drew
    have hs5 : (((((W.setCell ⟨w.heap.size, 0, none⟩ (.slice a n c)).setCell ⟨w.heap.size, 1, none⟩ (.int .i64 u.fu)).setCell ⟨w.heap.size, 2, none⟩ (.bool u.up)).setCell ⟨w.heap.size, 3, none⟩ (.int .i64 u.n)).setCell ⟨w.heap.size, 4, none⟩ (.int .i64 u.hv)).heap.size = W.heap.size := by simp
    have bMs := heap_alloc_last (((((W.setCell ⟨w.heap.size, 0, none⟩ (.slice a n c)).setCell ⟨w.heap.size, 1, none⟩ (.int .i64 u.fu)).setCell ⟨w.heap.size, 2, none⟩ (.bool u.up)).setCell ⟨w.heap.size, 3, none⟩ (.int .i64 u.n)).setCell ⟨w.heap.size, 4, none⟩ (.int .i64 u.hv)) (.cells #[.int .i64 k, .int .i64 m.u, .int .i64 m.n, .int .i64 0, .int .i64 0, .slice none 0 0, .bool y] 31)
    rw [hs5] at bMs
    have bN := hide (unit_set5 (v0 := .slice a n c) (v1 := .int .i64 u.fu) (v2 := .bool u.up) (v3 := .int .i64 u.n) (v4 := .int .i64 u.hv) bZ.out)
    replace bN := hide (blk_below bN.out hbA)
    obtain ⟨r0, r1, r2, r3, r4⟩ := cl5 bN.out
    have bMd := hide (show ((((((W.setCell ⟨w.heap.size, 0, none⟩ (.slice a n c)).setCell ⟨w.heap.size, 1, none⟩ (.int .i64 u.fu)).setCell ⟨w.heap.size, 2, none⟩ (.bool u.up)).setCell ⟨w.heap.size, 3, none⟩ (.int .i64 u.n)).setCell ⟨w.heap.size, 4, none⟩ (.int .i64 u.hv)).alloc (.cells #[.int .i64 k, .int .i64 m.u, .int .i64 m.n, .int .i64 0, .int .i64 0, .slice none 0 0, .bool y] 31)).drew.heap[W.heap.size]? = some (.cells #[.int .i64 k, .int .i64 m.u, .int .i64 m.n, .int .i64 0, .int .i64 0, .slice none 0 0, .bool y] 31 (0, 0)) from bMs)
    clear bMs hs5
    have hBx := hide ((hBW.out _ hT).below hbA)
    have hwx := hide ((turns_below hw hT (Nat.le_refl _) hw.size).trans (hbA.mono (turns_below hw hT (Nat.le_refl _) hw.size).size))
    clear hT hbA hBW
    generalize ((((((W.setCell ⟨w.heap.size, 0, none⟩ (.slice a n c)).setCell ⟨w.heap.size, 1, none⟩ (.int .i64 u.fu)).setCell ⟨w.heap.size, 2, none⟩ (.bool u.up)).setCell ⟨w.heap.size, 3, none⟩ (.int .i64 u.n)).setCell ⟨w.heap.size, 4, none⟩ (.int .i64 u.hv)).alloc (.cells #[.int .i64 k, .int .i64 m.u, .int .i64 m.n, .int .i64 0, .int .i64 0, .slice none 0 0, .bool y] 31)).drew = X at *
    go_wp2_with fail
    refine bodyPost_ret (v := .tuple #[unv u a n c, .slice (some ⟨W.heap.size, 0, none⟩) 1 1]) (by simp [results, Tryz.results72, go_sem, unv, r0, r1, r2, r3, r4]) rfl ?_
    exact ⟨⟨a, n, c, _, 1, 1, rfl, hBx.out, isMsgs_one (m := ansM m k y) rfl bMd.out, rfl, Nat.le_refl _, Nat.le_refl _⟩, hwx.out⟩

end Go.Proofs.YtgngpmgjoifepaaGreatDoor

namespace Go.Proofs.YtgngpmgjoifepaaGreatDoor
open Go.RowKit

theorem chg_take {nx : Nat → Int → Int} {p k lo : Nat} {ws : List Int} (h : lo ≤ p) : (chg nx p k ws).take lo = ws.take lo := by
  apply ext_getD (by simp [chg_length])
  intro i hi
  have hi2 : i < lo ∧ i < ws.length := by simp [chg_length] at hi; omega
  have := chg_get nx p k i ws hi2.2
  rw [if_neg (by omega)] at this
  simpa [hi2.1] using this

theorem chg_drop {nx : Nat → Int → Int} {p k hi' : Nat} {ws : List Int} (h : p + k ≤ hi') : (chg nx p k ws).drop hi' = ws.drop hi' := by
  apply ext_getD (by simp [chg_length])
  intro i hi
  simp [chg_length] at hi
  have := chg_get nx p k (hi' + i) ws (by omega)
  rw [if_neg (by omega)] at this
  simpa using this

theorem chk_seven (ws : List Int) (fuel : Int) : chk ws fuel ≠ 7 := by
  unfold chk
  split
  { decide }
  {
  split
  { decide }
  {
  decide

  }
  }
theorem prog_did {ws words : List Int} {fuel p : Int} (h : (progS ws fuel p words).2.2 = 0 ∨ (progS ws fuel p words).2.2 = 7) :
    chk ws fuel = 0 ∧ 0 ≤ p ∧ p + words.length ≤ ws.length ∧ okL words = true ∧ progS ws fuel p words = (chg (andW words) p.toNat (cnt fuel words.length) ws, burn fuel (cnt fuel words.length), perr fuel words.length) := by
  unfold progS at *
  split at h
  {
  rename_i c
  rcases h with h | h
  { exact absurd h c }
  { exact absurd h (chk_seven _ _) }
  }
  {
  split at h
  { simp at h }
  {
  split at h
  { simp at h }
  {
  rename_i h1 h2 h3
  rw [if_neg h1, if_neg h2, if_neg h3]
  simp [fitB] at h2
  simp at h1 h3
  exact ⟨h1, by omega, by omega, h3, rfl⟩

  }
  }
  }
theorem era_did {ws : List Int} {fuel s : Int} (h : (eraS ws fuel s).2.2 = 0 ∨ (eraS ws fuel s).2.2 = 7) :
    chk ws fuel = 0 ∧ 0 ≤ s ∧ s < (ws.length : Int) / 32 ∧ eraS ws fuel s = (chg (fun _ _ => 65535) (s.toNat * 32) (cnt fuel 32) ws, burn fuel (cnt fuel 32), perr fuel 32) := by
  unfold eraS at *
  split at h
  {
  rename_i c
  rcases h with h | h
  { exact absurd h c }
  { exact absurd h (chk_seven _ _) }
  }
  {
  split at h
  { simp at h }
  {
  rename_i h1 h2
  rw [if_neg h1, if_neg h2]
  simp at h1 h2
  exact ⟨h1, h2.1, h2.2, rfl⟩

  }
  }
def Apt (ws : List Int) (s : Int) (r : List Int × Int × Int) : Prop :=
  (r.2.2 = 0 ∨ r.2.2 = 7) → ws.length = 192 ∧ r.1.length = 192 ∧ r.1.take (64 + 64 * s).toNat = ws.take (64 + 64 * s).toNat ∧ r.1.drop (128 + 64 * s).toNat = ws.drop (128 + 64 * s).toNat

theorem slotE_seven (ws : List Int) (fuel s : Int) : slotE ws fuel s ≠ 7 := by
  unfold slotE
  split
  { exact chk_seven _ _ }
  {
  split
  { decide }
  {
  split
  { decide }
  {
  decide

  }
  }
  }
theorem apt_err {ws : List Int} {s e : Int} (h0 : e ≠ 0) (h7 : e ≠ 7) : Apt ws s ([], 0, e) := by
  intro h
  rcases h with h | h
  { exact absurd h h0 }
  {
  exact absurd h h7

  }
theorem apt_prog {ws words : List Int} {fuel s p : Int} (hl : ws.length = 192) (h0 : 64 + 64 * s ≤ p) (h1 : p + words.length ≤ 128 + 64 * s) (hs : 0 ≤ s) : Apt ws s (progS ws fuel p words) := by
  intro h
  obtain ⟨-, q0, q1, -, e⟩ := prog_did h
  rw [e]
  have := cnt_le fuel words.length
  refine ⟨hl, by rw [chg_length]; exact hl, chg_take (by omega), chg_drop (by omega)⟩

theorem apt_seal (ws : List Int) (fuel s long name : Int) : Apt ws s (sealS ws fuel s long name) := by
  unfold sealS
  split
  { rename_i c; exact apt_err c (slotE_seven _ _ _) }
  {
  split
  { exact apt_err (by decide) (by decide) }
  {
  rename_i h1 h2
  obtain ⟨-, hl, p0, p1⟩ := slotE_parts (show slotE ws fuel s = 0 by simpa using h1)
  refine apt_prog hl (by omega) ?_ p0
  show 64 + 64 * s + 4 ≤ _
  omega

  }
  }
theorem apt_clear (ws : List Int) (fuel s : Int) : Apt ws s (clrS ws fuel s) := by
  unfold clrS
  split
  { rename_i c; exact apt_err c (slotE_seven _ _ _) }
  {
  rename_i h1
  obtain ⟨-, hl, p0, p1⟩ := slotE_parts (show slotE ws fuel s = 0 by simpa using h1)
  have key : ∀ k, k ≤ 2 → Apt ws s (clrAt ws fuel s k) := by
    intro k
    induction k with
    | zero => exact fun _ _ => ⟨hl, hl, rfl, rfl⟩
    | succ k ih =>
      intro hk
      by_cases e : (clrAt ws fuel s k).2.2 = 0
      {
      rw [clrAt_go e]
      intro h
      obtain ⟨q0, q1, q2, q3⟩ := ih (by omega) (.inl e)
      obtain ⟨-, r0, r1, r2⟩ := era_did h
      rw [r2]
      have := cnt_le (clrAt ws fuel s k).2.1 32
      refine ⟨hl, by rw [chg_length]; exact q1, ?_, ?_⟩
      {
      show (chg _ _ _ _).take _ = _
      rw [chg_take (by omega)]; exact q2
      }
      {
      show (chg _ _ _ _).drop _ = _
      rw [chg_drop (by omega)]; exact q3
      }
      }
      { rw [clrAt_stay e]; exact ih (by omega) }
  exact key 2 (Nat.le_refl _)

  }
end Go.Proofs.YtgngpmgjoifepaaGreatDoor

namespace Go.Proofs.YtgngpmgjoifepaaGreatDoor
open Go.RowKit
attribute [local go_sem ↓] Go.wp_at_zero Go.wp_at_succ

theorem erases_row (s : Nat) (w : World) (hs : s ≤ 6) : Calls Tryz.prog 134 #[.int .i64 s] w fun e w' => ∃ g c, e = .returned (.slice (some ⟨g, 0, none⟩) 32 c) ∧ w'.ownsRow w.heap.size 237 2 (.slice (some ⟨g, 0, none⟩) 32 c) 32 (cells2 (eraL s 32)) ∧ IsChgs w' (some ⟨g, 0, none⟩) (eraL s 32) ∧ Below w.heap.size w w' := by
  refine (erases_any s w hs).mono ?_
  rintro e w' ⟨v, rfl, hm⟩
  obtain ⟨al, cl, hv, hc, hl⟩ := hm.isChgs
  have ho := hm.own
  rw [eraL_length] at hv hc ho
  obtain ⟨q, ⟨hv2, hn⟩ | ⟨g, cap, cur, hv2, hg, hh, r⟩⟩ := id ho
  { omega }
  {
  rw [hv] at hv2 ho
  cases hv2
  exact ⟨g, cl, by rw [hv], ho, hl, hm.below⟩

  }
theorem eraL_caps (w : World) (s k : Nat) : CapsOK w (eraL s k) := by
  intro c hc bb x hx
  simp [eraL] at hc
  obtain ⟨i, hi, rfl⟩ := hc
  cases hx

theorem eraL_in {s i : Nat} {c : Nat × Option (Nat × Int)} (hc : c ∈ eraL s i) : c.1 < 32 * s + i := by
  simp [eraL] at hc
  obtain ⟨j, hj, rfl⟩ := hc
  simp only
  omega

theorem chgS_two {ws : List Int} {fuel : Int} {s : Nat} (hc : chk ws fuel = 0) (hl : ws.length = 192) (hs : s ≤ 1) : chgS ws fuel (eraL (2 + 2 * s) 32 ++ eraL (3 + 2 * s) 32) = clrAt ws fuel s 2 := by
  have q := chk_parts hc
  have e1 : clrAt ws fuel s 1 = eraS ws fuel ((2 + 2 * s : Nat) : Int) := by
    rw [clrAt_go rfl]
    show eraS ws fuel (2 + (s : Int) * 2 + ((0 : Nat) : Int)) = _
    rw [show 2 + (s : Int) * 2 + ((0 : Nat) : Int) = ((2 + 2 * s : Nat) : Int) by omega]
  have hA : chgS ws fuel (eraL (2 + 2 * s) 32) = eraS ws fuel ((2 + 2 * s : Nat) : Int) := chgS_era hc (by rw [hl]; omega)
  have ev : eraS ws fuel ((2 + 2 * s : Nat) : Int) = (chg (fun _ _ => 65535) ((2 + 2 * s) * 32) (cnt fuel 32) ws, burn fuel (cnt fuel 32), perr fuel 32) := by
    unfold eraS
    rw [if_neg (by simpa using hc), if_neg (by rw [hl]; omega), Int.toNat_natCast]
  by_cases h : cnt fuel 32 = 32
  {
  rw [chgS_go (by rw [eraL_length]; exact h), applyL_era, eraL_length]
  have hk : chk (chg (fun _ _ => 65535) ((2 + 2 * s) * 32) 32 ws) (burn fuel 32) = 0 := by
    have := burn_bounds (n := 32) (k := 32) q.2.1 q.2.2.1 (by rw [h]; exact Nat.le_refl _)
    refine chk_chg hc _ _ _ ?_ this.1 this.2
    apply okL_of
    intro i hi
    rw [chg_length] at hi
    rw [chg_get _ _ _ _ _ hi]
    split
    { decide }
    { exact okL_get q.2.2.2 i hi }
  rw [h, perr_ok h] at ev
  have hlen : (chg (fun _ _ => 65535) ((2 + 2 * s) * 32) 32 ws).length = 192 := by rw [chg_length]; exact hl
  rw [clrAt_go (by rw [e1, ev]), e1, ev]
  generalize chg (fun _ _ => 65535) ((2 + 2 * s) * 32) 32 ws = X at *
  dsimp only
  rw [chgS_era hk (by rw [hlen]; omega), show 2 + (s : Int) * 2 + ((1 : Nat) : Int) = ((3 + 2 * s : Nat) : Int) by omega]
  }
  {
  have hlt : cnt fuel 32 < 32 := by have := cnt_le fuel 32; omega
  rw [chgS_stop (by rw [eraL_length]; exact hlt), hA, clrAt_stay (by rw [e1, ev, perr_no hlt]; show (7 : Int) ≠ 0; decide), e1]

  }
end Go.Proofs.YtgngpmgjoifepaaGreatDoor
