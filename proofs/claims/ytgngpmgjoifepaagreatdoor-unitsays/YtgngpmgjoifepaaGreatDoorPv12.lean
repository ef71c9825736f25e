/- The contract of wainwrightref.Changed: as many changes as there is power for. -/
import Derived.Test.YtgngpmgjoifepaaGreatDoorPv11
import Derived.Deep.DeepCutAuto
import Derived.Laws.EntriesVeiled
namespace Go.Proofs.YtgngpmgjoifepaaGreatDoor
open Go.RowKit
set_option linter.unusedSimpArgs false

def applyL (cs : List (Nat × Option (Nat × Int))) (ws : List Int) : List Int := cs.foldl (fun ws c => ws.set c.1 (apW c.2 (ws.getD c.1 0))) ws

theorem applyL_length (cs : List (Nat × Option (Nat × Int))) (ws : List Int) : (applyL cs ws).length = ws.length := by
  unfold applyL
  induction cs generalizing ws with
  | nil => rfl
  | cons c cs ih => simp only [List.foldl_cons]; rw [ih]; simp

theorem applyL_succ (cs : List (Nat × Option (Nat × Int))) (ws : List Int) (k : Nat) (c : Nat × Option (Nat × Int)) (h : cs[k]? = some c) :
    applyL (cs.take (k + 1)) ws = (applyL (cs.take k) ws).set c.1 (apW c.2 ((applyL (cs.take k) ws).getD c.1 0)) := by
  obtain ⟨hk, rfl⟩ := List.getElem?_eq_some_iff.1 h
  show (cs.take (k + 1)).foldl _ ws = _
  rw [List.take_succ_eq_append_getElem hk, List.foldl_append]
  rfl

def IsChgs (w : World) (a : Option Addr) (cs : List (Nat × Option (Nat × Int))) : Prop :=
  cs = [] ∨ ∃ b, a = some ⟨b, 0, none⟩ ∧ ∀ i c, cs[i]? = some c → w.cell? ⟨b, i * 2, none⟩ = some (.int .i64 c.1) ∧ w.cell? ⟨b, i * 2 + 1, none⟩ = some (fnV c.2) ∧ ∀ bb x, c.2 = some (bb, x) → w.cell? ⟨bb, 0, none⟩ = some (.int .i64 x)

theorem Making.isChgs {w0 w : World} {v : Value} {cs : List (Nat × Option (Nat × Int))} (h : Making w0 w v cs) : ∃ a c, v = .slice a cs.length c ∧ cs.length ≤ c ∧ IsChgs w a cs := by
  obtain ⟨_, ⟨hv, hn⟩ | ⟨g, cap, cur, hv, hg, hh, hc, _, _, ht⟩⟩ := h.own
  { exact ⟨none, 0, by rw [hv, hn], by omega, .inl (List.eq_nil_of_length_eq_zero hn)⟩ }
  {
  refine ⟨some ⟨g, 0, none⟩, cap, hv, hc, .inr ⟨g, rfl, fun i c hi => ?_⟩⟩
  have hlt : i < cs.length := (List.getElem?_eq_some_iff.1 hi).1
  have hcg := cells2_get cs i c hi
  have get : ∀ j v, j < cs.length * 2 → (cells2 cs)[j]? = some v → cur[j]? = some v := by
    intro j v hj hv
    rw [← ht] at hv
    simpa [hj] using hv
  refine ⟨blk_cell hh _ _ (get _ _ (by omega) (by rw [Nat.mul_comm]; exact hcg.1)), blk_cell hh _ _ (get _ _ (by omega) (by rw [Nat.mul_comm]; exact hcg.2)), fun bb x hx => ?_⟩
  exact blk_cell (h.caps c (List.mem_of_getElem? hi) bb x hx) 0 _ rfl

  }
theorem IsChgs.below {w w' : World} {a : Option Addr} {cs : List (Nat × Option (Nat × Int))} (h : IsChgs w a cs) (hb : Below w.heap.size w w') : IsChgs w' a cs := by
  rcases h with h | ⟨b, rfl, hc⟩
  { exact .inl h }
  {
  refine .inr ⟨b, rfl, fun i c hi => ?_⟩
  obtain ⟨h1, h2, h3⟩ := hc i c hi
  exact ⟨by rw [hb.cell (cell_lt h1)]; exact h1, by rw [hb.cell (cell_lt h2)]; exact h2, fun bb x hx => by rw [hb.cell (cell_lt (h3 bb x hx))]; exact h3 bb x hx⟩

  }
def chgS (ws : List Int) (fuel : Int) (cs : List (Nat × Option (Nat × Int))) : List Int × Int × Int :=
  (applyL (cs.take (cnt fuel cs.length)) ws, burn fuel (cnt fuel cs.length), perr fuel cs.length)

set_option maxRecDepth 100000 in
set_option maxHeartbeats 400000 in
theorem refErase_any (was : Int) (w : World) : Calls Tryz.prog 178 #[.int .i64 was] w fun e w' => e = .returned (.int .i64 65535) ∧ w' = w := by
  go_enter Tryz.func178, Tryz.ntmps178
  go_wp2
  go_ret
  exact ⟨rfl, rfl⟩

set_option maxRecDepth 100000 in
set_option maxHeartbeats 400000 in
theorem refProg_any (bb : Nat) (x was : Int) (w : World) (h : w.cell? ⟨bb, 0, none⟩ = some (.int .i64 x)) : Calls Tryz.prog 205 #[.int .i64 was, .pointer (some ⟨bb, 0, none⟩)] w fun e w' => e = .returned (.int .i64 (bits .and .i64 was x)) ∧ w' = w := by
  go_enter Tryz.func205, Tryz.ntmps205
  go_wp2
  go_ret
  exact ⟨rfl, rfl⟩

set_option maxRecDepth 100000 in
set_option maxHeartbeats 2000000 in
theorem changed_any (a : Option Addr) (n c : Nat) (ws : List Int) (fuel : Int) (al : Option Addr) (L cl : Nat) (cs : List (Nat × Option (Nat × Int))) (w : World)
    (h : IsInts w a ws) (hn : ws.length = n) (hmax : n ≤ 192) (hf0 : -1 ≤ fuel) (hf1 : fuel ≤ 100000) (hl : IsChgs w al cs) (hL : cs.length = L) (hcl : L ≤ cl) (hLm : L ≤ 100000) (hin : ∀ c ∈ cs, c.1 < n) :
    Calls Tryz.prog 133 #[.agg #[.slice a n c, .int .i64 fuel], .slice al L cl] w (Answers w (chgS ws fuel cs)) := by
  have HO := hide (fun W (h : IsInts W a ws) => ownFlash_any a n c ws fuel W h hn (by omega))
  have HN := hide hn
  have HL := hide hL
  have HIn := hide hin
  clear hn hL hin
  have hw : Below w.heap.size w ((w.alloc (.cells #[.slice a n c, .int .i64 fuel] 27)).alloc (.cells #[.slice none 0 0, .int .i64 0] 27)) :=
    ((Below.refl _ _).alloc (Nat.le_refl _) _).alloc (by simp) _
  have b0 := hide (blk_alloc (heap_alloc_last w (.cells #[.slice a n c, .int .i64 fuel] 27)) (.cells #[.slice none 0 0, .int .i64 0] 27))
  have b1 : Hid (((w.alloc (.cells #[.slice a n c, .int .i64 fuel] 27)).alloc (.cells #[.slice none 0 0, .int .i64 0] 27)).heap[w.heap.size + 1]? = some (.cells #[.slice none 0 0, .int .i64 0] 27 (0, 0))) := by
    show _ = _
    simpa using heap_alloc_last (w.alloc _) _
  have i0 := h.below hw
  have hcl2 : (L : Int) ≤ (cl : Int) := by omega
  go_enter Tryz.func133, Tryz.ntmps133
  go_wp2_with fail
  generalize (w.alloc (.cells #[.slice a n c, .int .i64 fuel] 27)).alloc (.cells #[.slice none 0 0, .int .i64 0] 27) = W at *
  refine (unhide HO _ i0).mono ?_
  rintro e w1 ⟨g, c', hg, hc', rfl, how, hb1⟩
  have lt0 := blk_lt b0.out
  have lt1 := blk_lt b1.out
  have x0 := blk_cell (blk_below b0.out hb1) 0 _ rfl
  have x1 := blk_cell (blk_below b0.out hb1) 1 _ rfl
  have f0 := blk_free (blk_below b0.out hb1) 0
  have f1 := blk_free (blk_below b0.out hb1) 1
  have hw1 := hw.trans (hb1.mono hw.size)
  have B1 := hide (blk_below b1.out hb1)
  have V0 : FBox ((w1.setCell ⟨w.heap.size, 0, none⟩ (.slice (some ⟨g, 0, none⟩) n c')).setCell ⟨w.heap.size, 1, none⟩ (.int .i64 fuel)) w.heap.size (some ⟨g, 0, none⟩) n c' fuel := by
    have := blk_below b0.out hb1
    unfold FBox
    simp only [World.setCell, Array.getElem?_modify]
    simp [this]
  have hw2 := (hw1.setCell (p := ⟨w.heap.size, 0, none⟩) (Nat.le_refl _) (.slice (some ⟨g, 0, none⟩) n c')).setCell (p := ⟨w.heap.size, 1, none⟩) (Nat.le_refl _) (.int .i64 fuel)
  have how2 := (how.other w.heap.size 0 (.slice (some ⟨g, 0, none⟩) n c') (by omega)).other w.heap.size 1 (.int .i64 fuel) (by omega)
  have B2 : Hid (((w1.setCell ⟨w.heap.size, 0, none⟩ (.slice (some ⟨g, 0, none⟩) n c')).setCell ⟨w.heap.size, 1, none⟩ (.int .i64 fuel)).heap[w.heap.size + 1]? = some (.cells #[.slice none 0 0, .int .i64 0] 27 (0, 0))) := by
    show _ = _
    rw [Below.heap_setCell _ _ _ _ (by simp), Below.heap_setCell _ _ _ _ (by simp)]
    exact B1.out
  clear HO b0 b1 i0 how hb1 hw
  go_upto_if 13 with fail
  generalize (w1.setCell ⟨w.heap.size, 0, none⟩ (.slice (some ⟨g, 0, none⟩) n c')).setCell ⟨w.heap.size, 1, none⟩ (.int .i64 fuel) = w2 at *
  obtain ⟨m, hm⟩ : ∃ m, m = cnt fuel L := ⟨_, rfl⟩
  obtain ⟨pe, hpe⟩ : ∃ pe, pe = perr fuel L := ⟨_, rfl⟩
  obtain ⟨bf, hbf⟩ : ∃ bf, bf = burn fuel m := ⟨_, rfl⟩
  have HM := hide hm
  have HPE := hide hpe
  have HBF := hide hbf
  have mL : m ≤ L := by rw [hm]; exact cnt_le _ _
  clear hm hpe hbf
  have g0 := blk_cell V0 0 _ rfl
  have g1 := blk_cell V0 1 _ rfl
  have g2 := blk_free V0 1
  go_cut [1, 6] (fun v1 v6 wx => v1 = .slice al m cl ∧ v6 = .int .i64 pe ∧ FBox wx w.heap.size (some ⟨g, 0, none⟩) n c' bf ∧ OwnCap wx g ws ∧ Below w.heap.size w wx ∧ Hid (wx.heap[w.heap.size + 1]? = some (.cells #[.slice none 0 0, .int .i64 0] 27 (0, 0))))
  case first =>
    by_cases hneg : fuel < 0
    {
    have d0 : decide (0 ≤ fuel) = false := by simp; omega
    obtain rfl : m = L := by rw [HM.out, cnt_neg _ hneg]
    obtain rfl : bf = fuel := by rw [HBF.out, burn_negf _ hneg]
    obtain rfl : pe = 0 := by rw [HPE.out, perr_ok (cnt_neg _ hneg)]
    go_wp2_with fail
    go_meet
    case rel => exact ⟨rfl, rfl, V0, how2, hw2, B2⟩
    }
    {
    have d0 : 0 ≤ fuel := by omega
    obtain ⟨fu, rfl⟩ := Int.eq_ofNat_of_zero_le d0
    have hm' : m = min L fu := by rw [HM.out, cnt_nn _ hneg, Int.toNat_natCast]
    by_cases hfu : fu < L
    {
    obtain rfl : m = fu := by omega
    obtain rfl : bf = 0 := by rw [HBF.out, burn_nn _ hneg]; omega
    obtain rfl : pe = 7 := by rw [HPE.out, perr_no (by rw [cnt_nn _ hneg, Int.toNat_natCast]; omega)]
    have d1 : (m : Int) < (L : Int) := by omega
    have d2 : (m : Int) ≤ (cl : Int) := by omega
    clear hm' HM HBF HPE
    go_wp2_with fail
    go_meet
    case rel =>
      refine ⟨rfl, rfl, ?_, how2.other _ 1 _ (by omega), hw2.setCell (Nat.le_refl _) _, ?_⟩
      {
      unfold FBox at V0 ⊢
      simp only [World.setCell, Array.getElem?_modify]
      simp [V0]
      }
      {
      show _ = _
      rw [Below.heap_setCell _ _ _ _ (by simp)]; exact B2.out
      }
    }
    {
    obtain rfl : m = L := by omega
    obtain rfl : bf = (fu : Int) - (m : Int) := by rw [HBF.out, burn_nn _ hneg]
    obtain rfl : pe = 0 := by rw [HPE.out, perr_ok (by rw [cnt_nn _ hneg, Int.toNat_natCast]; omega)]
    have d1 : decide ((fu : Int) < (m : Int)) = false := by simp; omega
    clear hm' HM HBF HPE
    go_wp2_with fail
    go_meet
    case rel =>
      refine ⟨rfl, rfl, ?_, how2.other _ 1 _ (by omega), hw2.setCell (Nat.le_refl _) _, ?_⟩
      {
      unfold FBox at V0 ⊢
      simp only [World.setCell, Array.getElem?_modify]
      simp [V0]
      }
      {
      show _ = _
      rw [Below.heap_setCell _ _ _ _ (by simp)]; exact B2.out
      }
    }
    }
  case rest =>
    obtain ⟨rfl, rfl, V1, how1, hwx, B3⟩ := hcut
    clear g0 g1 g2 V0 how2 hw2 B2 B1 x0 x1 f0 f1
    have HLC := hide hl
    go_wp2_with fail
    go_loopw [31] (fun i wr => ∃ k : Nat, k ≤ m ∧ i = .int .i64 k ∧ FBox wr w.heap.size (some ⟨g, 0, none⟩) n c' bf ∧ OwnCap wr g (applyL (cs.take k) ws) ∧ Below w.heap.size w wr ∧ Hid (wr.heap[w.heap.size + 1]? = some (.cells #[.slice none 0 0, .int .i64 0] 27 (0, 0)))) (fun i _ => m - (intOf i).toNat)
    case atStart => exact ⟨0, Nat.zero_le _, rfl, V1, how1, hwx, B3⟩
    case round =>
      clear V1 how1 hwx B3
      obtain ⟨k, hk, rfl, V1, how1, hwr, B3⟩ := hrel
      by_cases hlt : k < m
      {
      have hkc : k < cs.length := by have := HL.out; omega
      obtain ⟨ch, hch⟩ : ∃ ch, cs[k]? = some ch := ⟨cs[k], List.getElem?_eq_getElem hkc⟩
      have hlw := HLC.out.below hwr
      rcases hlw with hnil | ⟨bl, rfl, hcs⟩
      { rw [hnil] at hch; simp at hch }
      obtain ⟨p1, p2, p3⟩ := hcs k ch hch
      have hpn : ch.1 < n := HIn.out ch (List.mem_of_getElem? hch)
      have hstep := applyL_succ cs ws k ch hch
      have hln := applyL_length (cs.take k) ws
      rw [HN.out] at hln
      obtain ⟨pos, o⟩ := ch
      simp only at p1 p2 p3 hpn hstep
      generalize applyL (cs.take k) ws = us at *
      have HST := hide hstep
      have HLN := hide hln
      have hlt2 : (k : Int) < (m : Int) := by omega
      clear hstep hln hch hcs hkc
      rcases o with _ | ⟨bb, x⟩
      {
      simp only [fnV] at p2
      go_upto_region 10 with fail
      have hba : Below wr.heap.size wr (wr.alloc (.cells #[.int .i64 pos, .func (.func 178) #[] #[]] 237)).drew := ((Below.refl _ _).alloc (Nat.le_refl _) _).drew
      have k0 : (wr.alloc (.cells #[.int .i64 pos, .func (.func 178) #[] #[]] 237)).drew.cell? ⟨w.heap.size, 0, none⟩ = some (.slice (some ⟨g, 0, none⟩) n c') := blk_cell (blk_alloc V1 _) 0 _ rfl
      have k1 : (wr.alloc (.cells #[.int .i64 pos, .func (.func 178) #[] #[]] 237)).drew.cell? ⟨wr.heap.size, 0, none⟩ = some (.int .i64 pos) := blk_cell (heap_alloc_last wr _) 0 _ rfl
      have k2 : (wr.alloc (.cells #[.int .i64 pos, .func (.func 178) #[] #[]] 237)).drew.cell? ⟨wr.heap.size, 1, none⟩ = some (.func (.func 178) #[] #[]) := blk_cell (heap_alloc_last wr _) 1 _ rfl
      have V2 := V1.below hba
      have how2 := how1.below hba how1.lt
      have hw2 := hwr.trans (hba.mono hwr.size)
      have B4 := hide (blk_below B3.out hba)
      have gl := how1.lt
      have lt2 := blk_lt B3.out
      have z1 : (0 : Int) ≤ (pos : Int) := by omega
      have z2 : (pos : Int) < (n : Int) := by omega
      have hpu : pos < us.length := by rw [HLN.out]; exact hpn
      refine wp_region_held_drew (S := fun w' => w'.cell? ⟨w.heap.size, 0, none⟩ = some (.slice (some ⟨g, 0, none⟩) n c') ∧ w'.cell? ⟨wr.heap.size, 0, none⟩ = some (.int .i64 pos) ∧ w'.cell? ⟨wr.heap.size, 1, none⟩ = some (.func (.func 178) #[] #[])) (by kernel_rfl) ⟨k0, k1, k2⟩ (fun hHeld => ?_)
      generalize (wr.alloc (.cells #[.int .i64 pos, .func (.func 178) #[] #[]] 237)).drew = wv at *
      have kw := how2.cell pos hpu
      have kf := how2.free pos
      obtain ⟨old, hold⟩ : ∃ old, old = us.getD pos 0 := ⟨_, rfl⟩
      rw [← hold] at kw
      have HOld := hide hold
      clear hold
      refine wpAnyH_take (i := 0) (v := ?_) rfl (by kernel_rfl) (by kernel_rfl) (by kernel_rfl) (fun _ _ _ h => h) (Or.inl ⟨by rfl, ?_⟩) (by assumption) ?_
      rotate_left
      {
      intro w hSw
      try dsimp only at hSw
      go_simp
      try with_reducible rfl
      }
      try simp only [sq]
      refine wpAnyH_take (i := 1) (v := ?_) rfl (by kernel_rfl) (by kernel_rfl) (by kernel_rfl) (fun _ _ _ h => h) (Or.inl ⟨by rfl, ?_⟩) (by assumption) ?_
      rotate_left
      {
      intro w hSw
      try dsimp only at hSw
      go_simp
      try with_reducible rfl
      }
      try simp only [sq]
      refine wpAnyH_take (i := 2) (v := ?_) rfl (by kernel_rfl) (by kernel_rfl) (by kernel_rfl) (fun _ _ _ h => h) (Or.inl ⟨by rfl, ?_⟩) (by assumption) ?_
      rotate_left
      {
      intro w hSw
      try dsimp only at hSw
      go_simp
      try with_reducible rfl
      }
      try simp only [sq]
      refine wpAnyH_take (i := 3) (v := ?_) rfl (by kernel_rfl) (by kernel_rfl) (by kernel_rfl) (fun _ _ _ h => h) (Or.inl ⟨by rfl, ?_⟩) (by assumption) ?_
      rotate_left
      {
      intro w hSw
      try dsimp only at hSw
      go_simp
      try with_reducible rfl
      }
      try simp only [sq]
      refine wpAnyH_take (i := 4) (v := ?_) rfl (by kernel_rfl) (by kernel_rfl) (by kernel_rfl) (fun _ _ _ h => h) (Or.inl ⟨by rfl, ?_⟩) (by assumption) ?_
      rotate_left
      {
      intro w hSw
      try dsimp only at hSw
      go_simp
      try with_reducible rfl
      }
      try simp only [sq]
      refine wpAnyH_take (i := 5) (v := ?_) rfl (by kernel_rfl) (by kernel_rfl) (by kernel_rfl) (fun _ _ _ h => h) (Or.inl ⟨by rfl, ?_⟩) (by assumption) ?_
      rotate_left
      {
      intro w hSw
      try dsimp only at hSw
      go_simp
      try with_reducible rfl
      }
      try simp only [sq]
      refine wpAnyH_take (i := 6) (v := ?_) rfl (by kernel_rfl) (by kernel_rfl) (by kernel_rfl) (fun _ _ _ h => h) (Or.inl ⟨by rfl, ?_⟩) (by assumption) ?_
      rotate_left
      {
      intro w hSw
      try dsimp only at hSw
      go_simp
      try with_reducible rfl
      }
      try simp only [sq]
      refine wpAnyH_take (i := 7) (v := ?_) rfl (by kernel_rfl) (by kernel_rfl) (by kernel_rfl) (fun _ _ _ h => h) (Or.inl ⟨by rfl, ?_⟩) (by assumption) ?_
      rotate_left
      {
      intro w hSw
      try dsimp only at hSw
      go_simp
      try with_reducible rfl
      }
      try simp only [sq]
      refine wpAnyH_take (i := 8) (v := ?_) rfl (by kernel_rfl) (by kernel_rfl) (by kernel_rfl) (fun _ _ _ h => h) (Or.inl ⟨by rfl, ?_⟩) (by assumption) ?_
      rotate_left
      {
      intro w hSw
      try dsimp only at hSw
      go_simp
      try with_reducible rfl
      }
      try simp only [sq]
      refine wpAnyH_take (i := 9) (v := ?_) rfl (by kernel_rfl) (by kernel_rfl) (by kernel_rfl) (fun _ _ _ h => h) (Or.inl ⟨by rfl, ?_⟩) (by assumption) ?_
      rotate_left
      {
      intro w hSw
      try dsimp only at hSw
      go_simp
      try with_reducible rfl
      }
      try simp only [sq]
      refine wpAnyH_take (i := 10) (v := ?_) rfl (by kernel_rfl) (by kernel_rfl) (by kernel_rfl) (fun _ _ _ h => h) (Or.inl ⟨by rfl, ?_⟩) (by assumption) ?_
      rotate_left
      {
      intro w hSw
      try dsimp only at hSw
      go_simp
      try with_reducible rfl
      }
      try simp only [sq]
      refine wpAnyH_ready (rs := [11]) (by kernel_rfl) (by simp) ?_
      refine AllReadyH.cons rfl (fun K hK => ?_) AllReadyH.nil
      go_simp
      refine hK.out _ _ ?_ (fun hHeld => ?_)
      { exact hHeld }
      clear hK K
      try simp only [sq]
      refine wpAnyH_ready (rs := [12]) (by kernel_rfl) (by simp) ?_
      refine AllReadyH.cons rfl (fun K hK => ?_) AllReadyH.nil
      go_simp
      refine (refErase_any _ _).mono ?_
      rintro e wv ⟨rfl, rfl⟩
      go_wp2_with fail
      refine hK.out _ _ ?_ (fun hHeld => ?_)
      { exact hHeld }
      clear hK K
      try simp only [sq]
      refine wpAnyH_take (i := 13) (v := ?_) rfl (by kernel_rfl) (by kernel_rfl) (by kernel_rfl) (fun _ _ _ h => h) (Or.inl ⟨by rfl, ?_⟩) (by assumption) ?_
      rotate_left
      {
      intro w hSw
      try dsimp only at hSw
      go_simp
      try with_reducible rfl
      }
      try simp only [sq]
      refine wpAnyH_ready (rs := [14]) (by kernel_rfl) (by simp) ?_
      refine AllReadyH.cons rfl (fun K hK => ?_) AllReadyH.nil
      go_simp
      refine hK.out _ _ ?_ (fun hHeld => ?_)
      { exact ⟨by rw [World.cell?_of_block (w := wv) (Below.heap_setCell wv _ _ _ (by simp; omega))]; exact k0, by rw [World.cell?_of_block (w := wv) (Below.heap_setCell wv _ _ _ (by simp; omega))]; exact k1, by rw [World.cell?_of_block (w := wv) (Below.heap_setCell wv _ _ _ (by simp; omega))]; exact k2⟩ }
      clear hK K
      try simp only [sq]
      refine wpAnyH_done (by kernel_rfl) ?_ _
      go_wp2
      go_roundw
      case rel =>
        refine ⟨k + 1, by omega, by go_num, ?_, ?_, hw2.setCell (by simp; omega) _, ?_⟩
        {
        unfold FBox at V2 ⊢
        rw [Below.heap_setCell _ _ _ _ (by simp; omega)]; exact V2
        }
        {
        have := how2.set pos (65535)
        rw [HST.out, ← HOld.out]
        exact this
        }
        {
        show _ = _
        rw [Below.heap_setCell _ _ _ _ (by simp; omega)]; exact B4.out
        }
      case measure => simp [intOf]; omega
      }
      {
      simp only [fnV] at p2
      go_upto_region 10 with fail
      have hba : Below wr.heap.size wr (wr.alloc (.cells #[.int .i64 pos, .func (.func 205) #[] #[.pointer (some ⟨bb, 0, none⟩)]] 237)).drew := ((Below.refl _ _).alloc (Nat.le_refl _) _).drew
      have k0 : (wr.alloc (.cells #[.int .i64 pos, .func (.func 205) #[] #[.pointer (some ⟨bb, 0, none⟩)]] 237)).drew.cell? ⟨w.heap.size, 0, none⟩ = some (.slice (some ⟨g, 0, none⟩) n c') := blk_cell (blk_alloc V1 _) 0 _ rfl
      have k1 : (wr.alloc (.cells #[.int .i64 pos, .func (.func 205) #[] #[.pointer (some ⟨bb, 0, none⟩)]] 237)).drew.cell? ⟨wr.heap.size, 0, none⟩ = some (.int .i64 pos) := blk_cell (heap_alloc_last wr _) 0 _ rfl
      have k2 : (wr.alloc (.cells #[.int .i64 pos, .func (.func 205) #[] #[.pointer (some ⟨bb, 0, none⟩)]] 237)).drew.cell? ⟨wr.heap.size, 1, none⟩ = some (.func (.func 205) #[] #[.pointer (some ⟨bb, 0, none⟩)]) := blk_cell (heap_alloc_last wr _) 1 _ rfl
      have V2 := V1.below hba
      have how2 := how1.below hba how1.lt
      have hw2 := hwr.trans (hba.mono hwr.size)
      have B4 := hide (blk_below B3.out hba)
      have gl := how1.lt
      have lt2 := blk_lt B3.out
      have q3 : (wr.alloc (.cells #[.int .i64 pos, .func (.func 205) #[] #[.pointer (some ⟨bb, 0, none⟩)]] 237)).drew.cell? ⟨bb, 0, none⟩ = some (.int .i64 x) := by rw [hba.cell (cell_lt (p3 bb x rfl))]; exact p3 bb x rfl
      have z1 : (0 : Int) ≤ (pos : Int) := by omega
      have z2 : (pos : Int) < (n : Int) := by omega
      have hpu : pos < us.length := by rw [HLN.out]; exact hpn
      refine wp_region_held_drew (S := fun w' => w'.cell? ⟨w.heap.size, 0, none⟩ = some (.slice (some ⟨g, 0, none⟩) n c') ∧ w'.cell? ⟨wr.heap.size, 0, none⟩ = some (.int .i64 pos) ∧ w'.cell? ⟨wr.heap.size, 1, none⟩ = some (.func (.func 205) #[] #[.pointer (some ⟨bb, 0, none⟩)])) (by kernel_rfl) ⟨k0, k1, k2⟩ (fun hHeld => ?_)
      generalize (wr.alloc (.cells #[.int .i64 pos, .func (.func 205) #[] #[.pointer (some ⟨bb, 0, none⟩)]] 237)).drew = wv at *
      have kw := how2.cell pos hpu
      have kf := how2.free pos
      obtain ⟨old, hold⟩ : ∃ old, old = us.getD pos 0 := ⟨_, rfl⟩
      rw [← hold] at kw
      have HOld := hide hold
      clear hold
      refine wpAnyH_take (i := 0) (v := ?_) rfl (by kernel_rfl) (by kernel_rfl) (by kernel_rfl) (fun _ _ _ h => h) (Or.inl ⟨by rfl, ?_⟩) (by assumption) ?_
      rotate_left
      {
      intro w hSw
      try dsimp only at hSw
      go_simp
      try with_reducible rfl
      }
      try simp only [sq]
      refine wpAnyH_take (i := 1) (v := ?_) rfl (by kernel_rfl) (by kernel_rfl) (by kernel_rfl) (fun _ _ _ h => h) (Or.inl ⟨by rfl, ?_⟩) (by assumption) ?_
      rotate_left
      {
      intro w hSw
      try dsimp only at hSw
      go_simp
      try with_reducible rfl
      }
      try simp only [sq]
      refine wpAnyH_take (i := 2) (v := ?_) rfl (by kernel_rfl) (by kernel_rfl) (by kernel_rfl) (fun _ _ _ h => h) (Or.inl ⟨by rfl, ?_⟩) (by assumption) ?_
      rotate_left
      {
      intro w hSw
      try dsimp only at hSw
      go_simp
      try with_reducible rfl
      }
      try simp only [sq]
      refine wpAnyH_take (i := 3) (v := ?_) rfl (by kernel_rfl) (by kernel_rfl) (by kernel_rfl) (fun _ _ _ h => h) (Or.inl ⟨by rfl, ?_⟩) (by assumption) ?_
      rotate_left
      {
      intro w hSw
      try dsimp only at hSw
      go_simp
      try with_reducible rfl
      }
      try simp only [sq]
      refine wpAnyH_take (i := 4) (v := ?_) rfl (by kernel_rfl) (by kernel_rfl) (by kernel_rfl) (fun _ _ _ h => h) (Or.inl ⟨by rfl, ?_⟩) (by assumption) ?_
      rotate_left
      {
      intro w hSw
      try dsimp only at hSw
      go_simp
      try with_reducible rfl
      }
      try simp only [sq]
      refine wpAnyH_take (i := 5) (v := ?_) rfl (by kernel_rfl) (by kernel_rfl) (by kernel_rfl) (fun _ _ _ h => h) (Or.inl ⟨by rfl, ?_⟩) (by assumption) ?_
      rotate_left
      {
      intro w hSw
      try dsimp only at hSw
      go_simp
      try with_reducible rfl
      }
      try simp only [sq]
      refine wpAnyH_take (i := 6) (v := ?_) rfl (by kernel_rfl) (by kernel_rfl) (by kernel_rfl) (fun _ _ _ h => h) (Or.inl ⟨by rfl, ?_⟩) (by assumption) ?_
      rotate_left
      {
      intro w hSw
      try dsimp only at hSw
      go_simp
      try with_reducible rfl
      }
      try simp only [sq]
      refine wpAnyH_take (i := 7) (v := ?_) rfl (by kernel_rfl) (by kernel_rfl) (by kernel_rfl) (fun _ _ _ h => h) (Or.inl ⟨by rfl, ?_⟩) (by assumption) ?_
      rotate_left
      {
      intro w hSw
      try dsimp only at hSw
      go_simp
      try with_reducible rfl
      }
      try simp only [sq]
      refine wpAnyH_take (i := 8) (v := ?_) rfl (by kernel_rfl) (by kernel_rfl) (by kernel_rfl) (fun _ _ _ h => h) (Or.inl ⟨by rfl, ?_⟩) (by assumption) ?_
      rotate_left
      {
      intro w hSw
      try dsimp only at hSw
      go_simp
      try with_reducible rfl
      }
      try simp only [sq]
      refine wpAnyH_take (i := 9) (v := ?_) rfl (by kernel_rfl) (by kernel_rfl) (by kernel_rfl) (fun _ _ _ h => h) (Or.inl ⟨by rfl, ?_⟩) (by assumption) ?_
      rotate_left
      {
      intro w hSw
      try dsimp only at hSw
      go_simp
      try with_reducible rfl
      }
      try simp only [sq]
      refine wpAnyH_take (i := 10) (v := ?_) rfl (by kernel_rfl) (by kernel_rfl) (by kernel_rfl) (fun _ _ _ h => h) (Or.inl ⟨by rfl, ?_⟩) (by assumption) ?_
      rotate_left
      {
      intro w hSw
      try dsimp only at hSw
      go_simp
      try with_reducible rfl
      }
      try simp only [sq]
      refine wpAnyH_ready (rs := [11]) (by kernel_rfl) (by simp) ?_
      refine AllReadyH.cons rfl (fun K hK => ?_) AllReadyH.nil
      go_simp
      refine hK.out _ _ ?_ (fun hHeld => ?_)
      { exact hHeld }
      clear hK K
      try simp only [sq]
      refine wpAnyH_ready (rs := [12]) (by kernel_rfl) (by simp) ?_
      refine AllReadyH.cons rfl (fun K hK => ?_) AllReadyH.nil
      go_simp
      refine (refProg_any bb x _ _ q3).mono ?_
      rintro e wv ⟨rfl, rfl⟩
      go_wp2_with fail
      refine hK.out _ _ ?_ (fun hHeld => ?_)
      { exact hHeld }
      clear hK K
      try simp only [sq]
      refine wpAnyH_take (i := 13) (v := ?_) rfl (by kernel_rfl) (by kernel_rfl) (by kernel_rfl) (fun _ _ _ h => h) (Or.inl ⟨by rfl, ?_⟩) (by assumption) ?_
      rotate_left
      {
      intro w hSw
      try dsimp only at hSw
      go_simp
      try with_reducible rfl
      }
      try simp only [sq]
      refine wpAnyH_ready (rs := [14]) (by kernel_rfl) (by simp) ?_
      refine AllReadyH.cons rfl (fun K hK => ?_) AllReadyH.nil
      go_simp
      refine hK.out _ _ ?_ (fun hHeld => ?_)
      { exact ⟨by rw [World.cell?_of_block (w := wv) (Below.heap_setCell wv _ _ _ (by simp; omega))]; exact k0, by rw [World.cell?_of_block (w := wv) (Below.heap_setCell wv _ _ _ (by simp; omega))]; exact k1, by rw [World.cell?_of_block (w := wv) (Below.heap_setCell wv _ _ _ (by simp; omega))]; exact k2⟩ }
      clear hK K
      try simp only [sq]
      refine wpAnyH_done (by kernel_rfl) ?_ _
      go_wp2
      go_roundw
      case rel =>
        refine ⟨k + 1, by omega, by go_num, ?_, ?_, hw2.setCell (by simp; omega) _, ?_⟩
        {
        unfold FBox at V2 ⊢
        rw [Below.heap_setCell _ _ _ _ (by simp; omega)]; exact V2
        }
        {
        have := how2.set pos (bits .and .i64 old x)
        rw [HST.out, ← HOld.out]
        exact this
        }
        {
        show _ = _
        rw [Below.heap_setCell _ _ _ _ (by simp; omega)]; exact B4.out
        }
      case measure => simp [intOf]; omega
      }
      }
      {
      obtain rfl : k = m := by omega
      have lt2 := blk_lt B3.out
      have gl := how1.lt
      have k0 := blk_cell V1 0 _ rfl
      have k1 := blk_cell V1 1 _ rfl
      have r0 := blk_cell B3.out 0 _ rfl
      have r1 := blk_cell B3.out 1 _ rfl
      have rf0 := blk_free B3.out 0
      have rf1 := blk_free B3.out 1
      have hne : g ≠ w.heap.size + 1 := by omega
      have hr : Hid (chgS ws fuel cs = (applyL (cs.take k) ws, bf, pe)) := by
        show _ = _
        unfold chgS
        rw [HL.out, ← HM.out, ← HBF.out, ← HPE.out]
      have hln := applyL_length (cs.take k) ws
      rw [HN.out] at hln
      have HLN := hide hln
      clear hln
      go_wp2
      refine bodyPost_ret (v := .tuple #[.agg #[.slice (some ⟨g, 0, none⟩) n c', .int .i64 bf], .int .i64 pe]) (by simp [results, Tryz.results133, go_sem, r0, r1]) rfl ?_
      refine ⟨⟨some ⟨g, 0, none⟩, n, c', by rw [hr.out], ?_, by rw [hr.out]; exact HLN.out, hc', FreshA.here (by omega) 0⟩, (hwr.setCell (by simp) _).setCell (by simp) _⟩
      rw [hr.out]
      exact ((how1.other _ 0 _ hne).other _ 1 _ hne).isInts

      }
end Go.Proofs.YtgngpmgjoifepaaGreatDoor
