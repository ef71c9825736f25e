/- The contract of the reference's UnitStateOf: what a unit's records say, from the last one back. Lists of changes in memory: rows of one's own, what they catch. The contract of slices.Concat on lists of changes (slices.Grow with it). -/
import Derived.Test.YtgngpmgjoifepaaGreatDoorPv14
import Derived.Test.YtgngpmgjoifepaaGreatDoorPv15
import Derived.Deep.DeepCutAuto
import Derived.BigQuiet
import Derived.Test.YtgngpmgjoifepaaGreatDoorPv13
import Derived.Test.YtgngpmgjoifepaaGreatDoorPv0
import Derived.Test.YtgngpmgjoifepaaGreatDoorPv4
import Derived.Lib.AppendZeros
namespace Go.Proofs.YtgngpmgjoifepaaGreatDoor
open Go.RowKit
attribute [local go_sem ↓] Go.wp_at_zero Go.wp_at_succ

def TlS (rs : List (List Int)) (j : Nat) (told : Bool) (rdy : Int) : Prop := (told = false → rdy = 0) ∧ ∀ s : Us, (rs.drop j).foldl stNext s = ⟨s.slot, s.by', if told = true then rdy else s.rdy⟩
theorem tlx_start (rs : List (List Int)) : TlS rs rs.length false 0 := ⟨fun _ => rfl, fun s => by rw [List.drop_length]; rfl⟩
theorem tlx_drop {rs : List (List Int)} {k : Nat} (hk : k < rs.length) (s : Us) : (rs.drop k).foldl stNext s = (rs.drop (k + 1)).foldl stNext (stNext s rs[k]) := by rw [List.drop_eq_getElem_cons hk]; rfl
theorem tlx_whole (rs : List (List Int)) (k : Nat) : stR rs = (rs.drop k).foldl stNext ((rs.take k).foldl stNext us0) := by
  rw [← List.foldl_append, List.take_append_drop]; rfl
theorem tlx_run {rs : List (List Int)} {k : Nat} {told : Bool} {rdy : Int} (h : TlS rs (k + 1) told rdy) (hk : k < rs.length) (hr : isR rs[k] 1 3 = true) (h2 : rs[k].getD 1 0 ≤ 1) : stR rs = ⟨rs[k].getD 1 0, rs[k].getD 2 0, rdy⟩ := by
  rw [tlx_whole rs k, tlx_drop hk, stNext_1 hr h2, h.2]
  cases told
  { rw [h.1 rfl]; rfl }
  { rfl }
theorem tlx_set {rs : List (List Int)} {k : Nat} {rdy : Int} (h : TlS rs (k + 1) false rdy) (hk : k < rs.length) (h0 : ¬ (isR rs[k] 1 3 = true ∧ rs[k].getD 1 0 ≤ 1)) (h2 : isR rs[k] 2 2 = true) : TlS rs k true (rs[k].getD 1 0) :=
  ⟨(fun e => by cases e), fun s => by rw [tlx_drop hk, stNext_2 h0 h2, h.2]; rfl⟩
theorem tlx_clr {rs : List (List Int)} {k : Nat} {rdy : Int} (h : TlS rs (k + 1) false rdy) (hk : k < rs.length) (h0 : ¬ (isR rs[k] 1 3 = true ∧ rs[k].getD 1 0 ≤ 1)) (h2 : ¬ isR rs[k] 2 2 = true) (h3 : isR rs[k] 3 2 = true) : TlS rs k true rdy :=
  ⟨(fun e => by cases e), fun s => by rw [tlx_drop hk, stNext_3 h0 h2 h3, h.2, h.1 rfl]; rfl⟩
theorem tlx_none {rs : List (List Int)} {k : Nat} {told : Bool} {rdy : Int} (h : TlS rs (k + 1) told rdy) (hk : k < rs.length) (h0 : ¬ (isR rs[k] 1 3 = true ∧ rs[k].getD 1 0 ≤ 1)) (h2 : ¬ isR rs[k] 2 2 = true) (h3 : ¬ isR rs[k] 3 2 = true) : TlS rs k told rdy :=
  ⟨h.1, fun s => by rw [tlx_drop hk, stNext_0 h0 h2 h3, h.2]⟩
theorem tlx_told {rs : List (List Int)} {k : Nat} {rdy : Int} (h : TlS rs (k + 1) true rdy) (hk : k < rs.length) (h0 : ¬ (isR rs[k] 1 3 = true ∧ rs[k].getD 1 0 ≤ 1)) : TlS rs k true rdy := by
  refine ⟨h.1, fun s => ?_⟩
  rw [tlx_drop hk]
  by_cases h2 : isR rs[k] 2 2 = true
  { rw [stNext_2 h0 h2, h.2]; rfl }
  {
  by_cases h3 : isR rs[k] 3 2 = true
  { rw [stNext_3 h0 h2 h3, h.2]; rfl }
  { rw [stNext_0 h0 h2 h3, h.2] }
  }
theorem tlx_end {rs : List (List Int)} {told : Bool} {rdy : Int} (h : TlS rs 0 told rdy) : stR rs = ⟨0, 0, rdy⟩ := by
  have := h.2 us0
  rw [List.drop_zero] at this
  show rs.foldl stNext us0 = _
  rw [this]
  cases told
  { rw [h.1 rfl]; rfl }
  { rfl }
theorem isR_no {r : List Int} {k : Int} {l : Nat} (h : r.length ≠ l) : isR r k l = false := by unfold isR; rw [decide_eq_false h]; rfl
theorem isR_at {r : List Int} {k : Int} {l : Nat} (h : r.length = l) : isR r k l = decide (r.getD 0 0 = k) := by unfold isR; rw [decide_eq_true h]; rfl
theorem us_set2 {W : World} {b : Nat} {s : Us} {x y : Int} (h : W.heap[b]? = some (usO s)) : ((W.setCell ⟨b, 0, none⟩ (.int .i64 x)).setCell ⟨b, 1, none⟩ (.int .i64 y)).heap[b]? = some (usO ⟨x, y, s.rdy⟩) := by
  unfold usO at h ⊢
  simp only [World.setCell, Array.getElem?_modify]
  simp [h]
theorem recsAt {w : World} {a : Option Addr} {rs : List (List Int)} (h : IsRecs w a rs) (k : Nat) (hk : k < rs.length) : ∃ b off ai ci, a = some ⟨b, off, none⟩ ∧ w.cell? ⟨b, off + k, none⟩ = some (Value.slice ai rs[k].length ci) ∧ IsInts w ai rs[k] ∧ rs[k].length ≤ ci ∧ ci ≤ maxLen := by
  rcases h with h | ⟨b, off, ha, hc⟩
  { subst h; simp at hk }
  {
  obtain ⟨ai, ci, h1, h2, h3, h4⟩ := hc k _ (List.getElem?_eq_getElem hk)
  exact ⟨b, off, ai, ci, ha, h1, h2, h3, h4⟩
  }
theorem intsAt {w : World} {a : Option Addr} {xs : List Int} (h : IsInts w a xs) (h0 : 0 < xs.length) : ∃ b off, a = some ⟨b, off, none⟩ ∧ ∀ i, i < xs.length → w.cell? ⟨b, off + i, none⟩ = some (.int .i64 (xs.getD i 0)) := by
  rcases h with h | ⟨b, off, ha, hc⟩
  { subst h; simp at h0 }
  { exact ⟨b, off, ha, fun i hi => hc i hi⟩ }
theorem st2c {w w' : World} {p q : Addr} {x y : Value} (h1 : w.cell? p = some x) (h2 : w.cell? q = some y) (h : Below w.heap.size w w') : w'.cell? p = some x ∧ w'.cell? q = some y ∧ Below w.heap.size w w' :=
  ⟨(h.cell (cell_lt h1)).trans h1, (h.cell (cell_lt h2)).trans h2, h⟩

set_option maxRecDepth 100000 in
set_option maxHeartbeats 6400000 in
theorem unitStateOf_any (u : Un) (a : Option Addr) (n c : Nat) (w : World) (h : BW w a n c u.ws) (hk : lchk u.ws u.fu = 0) :
    Calls Tryz.prog 23 #[unv u a n c] w fun e w' => e = .returned (usv (stOf u.ws)) ∧ Below w.heap.size w w' := by
  have hw : Below w.heap.size w ((w.alloc (.cells #[.slice a n c, .int .i64 u.fu, .bool u.up, .int .i64 u.n, .int .i64 u.hv] 29)).alloc (.cells #[.int .i64 0, .int .i64 0, .int .i64 0] 40)) := ((Below.refl _ _).alloc (Nat.le_refl _) _).alloc (by simp) _
  have b0 : Hid (((w.alloc (.cells #[.slice a n c, .int .i64 u.fu, .bool u.up, .int .i64 u.n, .int .i64 u.hv] 29)).alloc (.cells #[.int .i64 0, .int .i64 0, .int .i64 0] 40)).heap[w.heap.size]? = some (.cells #[.slice a n c, .int .i64 u.fu, .bool u.up, .int .i64 u.n, .int .i64 u.hv] 29 (0, 0))) := blk_alloc (heap_alloc_last _ _) _
  have b1 : Hid (((w.alloc (.cells #[.slice a n c, .int .i64 u.fu, .bool u.up, .int .i64 u.n, .int .i64 u.hv] 29)).alloc (.cells #[.int .i64 0, .int .i64 0, .int .i64 0] 40)).heap[w.heap.size + 1]? = some (.cells #[.int .i64 0, .int .i64 0, .int .i64 0] 40 (0, 0))) := uLast1 _ _ _
  have HR := hide (fun W (hW : Below w.heap.size w W) => recordsOf_any a n c u.ws u.fu W (h.below hW).at_ h.len h.cap hk)
  have hfew : (logR u.ws).length ≤ 31 := logR_few (by have := lchk_parts hk; omega)
  have HS : Hid (stOf u.ws = stR (logR u.ws)) := rfl
  clear h hk
  unfold RecsOfAns at HR
  generalize logR u.ws = rs at *
  generalize posS u.ws = ps at *
  unfold unv
  have x0 := blk_cell b0.out 0 _ rfl
  have x1 := blk_cell b0.out 1 _ rfl
  go_enter Tryz.func23, Tryz.ntmps23
  go_wp2_with fail
  generalize ((w.alloc (.cells #[.slice a n c, .int .i64 u.fu, .bool u.up, .int .i64 u.n, .int .i64 u.hv] 29)).alloc (.cells #[.int .i64 0, .int .i64 0, .int .i64 0] 40)) = W at *
  refine (unhide HR _ hw).mono ?_
  rintro e w1 ⟨⟨ar, nr, cr, rfl, hrs, hnr, hcr, hmr⟩, hb⟩
  replace b1 := hide (blk_below b1.out hb)
  replace hw := hw.trans (hb.mono hw.size)
  have HM := hide hrs
  have LR := hide hnr
  rw [hnr] at hfew
  clear hb HR x0 x1 b0 hrs hnr
  have hwb := blk_lt b1.out
  have hmr' := hmr
  unfold maxLen at hmr'
  have bB := hide (heap_alloc_last w1 (.cells #[.int .i64 0, .int .i64 0, .int .i64 0] 40))
  have hb2 : Below w1.heap.size w1 (w1.alloc (.cells #[.int .i64 0, .int .i64 0, .int .i64 0] 40)) := below_new (Below.refl _ _) _
  go_upto_region 3 with fail
  generalize w1.alloc (.cells #[.int .i64 0, .int .i64 0, .int .i64 0] 40) = W2 at *
  obtain ⟨B, hBe⟩ : ∃ B, B = w1.heap.size := ⟨_, rfl⟩
  rw [← hBe] at bB ⊢
  have hBw : w1.heap.size ≤ B := by omega
  have hB1 : B ≠ w.heap.size + 1 := by omega
  have hBs := blk_lt bB.out
  clear hBe
  go_wp2_with fail
  go_loopw [6, 7] (fun t i wr => ∃ (k : Nat) (told : Bool) (rdy : Int), k ≤ nr ∧ t = .bool told ∧ i = .int .i64 ((k : Int) - 1) ∧ Hid (TlS rs k told rdy) ∧ Hid (wr.heap[B]? = some (usO ⟨0, 0, rdy⟩)) ∧ Below w1.heap.size w1 wr) (fun _ i _ => (intOf i + 1).toNat)
  case atStart => exact ⟨nr, false, 0, Nat.le_refl _, rfl, by go_num, by have := tlx_start rs; rw [LR.out] at this; exact this, bB, hb2⟩
  case round =>
    obtain ⟨wq, rfl⟩ : ∃ wq : World, wq = wr := ⟨_, rfl⟩
    obtain ⟨k, told, rdy, hk, rfl, rfl, HT, hBx, hbel⟩ := hrel
    clear bB hb2
    cases k with
    | zero =>
      have HE : Hid (stOf u.ws = ⟨0, 0, rdy⟩) := HS.out.trans (tlx_end HT.out)
      clear HT HM
      unfold usO at hBx
      dsimp only at hBx
      replace b1 := hide (blk_below b1.out hbel)
      replace hw := hw.trans (hbel.mono hw.size)
      have s0 := blk_cell hBx.out 0 _ rfl
      have s1 := blk_cell hBx.out 1 _ rfl
      have s2 := blk_cell hBx.out 2 _ rfl
      have y0 := blk_cell b1.out 0 _ rfl
      have y1 := blk_cell b1.out 1 _ rfl
      have y2 := blk_cell b1.out 2 _ rfl
      have f0 := blk_free b1.out 0
      have f1 := blk_free b1.out 1
      have f2 := blk_free b1.out 2
      go_wp2_with fail
      refine bodyPost_ret (v := usv ⟨0, 0, rdy⟩) (by simp [results, Tryz.results23, go_sem, usv, y0, y1, y2]) rfl ?_
      rw [HE.out]
      exact ⟨rfl, turns_below hw (turns_set (turns_set (turns_set (World.grownBy.refl wq (some (w.heap.size + 1))) 0 (.int .i64 0)) 1 (.int .i64 0)) 2 (.int .i64 rdy)) (by omega) hw.size⟩
    | succ k =>
      have hik : ((k + 1 : Nat) : Int) - 1 = (k : Int) := by omega
      rw [hik]
      clear hik
      have hlt : k < nr := by omega
      have hkx : k < rs.length := by rw [LR.out]; exact hlt
      obtain ⟨b, off, ai, ci, rfl, hcell, hints, hci, hmi⟩ := recsAt HM.out k hkx
      have H1 := hide (tlx_run HT.out hkx)
      have H2 := hide (tlx_none HT.out hkx)
      have H3 := hide (fun (e : told = true) => tlx_told (rdy := rdy) (by rw [← e]; exact HT.out) hkx)
      have H4 := hide (fun (e : told = false) => tlx_set (rdy := rdy) (by rw [← e]; exact HT.out) hkx)
      have H5 := hide (fun (e : told = false) => tlx_clr (rdy := rdy) (by rw [← e]; exact HT.out) hkx)
      clear HT
      replace hcell := (hbel.cell (cell_lt hcell)).trans hcell
      generalize rs[k] = r at *
      obtain ⟨m, hm⟩ : ∃ m, m = r.length := ⟨_, rfl⟩
      rw [← hm] at hcell hci
      have hltI : (k : Int) < (nr : Int) := by omega
      have hk0 : (0 : Int) ≤ (k : Int) := by omega
      unfold maxLen at hmi
      clear hkx
      by_cases z3 : m = 3
      {
      subst z3
      obtain ⟨b2, o2, rfl, hc⟩ := intsAt hints (by omega)
      have c0 := hc 0 (by omega)
      have c1 := hc 1 (by omega)
      have c2 := hc 2 (by omega)
      have c1w := c1
      have c2w := c2
      replace c0 := (hbel.cell (cell_lt c0)).trans c0
      replace c1 := (hbel.cell (cell_lt c1)).trans c1
      have hl3 : r.length = 3 := hm.symm
      clear hc hints hm
      rw [Nat.add_zero] at c0
      have n2 : ¬ isR r 2 2 = true := by rw [isR_no (by omega)]; decide
      have n3 : ¬ isR r 3 2 = true := by rw [isR_no (by omega)]; decide
      have HB : Hid (isR r 1 3 = decide (r.getD 0 0 = 1)) := isR_at hl3
      replace H2 := hide (fun h => H2.out h n2 n3)
      clear hl3 H3 H4 H5 n2 n3
      rw [HB.out] at H1 H2
      clear HB
      generalize r.getD 0 0 = r0 at *
      generalize r.getD 1 0 = r1 at *
      generalize r.getD 2 0 = r2 at *
      by_cases z0 : r0 = 1
      rotate_left
      {
      have d0 : (r0 == 1) = false := by simpa using z0
      have HT := hide (H2.out (by simp [z0]))
      clear H1 H2 z0
      go_wp2_with fail
      go_roundw
      case rel => exact ⟨k, told, rdy, by omega, rfl, by go_num, HT, hBx, hbel⟩
      case measure => simp [intOf]
      }
      subst z0
      by_cases z1 : r1 < 2
      rotate_left
      {
      have HT := hide (H2.out (by simp; omega))
      clear H1 H2
      go_wp2_with fail
      go_roundw
      case rel => exact ⟨k, told, rdy, by omega, rfl, by go_num, HT, hBx, hbel⟩
      case measure => simp [intOf]
      }
      have HE : Hid (stOf u.ws = ⟨r1, r2, rdy⟩) := HS.out.trans (H1.out (by simp) (by omega))
      clear H1 H2
      go_upto_region 9 with fail
      have hBr := hBx
      unfold usO at hBr
      dsimp only at hBr
      go_cut [5] from 18 to 76 (fun v5 wc => v5 = .pointer (some ⟨B, 0, none⟩) ∧ wc.heap[B]? = some (usO ⟨r1, r2, rdy⟩) ∧ Below w1.heap.size w1 wc)
      case first =>
        refine wp_region_held_drew (S := fun W' => W'.cell? ⟨b2, o2 + 1, none⟩ = some (.int .i64 r1) ∧ W'.cell? ⟨b2, o2 + 2, none⟩ = some (.int .i64 r2) ∧ Below w1.heap.size w1 W') (by kernel_rfl) (st2c c1w c2w hbel.drew) ?_
        intro hHeld
        refine Htake (i := 0) (v := ?_) (by rfl) (by kernel_rfl) (by exact fun _ _ _ h => h) (Or.inl ⟨by rfl, ?_⟩) (by assumption) ?_
        rotate_left
        {
        intro w hSw
        try dsimp only at hSw
        go_simp
        try with_reducible rfl
        }
        try simp only [sq]
        refine Htake (i := 1) (v := ?_) (by rfl) (by kernel_rfl) (by exact fun _ _ _ h => h) (Or.inl ⟨by rfl, ?_⟩) (by assumption) ?_
        rotate_left
        {
        intro w hSw
        try dsimp only at hSw
        go_simp
        try with_reducible rfl
        }
        try simp only [sq]
        refine Htake (i := 2) (v := ?_) (by rfl) (by kernel_rfl) (by exact fun _ _ _ h => h) (Or.inl ⟨by rfl, ?_⟩) (by assumption) ?_
        rotate_left
        {
        intro w hSw
        try dsimp only at hSw
        go_simp
        try with_reducible rfl
        }
        try simp only [sq]
        refine Htake (i := 3) (v := ?_) (by rfl) (by kernel_rfl) (by exact fun _ _ _ h => h) (Or.inl ⟨by rfl, ?_⟩) (by assumption) ?_
        rotate_left
        {
        intro w hSw
        try dsimp only at hSw
        go_simp
        try with_reducible rfl
        }
        try simp only [sq]
        refine Htake (i := 4) (v := ?_) (by rfl) (by kernel_rfl) (by exact fun _ _ _ h => h) (Or.inl ⟨by rfl, ?_⟩) (by assumption) ?_
        rotate_left
        {
        intro w hSw
        try dsimp only at hSw
        go_simp
        try with_reducible rfl
        }
        try simp only [sq]
        refine Htake (i := 5) (v := ?_) (by rfl) (by kernel_rfl) (by exact fun _ _ _ h => h) (Or.inl ⟨by rfl, ?_⟩) (by assumption) ?_
        rotate_left
        {
        intro w hSw
        try dsimp only at hSw
        go_simp
        try with_reducible rfl
        }
        try simp only [sq]
        refine Htake (i := 6) (v := ?_) (by rfl) (by kernel_rfl) (by exact fun _ _ _ h => h) (Or.inl ⟨by rfl, ?_⟩) (by assumption) ?_
        rotate_left
        {
        intro w hSw
        try dsimp only at hSw
        go_simp
        try with_reducible rfl
        }
        try simp only [sq]
        have s0 := blk_cell hBr.out 0 _ rfl
        have s1 := blk_cell hBr.out 1 _ rfl
        have s2 := blk_cell hBr.out 2 _ rfl
        have f0 := blk_free hBr.out 0
        have f1 := blk_free hBr.out 1
        have f2 := blk_free hBr.out 2
        refine wpAnyH_ready (rs := [7]) (by kernel_rfl) (by simp) ?_
        refine AllReadyH.cons (by rfl) (fun K hK => ?_) AllReadyH.nil
        go_simp
        refine hK.out _ _ (st2c c1w c2w ((hbel.setCell (p := ⟨B, 0, none⟩) hBw _).drew)) (fun hHeld => ?_)
        clear hK K
        try simp only [sq]
        refine Htake (i := 8) (v := ?_) (by rfl) (by kernel_rfl) (by exact fun _ _ _ h => h) (Or.inl ⟨by rfl, ?_⟩) (by assumption) ?_
        rotate_left
        {
        intro w hSw
        try dsimp only at hSw
        go_simp
        try with_reducible rfl
        }
        try simp only [sq]
        refine wpAnyH_ready (rs := [9]) (by kernel_rfl) (by simp) ?_
        refine AllReadyH.cons (by rfl) (fun K hK => ?_) AllReadyH.nil
        go_simp
        refine hK.out _ _ (st2c c1w c2w (((hbel.setCell (p := ⟨B, 0, none⟩) hBw _).setCell (p := ⟨B, 1, none⟩) hBw _).drew)) (fun hHeld => ?_)
        clear hK K
        try simp only [sq]
        refine wpAnyH_done (by kernel_rfl) ?_ _
        go_wp2_with fail
        go_meet
        case rel => exact ⟨rfl, us_set2 hBx.out, ((hbel.setCell (p := ⟨B, 0, none⟩) hBw _).setCell (p := ⟨B, 1, none⟩) hBw _).drew⟩
      obtain ⟨rfl, hBc, hbc⟩ := hcut
      have bc := hide hBc
      unfold usO at bc
      dsimp only at bc
      replace b1 := hide (blk_below b1.out hbc)
      replace hw := hw.trans (hbc.mono hw.size)
      have s0 := blk_cell bc.out 0 _ rfl
      have s1 := blk_cell bc.out 1 _ rfl
      have s2 := blk_cell bc.out 2 _ rfl
      have y0 := blk_cell b1.out 0 _ rfl
      have y1 := blk_cell b1.out 1 _ rfl
      have y2 := blk_cell b1.out 2 _ rfl
      have f0 := blk_free b1.out 0
      have f1 := blk_free b1.out 1
      have f2 := blk_free b1.out 2
      go_wp2_with fail
      refine bodyPost_ret (v := usv ⟨r1, r2, rdy⟩) (by simp [results, Tryz.results23, go_sem, usv, y0, y1, y2]) rfl ?_
      rw [HE.out]
      exact ⟨rfl, turns_below hw (turns_set (turns_set (turns_set (World.grownBy.refl wc (some (w.heap.size + 1))) 0 (.int .i64 r1)) 1 (.int .i64 r2)) 2 (.int .i64 rdy)) (by omega) hw.size⟩
      }
      have d3 : ((m : Int) == 3) = false := by simp; omega
      have n1 : ¬ (isR r 1 3 = true ∧ r.getD 1 0 ≤ 1) := by rw [isR_no (by omega)]; simp
      replace H2 := hide (H2.out n1)
      replace H3 := hide (fun e => H3.out e n1)
      replace H4 := hide (fun e => H4.out e n1)
      replace H5 := hide (fun e => H5.out e n1)
      clear H1 n1 z3
      by_cases z2 : m = 2
      rotate_left
      {
      have d2 : ((m : Int) == 2) = false := by simp; omega
      have HT := hide (H2.out (by rw [isR_no (by omega)]; decide) (by rw [isR_no (by omega)]; decide))
      clear H2 H3 H4 H5 hints hm z2
      go_wp2_with fail
      go_roundw
      case rel => exact ⟨k, told, rdy, by omega, rfl, by go_num, HT, hBx, hbel⟩
      case measure => simp [intOf]
      }
      subst z2
      obtain ⟨b2, o2, rfl, hc⟩ := intsAt hints (by omega)
      have c0 := hc 0 (by omega)
      have c1 := hc 1 (by omega)
      replace c0 := (hbel.cell (cell_lt c0)).trans c0
      replace c1 := (hbel.cell (cell_lt c1)).trans c1
      have hl2 : r.length = 2 := hm.symm
      clear hc hints hm
      rw [Nat.add_zero] at c0
      have HB2 : Hid (isR r 2 2 = decide (r.getD 0 0 = 2)) := isR_at hl2
      have HB3 : Hid (isR r 3 2 = decide (r.getD 0 0 = 3)) := isR_at hl2
      rw [HB2.out, HB3.out] at H2 H5
      rw [HB2.out] at H4
      clear HB2 HB3 hl2
      generalize r.getD 0 0 = r0 at *
      generalize r.getD 1 0 = r1 at *
      by_cases k2 : r0 = 2
      {
      subst k2
      cases told
      {
      have HT := hide (H4.out rfl (by simp))
      clear H2 H3 H4 H5
      have hBw2 := hBx
      unfold usO at hBw2
      dsimp only at hBw2
      have s0 := blk_cell hBw2.out 0 _ rfl
      have s1 := blk_cell hBw2.out 1 _ rfl
      have s2 := blk_cell hBw2.out 2 _ rfl
      have f0 := blk_free hBw2.out 0
      have f1 := blk_free hBw2.out 1
      have f2 := blk_free hBw2.out 2
      go_wp2_with fail
      go_roundw
      case rel => exact ⟨k, true, r1, by omega, rfl, by go_num, HT, us_set1 hBx.out, hbel.setCell (p := ⟨B, 2, none⟩) hBw _⟩
      case measure => simp [intOf]
      }
      {
      have HT := hide (H3.out rfl)
      clear H2 H3 H4 H5
      go_wp2_with fail
      go_roundw
      case rel => exact ⟨k, true, rdy, by omega, rfl, by go_num, HT, hBx, hbel⟩
      case measure => simp [intOf]
      }
      }
      have e2 : (r0 == 2) = false := by simpa using k2
      by_cases k3 : r0 = 3
      {
      subst k3
      cases told
      {
      have HT := hide (H5.out rfl (by simp) (by simp))
      clear H2 H3 H4 H5
      go_wp2_with fail
      go_roundw
      case rel => exact ⟨k, true, rdy, by omega, rfl, by go_num, HT, hBx, hbel⟩
      case measure => simp [intOf]
      }
      {
      have HT := hide (H3.out rfl)
      clear H2 H3 H4 H5
      go_wp2_with fail
      go_roundw
      case rel => exact ⟨k, true, rdy, by omega, rfl, by go_num, HT, hBx, hbel⟩
      case measure => simp [intOf]
      }
      }
      have e3 : (r0 == 3) = false := by simpa using k3
      have HT := hide (H2.out (by simpa using k2) (by simpa using k3))
      clear H2 H3 H4 H5 k2 k3
      go_wp2_with fail
      go_roundw
      case rel => exact ⟨k, told, rdy, by omega, rfl, by go_num, HT, hBx, hbel⟩
      case measure => simp [intOf]

end Go.Proofs.YtgngpmgjoifepaaGreatDoor

namespace Go.Proofs.YtgngpmgjoifepaaGreatDoor
open Go.RowKit

def CapsOK (w : World) (cs : List (Nat × Option (Nat × Int))) : Prop := ∀ c ∈ cs, ∀ bb x, c.2 = some (bb, x) → w.cell? ⟨bb, 0, none⟩ = some (.int .i64 x)

theorem CapsOK.below {w w' : World} {cs : List (Nat × Option (Nat × Int))} (h : CapsOK w cs) (hb : Below w.heap.size w w') : CapsOK w' cs := fun c hc bb x hx => by
  have := h c hc bb x hx
  rw [hb.cell (cell_lt this)]; exact this
theorem CapsOK.append {w : World} {A B : List (Nat × Option (Nat × Int))} (h : CapsOK w A) (h2 : CapsOK w B) : CapsOK w (A ++ B) := fun c hc => by
  rcases List.mem_append.1 hc with hc | hc
  { exact h c hc }
  {
  exact h2 c hc

  }
theorem IsChgs.caps {w : World} {a : Option Addr} {cs : List (Nat × Option (Nat × Int))} (h : IsChgs w a cs) : CapsOK w cs := by
  rcases h with rfl | ⟨b, _, hc⟩
  { intro c hc; cases hc }
  {
  intro c hc' bb x hx
  obtain ⟨i, hi, rfl⟩ := List.getElem_of_mem hc'
  exact (hc i _ (List.getElem?_eq_getElem hi)).2.2 bb x hx

  }
theorem chgs_of_row {w0 w : World} {v : Value} {cs : List (Nat × Option (Nat × Int))} (h : w.ownsRow w0.heap.size 237 2 v cs.length (cells2 cs)) (hcap : CapsOK w cs) : ∃ a c, v = .slice a cs.length c ∧ cs.length ≤ c ∧ IsChgs w a cs := by
  obtain ⟨_, ⟨hv, hn⟩ | ⟨g, cap, cur, hv, hg, hh, hc, _, _, ht⟩⟩ := h
  { exact ⟨none, 0, by rw [hv, hn], by omega, .inl (List.eq_nil_of_length_eq_zero hn)⟩ }
  {
  refine ⟨some ⟨g, 0, none⟩, cap, hv, hc, .inr ⟨g, rfl, fun i c hi => ?_⟩⟩
  have hlt : i < cs.length := (List.getElem?_eq_some_iff.1 hi).1
  have hcg := cells2_get cs i c hi
  have get : ∀ j v, j < cs.length * 2 → (cells2 cs)[j]? = some v → cur[j]? = some v := by
    intro j v hj hv
    rw [← ht] at hv
    simpa [hj] using hv
  exact ⟨blk_cell hh _ _ (get _ _ (by omega) (by rw [Nat.mul_comm]; exact hcg.1)), blk_cell hh _ _ (get _ _ (by omega) (by rw [Nat.mul_comm]; exact hcg.2)), fun bb x hx => hcap c (List.mem_of_getElem? hi) bb x hx⟩

  }
theorem cells2_one (cs : List (Nat × Option (Nat × Int))) : ∀ u ∈ cells2 cs, u.oneCell' = true := by
  intro u hu
  simp only [cells2, List.mem_flatMap] at hu
  obtain ⟨c, _, hu⟩ := hu
  simp at hu
  rcases hu with rfl | rfl
  { rfl }
  {
  cases h : c.2 with
  | none => rfl
  | some p => rfl

  }
theorem cells2_append (A B : List (Nat × Option (Nat × Int))) : cells2 (A ++ B) = cells2 A ++ cells2 B := by simp [cells2]

theorem chgs_news {w : World} {b : Nat} {cs : List (Nat × Option (Nat × Int))} (h : IsChgs w (some ⟨b, 0, none⟩) cs) : ∀ j u, (cells2 cs)[j]? = some u → w.cell? ((⟨b, 0, none⟩ : Addr).add j) = some u := by
  intro j u hu
  have hj : j < (cells2 cs).length := (List.getElem?_eq_some_iff.1 hu).1
  rw [cells2_length] at hj
  rcases h with rfl | ⟨b', e, hc⟩
  { simp at hj }
  {
  cases e
  obtain ⟨i, hi⟩ : ∃ i, j = 2 * i ∨ j = 2 * i + 1 := ⟨j / 2, by omega⟩
  have hil : i < cs.length := by omega
  have hg := cells2_get cs i cs[i] (List.getElem?_eq_getElem hil)
  have hh := hc i cs[i] (List.getElem?_eq_getElem hil)
  rcases hi with rfl | rfl
  {
  rw [hg.1] at hu
  cases hu
  by_cases h0 : 2 * i = 0
  { rw [h0]; have := hh.1; rw [show i * 2 = 0 by omega] at this; simpa [Addr.add] using this }
  { have := hh.1; rw [Nat.mul_comm] at this; simpa [Addr.add, h0] using this }
  }
  {
  rw [hg.2] at hu
  cases hu
  have := hh.2.1; rw [Nat.mul_comm] at this; simpa [Addr.add] using this

  }
  }
theorem ownsRow_keeps {w w' : World} {base : Nat} {e : TypeId} {size n : Nat} {v : Value} {xs : List Value} (h : w.ownsRow base e size v n xs) (hb : Below w.heap.size w w') : w'.ownsRow base e size v n xs := by
  obtain ⟨q, ⟨hv, hn⟩ | ⟨g, cap, cur, hv, hg, hh, r⟩⟩ := h
  { exact ⟨q, .inl ⟨hv, hn⟩⟩ }
  {
  exact ⟨q, .inr ⟨g, cap, cur, hv, hg, blk_below hh hb, r⟩⟩

  }
end Go.Proofs.YtgngpmgjoifepaaGreatDoor

namespace Go.Proofs.YtgngpmgjoifepaaGreatDoor
open Go.RowKit
attribute [local go_sem ↓] Go.wp_at_zero Go.wp_at_succ

theorem zeroCells_size (z : Array Value) (n : Nat) : (Builtin.zeroCells z n).size = n * z.size := by simp [Builtin.zeroCells]

theorem wpList_append_zeros {ops : Array Oper} {rest : List Oper} {o : Oper} {a : Act} {Q : Exit → Act → World → Prop} (w : World) (hgd : o.guard = none) (s x : Operand)
    (ho : o.op = .call { callee := .builtin .append, args := #[s, x], argTypes := #[195, 3] }) (n : Nat) (hs : a.eval s = .slice none 0 0) (hx : a.eval x = .int .i64 n) (V : Value) (W : World)
    (hap : ∀ ty, (Builtin.append_ #[195, 3] ty #[.slice none 0 0, .int .i64 n]).run Tryz.prog w = .ok V W) (h : wpList Tryz.prog ops Q rest (a.put o.dst V) W) : wpList Tryz.prog ops Q (o :: rest) a w :=
  wpList_plain hgd fun _ hK => by
    unfold Oper.wp execOp
    simp only [ho, resolve, invoke, builtin, Sem.run_bind, Sem.run_pure, Result.andThen_ok, List.map_toArray, List.map_cons, List.map_nil, hs, hx, hap]
    exact hK _ _ h

set_option maxRecDepth 100000 in
set_option maxHeartbeats 1000000 in
theorem grow_any (n : Nat) (w : World) (h1 : 1 ≤ n) (h2 : n ≤ 1000) : Calls Tryz.prog 207 #[.slice none 0 0, .int .i64 n] w fun e w' => ∃ v, e = .returned v ∧ w'.ownsRow w.heap.size 237 2 v 0 [] ∧ Below w.heap.size w w' := by
  obtain ⟨i0, hi0, hz0, hz1, hz2⟩ := info_parts info_change
  have hap := fun ty => Go.Lib.run_append_nil_zeros (P := Tryz.prog) w 195 3 ty 237 i0 _ .i64 .i64 Tryz.underlying195 Tryz.underlying3 hi0 hz0 n (by omega) (by omega) (by omega) (by rw [hz2]; omega)
  have hge := grownCap_ge w n 0 237
  have hle := grownCap_le_maxLen w n 0 237 (by unfold maxLen; omega)
  have i1 : ¬ (n : Int) < 0 := by omega
  have i2 : (0 : Int) < (n : Int) := by omega
  go_enter Tryz.func207, Tryz.ntmps207
  have HAp := hide hap
  clear hap
  go_wp2_with (at_builtin; refine wpList_append_zeros _ rfl _ _ rfl n rfl rfl _ _ HAp.out ?_)
  have hcap : (0 : Int) ≤ (grownCap w n 0 237 : Int) := by omega
  go_wp2
  go_ret
  refine ⟨_, rfl, ⟨rfl, .inr ⟨w.heap.size, _, _, rfl, Nat.le_refl _, heap_alloc_last _ _, Nat.zero_le _, hle, ?_, by simp⟩⟩, ((Below.refl _ w).drew).alloc (Nat.le_refl _) _⟩
  rw [Array.size_append, zeroCells_size, zeroCells_size]
  show n * 2 + (grownCap w n 0 237 - n) * 2 = _
  omega

def IsChgL (w : World) (bL : Nat) (css : List (List (Nat × Option (Nat × Int)))) : Prop :=
  ∀ (i : Nat) (cs : List (Nat × Option (Nat × Int))), css[i]? = some cs → ∃ b c, w.cell? ⟨bL, i, none⟩ = some (.slice (some ⟨b, 0, none⟩) cs.length c) ∧ IsChgs w (some ⟨b, 0, none⟩) cs ∧ 0 < cs.length

def flL (css : List (List (Nat × Option (Nat × Int)))) : List (Nat × Option (Nat × Int)) := css.flatten

theorem flatten_take_succ {css : List (List (Nat × Option (Nat × Int)))} {k : Nat} (hk : k < css.length) : flL (css.take (k + 1)) = flL (css.take k) ++ css[k] := by
  unfold flL
  rw [List.take_succ_eq_append_getElem hk, List.flatten_append]
  simp

theorem flatten_take_le (css : List (List (Nat × Option (Nat × Int)))) (k : Nat) : (flL (css.take k)).length ≤ (flL css).length := by
  unfold flL
  conv => rhs; rw [← List.take_append_drop k css, List.flatten_append, List.length_append]
  omega

set_option maxRecDepth 100000 in
set_option maxHeartbeats 2000000 in
theorem concat_any (bL nL cL : Nat) (css : List (List (Nat × Option (Nat × Int)))) (w : World) (h : IsChgL w bL css) (hn : css.length = nL) (hn3 : nL ≤ 10) (hpos : 1 ≤ (flL css).length) (hsum : (flL css).length ≤ 1000) :
    Calls Tryz.prog 182 #[.slice (some ⟨bL, 0, none⟩) nL cL] w fun e w' => ∃ a c, e = .returned (.slice a (flL css).length c) ∧ (flL css).length ≤ c ∧ IsChgs w' a (flL css) ∧ Below w.heap.size w w' := by
  obtain ⟨i0, hi0, hz0, hz1, hz2⟩ := info_parts info_change
  have HN := hide hn
  have HC := hide h
  clear hn h
  go_enter Tryz.func182, Tryz.ntmps182
  go_wp2
  go_loopw [3, 11] (fun v3 v11 wr => ∃ k : Nat, k ≤ nL ∧ v11 = .int .i64 k ∧ v3 = .int .i64 (flL (css.take k)).length ∧ w = wr) (fun _ i _ => nL - (intOf i).toNat)
  case atStart => exact ⟨0, Nat.zero_le _, rfl, rfl, rfl⟩
  case round =>
    obtain ⟨k, hk, rfl, rfl, rfl⟩ := hrel
    have hle := flatten_take_le css k
    by_cases hlt : k < nL
    {
    have hkl : k < css.length := by rw [HN.out]; exact hlt
    obtain ⟨b, c, q1, q2, q3⟩ := HC.out k css[k] (List.getElem?_eq_getElem hkl)
    have hle2 := flatten_take_le css (k + 1)
    rw [flatten_take_succ hkl, List.length_append] at hle2
    obtain ⟨m, hm⟩ : ∃ m, m = css[k].length := ⟨_, rfl⟩
    have HS : Hid ((flL (css.take (k + 1))).length = (flL (css.take k)).length + m) := by show _ = _; rw [flatten_take_succ hkl, List.length_append, hm]
    rw [← hm] at q1 q3 hle2
    obtain ⟨t, ht⟩ : ∃ t, t = (flL (css.take k)).length := ⟨_, rfl⟩
    rw [← ht] at HS hle hle2 ⊢
    have z0 : (k : Int) < (nL : Int) := by omega
    have z1 : ¬ (t : Int) + (m : Int) < 0 := by omega
    have z2 : IntKind.i64.wrap ((t : Int) + (m : Int)) = (t : Int) + (m : Int) := by rw [IntKind.wrap_i64]; omega
    clear hm ht q2
    go_wp2
    go_roundw
    case rel => exact ⟨k + 1, by omega, by go_num, by rw [HS.out]; simp, trivial⟩
    case measure => simp [intOf]; omega
    }
    {
    have z0 : ¬ (k : Int) < (nL : Int) := by omega
    have hall : (flL (css.take k)).length = (flL css).length := by rw [List.take_of_length_le (by rw [HN.out]; omega)]
    rw [hall]
    obtain ⟨t, ht⟩ : ∃ t, t = (flL css).length := ⟨_, rfl⟩
    rw [← ht] at hpos hsum ⊢
    have HT := hide ht
    clear ht hall hle
    go_wp2_with fail
    refine (grow_any t _ hpos hsum).mono ?_
    rintro e w1 ⟨v1, rfl, own1, hb1⟩
    go_wp2_with fail
    go_loopw [6, 27] (fun v6 v27 wr => ∃ j : Nat, j ≤ nL ∧ v27 = .int .i64 j ∧ World.ownsRow wr w.heap.size 237 2 v6 (flL (css.take j)).length (cells2 (flL (css.take j))) ∧ Below w.heap.size w wr) (fun _ i _ => nL - (intOf i).toNat)
    case atStart => exact ⟨0, Nat.zero_le _, rfl, own1, hb1⟩
    case round =>
      obtain ⟨j, hj, rfl, own, hb⟩ := hrel
      by_cases hlt2 : j < nL
      {
      have hjl : j < css.length := by rw [HN.out]; exact hlt2
      obtain ⟨b, c, q1, q2, q3⟩ := HC.out j css[j] (List.getElem?_eq_getElem hjl)
      have hle2 := flatten_take_le css (j + 1)
      rw [← HT.out, flatten_take_succ hjl, List.length_append] at hle2
      have hnews := chgs_news (q2.below hb)
      have HS : Hid ((flL (css.take (j + 1))) = (flL (css.take j)) ++ css[j]) := flatten_take_succ hjl
      have q1' : wr.cell? ⟨bL, j, none⟩ = some (.slice (some ⟨b, 0, none⟩) css[j].length c) := by rw [hb.cell (cell_lt q1)]; exact q1
      have z3 : (j : Int) < (nL : Int) := by omega
      have HO := hide own
      have hsz := hb.size
      clear own q1 q2
      go_wp2_with (at_builtin; refine wpList_append_lies _ rfl _ _ 195 rfl w.heap.size 237 i0 (.agg #[.int .i64 0, .nilFunc]) 2 16 Tryz.underlying195 hi0 hz0 hz1 hz2 rfl (by omega) _ _ _ rfl HO.out ⟨b, 0, none⟩ css[j].length c (cells2 css[j]) rfl (cells2_length _) hnews (cells2_one _) q3 (by unfold maxLen; omega) (by omega) hsz _ rfl ?_)
      intro g cap w2 own2 grow2 at2 lt2
      have R : World.ownsRow w2 w.heap.size 237 2 (.slice (some ⟨g, 0, none⟩) ((flL (css.take j)).length + css[j].length) cap) (flL (css.take (j + 1))).length (cells2 (flL (css.take (j + 1)))) := by
        rw [HS.out, List.length_append, cells2_append]; exact own2
      have hb2 : Below w.heap.size w w2 := hb.grown grow2 hb.size (ownBlock_ge HO.out)
      have HR := hide R
      clear R own2 grow2
      go_wp2
      go_roundw
      case rel => exact ⟨j + 1, by omega, by go_num, HR.out, hb2⟩
      case measure => simp [intOf]; omega
      }
      {
      have z3 : ¬ (j : Int) < (nL : Int) := by omega
      rw [List.take_of_length_le (by rw [HN.out]; omega)] at own
      have hcaps : CapsOK w (flL css) := by
        intro c hc
        obtain ⟨cs, hcs, hc⟩ := List.mem_flatten.1 hc
        obtain ⟨i, hi, rfl⟩ := List.getElem_of_mem hcs
        obtain ⟨_, _, _, q2, _⟩ := HC.out i _ (List.getElem?_eq_getElem hi)
        exact q2.caps c hc
      obtain ⟨av, cv, rfl, q4, q5⟩ := chgs_of_row own (hcaps.below hb)
      have HQ := hide q5
      clear own q5 hcaps
      go_wp2
      go_ret
      exact ⟨av, cv, rfl, q4, HQ.out, hb⟩

      }
    }
end Go.Proofs.YtgngpmgjoifepaaGreatDoor
