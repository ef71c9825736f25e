/- The contract of the reference's GateStateOf: what a gateway's records say, from the last campaign on. -/
import Derived.Test.YtgngpmgjoifepaaGreatDoorPt12
import Derived.Test.YtgngpmgjoifepaaGreatDoorPt13
import Derived.Test.YtgngpmgjoifepaaGreatDoorPt22
import Derived.Test.YtgngpmgjoifepaaGreatDoorPt30
import Derived.Deep.DeepCutAuto
import Derived.BigQuiet
namespace Go.Proofs.YtgngpmgjoifepaaGreatDoor
open Go.RowKit
attribute [local go_sem ↓] Go.wp_at_zero Go.wp_at_succ

def lastK (rs : List (List Int)) : Nat → Int
  | 0 => -1
  | k + 1 => if isBeg (rs.getD k []) = true then (k : Int) else lastK rs k
theorem lastK_yes {rs : List (List Int)} {k : Nat} (h : isBeg (rs.getD k []) = true) : lastK rs (k + 1) = k := by unfold lastK; rw [if_pos h]
theorem lastK_no {rs : List (List Int)} {k : Nat} (h : isBeg (rs.getD k []) = false) : lastK rs (k + 1) = lastK rs k := by conv => lhs; unfold lastK; rw [if_neg (by rw [h]; decide)]
theorem lastK_lt (rs : List (List Int)) : ∀ k : Nat, -1 ≤ lastK rs k ∧ lastK rs k < k
  | 0 => by simp [lastK]
  | k + 1 => by
    have := lastK_lt rs k
    unfold lastK
    split <;> omega
theorem lastK_neg {rs : List (List Int)} : ∀ k : Nat, lastK rs k < 0 → ∀ j, j < k → isBeg (rs.getD j []) = false
  | 0, _, j, hj => by omega
  | k + 1, h, j, hj => by
    unfold lastK at h
    split at h
    { omega }
    {
    rename_i hb
    by_cases e : j = k
    { subst e; simpa using hb }
    { exact lastK_neg k h j (by omega) }
    }
theorem lastK_pos {rs : List (List Int)} : ∀ k : Nat, 0 ≤ lastK rs k → isBeg (rs.getD (lastK rs k).toNat []) = true ∧ ∀ j, (lastK rs k).toNat < j → j < k → isBeg (rs.getD j []) = false
  | 0, h => by simp [lastK] at h
  | k + 1, h => by
    cases hb : isBeg (rs.getD k [])
    {
    rw [lastK_no hb] at h ⊢
    obtain ⟨h1, h2⟩ := lastK_pos k h
    refine ⟨h1, fun j hj hk => ?_⟩
    by_cases e : j = k
    { subst e; exact hb }
    { exact h2 j hj (by omega) }
    }
    {
    rw [lastK_yes hb]
    simp only [Int.toNat_natCast]
    exact ⟨hb, fun j hj hk => by omega⟩
    }
theorem gR_none {rs : List (List Int)} (h : lastK rs rs.length < 0) : gR rs = gs0 := by
  have key : ∀ k, k ≤ rs.length → gR (rs.take k) = gs0 := by
    intro k
    induction k with
    | zero => intro _; simp [gR]
    | succ k ih =>
      intro hk
      rw [gR_step (show k < rs.length by omega), ih (by omega)]
      have hb := lastK_neg rs.length h k (by omega)
      rw [show rs.getD k [] = rs[k] by simp [show k < rs.length by omega]] at hb
      exact gNext_0 hb (by unfold isOf; simp [gs0])
  have := key rs.length (Nat.le_refl _)
  rwa [List.take_length] at this
theorem gR_from {rs : List (List Int)} {k : Nat} (hk : k < rs.length) (h : isBeg rs[k] = true) : gR (rs.take (k + 1)) = ⟨rs[k].getD 1 0, rs[k].getD 2 0, false, false, false⟩ := by rw [gR_step hk, gNext_1 h]
def rNext (s : Gs) (k : Int) : Gs :=
  let co := s.co || (decide (k = 2) && !s.ab)
  let ab := s.ab || (decide (k = 3) && !co)
  ⟨s.n, s.v, co, ab, s.en || (decide (k = 4) && (co || ab))⟩
theorem rNext_eq {s : Gs} (h : GsOk s) (k : Int) : trnG s k = rNext s k := by
  obtain ⟨-, -, h3, h4⟩ := h
  obtain ⟨n, v, co, ab, en⟩ := s
  unfold trnG rNext decG at *
  dsimp only at *
  by_cases k2 : k = 2
  {
  subst k2
  cases co <;> cases ab <;> cases en <;> simp_all
  }
  {
  rw [if_neg k2]
  by_cases k3 : k = 3
  {
  subst k3
  cases co <;> cases ab <;> cases en <;> simp_all
  }
  {
  rw [if_neg k3]
  by_cases k4 : k = 4
  {
  subst k4
  cases co <;> cases ab <;> cases en <;> simp_all
  }
  {
  rw [if_neg k4]
  cases co <;> cases ab <;> cases en <;> simp_all
  }
  }
  }
theorem gs_set2 {W : World} {b : Nat} {s : Gs} {x y : Int} (h : W.heap[b]? = some (gsO s)) : ((W.setCell ⟨b, 0, none⟩ (.int .i64 x)).setCell ⟨b, 1, none⟩ (.int .i64 y)).heap[b]? = some (gsO ⟨x, y, s.co, s.ab, s.en⟩) := by
  unfold gsO at *
  simp only [World.setCell, Array.getElem?_modify]
  simp [h]
theorem gs_set3 {W : World} {b : Nat} {s : Gs} {x y z : Bool} (h : W.heap[b]? = some (gsO s)) : (((W.setCell ⟨b, 2, none⟩ (.bool x)).setCell ⟨b, 3, none⟩ (.bool y)).setCell ⟨b, 4, none⟩ (.bool z)).heap[b]? = some (gsO ⟨s.n, s.v, x, y, z⟩) := by
  unfold gsO at *
  simp only [World.setCell, Array.getElem?_modify]
  simp [h]
theorem recs_at {w : World} {a : Option Addr} {rs : List (List Int)} (h : IsRecs w a rs) (k : Nat) (hk : k < rs.length) : ∃ b off ai ci, a = some ⟨b, off, none⟩ ∧ w.cell? ⟨b, off + k, none⟩ = some (Value.slice ai rs[k].length ci) ∧ IsInts w ai rs[k] ∧ rs[k].length ≤ ci ∧ ci ≤ maxLen := by
  rcases h with h | ⟨b, off, ha, hc⟩
  { subst h; simp at hk }
  {
  obtain ⟨ai, ci, h1, h2, h3, h4⟩ := hc k _ (List.getElem?_eq_getElem hk)
  exact ⟨b, off, ai, ci, ha, h1, h2, h3, h4⟩
  }
theorem ints_at {w : World} {a : Option Addr} {xs : List Int} (h : IsInts w a xs) (h0 : 0 < xs.length) : ∃ b off, a = some ⟨b, off, none⟩ ∧ ∀ i, i < xs.length → w.cell? ⟨b, off + i, none⟩ = some (.int .i64 (xs.getD i 0)) := by
  rcases h with h | ⟨b, off, ha, hc⟩
  { subst h; simp at h0 }
  {
  exact ⟨b, off, ha, fun i hi => hc i hi⟩

  }
theorem gs_forms {s : Gs} (h : GsOk s) : (s.co = false ∧ s.ab = false ∧ s.en = false) ∨ (s.co = true ∧ s.ab = false ∧ s.en = false) ∨ (s.co = true ∧ s.ab = false ∧ s.en = true) ∨ (s.co = false ∧ s.ab = true ∧ s.en = false) ∨ (s.co = false ∧ s.ab = true ∧ s.en = true) := by
  obtain ⟨-, -, h3, h4⟩ := h
  obtain ⟨n, v, co, ab, en⟩ := s
  unfold decG at h4
  cases co <;> cases ab <;> cases en <;> simp_all
theorem st3 {w w' : World} {p q r : Addr} {x y z : Value} (h1 : w.cell? p = some x) (h2 : w.cell? q = some y) (h3 : w.cell? r = some z) (h : Below w.heap.size w w') : w'.cell? p = some x ∧ w'.cell? q = some y ∧ w'.cell? r = some z ∧ Below w.heap.size w w' :=
  ⟨(h.cell (cell_lt h1)).trans h1, (h.cell (cell_lt h2)).trans h2, (h.cell (cell_lt h3)).trans h3, h⟩

set_option maxRecDepth 100000 in
set_option maxHeartbeats 12800000 in
theorem refState_any (g : Gt) (k0 : GA) (w : World) (h : GIn w k0 g) (hk : lchk g.ws g.fu = 0) :
    Calls Tryz.prog 43 #[gtv g k0] w fun e w' => e = .returned (gsv (gOf g.ws)) ∧ Below w.heap.size w w' := by
  have hw : Below w.heap.size w ((w.alloc (.cells #[.slice k0.a k0.n k0.c, .int .i64 g.fu, .bool g.up, .int .i64 g.t.r.v, .slice k0.ak k0.nk k0.ck, .int .i64 g.t.r.t, .int .i64 g.t.ver, .slice k0.av k0.nv k0.cv, .slice k0.ad k0.nd k0.cd] 68)).alloc (.cells #[.int .i64 0, .int .i64 0, .bool false, .bool false, .bool false] 82)) := ((Below.refl _ _).alloc (Nat.le_refl _) _).alloc (by simp) _
  have b0 : Hid (((w.alloc (.cells #[.slice k0.a k0.n k0.c, .int .i64 g.fu, .bool g.up, .int .i64 g.t.r.v, .slice k0.ak k0.nk k0.ck, .int .i64 g.t.r.t, .int .i64 g.t.ver, .slice k0.av k0.nv k0.cv, .slice k0.ad k0.nd k0.cd] 68)).alloc (.cells #[.int .i64 0, .int .i64 0, .bool false, .bool false, .bool false] 82)).heap[w.heap.size]? = some (.cells #[.slice k0.a k0.n k0.c, .int .i64 g.fu, .bool g.up, .int .i64 g.t.r.v, .slice k0.ak k0.nk k0.ck, .int .i64 g.t.r.t, .int .i64 g.t.ver, .slice k0.av k0.nv k0.cv, .slice k0.ad k0.nd k0.cd] 68 (0, 0))) := blk_alloc (heap_alloc_last _ _) _
  have b1 : Hid (((w.alloc (.cells #[.slice k0.a k0.n k0.c, .int .i64 g.fu, .bool g.up, .int .i64 g.t.r.v, .slice k0.ak k0.nk k0.ck, .int .i64 g.t.r.t, .int .i64 g.t.ver, .slice k0.av k0.nv k0.cv, .slice k0.ad k0.nd k0.cd] 68)).alloc (.cells #[.int .i64 0, .int .i64 0, .bool false, .bool false, .bool false] 82)).heap[w.heap.size + 1]? = some (.cells #[.int .i64 0, .int .i64 0, .bool false, .bool false, .bool false] 82 (0, 0))) := uLast1 _ _ _
  have HR := hide (fun W (hW : Below w.heap.size w W) => recordsOf_any k0.a k0.n k0.c g.ws g.fu W (h.ws.below hW).at_ h.ws.len h.ws.cap hk)
  have hfew : (logR g.ws).length ≤ 31 := logR_few (by have := lchk_parts hk; omega)
  have HS : Hid (gOf g.ws = gR (logR g.ws)) := rfl
  clear h hk
  unfold RecsOfAns at HR
  generalize logR g.ws = rs at *
  generalize posS g.ws = ps at *
  unfold gtv
  have x0 := blk_cell b0.out 0 _ rfl
  have x1 := blk_cell b0.out 1 _ rfl
  go_enter Tryz.func43, Tryz.ntmps43
  go_wp2_with fail
  generalize ((w.alloc (.cells #[.slice k0.a k0.n k0.c, .int .i64 g.fu, .bool g.up, .int .i64 g.t.r.v, .slice k0.ak k0.nk k0.ck, .int .i64 g.t.r.t, .int .i64 g.t.ver, .slice k0.av k0.nv k0.cv, .slice k0.ad k0.nd k0.cd] 68)).alloc (.cells #[.int .i64 0, .int .i64 0, .bool false, .bool false, .bool false] 82)) = W at *
  refine (unhide HR _ hw).mono ?_
  rintro e w1 ⟨⟨ar, nr, cr, rfl, hrs, hnr, hcr, hmr⟩, hb⟩
  replace b1 := hide (blk_below b1.out hb)
  replace hw := hw.trans (hb.mono hw.size)
  have HM := hide hrs
  have LR := hide hnr
  rw [hnr] at hfew
  clear hb HR x0 x1 b0 hrs hnr
  have hwb := blk_lt b1.out
  have hmr' := hmr
  unfold maxLen at hmr'
  go_wp2_with fail
  go_loopw [5, 19] (fun f i wr => ∃ k : Nat, k ≤ nr ∧ f = .int .i64 (lastK rs k) ∧ i = .int .i64 k ∧ wr = w1) (fun _ i _ => nr - (intOf i).toNat)
  case atStart => exact ⟨0, Nat.zero_le _, rfl, rfl, rfl⟩
  case round =>
    obtain ⟨k, hk, rfl, rfl, hwr⟩ := hrel
    replace hwr := hwr.symm
    subst hwr
    by_cases hlt : k < nr
    {
    have hkx : k < rs.length := by rw [LR.out]; exact hlt
    obtain ⟨b, off, ai, ci, rfl, hcell, hints, hci, hmi⟩ := recs_at HM.out k hkx
    have hgd : rs.getD k [] = rs[k] := by simp [hkx]
    have HY := hide (lastK_yes (rs := rs) (k := k))
    have HN := hide (lastK_no (rs := rs) (k := k))
    rw [hgd] at HY HN
    generalize rs[k] = r at *
    obtain ⟨m, hm⟩ : ∃ m, m = r.length := ⟨_, rfl⟩
    rw [← hm] at hcell hci
    have hltI : (k : Int) < (nr : Int) := by omega
    unfold maxLen at hmi
    clear hgd hkx
    by_cases z3 : m = 3
    rotate_left
    {
    have HE := hide (HN.out (by unfold isBeg; simp; intro e; omega))
    have d3 : ((m : Int) == 3) = false := by simp; omega
    clear HY HN hints z3 hm
    go_wp2_with fail
    go_roundw
    case rel => exact ⟨k + 1, by omega, congrArg (Value.int .i64) HE.out.symm, by go_num, trivial⟩
    case measure => simp [intOf]; omega
    }
    subst z3
    obtain ⟨b2, o2, rfl, hc⟩ := ints_at hints (by omega)
    have c0 := hc 0 (by omega)
    have c1 := hc 1 (by omega)
    have hl3 : r.length = 3 := hm.symm
    clear hc hints hm
    rw [Nat.add_zero] at c0
    have HB : Hid (isBeg r = (decide (r.getD 0 0 = 1) && inB (r.getD 1 0) 1 8)) := by show _ = _; unfold isBeg; rw [hl3]; rfl
    clear hl3
    generalize r.getD 0 0 = r0 at *
    generalize r.getD 1 0 = r1 at *
    by_cases z0 : r0 = 1
    rotate_left
    {
    have d0 : (r0 == 1) = false := by simpa using z0
    have HE := hide (HN.out (by rw [HB.out]; simp [z0]))
    clear HY HN HB
    go_wp2_with fail
    go_roundw
    case rel => exact ⟨k + 1, by omega, congrArg (Value.int .i64) HE.out.symm, by go_num, trivial⟩
    case measure => simp [intOf]; omega
    }
    subst z0
    by_cases z1 : 1 ≤ r1
    rotate_left
    {
    have HE := hide (HN.out (by rw [HB.out]; unfold inB; simp; omega))
    clear HY HN HB
    go_wp2_with fail
    go_roundw
    case rel => exact ⟨k + 1, by omega, congrArg (Value.int .i64) HE.out.symm, by go_num, trivial⟩
    case measure => simp [intOf]; omega
    }
    by_cases z2 : r1 ≤ 8
    rotate_left
    {
    have HE := hide (HN.out (by rw [HB.out]; unfold inB; simp; omega))
    clear HY HN HB
    go_wp2_with fail
    go_roundw
    case rel => exact ⟨k + 1, by omega, congrArg (Value.int .i64) HE.out.symm, by go_num, trivial⟩
    case measure => simp [intOf]; omega
    }
    have HE := hide (HY.out (by rw [HB.out]; unfold inB; simp; omega))
    clear HY HN HB
    go_wp2_with fail
    go_roundw
    case rel => exact ⟨k + 1, by omega, congrArg (Value.int .i64) HE.out.symm, by go_num, trivial⟩
    case measure => simp [intOf]; omega
    }
    obtain rfl : k = nr := by omega
    have hF := lastK_lt rs k
    have HF1 := hide (fun h => gR_none (rs := rs) (by rw [LR.out]; exact h))
    have HF2 := hide (lastK_pos (rs := rs) k)
    generalize lastK rs k = F at *
    have bB := hide (heap_alloc_last w1 (.cells #[.int .i64 0, .int .i64 0, .bool false, .bool false, .bool false] 82))
    have hb2 : Below w1.heap.size w1 (w1.alloc (.cells #[.int .i64 0, .int .i64 0, .bool false, .bool false, .bool false] 82)) := below_new (Below.refl _ _) _
    have b1w := b1
    have hww := hw
    replace b1 := hide (blk_below b1.out hb2)
    replace hw := hw.trans (hb2.mono hw.size)
    go_upto_region 10 with fail
    generalize w1.alloc (.cells #[.int .i64 0, .int .i64 0, .bool false, .bool false, .bool false] 82) = W2 at *
    obtain ⟨B, hBe⟩ : ∃ B, B = w1.heap.size := ⟨_, rfl⟩
    rw [← hBe] at bB ⊢
    have hBw : w1.heap.size ≤ B := by omega
    have hB1 : B ≠ w.heap.size + 1 := by omega
    have hBs := blk_lt bB.out
    clear hBe
    by_cases zF : F < 0
    {
    have HE : Hid (gOf g.ws = ⟨0, 0, false, false, false⟩) := HS.out.trans (HF1.out zF)
    clear HF1 HF2 HM
    obtain ⟨s0, s1, s2, s3, s4⟩ := cl5 bB.out
    obtain ⟨y0, y1, y2, y3, y4⟩ := cl5 b1.out
    have f0 := blk_free b1.out 0
    have f1 := blk_free b1.out 1
    have f2 := blk_free b1.out 2
    have f3 := blk_free b1.out 3
    have f4 := blk_free b1.out 4
    go_wp2_with fail
    refine bodyPost_ret (v := gsv ⟨0, 0, false, false, false⟩) (by simp [results, Tryz.results43, go_sem, gsv, y0, y1, y2, y3, y4]) rfl ?_
    rw [HE.out]
    exact ⟨rfl, turns_below hw (turns_set (turns_set (turns_set (turns_set (turns_set (World.grownBy.refl W2 (some (w.heap.size + 1))) 0 (.int .i64 0)) 1 (.int .i64 0)) 2 (.bool false)) 3 (.bool false)) 4 (.bool false)) (by omega) hw.size⟩
    }
    obtain ⟨fN, rfl⟩ : ∃ v : Nat, F = (v : Int) := ⟨F.toNat, by omega⟩
    obtain ⟨hbeg, hnb⟩ := HF2.out (by omega)
    rw [Int.toNat_natCast] at hbeg hnb
    have hfk : fN < rs.length := by rw [LR.out]; omega
    rw [show rs.getD fN [] = rs[fN] by simp [hfk]] at hbeg
    have HG0 := hide (gR_from hfk hbeg)
    have hl3 : rs[fN].length = 3 := by unfold isBeg at hbeg; simp at hbeg; exact hbeg.1
    have hn18 := isBeg_n hbeg
    have HNB := hide hnb
    clear HF1 HF2 hnb hbeg
    obtain ⟨b, off, ai, ci, rfl, hcell, hints, hci, hmi⟩ := recs_at HM.out fN hfk
    obtain ⟨b2, o2, rfl, hc⟩ := ints_at hints (by omega)
    have c1 := hc 1 (by omega)
    have c2 := hc 2 (by omega)
    rw [hl3] at hcell
    generalize rs[fN].getD 1 0 = n1 at *
    generalize rs[fN].getD 2 0 = v1 at *
    clear hc hints hci hl3
    have hfI : (fN : Int) < (k : Int) := by omega
    unfold maxLen at hmi
    go_upto_region 12 with fail
    go_cut [8] (fun v8 wc => v8 = .pointer (some ⟨B, 0, none⟩) ∧ wc.heap[B]? = some (gsO ⟨n1, v1, false, false, false⟩) ∧ Below w1.heap.size w1 wc)
    case first =>
      refine wp_region_held_drew (S := fun W' => W'.cell? ⟨b, off + fN, none⟩ = some (Value.slice (some ⟨b2, o2, none⟩) 3 ci) ∧ W'.cell? ⟨b2, o2 + 1, none⟩ = some (.int .i64 n1) ∧ W'.cell? ⟨b2, o2 + 2, none⟩ = some (.int .i64 v1) ∧ Below w1.heap.size w1 W') (by kernel_rfl) (st3 hcell c1 c2 hb2.drew) ?_
      intro hHeld
      refine Htake (i := 0) (v := ?_) (by rfl) (by kernel_rfl) (by exact fun _ _ _ h => h) (Or.inl ⟨by rfl, ?_⟩) (by assumption) ?_
      rotate_left
      {
      intro w hSw
      try dsimp only at hSw
      go_simp
      try with_reducible rfl
      }
      try simp only [sq]
      refine Htake (i := 1) (v := ?_) (by rfl) (by kernel_rfl) (by exact fun _ _ _ h => h) (Or.inl ⟨by rfl, ?_⟩) (by assumption) ?_
      rotate_left
      {
      intro w hSw
      try dsimp only at hSw
      go_simp
      try with_reducible rfl
      }
      try simp only [sq]
      refine Htake (i := 2) (v := ?_) (by rfl) (by kernel_rfl) (by exact fun _ _ _ h => h) (Or.inl ⟨by rfl, ?_⟩) (by assumption) ?_
      rotate_left
      {
      intro w hSw
      try dsimp only at hSw
      go_simp
      try with_reducible rfl
      }
      try simp only [sq]
      refine Htake (i := 3) (v := ?_) (by rfl) (by kernel_rfl) (by exact fun _ _ _ h => h) (Or.inl ⟨by rfl, ?_⟩) (by assumption) ?_
      rotate_left
      {
      intro w hSw
      try dsimp only at hSw
      go_simp
      try with_reducible rfl
      }
      try simp only [sq]
      refine Htake (i := 4) (v := ?_) (by rfl) (by kernel_rfl) (by exact fun _ _ _ h => h) (Or.inl ⟨by rfl, ?_⟩) (by assumption) ?_
      rotate_left
      {
      intro w hSw
      try dsimp only at hSw
      go_simp
      try with_reducible rfl
      }
      try simp only [sq]
      refine Htake (i := 5) (v := ?_) (by rfl) (by kernel_rfl) (by exact fun _ _ _ h => h) (Or.inl ⟨by rfl, ?_⟩) (by assumption) ?_
      rotate_left
      {
      intro w hSw
      try dsimp only at hSw
      go_simp
      try with_reducible rfl
      }
      try simp only [sq]
      refine Htake (i := 6) (v := ?_) (by rfl) (by kernel_rfl) (by exact fun _ _ _ h => h) (Or.inl ⟨by rfl, ?_⟩) (by assumption) ?_
      rotate_left
      {
      intro w hSw
      try dsimp only at hSw
      go_simp
      try with_reducible rfl
      }
      try simp only [sq]
      refine Htake (i := 7) (v := ?_) (by rfl) (by kernel_rfl) (by exact fun _ _ _ h => h) (Or.inl ⟨by rfl, ?_⟩) (by assumption) ?_
      rotate_left
      {
      intro w hSw
      try dsimp only at hSw
      go_simp
      try with_reducible rfl
      }
      try simp only [sq]
      refine Htake (i := 8) (v := ?_) (by rfl) (by kernel_rfl) (by exact fun _ _ _ h => h) (Or.inl ⟨by rfl, ?_⟩) (by assumption) ?_
      rotate_left
      {
      intro w hSw
      try dsimp only at hSw
      go_simp
      try with_reducible rfl
      }
      try simp only [sq]
      refine Htake (i := 9) (v := ?_) (by rfl) (by kernel_rfl) (by exact fun _ _ _ h => h) (Or.inl ⟨by rfl, ?_⟩) (by assumption) ?_
      rotate_left
      {
      intro w hSw
      try dsimp only at hSw
      go_simp
      try with_reducible rfl
      }
      try simp only [sq]
      refine Htake (i := 10) (v := ?_) (by rfl) (by kernel_rfl) (by exact fun _ _ _ h => h) (Or.inl ⟨by rfl, ?_⟩) (by assumption) ?_
      rotate_left
      {
      intro w hSw
      try dsimp only at hSw
      go_simp
      try with_reducible rfl
      }
      try simp only [sq]
      refine Htake (i := 11) (v := ?_) (by rfl) (by kernel_rfl) (by exact fun _ _ _ h => h) (Or.inl ⟨by rfl, ?_⟩) (by assumption) ?_
      rotate_left
      {
      intro w hSw
      try dsimp only at hSw
      go_simp
      try with_reducible rfl
      }
      try simp only [sq]
      refine Htake (i := 12) (v := ?_) (by rfl) (by kernel_rfl) (by exact fun _ _ _ h => h) (Or.inl ⟨by rfl, ?_⟩) (by assumption) ?_
      rotate_left
      {
      intro w hSw
      try dsimp only at hSw
      go_simp
      try with_reducible rfl
      }
      try simp only [sq]
      obtain ⟨s0, s1, s2, s3, s4⟩ := cl5 bB.out
      have f0 := blk_free bB.out 0
      have f1 := blk_free bB.out 1
      have f2 := blk_free bB.out 2
      have f3 := blk_free bB.out 3
      have f4 := blk_free bB.out 4
      refine wpAnyH_ready (rs := [13]) (by kernel_rfl) (by simp) ?_
      refine AllReadyH.cons (by rfl) (fun K hK => ?_) AllReadyH.nil
      go_simp
      refine hK.out _ _ (st3 hcell c1 c2 ((hb2.setCell (p := ⟨B, 0, none⟩) hBw _).drew)) (fun hHeld => ?_)
      clear hK K
      try simp only [sq]
      refine Htake (i := 14) (v := ?_) (by rfl) (by kernel_rfl) (by exact fun _ _ _ h => h) (Or.inl ⟨by rfl, ?_⟩) (by assumption) ?_
      rotate_left
      {
      intro w hSw
      try dsimp only at hSw
      go_simp
      try with_reducible rfl
      }
      try simp only [sq]
      refine wpAnyH_ready (rs := [15]) (by kernel_rfl) (by simp) ?_
      refine AllReadyH.cons (by rfl) (fun K hK => ?_) AllReadyH.nil
      go_simp
      refine hK.out _ _ (st3 hcell c1 c2 (((hb2.setCell (p := ⟨B, 0, none⟩) hBw _).setCell (p := ⟨B, 1, none⟩) hBw _).drew)) (fun hHeld => ?_)
      clear hK K
      try simp only [sq]
      refine wpAnyH_done (by kernel_rfl) ?_ _
      go_wp2_with fail
      go_meet
      case rel => exact ⟨rfl, gs_set2 (s := gs0) (x := n1) (y := v1) bB.out, ((hb2.setCell (p := ⟨B, 0, none⟩) hBw _).setCell (p := ⟨B, 1, none⟩) hBw _).drew⟩
    obtain ⟨rfl, hBc, hbc⟩ := hcut
    clear hcell c1 c2
    have bc := hide hBc
    unfold gsO at bc
    have s0 := blk_cell bc.out 0 _ rfl
    have dn : (n1 == 0) = false := by simp; omega
    have hf1 : (fN : Int) + 1 ≤ (k : Int) := by omega
    have hf2 : (k : Int) ≤ (cr : Int) := by omega
    go_upto_region 15 with fail
    obtain ⟨q, hq⟩ : ∃ q, q + (fN + 1) = k := ⟨k - (fN + 1), by omega⟩
    obtain ⟨wd, rfl⟩ : ∃ wd : World, wd = wc := ⟨_, rfl⟩
    go_cut [71, 72, 73] (fun v71 v72 v73 wx => (∃ A C, v71 = .slice A q C ∧ (0 < q → A = some ⟨b, off + (fN + 1), none⟩)) ∧ v72 = .int .i64 q ∧ v73 = .int .i64 0 ∧ wx = wd)
    case first =>
      by_cases hz : fN + 1 = cr
      {
      have hzI : (fN : Int) + 1 = (cr : Int) := by omega
      obtain rfl : q = 0 := by omega
      go_wp2_with fail
      go_meet
      case rel => exact ⟨⟨_, _, rfl, fun h => absurd h (by omega)⟩, rfl, rfl, rfl⟩
      }
      {
      have hzI : ¬ (fN : Int) + 1 = (cr : Int) := by omega
      go_wp2_with fail
      go_meet
      case rel => rw [show k - (fN + 1) = q from by omega]; exact ⟨⟨_, _, rfl, fun _ => rfl⟩, rfl, rfl, rfl⟩
      }
    obtain ⟨⟨A, C, rfl, hA⟩, rfl, rfl, hwd⟩ := hcut
    replace hwd := hwd.symm
    subst hwd
    have hq31 : q ≤ 31 := by omega
    have HQ := hide hq
    have HA := hide hA
    clear hq hA s0 dn hf1 hf2 hF hfI hk hlt hcr bB b1 hw hb2 hBs
    go_wp2_with fail
    go_loopw [73] (fun i wr => ∃ j : Nat, j ≤ q ∧ i = .int .i64 j ∧ Hid (wr.heap[B]? = some (gsO (gR (rs.take (fN + 1 + j))))) ∧ Hid ((gR (rs.take (fN + 1 + j))).n = n1) ∧ Below w1.heap.size w1 wr) (fun i _ => q - (intOf i).toNat)
    case atStart => exact ⟨0, Nat.zero_le _, rfl, by show _ = _; rw [Nat.add_zero, HG0.out]; exact hBc, by show _ = _; rw [Nat.add_zero, HG0.out], hbc⟩
    case round =>
      obtain ⟨wq, rfl⟩ : ∃ wq : World, wq = wr := ⟨_, rfl⟩
      obtain ⟨j, hj, rfl, hBx, hNx, hbel⟩ := hrel
      clear bc hBc hbc
      by_cases hlt : j < q
      {
      have hix : fN + 1 + j < rs.length := by rw [LR.out, ← HQ.out]; omega
      obtain ⟨b', off', ai, ci', hae, hcell, hints, hci', hmi'⟩ := recs_at HM.out (fN + 1 + j) hix
      cases hae
      have HX := hide (gR_step hix)
      have hnb : isBeg rs[fN + 1 + j] = false := by have := HNB.out (fN + 1 + j) (by omega) (by rw [← HQ.out]; omega); rwa [show rs.getD (fN + 1 + j) [] = rs[fN + 1 + j] by simp [hix]] at this
      have hst := gsOk_R (rs.take (fN + 1 + j))
      rw [← Nat.add_assoc] at hcell
      replace hcell := (hbel.cell (cell_lt hcell)).trans hcell
      have hA1 := HA.out (by omega)
      subst hA1
      generalize rs[fN + 1 + j] = r at *
      have HX2 : Hid (gR (rs.take (fN + 1 + (j + 1))) = gNext (gR (rs.take (fN + 1 + j))) r) := HX.out
      clear HX
      generalize gR (rs.take (fN + 1 + j)) = st at *
      obtain ⟨m, hm⟩ : ∃ m, m = r.length := ⟨_, rfl⟩
      rw [← hm] at hcell hci'
      have hltI : (j : Int) < (q : Int) := by omega
      unfold maxLen at hmi'
      unfold gsO at hBx
      obtain ⟨s0, s1, s2, s3, s4⟩ := cl5 hBx.out
      by_cases z2 : m = 2
      rotate_left
      {
      have d2 : ((m : Int) == 2) = false := by simp; omega
      have HE : Hid (gR (rs.take (fN + 1 + (j + 1))) = st) := HX2.out.trans (gNext_0 hnb (by unfold isOf; rw [decide_eq_false (show ¬ r.length = 2 by omega)]; rfl))
      have hnn := hNx
      clear HX2 hnb hm hst hNx
      clear z2
      go_upto_region 18 with fail
      go_quiet (fail)
      have hbz : Below wq.heap.size wq (wq.drewN nq) := below_drewN (Below.refl _ _) nq
      go_wp2_with fail
      go_roundw
      case rel => exact ⟨j + 1, by omega, by go_num, by show _ = _; rw [HE.out]; exact blk_below hBx.out hbz, by show _ = _; rw [HE.out]; exact hnn.out, hbel.trans (hbz.mono hbel.size)⟩
      case measure => simp [intOf]; omega
      }
      subst z2
      obtain ⟨b3, o3, rfl, hc⟩ := ints_at hints (by omega)
      have c0 := hc 0 (by omega)
      have c1 := hc 1 (by omega)
      have hb3 : b3 ≠ B := by have h : b3 < w1.heap.size := cell_lt c0; omega
      have hb3' : ¬ B = b3 := by omega
      replace c0 := (hbel.cell (cell_lt c0)).trans c0
      replace c1 := (hbel.cell (cell_lt c1)).trans c1
      have hl2 : r.length = 2 := hm.symm
      clear hc hints
      rw [Nat.add_zero] at c0
      by_cases z1 : r.getD 1 0 = st.n
      rotate_left
      {
      have d1 : (r.getD 1 0 == st.n) = false := by simpa using z1
      have HE : Hid (gR (rs.take (fN + 1 + (j + 1))) = st) := HX2.out.trans (gNext_0 hnb (by unfold isOf; rw [decide_eq_false z1]; simp))
      have hnn := hNx
      clear HX2 hnb hm hst hNx
      clear z1 hl2
      generalize r.getD 1 0 = r1 at *
      generalize r.getD 0 0 = r0 at *
      go_upto_region 18 with fail
      go_quiet (fail)
      have hbz : Below wq.heap.size wq (wq.drewN nq) := below_drewN (Below.refl _ _) nq
      go_wp2_with fail
      go_roundw
      case rel => exact ⟨j + 1, by omega, by go_num, by show _ = _; rw [HE.out]; exact blk_below hBx.out hbz, by show _ = _; rw [HE.out]; exact hnn.out, hbel.trans (hbz.mono hbel.size)⟩
      case measure => simp [intOf]; omega
      }
      have HE : Hid (gR (rs.take (fN + 1 + (j + 1))) = rNext st (r.getD 0 0)) := HX2.out.trans ((gNext_2 hnb (by unfold isOf; rw [decide_eq_true hl2, decide_eq_true (show st.n ≠ 0 by rw [hNx.out]; omega), decide_eq_true z1]; rfl)).trans (rNext_eq hst _))
      rw [z1] at c1
      have hfm := gs_forms hst
      have hnn : Hid ((gR (rs.take (fN + 1 + (j + 1)))).n = n1) := by show _ = _; rw [HE.out]; exact hNx.out
      clear HX2 hnb hm hst z1 hl2
      generalize r.getD 0 0 = r0 at *
      go_upto_region 18 with fail
      go_quiet (fail)
      have hbz : Below wq.heap.size wq (wq.drewN nq) := below_drewN (Below.refl _ _) nq
      replace hBx := hide (blk_below hBx.out hbz)
      replace c0 := (hbz.cell (cell_lt c0)).trans c0
      replace hbel := hbel.trans (hbz.mono hbel.size)
      clear hbz hcell c1 s0 s1 s2 s3 s4 hNx
      generalize wq.drewN nq = wz at *
      obtain ⟨n, v, co, ab, en⟩ := st
      dsimp only at *
      obtain ⟨s0, s1, s2, s3, s4⟩ := cl5 hBx.out
      have f0 := blk_free hBx.out 0
      have f1 := blk_free hBx.out 1
      have f2 := blk_free hBx.out 2
      have f3 := blk_free hBx.out 3
      have f4 := blk_free hBx.out 4
      rcases hfm with ⟨rfl, rfl, rfl⟩ | ⟨rfl, rfl, rfl⟩ | ⟨rfl, rfl, rfl⟩ | ⟨rfl, rfl, rfl⟩ | ⟨rfl, rfl, rfl⟩
      {
      by_cases k2 : r0 = 2
      {
      subst k2
      go_wp2_with fail
      go_roundw
      case rel => exact ⟨j + 1, by omega, by go_num, by show _ = _; rw [HE.out]; exact gs_set3 (s := ⟨n, v, _, _, _⟩) hBx.out, hnn, ((hbel.setCell (p := ⟨B, 2, none⟩) hBw _).setCell (p := ⟨B, 3, none⟩) hBw _).setCell (p := ⟨B, 4, none⟩) hBw _⟩
      case measure => simp [intOf]; omega
      }
      by_cases k3 : r0 = 3
      {
      subst k3
      go_wp2_with fail
      go_roundw
      case rel => exact ⟨j + 1, by omega, by go_num, by show _ = _; rw [HE.out]; exact gs_set3 (s := ⟨n, v, _, _, _⟩) hBx.out, hnn, ((hbel.setCell (p := ⟨B, 2, none⟩) hBw _).setCell (p := ⟨B, 3, none⟩) hBw _).setCell (p := ⟨B, 4, none⟩) hBw _⟩
      case measure => simp [intOf]; omega
      }
      by_cases k4 : r0 = 4
      {
      subst k4
      go_wp2_with fail
      go_roundw
      case rel => exact ⟨j + 1, by omega, by go_num, by show _ = _; rw [HE.out]; exact gs_set3 (s := ⟨n, v, _, _, _⟩) hBx.out, hnn, ((hbel.setCell (p := ⟨B, 2, none⟩) hBw _).setCell (p := ⟨B, 3, none⟩) hBw _).setCell (p := ⟨B, 4, none⟩) hBw _⟩
      case measure => simp [intOf]; omega
      }
      have e2 : (r0 == 2) = false := by simpa using k2
      have e3 : (r0 == 3) = false := by simpa using k3
      have e4 : (r0 == 4) = false := by simpa using k4
      replace HE : Hid (gR (rs.take (fN + 1 + (j + 1))) = ⟨n, v, false, false, false⟩) := HE.out.trans (by unfold rNext; simp [k2, k3, k4])
      clear k2 k3 k4
      go_wp2_with fail
      go_roundw
      case rel => exact ⟨j + 1, by omega, by go_num, by show _ = _; rw [HE.out]; exact gs_set3 (s := ⟨n, v, _, _, _⟩) hBx.out, hnn, ((hbel.setCell (p := ⟨B, 2, none⟩) hBw _).setCell (p := ⟨B, 3, none⟩) hBw _).setCell (p := ⟨B, 4, none⟩) hBw _⟩
      case measure => simp [intOf]; omega
      }
      {
      by_cases k2 : r0 = 2
      {
      subst k2
      go_wp2_with fail
      go_roundw
      case rel => exact ⟨j + 1, by omega, by go_num, by show _ = _; rw [HE.out]; exact gs_set3 (s := ⟨n, v, _, _, _⟩) hBx.out, hnn, ((hbel.setCell (p := ⟨B, 2, none⟩) hBw _).setCell (p := ⟨B, 3, none⟩) hBw _).setCell (p := ⟨B, 4, none⟩) hBw _⟩
      case measure => simp [intOf]; omega
      }
      by_cases k3 : r0 = 3
      {
      subst k3
      go_wp2_with fail
      go_roundw
      case rel => exact ⟨j + 1, by omega, by go_num, by show _ = _; rw [HE.out]; exact gs_set3 (s := ⟨n, v, _, _, _⟩) hBx.out, hnn, ((hbel.setCell (p := ⟨B, 2, none⟩) hBw _).setCell (p := ⟨B, 3, none⟩) hBw _).setCell (p := ⟨B, 4, none⟩) hBw _⟩
      case measure => simp [intOf]; omega
      }
      by_cases k4 : r0 = 4
      {
      subst k4
      go_wp2_with fail
      go_roundw
      case rel => exact ⟨j + 1, by omega, by go_num, by show _ = _; rw [HE.out]; exact gs_set3 (s := ⟨n, v, _, _, _⟩) hBx.out, hnn, ((hbel.setCell (p := ⟨B, 2, none⟩) hBw _).setCell (p := ⟨B, 3, none⟩) hBw _).setCell (p := ⟨B, 4, none⟩) hBw _⟩
      case measure => simp [intOf]; omega
      }
      have e2 : (r0 == 2) = false := by simpa using k2
      have e3 : (r0 == 3) = false := by simpa using k3
      have e4 : (r0 == 4) = false := by simpa using k4
      replace HE : Hid (gR (rs.take (fN + 1 + (j + 1))) = ⟨n, v, true, false, false⟩) := HE.out.trans (by unfold rNext; simp [k2, k3, k4])
      clear k2 k3 k4
      go_wp2_with fail
      go_roundw
      case rel => exact ⟨j + 1, by omega, by go_num, by show _ = _; rw [HE.out]; exact gs_set3 (s := ⟨n, v, _, _, _⟩) hBx.out, hnn, ((hbel.setCell (p := ⟨B, 2, none⟩) hBw _).setCell (p := ⟨B, 3, none⟩) hBw _).setCell (p := ⟨B, 4, none⟩) hBw _⟩
      case measure => simp [intOf]; omega
      }
      {
      by_cases k2 : r0 = 2
      {
      subst k2
      go_wp2_with fail
      go_roundw
      case rel => exact ⟨j + 1, by omega, by go_num, by show _ = _; rw [HE.out]; exact gs_set3 (s := ⟨n, v, _, _, _⟩) hBx.out, hnn, ((hbel.setCell (p := ⟨B, 2, none⟩) hBw _).setCell (p := ⟨B, 3, none⟩) hBw _).setCell (p := ⟨B, 4, none⟩) hBw _⟩
      case measure => simp [intOf]; omega
      }
      by_cases k3 : r0 = 3
      {
      subst k3
      go_wp2_with fail
      go_roundw
      case rel => exact ⟨j + 1, by omega, by go_num, by show _ = _; rw [HE.out]; exact gs_set3 (s := ⟨n, v, _, _, _⟩) hBx.out, hnn, ((hbel.setCell (p := ⟨B, 2, none⟩) hBw _).setCell (p := ⟨B, 3, none⟩) hBw _).setCell (p := ⟨B, 4, none⟩) hBw _⟩
      case measure => simp [intOf]; omega
      }
      by_cases k4 : r0 = 4
      {
      subst k4
      go_wp2_with fail
      go_roundw
      case rel => exact ⟨j + 1, by omega, by go_num, by show _ = _; rw [HE.out]; exact gs_set3 (s := ⟨n, v, _, _, _⟩) hBx.out, hnn, ((hbel.setCell (p := ⟨B, 2, none⟩) hBw _).setCell (p := ⟨B, 3, none⟩) hBw _).setCell (p := ⟨B, 4, none⟩) hBw _⟩
      case measure => simp [intOf]; omega
      }
      have e2 : (r0 == 2) = false := by simpa using k2
      have e3 : (r0 == 3) = false := by simpa using k3
      have e4 : (r0 == 4) = false := by simpa using k4
      replace HE : Hid (gR (rs.take (fN + 1 + (j + 1))) = ⟨n, v, true, false, true⟩) := HE.out.trans (by unfold rNext; simp [k2, k3, k4])
      clear k2 k3 k4
      go_wp2_with fail
      go_roundw
      case rel => exact ⟨j + 1, by omega, by go_num, by show _ = _; rw [HE.out]; exact gs_set3 (s := ⟨n, v, _, _, _⟩) hBx.out, hnn, ((hbel.setCell (p := ⟨B, 2, none⟩) hBw _).setCell (p := ⟨B, 3, none⟩) hBw _).setCell (p := ⟨B, 4, none⟩) hBw _⟩
      case measure => simp [intOf]; omega
      }
      {
      by_cases k2 : r0 = 2
      {
      subst k2
      go_wp2_with fail
      go_roundw
      case rel => exact ⟨j + 1, by omega, by go_num, by show _ = _; rw [HE.out]; exact gs_set3 (s := ⟨n, v, _, _, _⟩) hBx.out, hnn, ((hbel.setCell (p := ⟨B, 2, none⟩) hBw _).setCell (p := ⟨B, 3, none⟩) hBw _).setCell (p := ⟨B, 4, none⟩) hBw _⟩
      case measure => simp [intOf]; omega
      }
      by_cases k3 : r0 = 3
      {
      subst k3
      go_wp2_with fail
      go_roundw
      case rel => exact ⟨j + 1, by omega, by go_num, by show _ = _; rw [HE.out]; exact gs_set3 (s := ⟨n, v, _, _, _⟩) hBx.out, hnn, ((hbel.setCell (p := ⟨B, 2, none⟩) hBw _).setCell (p := ⟨B, 3, none⟩) hBw _).setCell (p := ⟨B, 4, none⟩) hBw _⟩
      case measure => simp [intOf]; omega
      }
      by_cases k4 : r0 = 4
      {
      subst k4
      go_wp2_with fail
      go_roundw
      case rel => exact ⟨j + 1, by omega, by go_num, by show _ = _; rw [HE.out]; exact gs_set3 (s := ⟨n, v, _, _, _⟩) hBx.out, hnn, ((hbel.setCell (p := ⟨B, 2, none⟩) hBw _).setCell (p := ⟨B, 3, none⟩) hBw _).setCell (p := ⟨B, 4, none⟩) hBw _⟩
      case measure => simp [intOf]; omega
      }
      have e2 : (r0 == 2) = false := by simpa using k2
      have e3 : (r0 == 3) = false := by simpa using k3
      have e4 : (r0 == 4) = false := by simpa using k4
      replace HE : Hid (gR (rs.take (fN + 1 + (j + 1))) = ⟨n, v, false, true, false⟩) := HE.out.trans (by unfold rNext; simp [k2, k3, k4])
      clear k2 k3 k4
      go_wp2_with fail
      go_roundw
      case rel => exact ⟨j + 1, by omega, by go_num, by show _ = _; rw [HE.out]; exact gs_set3 (s := ⟨n, v, _, _, _⟩) hBx.out, hnn, ((hbel.setCell (p := ⟨B, 2, none⟩) hBw _).setCell (p := ⟨B, 3, none⟩) hBw _).setCell (p := ⟨B, 4, none⟩) hBw _⟩
      case measure => simp [intOf]; omega
      }
      {
      by_cases k2 : r0 = 2
      {
      subst k2
      go_wp2_with fail
      go_roundw
      case rel => exact ⟨j + 1, by omega, by go_num, by show _ = _; rw [HE.out]; exact gs_set3 (s := ⟨n, v, _, _, _⟩) hBx.out, hnn, ((hbel.setCell (p := ⟨B, 2, none⟩) hBw _).setCell (p := ⟨B, 3, none⟩) hBw _).setCell (p := ⟨B, 4, none⟩) hBw _⟩
      case measure => simp [intOf]; omega
      }
      by_cases k3 : r0 = 3
      {
      subst k3
      go_wp2_with fail
      go_roundw
      case rel => exact ⟨j + 1, by omega, by go_num, by show _ = _; rw [HE.out]; exact gs_set3 (s := ⟨n, v, _, _, _⟩) hBx.out, hnn, ((hbel.setCell (p := ⟨B, 2, none⟩) hBw _).setCell (p := ⟨B, 3, none⟩) hBw _).setCell (p := ⟨B, 4, none⟩) hBw _⟩
      case measure => simp [intOf]; omega
      }
      by_cases k4 : r0 = 4
      {
      subst k4
      go_wp2_with fail
      go_roundw
      case rel => exact ⟨j + 1, by omega, by go_num, by show _ = _; rw [HE.out]; exact gs_set3 (s := ⟨n, v, _, _, _⟩) hBx.out, hnn, ((hbel.setCell (p := ⟨B, 2, none⟩) hBw _).setCell (p := ⟨B, 3, none⟩) hBw _).setCell (p := ⟨B, 4, none⟩) hBw _⟩
      case measure => simp [intOf]; omega
      }
      have e2 : (r0 == 2) = false := by simpa using k2
      have e3 : (r0 == 3) = false := by simpa using k3
      have e4 : (r0 == 4) = false := by simpa using k4
      replace HE : Hid (gR (rs.take (fN + 1 + (j + 1))) = ⟨n, v, false, true, true⟩) := HE.out.trans (by unfold rNext; simp [k2, k3, k4])
      clear k2 k3 k4
      go_wp2_with fail
      go_roundw
      case rel => exact ⟨j + 1, by omega, by go_num, by show _ = _; rw [HE.out]; exact gs_set3 (s := ⟨n, v, _, _, _⟩) hBx.out, hnn, ((hbel.setCell (p := ⟨B, 2, none⟩) hBw _).setCell (p := ⟨B, 3, none⟩) hBw _).setCell (p := ⟨B, 4, none⟩) hBw _⟩
      case measure => simp [intOf]; omega
      }
      }
      obtain rfl : j = q := by omega
      rw [show fN + 1 + j = k from by rw [← HQ.out]; omega, show rs.take k = rs from by rw [← LR.out]; exact List.take_length] at hBx
      rw [← HS.out] at hBx
      obtain ⟨st, hst⟩ : ∃ st, st = gOf g.ws := ⟨_, rfl⟩
      rw [← hst] at hBx
      have HST := hide hst
      clear hst
      unfold gsO at hBx
      replace b1w := hide (blk_below b1w.out hbel)
      replace hww := hww.trans (hbel.mono hww.size)
      obtain ⟨s0, s1, s2, s3, s4⟩ := cl5 hBx.out
      obtain ⟨y0, y1, y2, y3, y4⟩ := cl5 b1w.out
      have f0 := blk_free b1w.out 0
      have f1 := blk_free b1w.out 1
      have f2 := blk_free b1w.out 2
      have f3 := blk_free b1w.out 3
      have f4 := blk_free b1w.out 4
      go_wp2_with fail
      refine bodyPost_ret (v := gsv st) (by simp [results, Tryz.results43, go_sem, gsv, y0, y1, y2, y3, y4]) rfl ?_
      exact ⟨congrArg (fun x => Ending.returned (gsv x)) HST.out, turns_below hww (turns_set (turns_set (turns_set (turns_set (turns_set (World.grownBy.refl wq (some (w.heap.size + 1))) 0 (.int .i64 st.n)) 1 (.int .i64 st.v)) 2 (.bool st.co)) 3 (.bool st.ab)) 4 (.bool st.en)) (by omega) hww.size⟩

end Go.Proofs.YtgngpmgjoifepaaGreatDoor
