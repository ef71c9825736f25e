/- The contract of gate.New. -/
import Derived.Test.YtgngpmgjoifepaaGreatDoorPt16
import Derived.Test.YtgngpmgjoifepaaGreatDoorPt2
import Derived.Test.YtgngpmgjoifepaaGreatDoorPt5
import Derived.Deep.DeepCutAuto
namespace Go.Proofs.YtgngpmgjoifepaaGreatDoor
open Go.RowKit
attribute [local go_sem ↓] Go.wp_at_zero Go.wp_at_succ

def gw0 : List Int := 1 :: List.replicate 63 65535
def gNw (r : Rt) (units : Int) : Gt := ⟨gw0, -1, true, ⟨r, 0⟩, List.replicate units.toNat false, List.replicate units.toNat false⟩
def gNew (r : Rt) (units : Int) : Gt × Int := if inB units 1 4 = false then (gt0, 3) else if gtE (gNw r units) ≠ 0 then (gt0, gtE (gNw r units)) else (gNw r units, 0)
theorem fmt0 : fmtS (List.replicate 64 65535) (-1) = (gw0, -1, 0) := by decide +kernel
theorem gNew_3 {r : Rt} {units : Int} (h : inB units 1 4 = false) : gNew r units = (gt0, 3) := by unfold gNew; rw [if_pos h]
theorem gNew_e {r : Rt} {units : Int} (h : inB units 1 4 = true) (h2 : gtE (gNw r units) ≠ 0) : gNew r units = (gt0, gtE (gNw r units)) := by unfold gNew; rw [if_neg (by rw [h]; decide), if_pos h2]
theorem gNew_0 {r : Rt} {units : Int} (h : inB units 1 4 = true) (h2 : gtE (gNw r units) = 0) : gNew r units = (gNw r units, 0) := by unfold gNew; rw [if_neg (by rw [h]; decide), if_neg (by simpa using h2)]

theorem made_bools (n : Nat) : madeCells (Value.bool false).cells n = (bvals (List.replicate n false)).toArray := by
  apply Array.toList_inj.1
  show (madeCells #[Value.bool false] n).toList = _
  rw [toList_madeCells_one]
  simp [bvals]
set_option maxRecDepth 100000 in
theorem make_bools (n : Nat) (w : World) (h : n ≤ 4) :
    (Instr.makeSlice 66 (.int .i64 n) (.int .i64 n)).run Tryz.prog w = .ok (.slice (some ⟨w.heap.size, 0, none⟩) n n) (w.alloc (.cells (bvals (List.replicate n false)).toArray 4)) := by
  obtain ⟨i0, hi, hz0, hz1, hz2⟩ := info_parts info_bool
  have := run_make (P := Tryz.prog) w 66 4 i0 (.bool false) Tryz.underlying66 hi hz0 .i64 .i64 n n (by omega) (by omega) (by rw [hz2]; omega) (by omega)
  rw [hz1, Int.toNat_natCast, Nat.mul_one, made_bools] at this
  exact this

theorem newHld {W W' : World} {B F : Nat} {x0 x1 x2 y0 y1 : Value} {t t2 : TypeId} (hF : W.heap[F]? = some (.cells #[y0, y1] t (0, 0))) (hB : W.heap[B]? = some (.cells #[x0, x1, x2] t2 (0, 0))) (h : Below W.heap.size W W') :
    W'.cell? ⟨F, 0, none⟩ = some y0 ∧ W'.cell? ⟨F, 1, none⟩ = some y1 ∧ W'.cell? ⟨B, 0, none⟩ = some x0 ∧ W'.cell? ⟨B, 1, none⟩ = some x1 ∧ W'.cell? ⟨B, 2, none⟩ = some x2 ∧ Below W.heap.size W W' :=
  ⟨blk_cell (blk_below hF h) 0 _ rfl, blk_cell (blk_below hF h) 1 _ rfl, blk_cell (blk_below hB h) 0 _ rfl, blk_cell (blk_below hB h) 1 _ rfl, blk_cell (blk_below hB h) 2 _ rfl, h⟩
theorem ownB_made {W : World} {b : Nat} {bs : List Bool} (h : W.heap[b]? = some (.cells (bvals bs).toArray 4 (0, 0))) : OwnB W b bs := ⟨_, h, by rw [← bvals_length bs]; simp, by simp [bvals]⟩
def NewR (W : World) (g : Gt) (k : GA) (v8 : Value) (wc : World) : Prop :=
  ∃ G av ad n, v8 = .pointer (some ⟨G, 0, none⟩) ∧ n = g.vo.length ∧ g.di = g.vo ∧ wc.heap[G]? = some (gtO g ⟨k.a, k.n, k.c, k.ak, k.nk, k.ck, some ⟨av, 0, none⟩, n, n, some ⟨ad, 0, none⟩, n, n⟩) ∧ OwnB wc av g.vo ∧ OwnB wc ad g.vo ∧ Below W.heap.size W wc

set_option maxRecDepth 100000 in
set_option maxHeartbeats 6400000 in
theorem gateNew_any (r : Rt) (a : Option Addr) (n c : Nat) (units : Int) (w : World) (h : BI w a n r.ks) :
    Calls Tryz.prog 34 #[.agg #[.int .i64 r.v, .slice a n c, .int .i64 r.t], .int .i64 units] w (GAns w (gNew r units)) := by
  have hw : Below w.heap.size w ((w.alloc (.cells #[.int .i64 r.v, .slice a n c, .int .i64 r.t] 63)).alloc (.cells #[.slice none 0 0, .int .i64 0, .bool false, .int .i64 0, .slice none 0 0, .int .i64 0, .int .i64 0, .slice none 0 0, .slice none 0 0] 68)) := ((Below.refl _ _).alloc (Nat.le_refl _) _).alloc (by simp) _
  have b0 : Hid (((w.alloc (.cells #[.int .i64 r.v, .slice a n c, .int .i64 r.t] 63)).alloc (.cells #[.slice none 0 0, .int .i64 0, .bool false, .int .i64 0, .slice none 0 0, .int .i64 0, .int .i64 0, .slice none 0 0, .slice none 0 0] 68)).heap[w.heap.size]? = some (.cells #[.int .i64 r.v, .slice a n c, .int .i64 r.t] 63 (0, 0))) := blk_alloc (heap_alloc_last _ _) _
  have b1 : Hid (((w.alloc (.cells #[.int .i64 r.v, .slice a n c, .int .i64 r.t] 63)).alloc (.cells #[.slice none 0 0, .int .i64 0, .bool false, .int .i64 0, .slice none 0 0, .int .i64 0, .int .i64 0, .slice none 0 0, .slice none 0 0] 68)).heap[w.heap.size + 1]? = some (.cells #[.slice none 0 0, .int .i64 0, .bool false, .int .i64 0, .slice none 0 0, .int .i64 0, .int .i64 0, .slice none 0 0, .slice none 0 0] 68 (0, 0))) := uLast1 _ _ _
  have HP := hide h
  have hx : w.heap.size ≤ w.heap.size + 1 := by omega
  clear h
  go_enter Tryz.func34, Tryz.ntmps34
  go_wp2_with fail
  generalize ((w.alloc (.cells #[.int .i64 r.v, .slice a n c, .int .i64 r.t] 63)).alloc (.cells #[.slice none 0 0, .int .i64 0, .bool false, .int .i64 0, .slice none 0 0, .int .i64 0, .int .i64 0, .slice none 0 0, .slice none 0 0] 68)) = W at *
  refine (gWithin_any _ _ _ _).mono ?_
  rintro e w1 ⟨rfl, hb⟩
  subst hb
  cases z1 : inB units 1 4
  {
  have HE := hide (gNew_3 (r := r) z1)
  obtain ⟨y0, y1, y2, y3, y4, y5, y6, y7, y8⟩ := cl9 b1.out
  obtain ⟨f0, f1, f2, f3, f4, f5, f6, f7, f8⟩ := fr9 b1.out
  go_wp2_with fail
  refine bodyPost_ret (v := .tuple #[gtv gt0 ga0, .int .i64 3]) (by simp [results, Tryz.results34, go_sem, gtv, gt0, ga0, y0, y1, y2, y3, y4, y5, y6, y7, y8]) rfl ?_
  rw [HE.out]
  exact ⟨⟨ga0, rfl, gin0 _, gfr0 _⟩, turns_below hw (turns_set (turns_set (turns_set (turns_set (turns_set (turns_set (turns_set (turns_set (turns_set (World.grownBy.refl w1 (some (w.heap.size + 1))) 0 (.slice none 0 0)) 1 (.int .i64 0)) 2 (.bool false)) 3 (.int .i64 0)) 4 (.slice none 0 0)) 5 (.int .i64 0)) 6 (.int .i64 0)) 7 (.slice none 0 0)) 8 (.slice none 0 0)) hx hw.size⟩
  }
  have hq := hide (new_any 2 w1)
  rw [show newS 2 = (List.replicate 64 65535, -1, 0) from rfl] at hq
  go_wp2_with fail
  refine (unhide hq).mono ?_
  rintro e w2 ⟨⟨a2, n2, c2, rfl, hi2, hn2, hc2, hf2⟩, hb2⟩
  obtain rfl : n2 = 64 := by rw [← hn2]; simp
  have hFl := blk_lt (blk_below b1.out hb2)
  replace b0 := hide (blk_below b0.out (below_new hb2 (.cells #[.slice a2 64 c2, .int .i64 (-1)] 27)))
  replace b1 := hide (blk_below b1.out (below_new hb2 (.cells #[.slice a2 64 c2, .int .i64 (-1)] 27)))
  replace hw := hw.trans ((below_new hb2 (.cells #[.slice a2 64 c2, .int .i64 (-1)] 27)).mono hw.size)
  have bF := hide (heap_alloc_last w2 (.cells #[.slice a2 64 c2, .int .i64 (-1)] 27))
  have hf := hide (format_any a2 64 c2 (List.replicate 64 65535) (-1) (w2.alloc (.cells #[.slice a2 64 c2, .int .i64 (-1)] 27)) (hi2.alloc _) (by simp) (by decide))
  rw [fmt0] at hf
  clear hb2 hi2 hf2 hn2 hq
  go_upto_region 6 with fail
  generalize w2.alloc (.cells #[.slice a2 64 c2, .int .i64 (-1)] 27) = W2 at *
  generalize w2.heap.size = F at *
  have hFW := blk_lt bF.out
  have q0 := blk_cell bF.out 0 _ rfl
  have q1 := blk_cell bF.out 1 _ rfl
  go_wp2_with fail
  refine (unhide hf).mono ?_
  rintro e w3 ⟨⟨a3, n3, c3, rfl, hi3, hn3, hc3, hf3⟩, hb3⟩
  obtain rfl : n3 = 64 := by rw [← hn3]; rfl
  replace b0 := hide (blk_below b0.out hb3)
  replace b1 := hide (blk_below b1.out hb3)
  replace bF := hide (blk_below bF.out hb3)
  replace hw := hw.trans (hb3.mono hw.size)
  clear q0 q1 hf hb3
  have q0 := blk_cell bF.out 0 _ rfl
  have q1 := blk_cell bF.out 1 _ rfl
  have f0 := blk_free bF.out 0
  have f1 := blk_free bF.out 1
  go_upto_region 9 with fail
  have hT : w3.grownBy ((w3.setCell ⟨F, 0, none⟩ (.slice a3 64 c3)).setCell ⟨F, 1, none⟩ (.int .i64 (-1))) (some F) := turns_set (turns_set (World.grownBy.refl _ _) _ _) _ _
  have bG := hide (fl_set2 (x' := .slice a3 64 c3) (y' := .int .i64 (-1)) bF.out)
  replace b0 := hide (blk_turns b0.out hT (by omega))
  replace b1 := hide (blk_turns b1.out hT (by omega))
  have HI3 := hide (ints_turns hi3 hT (off_fresh hf3 hFW))
  replace hw := turns_below hw hT (by omega) hw.size
  clear q0 q1 f0 f1 hi3 hf3 bF hT
  generalize ((w3.setCell ⟨F, 0, none⟩ (.slice a3 64 c3)).setCell ⟨F, 1, none⟩ (.int .i64 (-1))) = W3 at *
  have HK := hide (HP.out.below hw)
  obtain ⟨un, hun, hu1⟩ : ∃ v : Nat, units = (v : Int) ∧ v ≤ 4 := ⟨units.toNat, by unfold inB at z1; simp at z1; omega, by unfold inB at z1; simp at z1; omega⟩
  subst hun
  have Z1 := hide z1
  clear z1
  go_cut [8] (fun v8 wx => NewR W3 (gNw r un) ⟨a3, 64, c3, a, n, c, none, 0, 0, none, 0, 0⟩ v8 wx)
  case first =>
    have q0 := blk_cell bG.out 0 _ rfl
    have q1 := blk_cell bG.out 1 _ rfl
    have r0 := blk_cell b0.out 0 _ rfl
    have r1 := blk_cell b0.out 1 _ rfl
    have r2 := blk_cell b0.out 2 _ rfl
    have hmk := fun W => make_bools un W hu1
    clear q0 q1 r0 r1 r2
    refine wp_region_held_drew (S := fun W' => W'.cell? ⟨F, 0, none⟩ = some (.slice a3 64 c3) ∧ W'.cell? ⟨F, 1, none⟩ = some (.int .i64 (-1)) ∧ W'.cell? ⟨w.heap.size, 0, none⟩ = some (.int .i64 r.v) ∧ W'.cell? ⟨w.heap.size, 1, none⟩ = some (.slice a n c) ∧ W'.cell? ⟨w.heap.size, 2, none⟩ = some (.int .i64 r.t) ∧ Below W3.heap.size W3 W') (by kernel_rfl) (newHld bG.out b0.out (Below.refl _ _).drew) ?_
    intro hHeld
    refine Htake (i := 0) (v := ?_) (by rfl) (by kernel_rfl) (by exact fun _ _ _ h => h) (Or.inl ⟨by rfl, ?_⟩) (by assumption) ?_
    rotate_left
    {
    intro w hSw
    try dsimp only at hSw
    go_simp
    try with_reducible rfl
    }
    try simp only [sq]
    refine Htake (i := 1) (v := ?_) (by rfl) (by kernel_rfl) (by exact fun _ _ _ h => h) (Or.inl ⟨by rfl, ?_⟩) (by assumption) ?_
    rotate_left
    {
    intro w hSw
    try dsimp only at hSw
    go_simp
    try with_reducible rfl
    }
    try simp only [sq]
    refine Htake (i := 2) (v := ?_) (by rfl) (by kernel_rfl) (by exact fun _ _ _ h => h) (Or.inl ⟨by rfl, ?_⟩) (by assumption) ?_
    rotate_left
    {
    intro w hSw
    try dsimp only at hSw
    go_simp
    try with_reducible rfl
    }
    try simp only [sq]
    refine Htake (i := 3) (v := ?_) (by rfl) (by kernel_rfl) (by exact fun _ _ _ h => h) (Or.inl ⟨by rfl, ?_⟩) (by assumption) ?_
    rotate_left
    {
    intro w hSw
    try dsimp only at hSw
    go_simp
    try with_reducible rfl
    }
    try simp only [sq]
    refine Htake (i := 5) (v := ?_) (by rfl) (by kernel_rfl) (by exact fun _ _ _ h => h) (Or.inl ⟨by rfl, ?_⟩) (by assumption) ?_
    rotate_left
    {
    intro w hSw
    try dsimp only at hSw
    go_simp
    try with_reducible rfl
    }
    try simp only [sq]
    refine wpAnyH_ready (rs := [4, 6, 8]) (by kernel_rfl) (by simp) ?_
    refine (AllReadyH.cons (by rfl) (fun K hK => ?_) (AllReadyH.cons (by rfl) (fun K hK => ?_) (AllReadyH.cons (by rfl) (fun K hK => ?_) AllReadyH.nil)))
    {
    go_simp
    refine hK.out _ _ (newHld bG.out b0.out (below_new ((Below.refl W3.heap.size W3).drew) (.cells (bvals (List.replicate un false)).toArray 4))) (fun hHeld => ?_)
    clear hK K
    try simp only [sq]
    refine wpAnyH_ready (rs := [6, 8]) (by kernel_rfl) (by simp) ?_
    refine (AllReadyH.cons (by rfl) (fun K hK => ?_) (AllReadyH.cons (by rfl) (fun K hK => ?_) AllReadyH.nil))
    {
    go_simp
    refine hK.out _ _ (newHld bG.out b0.out (below_new (below_new ((Below.refl W3.heap.size W3).drew) (.cells (bvals (List.replicate un false)).toArray 4)) (.cells (bvals (List.replicate un false)).toArray 4))) (fun hHeld => ?_)
    clear hK K
    try simp only [sq]
    refine Htake (i := 7) (v := ?_) (by rfl) (by kernel_rfl) (by exact fun _ _ _ h => h) (Or.inl ⟨by rfl, ?_⟩) (by assumption) ?_
    rotate_left
    {
    intro w hSw
    try dsimp only at hSw
    go_simp
    try with_reducible rfl
    }
    try simp only [sq]
    refine wpAnyH_ready (rs := [8]) (by kernel_rfl) (by simp) ?_
    refine (AllReadyH.cons (by rfl) (fun K hK => ?_) AllReadyH.nil)
    {
    go_simp
    refine hK.out _ _ (newHld bG.out b0.out (below_new (below_new (below_new ((Below.refl W3.heap.size W3).drew) (.cells (bvals (List.replicate un false)).toArray 4)) (.cells (bvals (List.replicate un false)).toArray 4)) (.cells #[.slice none 0 0, .int .i64 0, .bool false, .int .i64 0, .slice none 0 0, .int .i64 0, .int .i64 0, .slice none 0 0, .slice none 0 0] 68))) (fun hHeld => ?_)
    clear hK K
    try simp only [sq]
    refine wpAnyH_ready (rs := [9]) (by kernel_rfl) (by simp) ?_
    refine AllReadyH.cons (by rfl) (fun K hK => ?_) AllReadyH.nil
    go_simp
    refine hK.out _ _ (newHld bG.out b0.out ((below_new (below_new (below_new ((Below.refl W3.heap.size W3)) (.cells (bvals (List.replicate un false)).toArray 4)) (.cells (bvals (List.replicate un false)).toArray 4)) (.cells #[.slice a3 64 c3, .int .i64 (-1), .bool true, .int .i64 r.v, .slice a n c, .int .i64 r.t, .int .i64 0, .slice (some ⟨W3.heap.size, 0, none⟩) un un, .slice (some ⟨W3.heap.size + 1, 0, none⟩) un un] 68)).drew)) (fun hHeld => ?_)
    clear hK K
    try simp only [sq]
    refine wpAnyH_done (by kernel_rfl) ?_ _
    go_wp2_with fail
    go_meet
    case rel => exact ⟨W3.heap.size + 1 + 1, W3.heap.size, W3.heap.size + 1, un, rfl, by simp [gNw], rfl, bk3.2.2, ownB_made bk3.1, ownB_made bk3.2.1, (below_new (below_new (below_new ((Below.refl W3.heap.size W3)) (.cells (bvals (List.replicate un false)).toArray 4)) (.cells (bvals (List.replicate un false)).toArray 4)) (.cells #[.slice a3 64 c3, .int .i64 (-1), .bool true, .int .i64 r.v, .slice a n c, .int .i64 r.t, .int .i64 0, .slice (some ⟨W3.heap.size, 0, none⟩) un un, .slice (some ⟨W3.heap.size + 1, 0, none⟩) un un] 68)).drew⟩
    }
    }
    {
    go_simp
    refine hK.out _ _ (newHld bG.out b0.out (below_new (below_new ((Below.refl W3.heap.size W3).drew) (.cells (bvals (List.replicate un false)).toArray 4)) (.cells #[.slice none 0 0, .int .i64 0, .bool false, .int .i64 0, .slice none 0 0, .int .i64 0, .int .i64 0, .slice none 0 0, .slice none 0 0] 68))) (fun hHeld => ?_)
    clear hK K
    try simp only [sq]
    refine wpAnyH_ready (rs := [6]) (by kernel_rfl) (by simp) ?_
    refine (AllReadyH.cons (by rfl) (fun K hK => ?_) AllReadyH.nil)
    {
    go_simp
    refine hK.out _ _ (newHld bG.out b0.out (below_new (below_new (below_new ((Below.refl W3.heap.size W3).drew) (.cells (bvals (List.replicate un false)).toArray 4)) (.cells #[.slice none 0 0, .int .i64 0, .bool false, .int .i64 0, .slice none 0 0, .int .i64 0, .int .i64 0, .slice none 0 0, .slice none 0 0] 68)) (.cells (bvals (List.replicate un false)).toArray 4))) (fun hHeld => ?_)
    clear hK K
    try simp only [sq]
    refine Htake (i := 7) (v := ?_) (by rfl) (by kernel_rfl) (by exact fun _ _ _ h => h) (Or.inl ⟨by rfl, ?_⟩) (by assumption) ?_
    rotate_left
    {
    intro w hSw
    try dsimp only at hSw
    go_simp
    try with_reducible rfl
    }
    try simp only [sq]
    refine wpAnyH_ready (rs := [9]) (by kernel_rfl) (by simp) ?_
    refine AllReadyH.cons (by rfl) (fun K hK => ?_) AllReadyH.nil
    go_simp
    refine hK.out _ _ (newHld bG.out b0.out ((below_new (below_new (below_new ((Below.refl W3.heap.size W3)) (.cells (bvals (List.replicate un false)).toArray 4)) (.cells #[.slice a3 64 c3, .int .i64 (-1), .bool true, .int .i64 r.v, .slice a n c, .int .i64 r.t, .int .i64 0, .slice (some ⟨W3.heap.size, 0, none⟩) un un, .slice (some ⟨W3.heap.size + 1 + 1, 0, none⟩) un un] 68)) (.cells (bvals (List.replicate un false)).toArray 4)).drew)) (fun hHeld => ?_)
    clear hK K
    try simp only [sq]
    refine wpAnyH_done (by kernel_rfl) ?_ _
    go_wp2_with fail
    go_meet
    case rel => exact ⟨W3.heap.size + 1, W3.heap.size, W3.heap.size + 1 + 1, un, rfl, by simp [gNw], rfl, bk3.2.1, ownB_made bk3.1, ownB_made bk3.2.2, (below_new (below_new (below_new ((Below.refl W3.heap.size W3)) (.cells (bvals (List.replicate un false)).toArray 4)) (.cells #[.slice a3 64 c3, .int .i64 (-1), .bool true, .int .i64 r.v, .slice a n c, .int .i64 r.t, .int .i64 0, .slice (some ⟨W3.heap.size, 0, none⟩) un un, .slice (some ⟨W3.heap.size + 1 + 1, 0, none⟩) un un] 68)) (.cells (bvals (List.replicate un false)).toArray 4)).drew⟩
    }
    }
    }
    {
    go_simp
    refine hK.out _ _ (newHld bG.out b0.out (below_new ((Below.refl W3.heap.size W3).drew) (.cells (bvals (List.replicate un false)).toArray 4))) (fun hHeld => ?_)
    clear hK K
    try simp only [sq]
    refine wpAnyH_ready (rs := [4, 8]) (by kernel_rfl) (by simp) ?_
    refine (AllReadyH.cons (by rfl) (fun K hK => ?_) (AllReadyH.cons (by rfl) (fun K hK => ?_) AllReadyH.nil))
    {
    go_simp
    refine hK.out _ _ (newHld bG.out b0.out (below_new (below_new ((Below.refl W3.heap.size W3).drew) (.cells (bvals (List.replicate un false)).toArray 4)) (.cells (bvals (List.replicate un false)).toArray 4))) (fun hHeld => ?_)
    clear hK K
    try simp only [sq]
    refine Htake (i := 7) (v := ?_) (by rfl) (by kernel_rfl) (by exact fun _ _ _ h => h) (Or.inl ⟨by rfl, ?_⟩) (by assumption) ?_
    rotate_left
    {
    intro w hSw
    try dsimp only at hSw
    go_simp
    try with_reducible rfl
    }
    try simp only [sq]
    refine wpAnyH_ready (rs := [8]) (by kernel_rfl) (by simp) ?_
    refine (AllReadyH.cons (by rfl) (fun K hK => ?_) AllReadyH.nil)
    {
    go_simp
    refine hK.out _ _ (newHld bG.out b0.out (below_new (below_new (below_new ((Below.refl W3.heap.size W3).drew) (.cells (bvals (List.replicate un false)).toArray 4)) (.cells (bvals (List.replicate un false)).toArray 4)) (.cells #[.slice none 0 0, .int .i64 0, .bool false, .int .i64 0, .slice none 0 0, .int .i64 0, .int .i64 0, .slice none 0 0, .slice none 0 0] 68))) (fun hHeld => ?_)
    clear hK K
    try simp only [sq]
    refine wpAnyH_ready (rs := [9]) (by kernel_rfl) (by simp) ?_
    refine AllReadyH.cons (by rfl) (fun K hK => ?_) AllReadyH.nil
    go_simp
    refine hK.out _ _ (newHld bG.out b0.out ((below_new (below_new (below_new ((Below.refl W3.heap.size W3)) (.cells (bvals (List.replicate un false)).toArray 4)) (.cells (bvals (List.replicate un false)).toArray 4)) (.cells #[.slice a3 64 c3, .int .i64 (-1), .bool true, .int .i64 r.v, .slice a n c, .int .i64 r.t, .int .i64 0, .slice (some ⟨W3.heap.size + 1, 0, none⟩) un un, .slice (some ⟨W3.heap.size, 0, none⟩) un un] 68)).drew)) (fun hHeld => ?_)
    clear hK K
    try simp only [sq]
    refine wpAnyH_done (by kernel_rfl) ?_ _
    go_wp2_with fail
    go_meet
    case rel => exact ⟨W3.heap.size + 1 + 1, W3.heap.size + 1, W3.heap.size, un, rfl, by simp [gNw], rfl, bk3.2.2, ownB_made bk3.2.1, ownB_made bk3.1, (below_new (below_new (below_new ((Below.refl W3.heap.size W3)) (.cells (bvals (List.replicate un false)).toArray 4)) (.cells (bvals (List.replicate un false)).toArray 4)) (.cells #[.slice a3 64 c3, .int .i64 (-1), .bool true, .int .i64 r.v, .slice a n c, .int .i64 r.t, .int .i64 0, .slice (some ⟨W3.heap.size + 1, 0, none⟩) un un, .slice (some ⟨W3.heap.size, 0, none⟩) un un] 68)).drew⟩
    }
    }
    {
    go_simp
    refine hK.out _ _ (newHld bG.out b0.out (below_new (below_new ((Below.refl W3.heap.size W3).drew) (.cells (bvals (List.replicate un false)).toArray 4)) (.cells #[.slice none 0 0, .int .i64 0, .bool false, .int .i64 0, .slice none 0 0, .int .i64 0, .int .i64 0, .slice none 0 0, .slice none 0 0] 68))) (fun hHeld => ?_)
    clear hK K
    try simp only [sq]
    refine wpAnyH_ready (rs := [4]) (by kernel_rfl) (by simp) ?_
    refine (AllReadyH.cons (by rfl) (fun K hK => ?_) AllReadyH.nil)
    {
    go_simp
    refine hK.out _ _ (newHld bG.out b0.out (below_new (below_new (below_new ((Below.refl W3.heap.size W3).drew) (.cells (bvals (List.replicate un false)).toArray 4)) (.cells #[.slice none 0 0, .int .i64 0, .bool false, .int .i64 0, .slice none 0 0, .int .i64 0, .int .i64 0, .slice none 0 0, .slice none 0 0] 68)) (.cells (bvals (List.replicate un false)).toArray 4))) (fun hHeld => ?_)
    clear hK K
    try simp only [sq]
    refine Htake (i := 7) (v := ?_) (by rfl) (by kernel_rfl) (by exact fun _ _ _ h => h) (Or.inl ⟨by rfl, ?_⟩) (by assumption) ?_
    rotate_left
    {
    intro w hSw
    try dsimp only at hSw
    go_simp
    try with_reducible rfl
    }
    try simp only [sq]
    refine wpAnyH_ready (rs := [9]) (by kernel_rfl) (by simp) ?_
    refine AllReadyH.cons (by rfl) (fun K hK => ?_) AllReadyH.nil
    go_simp
    refine hK.out _ _ (newHld bG.out b0.out ((below_new (below_new (below_new ((Below.refl W3.heap.size W3)) (.cells (bvals (List.replicate un false)).toArray 4)) (.cells #[.slice a3 64 c3, .int .i64 (-1), .bool true, .int .i64 r.v, .slice a n c, .int .i64 r.t, .int .i64 0, .slice (some ⟨W3.heap.size + 1 + 1, 0, none⟩) un un, .slice (some ⟨W3.heap.size, 0, none⟩) un un] 68)) (.cells (bvals (List.replicate un false)).toArray 4)).drew)) (fun hHeld => ?_)
    clear hK K
    try simp only [sq]
    refine wpAnyH_done (by kernel_rfl) ?_ _
    go_wp2_with fail
    go_meet
    case rel => exact ⟨W3.heap.size + 1, W3.heap.size + 1 + 1, W3.heap.size, un, rfl, by simp [gNw], rfl, bk3.2.1, ownB_made bk3.2.2, ownB_made bk3.1, (below_new (below_new (below_new ((Below.refl W3.heap.size W3)) (.cells (bvals (List.replicate un false)).toArray 4)) (.cells #[.slice a3 64 c3, .int .i64 (-1), .bool true, .int .i64 r.v, .slice a n c, .int .i64 r.t, .int .i64 0, .slice (some ⟨W3.heap.size + 1 + 1, 0, none⟩) un un, .slice (some ⟨W3.heap.size, 0, none⟩) un un] 68)) (.cells (bvals (List.replicate un false)).toArray 4)).drew⟩
    }
    }
    }
    {
    go_simp
    refine hK.out _ _ (newHld bG.out b0.out (below_new ((Below.refl W3.heap.size W3).drew) (.cells #[.slice none 0 0, .int .i64 0, .bool false, .int .i64 0, .slice none 0 0, .int .i64 0, .int .i64 0, .slice none 0 0, .slice none 0 0] 68))) (fun hHeld => ?_)
    clear hK K
    try simp only [sq]
    refine wpAnyH_ready (rs := [4, 6]) (by kernel_rfl) (by simp) ?_
    refine (AllReadyH.cons (by rfl) (fun K hK => ?_) (AllReadyH.cons (by rfl) (fun K hK => ?_) AllReadyH.nil))
    {
    go_simp
    refine hK.out _ _ (newHld bG.out b0.out (below_new (below_new ((Below.refl W3.heap.size W3).drew) (.cells #[.slice none 0 0, .int .i64 0, .bool false, .int .i64 0, .slice none 0 0, .int .i64 0, .int .i64 0, .slice none 0 0, .slice none 0 0] 68)) (.cells (bvals (List.replicate un false)).toArray 4))) (fun hHeld => ?_)
    clear hK K
    try simp only [sq]
    refine wpAnyH_ready (rs := [6]) (by kernel_rfl) (by simp) ?_
    refine (AllReadyH.cons (by rfl) (fun K hK => ?_) AllReadyH.nil)
    {
    go_simp
    refine hK.out _ _ (newHld bG.out b0.out (below_new (below_new (below_new ((Below.refl W3.heap.size W3).drew) (.cells #[.slice none 0 0, .int .i64 0, .bool false, .int .i64 0, .slice none 0 0, .int .i64 0, .int .i64 0, .slice none 0 0, .slice none 0 0] 68)) (.cells (bvals (List.replicate un false)).toArray 4)) (.cells (bvals (List.replicate un false)).toArray 4))) (fun hHeld => ?_)
    clear hK K
    try simp only [sq]
    refine Htake (i := 7) (v := ?_) (by rfl) (by kernel_rfl) (by exact fun _ _ _ h => h) (Or.inl ⟨by rfl, ?_⟩) (by assumption) ?_
    rotate_left
    {
    intro w hSw
    try dsimp only at hSw
    go_simp
    try with_reducible rfl
    }
    try simp only [sq]
    refine wpAnyH_ready (rs := [9]) (by kernel_rfl) (by simp) ?_
    refine AllReadyH.cons (by rfl) (fun K hK => ?_) AllReadyH.nil
    go_simp
    refine hK.out _ _ (newHld bG.out b0.out ((below_new (below_new (below_new ((Below.refl W3.heap.size W3)) (.cells #[.slice a3 64 c3, .int .i64 (-1), .bool true, .int .i64 r.v, .slice a n c, .int .i64 r.t, .int .i64 0, .slice (some ⟨W3.heap.size + 1, 0, none⟩) un un, .slice (some ⟨W3.heap.size + 1 + 1, 0, none⟩) un un] 68)) (.cells (bvals (List.replicate un false)).toArray 4)) (.cells (bvals (List.replicate un false)).toArray 4)).drew)) (fun hHeld => ?_)
    clear hK K
    try simp only [sq]
    refine wpAnyH_done (by kernel_rfl) ?_ _
    go_wp2_with fail
    go_meet
    case rel => exact ⟨W3.heap.size, W3.heap.size + 1, W3.heap.size + 1 + 1, un, rfl, by simp [gNw], rfl, bk3.1, ownB_made bk3.2.1, ownB_made bk3.2.2, (below_new (below_new (below_new ((Below.refl W3.heap.size W3)) (.cells #[.slice a3 64 c3, .int .i64 (-1), .bool true, .int .i64 r.v, .slice a n c, .int .i64 r.t, .int .i64 0, .slice (some ⟨W3.heap.size + 1, 0, none⟩) un un, .slice (some ⟨W3.heap.size + 1 + 1, 0, none⟩) un un] 68)) (.cells (bvals (List.replicate un false)).toArray 4)) (.cells (bvals (List.replicate un false)).toArray 4)).drew⟩
    }
    }
    {
    go_simp
    refine hK.out _ _ (newHld bG.out b0.out (below_new (below_new ((Below.refl W3.heap.size W3).drew) (.cells #[.slice none 0 0, .int .i64 0, .bool false, .int .i64 0, .slice none 0 0, .int .i64 0, .int .i64 0, .slice none 0 0, .slice none 0 0] 68)) (.cells (bvals (List.replicate un false)).toArray 4))) (fun hHeld => ?_)
    clear hK K
    try simp only [sq]
    refine wpAnyH_ready (rs := [4]) (by kernel_rfl) (by simp) ?_
    refine (AllReadyH.cons (by rfl) (fun K hK => ?_) AllReadyH.nil)
    {
    go_simp
    refine hK.out _ _ (newHld bG.out b0.out (below_new (below_new (below_new ((Below.refl W3.heap.size W3).drew) (.cells #[.slice none 0 0, .int .i64 0, .bool false, .int .i64 0, .slice none 0 0, .int .i64 0, .int .i64 0, .slice none 0 0, .slice none 0 0] 68)) (.cells (bvals (List.replicate un false)).toArray 4)) (.cells (bvals (List.replicate un false)).toArray 4))) (fun hHeld => ?_)
    clear hK K
    try simp only [sq]
    refine Htake (i := 7) (v := ?_) (by rfl) (by kernel_rfl) (by exact fun _ _ _ h => h) (Or.inl ⟨by rfl, ?_⟩) (by assumption) ?_
    rotate_left
    {
    intro w hSw
    try dsimp only at hSw
    go_simp
    try with_reducible rfl
    }
    try simp only [sq]
    refine wpAnyH_ready (rs := [9]) (by kernel_rfl) (by simp) ?_
    refine AllReadyH.cons (by rfl) (fun K hK => ?_) AllReadyH.nil
    go_simp
    refine hK.out _ _ (newHld bG.out b0.out ((below_new (below_new (below_new ((Below.refl W3.heap.size W3)) (.cells #[.slice a3 64 c3, .int .i64 (-1), .bool true, .int .i64 r.v, .slice a n c, .int .i64 r.t, .int .i64 0, .slice (some ⟨W3.heap.size + 1 + 1, 0, none⟩) un un, .slice (some ⟨W3.heap.size + 1, 0, none⟩) un un] 68)) (.cells (bvals (List.replicate un false)).toArray 4)) (.cells (bvals (List.replicate un false)).toArray 4)).drew)) (fun hHeld => ?_)
    clear hK K
    try simp only [sq]
    refine wpAnyH_done (by kernel_rfl) ?_ _
    go_wp2_with fail
    go_meet
    case rel => exact ⟨W3.heap.size, W3.heap.size + 1 + 1, W3.heap.size + 1, un, rfl, by simp [gNw], rfl, bk3.1, ownB_made bk3.2.2, ownB_made bk3.2.1, (below_new (below_new (below_new ((Below.refl W3.heap.size W3)) (.cells #[.slice a3 64 c3, .int .i64 (-1), .bool true, .int .i64 r.v, .slice a n c, .int .i64 r.t, .int .i64 0, .slice (some ⟨W3.heap.size + 1 + 1, 0, none⟩) un un, .slice (some ⟨W3.heap.size + 1, 0, none⟩) un un] 68)) (.cells (bvals (List.replicate un false)).toArray 4)) (.cells (bvals (List.replicate un false)).toArray 4)).drew⟩
    }
    }
    }
  obtain ⟨G, av, ad, nn, rfl, hnn, hdv, bGt, ov, od, hbc⟩ := hcut
  have hlv : (gNw r un).vo.length ≤ 4 := by rw [← hnn]; rw [hnn]; simp [gNw]; exact hu1
  have HIn : Hid (GIn wc ⟨a3, 64, c3, a, n, c, some ⟨av, 0, none⟩, nn, nn, some ⟨ad, 0, none⟩, nn, nn⟩ (gNw r un)) := ⟨⟨HI3.out.below hbc, hn3, hc3, by show 64 ≤ maxLen; decide⟩, HK.out.below hbc, ⟨ov.bools, hnn.symm, Nat.le_refl _, by show nn ≤ maxLen; unfold maxLen; omega⟩, ⟨by rw [hdv]; exact od.bools, by rw [hdv]; exact hnn.symm, Nat.le_refl _, by show nn ≤ maxLen; unfold maxLen; omega⟩⟩
  replace b1 := hide (blk_below b1.out hbc)
  replace hw := hw.trans (hbc.mono hw.size)
  have E1 := hide (fun h2 => gNew_e (r := r) Z1.out h2)
  have E0 := hide (fun h2 => gNew_0 (r := r) Z1.out h2)
  have BG := hide bGt
  clear bGt ov od hbc hlv hdv hnn HI3 HK HP b0 bG Z1
  generalize gNw r un = g at *
  unfold gtO at BG
  generalize hk : (⟨a3, 64, c3, a, n, c, some ⟨av, 0, none⟩, nn, nn, some ⟨ad, 0, none⟩, nn, nn⟩ : GA) = k at *
  clear hk
  have HC := hide (gateCheck_any g k wc HIn.out)
  unfold gtv at HC
  obtain ⟨x0, x1, x2, x3, x4, x5, x6, x7, x8⟩ := cl9 BG.out
  go_wp2_with fail
  refine (unhide HC).mono ?_
  rintro e w5 ⟨rfl, hb⟩
  replace b1 := hide (blk_below b1.out hb)
  replace BG := hide (blk_below BG.out hb)
  replace hw := hw.trans (hb.mono hw.size)
  replace HIn := hide (HIn.out.below hb)
  clear HC hb x0 x1 x2 x3 x4 x5 x6 x7 x8
  by_cases z2 : gtE g = 0
  rotate_left
  {
  have HE := hide (E1.out z2)
  have d1 : (gtE g != 0) = true := by simpa using z2
  clear z2 E1 E0 HIn
  generalize gtE g = q at *
  obtain ⟨y0, y1, y2, y3, y4, y5, y6, y7, y8⟩ := cl9 b1.out
  obtain ⟨f0, f1, f2, f3, f4, f5, f6, f7, f8⟩ := fr9 b1.out
  go_wp2_with fail
  refine bodyPost_ret (v := .tuple #[gtv gt0 ga0, .int .i64 q]) (by simp [results, Tryz.results34, go_sem, gtv, gt0, ga0, y0, y1, y2, y3, y4, y5, y6, y7, y8]) rfl ?_
  rw [HE.out]
  exact ⟨⟨ga0, rfl, gin0 _, gfr0 _⟩, turns_below hw (turns_set (turns_set (turns_set (turns_set (turns_set (turns_set (turns_set (turns_set (turns_set (World.grownBy.refl w5 (some (w.heap.size + 1))) 0 (.slice none 0 0)) 1 (.int .i64 0)) 2 (.bool false)) 3 (.int .i64 0)) 4 (.slice none 0 0)) 5 (.int .i64 0)) 6 (.int .i64 0)) 7 (.slice none 0 0)) 8 (.slice none 0 0)) hx hw.size⟩
  }
  rw [z2]
  have HE := hide (E0.out z2)
  obtain ⟨hlw, hlk, hlv, hld⟩ := HIn.out.sizes z2
  have HT := hide (gateTwin_any g k w5 HIn.out hlw hlk hlv hld)
  unfold gtv at HT
  clear z2 E0 E1 hlw hlk hlv hld HIn
  obtain ⟨x0, x1, x2, x3, x4, x5, x6, x7, x8⟩ := cl9 BG.out
  go_wp2_with fail
  have hF0 := hw.size
  have hlt := blk_lt b1.out
  refine (unhide HT).mono ?_
  rintro e w6 ⟨⟨k2, bv, bd, rfl, ho, hoff⟩, hb6⟩
  replace b1 := hide (blk_below b1.out hb6)
  replace hw := hw.trans (hb6.mono hw.size)
  have HO := hide ho
  clear HT ho hoff hb6 BG x0 x1 x2 x3 x4 x5 x6 x7 x8
  unfold gtv
  obtain ⟨y0, y1, y2, y3, y4, y5, y6, y7, y8⟩ := cl9 b1.out
  obtain ⟨f0, f1, f2, f3, f4, f5, f6, f7, f8⟩ := fr9 b1.out
  go_wp2_with fail
  refine bodyPost_ret (v := .tuple #[gtv g k2, .int .i64 0]) (by simp [results, Tryz.results34, go_sem, gtv, y0, y1, y2, y3, y4, y5, y6, y7, y8]) rfl ?_
  rw [HE.out]
  have hT := turns_set (turns_set (turns_set (turns_set (turns_set (turns_set (turns_set (turns_set (turns_set (World.grownBy.refl w6 (some (w.heap.size + 1))) 0 (.slice k2.a k2.n k2.c)) 1 (.int .i64 g.fu)) 2 (.bool g.up)) 3 (.int .i64 g.t.r.v)) 4 (.slice k2.ak k2.nk k2.ck)) 5 (.int .i64 g.t.r.t)) 6 (.int .i64 g.t.ver)) 7 (.slice k2.av k2.nv k2.cv)) 8 (.slice k2.ad k2.nd k2.cd)
  exact ⟨⟨k2, rfl, (HO.out.low hT hlt).gin, HO.out.fr hF0⟩, turns_below hw hT hx hw.size⟩

end Go.Proofs.YtgngpmgjoifepaaGreatDoor
