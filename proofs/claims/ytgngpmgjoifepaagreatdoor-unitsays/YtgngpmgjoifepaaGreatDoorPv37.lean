/- The contract of unit.New. Plain facts for UnitPieces: an image that comes in pieces, one behind the other, each perhaps twice, is all there; a unit is then ready with it. No program in this text. Plain facts: what New makes, word by word ('nuW'). No program in this text. -/
import Derived.Test.YtgngpmgjoifepaaGreatDoorPv31
import Derived.Test.YtgngpmgjoifepaaGreatDoorPv2
namespace Go.Proofs.YtgngpmgjoifepaaGreatDoor
open Go.RowKit
attribute [local go_sem ↓] Go.wp_at_zero Go.wp_at_succ

theorem turnU_lk (sts : List Stu) : ∀ u : Un, Lk u.ws (turnU sts u).1.ws := by
  induction sts with
  | nil => intro u; exact Lk.refl _
  | cons st r ih =>
    intro u
    by_cases h : (doV u st).2 = true
    { rw [turnU_go h]; exact (doV_lk _ _).trans (ih _) }
    {
    rw [turnU_stop (by simpa using h)]; exact doV_lk _ _

    }
def newSteps (image : List Int) (name : Int) : List Stu := [.fmt, .fil 0 0 image, .sea 0 image.length name, .not us0 [1, 0, 0]]
def newF : Un := ⟨List.replicate 192 65535, -1, true, 0, 0⟩
def newU (image : List Int) (name : Int) : Un × Int :=
  if imgE image ≠ 0 then (un0, imgE image) else if inB name 1 60 = false then (un0, 3) else ((turnU (newSteps image name) newF).1, 0)
theorem newU_e {image : List Int} {name : Int} (h : imgE image ≠ 0) : newU image name = (un0, imgE image) := by unfold newU; rw [if_pos h]
theorem newU_3 {image : List Int} {name : Int} (h : imgE image = 0) (h2 : inB name 1 60 = false) : newU image name = (un0, 3) := by unfold newU; rw [if_neg (by simpa using h), if_pos h2]
theorem newU_0 {image : List Int} {name : Int} (h : imgE image = 0) (h2 : inB name 1 60 = true) : newU image name = ((turnU (newSteps image name) newF).1, 0) := by unfold newU; rw [if_neg (by simpa using h), if_neg (by rw [h2]; decide)]

theorem change4_any (B : Nat) (u : Un) (v1 v2 v3 : Value) (s1 s2 s3 : Stu) (t : TypeId) (w : World) (hU : OwnU w B u) (h1 : IsStu w B v1 s1) (h2 : IsStu w B v2 s2) (h3 : IsStu w B v3 s3) :
    Calls Tryz.prog 56 #[.pointer (some ⟨B, 0, none⟩), .slice (some ⟨w.heap.size, 0, none⟩) 4 4] (w.alloc (.cells #[.func (.func 57) #[] #[], v1, v2, v3] t)) fun e w' => e = .returned (.bool (turnU [.fmt, s1, s2, s3] u).2) ∧ OwnU w' B (turnU [.fmt, s1, s2, s3] u).1 ∧ w.grownBy w' (some B) := by
  have hb := heap_alloc_last w (.cells #[.func (.func 57) #[] #[], v1, v2, v3] t)
  have hbA : Below w.heap.size w (w.alloc (.cells #[.func (.func 57) #[] #[], v1, v2, v3] t)) := (Below.refl _ _).alloc (Nat.le_refl _) _
  refine (unitChange_any B w.heap.size 4 4 [.fmt, s1, s2, s3] u _ (hU.below hbA) (fun i x hx => ?_) (by have := hU.lt; omega) rfl (by decide)).mono ?_
  {
  match i with
  | 0 => simp at hx; subst hx; exact ⟨_, blk_cell hb 0 _ rfl, fun _ _ => rfl⟩
  | 1 => simp at hx; subst hx; exact ⟨v1, blk_cell hb 1 _ rfl, h1.turns (turns_of hbA B)⟩
  | 2 => simp at hx; subst hx; exact ⟨v2, blk_cell hb 2 _ rfl, h2.turns (turns_of hbA B)⟩
  | 3 => simp at hx; subst hx; exact ⟨v3, blk_cell hb 3 _ rfl, h3.turns (turns_of hbA B)⟩
  | i + 4 => simp at hx
  }
  {
  rintro e w' ⟨rfl, hq, hg⟩
  exact ⟨rfl, hq, (turns_of hbA B).trans hg⟩

  }
set_option maxRecDepth 100000 in
set_option maxHeartbeats 12800000 in
theorem unitNew_any (a : Option Addr) (n c : Nat) (image : List Int) (name : Int) (w : World) (h : BI w a n image) :
    Calls Tryz.prog 11 #[.slice a n c, .int .i64 name] w (UnAns w (newU image name)) := by
  have hw0 : Below w.heap.size w (w.alloc (.cells #[.slice none 0 0, .int .i64 0, .bool false, .int .i64 0, .int .i64 0] 29)) := (Below.refl _ _).alloc (Nat.le_refl _) _
  have b0 := hide (heap_alloc_last w (.cells #[.slice none 0 0, .int .i64 0, .bool false, .int .i64 0, .int .i64 0] 29))
  have HC := hide (fun W (hW : Below w.heap.size w W) => checkImage_any a n c image W (h.below hW).at_ h.len h.max)
  have HB := hide h
  have LN := hide h.len
  have E1 := hide (fun h => newU_e (image := image) (name := name) h)
  have E3 := hide (fun h h2 => newU_3 (image := image) (name := name) h h2)
  have E0 := hide (fun h h2 => newU_0 (image := image) (name := name) h h2)
  have hm := h.max
  unfold maxLen at hm
  have hx : w.heap.size ≤ w.heap.size := Nat.le_refl _
  clear h
  go_enter Tryz.func11, Tryz.ntmps11
  go_wp2_with fail
  generalize w.alloc (.cells #[.slice none 0 0, .int .i64 0, .bool false, .int .i64 0, .int .i64 0] 29) = W at *
  refine (unhide HC _ hw0).mono ?_
  rintro e w1 ⟨rfl, rfl⟩
  clear HC
  obtain ⟨y0, y1, y2, y3, y4⟩ := cl5 b0.out
  have f0 := blk_free b0.out 0
  have f1 := blk_free b0.out 1
  have f2 := blk_free b0.out 2
  have f3 := blk_free b0.out 3
  have f4 := blk_free b0.out 4
  by_cases z1 : imgE image = 0
  rotate_left
  {
  have HE := hide (E1.out z1)
  have d1 : (imgE image != 0) = true := by simpa using z1
  clear z1
  generalize imgE image = q at *
  go_wp2_with fail
  refine bodyPost_ret (v := .tuple #[unv un0 none 0 0, .int .i64 q]) (by simp [results, Tryz.results11, go_sem, unv, un0, y0, y1, y2, y3, y4]) rfl ?_
  rw [HE.out]
  exact ⟨⟨none, 0, 0, rfl, ⟨.inl rfl, rfl, Nat.le_refl _, by decide⟩⟩, ((((hw0.setCell hx _).setCell hx _).setCell hx _).setCell hx _).setCell hx _⟩
  }
  replace E3 := hide (E3.out z1)
  replace E0 := hide (E0.out z1)
  rw [z1]
  clear z1 E1
  cases g1 : inB name 1 60
  {
  have HE := hide (E3.out g1)
  go_wp2_with (go_at_call 54; refine (uWithin_any _ _ _ _).mono ?_; rintro e w' ⟨rfl, rfl⟩)
  refine bodyPost_ret (v := .tuple #[unv un0 none 0 0, .int .i64 3]) (by simp [results, Tryz.results11, go_sem, unv, un0, y0, y1, y2, y3, y4]) rfl ?_
  rw [HE.out]
  exact ⟨⟨none, 0, 0, rfl, ⟨.inl rfl, rfl, Nat.le_refl _, by decide⟩⟩, ((((hw0.setCell hx _).setCell hx _).setCell hx _).setCell hx _).setCell hx _⟩
  }
  have HE := hide (E0.out g1)
  clear y0 y1 y2 y3 y4 f0 f1 f2 f3 f4 E3 E0
  have hq := hide (new_any 6 w1)
  rw [show newS 6 = (List.replicate 192 65535, -1, 0) from rfl] at hq
  go_upto_region 6 with (go_at_call 54; refine (uWithin_any _ _ _ _).mono ?_; rintro e w' ⟨rfl, rfl⟩)
  go_wp2_with fail
  refine (unhide hq).mono ?_
  rintro e w2 ⟨⟨a2, n2, c2, rfl, hi2, hn2, hc2, hf2⟩, hb2⟩
  obtain rfl : n2 = 192 := by rw [← hn2]; simp
  replace b0 := hide (blk_below b0.out hb2)
  replace hw0 := hw0.trans (hb2.mono hw0.size)
  have hX : w.heap.size < w2.heap.size := blk_lt b0.out
  have HI2 := hide hi2
  clear hb2 hi2 hf2 hn2 hq g1
  go_upto_region 11 with fail
  have S0 : Hid ((((w2.alloc (.cells #[.slice a2 192 c2, .int .i64 (-1)] 27)).alloc (.cells #[.slice a2 192 c2, .int .i64 (-1), .bool true, .int .i64 0, .int .i64 0] 29)).alloc (.cells #[.int .i64 0, .int .i64 0, .int .i64 0] 40)).heap[w2.heap.size + 1]? = some (.cells #[.slice a2 192 c2, .int .i64 (-1), .bool true, .int .i64 0, .int .i64 0] 29 (0, 0))) := bk3.2.1
  have S1 : Hid ((((w2.alloc (.cells #[.slice a2 192 c2, .int .i64 (-1)] 27)).alloc (.cells #[.slice a2 192 c2, .int .i64 (-1), .bool true, .int .i64 0, .int .i64 0] 29)).alloc (.cells #[.int .i64 0, .int .i64 0, .int .i64 0] 40)).heap[w2.heap.size + 1 + 1]? = some (.cells #[.int .i64 0, .int .i64 0, .int .i64 0] 40 (0, 0))) := bk3.2.2
  have hb3 : Below w2.heap.size w2 (((w2.alloc (.cells #[.slice a2 192 c2, .int .i64 (-1)] 27)).alloc (.cells #[.slice a2 192 c2, .int .i64 (-1), .bool true, .int .i64 0, .int .i64 0] 29)).alloc (.cells #[.int .i64 0, .int .i64 0, .int .i64 0] 40)) := (((Below.refl _ _).alloc (Nat.le_refl _) _).alloc (by simp) _).alloc (by simp; omega) _
  have ho2 : Off (w2.heap.size + 1) a2 := by
    rcases ints_off HI2.out (w2.heap.size + 1) (by omega) with e | h
    { simp at e }
    { exact h }
  have HOw : Hid (OwnU (((w2.alloc (.cells #[.slice a2 192 c2, .int .i64 (-1)] 27)).alloc (.cells #[.slice a2 192 c2, .int .i64 (-1), .bool true, .int .i64 0, .int .i64 0] 29)).alloc (.cells #[.int .i64 0, .int .i64 0, .int .i64 0] 40)) (w2.heap.size + 1) newF) := ⟨a2, 192, c2, S0.out, HI2.out.below hb3, rfl, hc2, by decide, ho2⟩
  replace b0 := hide (blk_below b0.out hb3)
  have HOI := hide (ints_off HB.out.at_ (w2.heap.size + 1) (by have := hw0.size; omega))
  have hBw : w.heap.size < w2.heap.size + 1 := by omega
  have hBW : w2.heap.size + 1 < (((w2.alloc (.cells #[.slice a2 192 c2, .int .i64 (-1)] 27)).alloc (.cells #[.slice a2 192 c2, .int .i64 (-1), .bool true, .int .i64 0, .int .i64 0] 29)).alloc (.cells #[.int .i64 0, .int .i64 0, .int .i64 0] 40)).heap.size := by simp
  replace hw0 := hw0.trans (hb3.mono hw0.size)
  clear hb3 HI2 ho2 S0 hX
  generalize ((w2.alloc (.cells #[.slice a2 192 c2, .int .i64 (-1)] 27)).alloc (.cells #[.slice a2 192 c2, .int .i64 (-1), .bool true, .int .i64 0, .int .i64 0] 29)).alloc (.cells #[.int .i64 0, .int .i64 0, .int .i64 0] 40) = W3 at *
  generalize w2.heap.size + 1 = B at *
  have HSf := hide (fun W' (hW : Below W3.heap.size W3 W') => (show W'.cell? ⟨B + 1, 0, none⟩ = some (.int .i64 0) ∧ W'.cell? ⟨B + 1, 1, none⟩ = some (.int .i64 0) ∧ W'.cell? ⟨B + 1, 2, none⟩ = some (.int .i64 0) from ⟨blk_cell (blk_below S1.out hW) 0 _ rfl, blk_cell (blk_below S1.out hW) 1 _ rfl, blk_cell (blk_below S1.out hW) 2 _ rfl⟩))
  have HSt := hide (fun W' (hW : W3.grownBy W' (some B)) => (show W'.cell? ⟨B + 1, 0, none⟩ = some (.int .i64 0) ∧ W'.cell? ⟨B + 1, 1, none⟩ = some (.int .i64 0) ∧ W'.cell? ⟨B + 1, 2, none⟩ = some (.int .i64 0) from ⟨blk_cell (blk_turns S1.out hW (by omega)) 0 _ rfl, blk_cell (blk_turns S1.out hW (by omega)) 1 _ rfl, blk_cell (blk_turns S1.out hW (by omega)) 2 _ rfl⟩))
  have HF := hide (fun W' (hW : Below W3.heap.size W3 W') => filling_any 0 0 a n c image B W' (by have := hW.size; omega) (HB.out.below (hw0.trans (hW.mono hw0.size))) HOI.out)
  have HSe := hide (fun W' (hW : Below W3.heap.size W3 W') => sealing_any 0 n name B W' (by have := hW.size; omega))
  have HN := hide (fun W' (hW : Below W3.heap.size W3 W') y (hy : BI W' (some ⟨y, 0, none⟩) 3 [1, 0, 0]) (hne : y ≠ B) => noting_any us0 (some ⟨y, 0, none⟩) 3 3 [1, 0, 0] B W' (by have := hW.size; omega) hy (fun ad e => by cases e; exact hne))
  unfold usv us0 at HN
  have HQ : Hid (∀ p, turnU [.fmt, .fil 0 0 image, .sea 0 n name, .not us0 [1, 0, 0]] newF = p → p = turnU (newSteps image name) newF) := fun p hp => by rw [← hp]; unfold newSteps; rw [LN.out]
  unfold us0 at HQ
  go_cut [9] (fun v9 wc => v9 = .pointer (some ⟨B, 0, none⟩) ∧ OwnU wc B (turnU [.fmt, .fil 0 0 image, .sea 0 n name, .not ⟨0, 0, 0⟩ [1, 0, 0]] newF).1 ∧ W3.grownBy wc (some B))
  case first =>
    refine wp_region_held_drew (S := fun W' => W'.cell? ⟨B + 1, 0, none⟩ = some (.int .i64 0) ∧ W'.cell? ⟨B + 1, 1, none⟩ = some (.int .i64 0) ∧ W'.cell? ⟨B + 1, 2, none⟩ = some (.int .i64 0)) (by kernel_rfl) (HSf.out _ (Below.refl _ _).drew) ?_
    intro hHeld
    refine Htake (i := 0) (v := ?_) (by rfl) (by kernel_rfl) (by exact fun _ _ _ h => h) (Or.inl ⟨by rfl, ?_⟩) (by assumption) ?_
    rotate_left
    {
    intro w hSw
    try dsimp only at hSw
    go_simp
    try with_reducible rfl
    }
    try simp only [sq]
    refine Htake (i := 1) (v := ?_) (by rfl) (by kernel_rfl) (by exact fun _ _ _ h => h) (Or.inl ⟨by rfl, ?_⟩) (by assumption) ?_
    rotate_left
    {
    intro w hSw
    try dsimp only at hSw
    go_simp
    try with_reducible rfl
    }
    try simp only [sq]
    refine Htake (i := 2) (v := ?_) (by rfl) (by kernel_rfl) (by exact fun _ _ _ h => h) (Or.inl ⟨by rfl, ?_⟩) (by assumption) ?_
    rotate_left
    {
    intro w hSw
    try dsimp only at hSw
    go_simp
    try with_reducible rfl
    }
    try simp only [sq]
    refine Htake (i := 4) (v := ?_) (by rfl) (by kernel_rfl) (by exact fun _ _ _ h => h) (Or.inl ⟨by rfl, ?_⟩) (by assumption) ?_
    rotate_left
    {
    intro w hSw
    try dsimp only at hSw
    go_simp
    try with_reducible rfl
    }
    try simp only [sq]
    refine Htake (i := 5) (v := ?_) (by rfl) (by kernel_rfl) (by exact fun _ _ _ h => h) (Or.inl ⟨by rfl, ?_⟩) (by assumption) ?_
    rotate_left
    {
    intro w hSw
    try dsimp only at hSw
    go_simp
    try with_reducible rfl
    }
    try simp only [sq]
    refine Htake (i := 6) (v := ?_) (by rfl) (by kernel_rfl) (by exact fun _ _ _ h => h) (Or.inl ⟨by rfl, ?_⟩) (by assumption) ?_
    rotate_left
    {
    intro w hSw
    try dsimp only at hSw
    go_simp
    try with_reducible rfl
    }
    try simp only [sq]
    refine Htake (i := 7) (v := ?_) (by rfl) (by kernel_rfl) (by exact fun _ _ _ h => h) (Or.inl ⟨by rfl, ?_⟩) (by assumption) ?_
    rotate_left
    {
    intro w hSw
    try dsimp only at hSw
    go_simp
    try with_reducible rfl
    }
    try simp only [sq]
    refine Htake (i := 8) (v := ?_) (by rfl) (by kernel_rfl) (by exact fun _ _ _ h => h) (Or.inl ⟨by rfl, ?_⟩) (by assumption) ?_
    rotate_left
    {
    intro w hSw
    try dsimp only at hSw
    go_simp
    try with_reducible rfl
    }
    try simp only [sq]
    refine Htake (i := 10) (v := ?_) (by rfl) (by kernel_rfl) (by exact fun _ _ _ h => h) (Or.inl ⟨by rfl, ?_⟩) (by assumption) ?_
    rotate_left
    {
    intro w hSw
    try dsimp only at hSw
    go_simp
    try with_reducible rfl
    }
    try simp only [sq]
    refine Htake (i := 11) (v := ?_) (by rfl) (by kernel_rfl) (by exact fun _ _ _ h => h) (Or.inl ⟨by rfl, ?_⟩) (by assumption) ?_
    rotate_left
    {
    intro w hSw
    try dsimp only at hSw
    go_simp
    try with_reducible rfl
    }
    try simp only [sq]
    refine Htake (i := 12) (v := ?_) (by rfl) (by kernel_rfl) (by exact fun _ _ _ h => h) (Or.inl ⟨by rfl, ?_⟩) (by assumption) ?_
    rotate_left
    {
    intro w hSw
    try dsimp only at hSw
    go_simp
    try with_reducible rfl
    }
    try simp only [sq]
    refine Htake (i := 13) (v := ?_) (by rfl) (by kernel_rfl) (by exact fun _ _ _ h => h) (Or.inl ⟨by rfl, ?_⟩) (by assumption) ?_
    rotate_left
    {
    intro w hSw
    try dsimp only at hSw
    go_simp
    try with_reducible rfl
    }
    try simp only [sq]
    refine Htake (i := 14) (v := ?_) (by rfl) (by kernel_rfl) (by exact fun _ _ _ h => h) (Or.inl ⟨by rfl, ?_⟩) (by assumption) ?_
    rotate_left
    {
    intro w hSw
    try dsimp only at hSw
    go_simp
    try with_reducible rfl
    }
    try simp only [sq]
    have hk0 : Below W3.heap.size W3 W3.drew := (Below.refl _ _).drew
    refine wpAnyH_ready (rs := [3, 15]) (by kernel_rfl) (by simp) ?_
    refine AllReadyH.cons (by rfl) (fun K hK => ?_) (AllReadyH.cons (by rfl) (fun K hK => ?_) AllReadyH.nil)
    {
    go_simp
    refine (unhide HF _ hk0).mono ?_
    rintro e wf1 ⟨⟨fnf, capsf, rfl, hvf⟩, hb1⟩
    have hk1 := hk0.trans (hb1.mono hk0.size)
    have hr1 := Below.refl wf1.heap.size wf1
    go_wp2_with fail
    refine hK.out _ _ ((HSf.out _ hk1)) (fun hHeld => ?_)
    clear hK K
    try simp only [sq]
    refine wpAnyH_ready (rs := [9, 15]) (by kernel_rfl) (by simp) ?_
    refine AllReadyH.cons (by rfl) (fun K hK => ?_) (AllReadyH.cons (by rfl) (fun K hK => ?_) AllReadyH.nil)
    {
    go_simp
    refine (unhide HSe _ hk1).mono ?_
    rintro e ws2 ⟨⟨fns, capss, rfl, hvs⟩, hb2⟩
    have hk2 := hk1.trans (hb2.mono hk1.size)
    have tf2 := hr1.trans (hb2.mono hr1.size)
    have hr2 := Below.refl ws2.heap.size ws2
    go_wp2_with fail
    refine hK.out _ _ ((HSf.out _ hk2)) (fun hHeld => ?_)
    clear hK K
    try simp only [sq]
    refine wpAnyH_ready (rs := [15]) (by kernel_rfl) (by simp) ?_
    refine AllReadyH.cons (by rfl) (fun K hK => ?_) AllReadyH.nil
    go_simp
    have hk3 := below_new hk2 (.cells #[.int .i64 1, .int .i64 0, .int .i64 0] 3)
    have tf3 := below_new tf2 (.cells #[.int .i64 1, .int .i64 0, .int .i64 0] 3)
    have ts3 := below_new hr2 (.cells #[.int .i64 1, .int .i64 0, .int .i64 0] 3)
    have hr3 := Below.refl (ws2.alloc (.cells #[.int .i64 1, .int .i64 0, .int .i64 0] 3)).heap.size (ws2.alloc (.cells #[.int .i64 1, .int .i64 0, .int .i64 0] 3))
    have rec3 := bi_made3 ws2 1 0 0 3
    refine hK.out _ _ ((HSf.out _ hk3)) (fun hHeld => ?_)
    clear hK K
    try simp only [sq]
    refine wpAnyH_ready (rs := [16]) (by kernel_rfl) (by simp) ?_
    refine AllReadyH.cons (by rfl) (fun K hK => ?_) AllReadyH.nil
    go_simp
    refine (unhide HN _ hk3 ws2.heap.size (BI.below rec3 hr3) (by have := hk2.size; omega)).mono ?_
    rintro e wn4 ⟨⟨fnn, capsn, rfl, hvn⟩, hb4⟩
    have hk4 := hk3.trans (hb4.mono hk3.size)
    have tf4 := tf3.trans (hb4.mono tf3.size)
    have ts4 := ts3.trans (hb4.mono ts3.size)
    go_wp2_with fail
    refine hK.out _ _ ((HSf.out _ hk4)) (fun hHeld => ?_)
    clear hK K
    try simp only [sq]
    refine wpAnyH_ready (rs := [17]) (by kernel_rfl) (by simp) ?_
    refine AllReadyH.cons (by rfl) (fun K hK => ?_) AllReadyH.nil
    go_simp
    refine hK.out _ _ ((HSf.out _ (below_new hk4 (.cells #[.func (.func 57) #[] #[], .func (.func fnf) #[] capsf, .func (.func fns) #[] capss, .func (.func fnn) #[] capsn] 117)))) (fun hHeld => ?_)
    clear hK K
    try simp only [sq]
    refine wpAnyH_ready (rs := [18]) (by kernel_rfl) (by simp) ?_
    refine AllReadyH.cons (by rfl) (fun K hK => ?_) AllReadyH.nil
    go_simp
    refine (change4_any B newF _ _ _ _ _ _ 117 wn4 (HOw.out.below hk4) (hvf.turns (turns_of tf4 B)) (hvs.turns (turns_of ts4 B)) hvn).mono ?_
    rintro e wz ⟨rfl, hUz, hgz⟩
    have hg := (turns_of hk4 B).trans hgz
    go_wp2_with fail
    refine hK.out _ _ ((HSt.out _ hg)) (fun hHeld => ?_)
    clear hK K
    try simp only [sq]
    refine wpAnyH_done (by kernel_rfl) ?_ _
    go_wp2_with fail
    go_meet
    case rel => exact ⟨rfl, hUz, hg⟩
    }
    {
    go_simp
    have hk5 := below_new hk1 (.cells #[.int .i64 1, .int .i64 0, .int .i64 0] 3)
    have tf5 := below_new hr1 (.cells #[.int .i64 1, .int .i64 0, .int .i64 0] 3)
    have hr5 := Below.refl (wf1.alloc (.cells #[.int .i64 1, .int .i64 0, .int .i64 0] 3)).heap.size (wf1.alloc (.cells #[.int .i64 1, .int .i64 0, .int .i64 0] 3))
    have rec5 := bi_made3 wf1 1 0 0 3
    refine hK.out _ _ ((HSf.out _ hk5)) (fun hHeld => ?_)
    clear hK K
    try simp only [sq]
    refine wpAnyH_ready (rs := [9]) (by kernel_rfl) (by simp) ?_
    refine AllReadyH.cons (by rfl) (fun K hK => ?_) AllReadyH.nil
    go_simp
    refine (unhide HSe _ hk5).mono ?_
    rintro e ws6 ⟨⟨fns, capss, rfl, hvs⟩, hb6⟩
    have hk6 := hk5.trans (hb6.mono hk5.size)
    have tf6 := tf5.trans (hb6.mono tf5.size)
    have tr6 := hr5.trans (hb6.mono hr5.size)
    have hr6 := Below.refl ws6.heap.size ws6
    go_wp2_with fail
    refine hK.out _ _ ((HSf.out _ hk6)) (fun hHeld => ?_)
    clear hK K
    try simp only [sq]
    refine wpAnyH_ready (rs := [16]) (by kernel_rfl) (by simp) ?_
    refine AllReadyH.cons (by rfl) (fun K hK => ?_) AllReadyH.nil
    go_simp
    refine (unhide HN _ hk6 wf1.heap.size (BI.below rec5 tr6) (by have := hk1.size; omega)).mono ?_
    rintro e wn7 ⟨⟨fnn, capsn, rfl, hvn⟩, hb7⟩
    have hk7 := hk6.trans (hb7.mono hk6.size)
    have tf7 := tf6.trans (hb7.mono tf6.size)
    have ts7 := hr6.trans (hb7.mono hr6.size)
    go_wp2_with fail
    refine hK.out _ _ ((HSf.out _ hk7)) (fun hHeld => ?_)
    clear hK K
    try simp only [sq]
    refine wpAnyH_ready (rs := [17]) (by kernel_rfl) (by simp) ?_
    refine AllReadyH.cons (by rfl) (fun K hK => ?_) AllReadyH.nil
    go_simp
    refine hK.out _ _ ((HSf.out _ (below_new hk7 (.cells #[.func (.func 57) #[] #[], .func (.func fnf) #[] capsf, .func (.func fns) #[] capss, .func (.func fnn) #[] capsn] 117)))) (fun hHeld => ?_)
    clear hK K
    try simp only [sq]
    refine wpAnyH_ready (rs := [18]) (by kernel_rfl) (by simp) ?_
    refine AllReadyH.cons (by rfl) (fun K hK => ?_) AllReadyH.nil
    go_simp
    refine (change4_any B newF _ _ _ _ _ _ 117 wn7 (HOw.out.below hk7) (hvf.turns (turns_of tf7 B)) (hvs.turns (turns_of ts7 B)) hvn).mono ?_
    rintro e wz ⟨rfl, hUz, hgz⟩
    have hg := (turns_of hk7 B).trans hgz
    go_wp2_with fail
    refine hK.out _ _ ((HSt.out _ hg)) (fun hHeld => ?_)
    clear hK K
    try simp only [sq]
    refine wpAnyH_done (by kernel_rfl) ?_ _
    go_wp2_with fail
    go_meet
    case rel => exact ⟨rfl, hUz, hg⟩
    }
    }
    {
    go_simp
    have hk8 := below_new hk0 (.cells #[.int .i64 1, .int .i64 0, .int .i64 0] 3)
    have hr8 := Below.refl (W3.drew.alloc (.cells #[.int .i64 1, .int .i64 0, .int .i64 0] 3)).heap.size (W3.drew.alloc (.cells #[.int .i64 1, .int .i64 0, .int .i64 0] 3))
    have rec8 := bi_made3 W3.drew 1 0 0 3
    refine hK.out _ _ ((HSf.out _ hk8)) (fun hHeld => ?_)
    clear hK K
    try simp only [sq]
    refine wpAnyH_ready (rs := [3]) (by kernel_rfl) (by simp) ?_
    refine AllReadyH.cons (by rfl) (fun K hK => ?_) AllReadyH.nil
    go_simp
    refine (unhide HF _ hk8).mono ?_
    rintro e wf9 ⟨⟨fnf, capsf, rfl, hvf⟩, hb9⟩
    have hk9 := hk8.trans (hb9.mono hk8.size)
    have tr9 := hr8.trans (hb9.mono hr8.size)
    have hr9 := Below.refl wf9.heap.size wf9
    go_wp2_with fail
    refine hK.out _ _ ((HSf.out _ hk9)) (fun hHeld => ?_)
    clear hK K
    try simp only [sq]
    refine wpAnyH_ready (rs := [9]) (by kernel_rfl) (by simp) ?_
    refine AllReadyH.cons (by rfl) (fun K hK => ?_) AllReadyH.nil
    go_simp
    refine (unhide HSe _ hk9).mono ?_
    rintro e ws10 ⟨⟨fns, capss, rfl, hvs⟩, hb10⟩
    have hk10 := hk9.trans (hb10.mono hk9.size)
    have tr10 := tr9.trans (hb10.mono tr9.size)
    have tf10 := hr9.trans (hb10.mono hr9.size)
    have hr10 := Below.refl ws10.heap.size ws10
    go_wp2_with fail
    refine hK.out _ _ ((HSf.out _ hk10)) (fun hHeld => ?_)
    clear hK K
    try simp only [sq]
    refine wpAnyH_ready (rs := [16]) (by kernel_rfl) (by simp) ?_
    refine AllReadyH.cons (by rfl) (fun K hK => ?_) AllReadyH.nil
    go_simp
    refine (unhide HN _ hk10 W3.drew.heap.size (BI.below rec8 tr10) (by have := hk0.size; omega)).mono ?_
    rintro e wn11 ⟨⟨fnn, capsn, rfl, hvn⟩, hb11⟩
    have hk11 := hk10.trans (hb11.mono hk10.size)
    have tf11 := tf10.trans (hb11.mono tf10.size)
    have ts11 := hr10.trans (hb11.mono hr10.size)
    go_wp2_with fail
    refine hK.out _ _ ((HSf.out _ hk11)) (fun hHeld => ?_)
    clear hK K
    try simp only [sq]
    refine wpAnyH_ready (rs := [17]) (by kernel_rfl) (by simp) ?_
    refine AllReadyH.cons (by rfl) (fun K hK => ?_) AllReadyH.nil
    go_simp
    refine hK.out _ _ ((HSf.out _ (below_new hk11 (.cells #[.func (.func 57) #[] #[], .func (.func fnf) #[] capsf, .func (.func fns) #[] capss, .func (.func fnn) #[] capsn] 117)))) (fun hHeld => ?_)
    clear hK K
    try simp only [sq]
    refine wpAnyH_ready (rs := [18]) (by kernel_rfl) (by simp) ?_
    refine AllReadyH.cons (by rfl) (fun K hK => ?_) AllReadyH.nil
    go_simp
    refine (change4_any B newF _ _ _ _ _ _ 117 wn11 (HOw.out.below hk11) (hvf.turns (turns_of tf11 B)) (hvs.turns (turns_of ts11 B)) hvn).mono ?_
    rintro e wz ⟨rfl, hUz, hgz⟩
    have hg := (turns_of hk11 B).trans hgz
    go_wp2_with fail
    refine hK.out _ _ ((HSt.out _ hg)) (fun hHeld => ?_)
    clear hK K
    try simp only [sq]
    refine wpAnyH_done (by kernel_rfl) ?_ _
    go_wp2_with fail
    go_meet
    case rel => exact ⟨rfl, hUz, hg⟩
    }
  case rest =>
  obtain ⟨rfl, ⟨ua, un, uc, ub, ui, ul, ucap, umax, uoff⟩, hg⟩ := hcut
  obtain ⟨w4, rfl⟩ : ∃ w4 : World, w4 = wc := ⟨_, rfl⟩
  have B3 := hide (blk_turns b0.out hg (by omega))
  have hk4 := turns_below hw0 hg (by omega) hw0.size
  have UB := hide ub
  have hq := HQ.out _ rfl
  rw [hq] at ui ul UB
  have HLk := hide (turnU_lk (newSteps image name) newF)
  have UW := hide (show BW w4 ua un uc (turnU (newSteps image name) newF).1.ws from ⟨ui, ul, ucap, umax⟩)
  have ho := hide (ints_unit ui (by rcases HLk.out with h | h; (· right; rw [h]; show 3 ≤ (List.replicate 192 (65535 : Int)).length; simp); (· exact .inl h)) B3.out rfl)
  clear ub ui ul uoff hg hq HLk HQ HN HSe HF HSt HSf HOw HOI
  generalize turnU (newSteps image name) newF = r at *
  unfold unO at UB
  obtain ⟨y0, y1, y2, y3, y4⟩ := cl5 B3.out
  have f0 := blk_free B3.out 0
  have f1 := blk_free B3.out 1
  have f2 := blk_free B3.out 2
  have f3 := blk_free B3.out 3
  have f4 := blk_free B3.out 4
  obtain ⟨s0, s1, s2, s3, s4⟩ := cl5 UB.out
  go_wp2_with fail
  refine bodyPost_ret (v := .tuple #[unv r.1 ua un uc, .int .i64 0]) (by simp [results, Tryz.results11, go_sem, unv, y0, y1, y2, y3, y4]) rfl ?_
  rw [HE.out]
  exact ⟨⟨ua, un, uc, rfl, ((((UW.out.ne ho.out _ _).ne ho.out _ _).ne ho.out _ _).ne ho.out _ _).ne ho.out _ _⟩, ((((hk4.setCell hx _).setCell hx _).setCell hx _).setCell hx _).setCell hx _⟩

end Go.Proofs.YtgngpmgjoifepaaGreatDoor

namespace Go.Proofs.YtgngpmgjoifepaaGreatDoor
open Go.RowKit

theorem getD_out {xs : List Int} {i : Nat} (h : xs.length ≤ i) : xs.getD i 0 = 0 := by simp [List.getElem?_eq_none h]
theorem Fld.far {ws words G : List Int} {t k : Nat} (h : Fld ws words t k G) (hl : ws.length = 192) : Far t ws G := by
  intro i hi
  by_cases c : i < 192
  { rw [h.at' i c, if_neg (by omega)] }
  { rw [getD_out (by rw [h.len]; omega), getD_out (by rw [hl]; omega)] }
theorem seal_neg {ws image G : List Int} {t : Nat} {name : Int} (h : Fld ws image t image.length G) (ht : t ≤ 1) (hB : sealB image.length name = true) :
    ∃ H, sealS G (-1) t image.length name = (H, -1, 0) ∧ Sld G t 4 image.length name H := by
  have hE := h.slot (f := -1) (t := t) (by decide) (by decide) ht
  have hc := h.chk (f := -1) (by decide) (by decide)
  have hok := headL_ok hB
  have hp : (64 + 64 * (t : Int)) = ((64 + 64 * t : Nat) : Int) := by omega
  refine ⟨chg (andW (headL image.length name)) (64 + 64 * t) 4 G, ?_, ⟨?_, ?_, ?_⟩⟩
  {
  unfold sealS
  rw [if_neg (by simpa using hE), if_neg (by simp [hB]), hp, prog_full hc (by rw [headL_len, h.len]; omega) hok, headL_len]
  }
  { rw [chg_length]; exact h.len }
  { exact chg_ok h.ok hok (by rw [headL_len]; exact Nat.le_refl _) (by rw [h.len]; omega) }
  {
  intro i hi
  rw [chg_get _ _ _ _ _ (by rw [h.len]; exact hi)]
  by_cases c1 : 64 + 64 * t ≤ i ∧ i < 64 + 64 * t + 4
  {
  rw [if_pos c1, if_pos c1, h.at' i hi, if_pos (by omega), if_neg (by omega)]
  unfold andW
  exact and_full (okL_get hok _ (by rw [headL_len]; omega))
  }
  { rw [if_neg c1, if_neg c1] }
  }
end Go.Proofs.YtgngpmgjoifepaaGreatDoor

namespace Go.Proofs.YtgngpmgjoifepaaGreatDoor
open Go.RowKit

def nuF (image : List Int) (name : Int) (i : Nat) : Int :=
  if i = 0 then 1 else if i = 1 then 42243 else if i = 2 then 1 else if i = 3 ∨ i = 4 then 0
  else if 64 ≤ i ∧ i < 68 then (headL image.length name).getD (i - 64) 0
  else if 68 ≤ i ∧ i < 68 + image.length then image.getD (i - 68) 0 else 65535
def nuW (image : List Int) (name : Int) : List Int := (List.range 192).map (nuF image name)
theorem nuW_len (image : List Int) (name : Int) : (nuW image name).length = 192 := by simp [nuW]
theorem nuW_get (image : List Int) (name : Int) {i : Nat} (h : i < 192) : (nuW image name).getD i 0 = nuF image name i := by
  unfold nuW
  rw [List.getD_eq_getElem?_getD, List.getElem?_map, List.getElem?_range h]
  rfl
theorem ext_getN {a b : List Int} {n : Nat} (ha : a.length = n) (hb : b.length = n) (h : ∀ i, i < n → a.getD i 0 = b.getD i 0) : a = b := by
  apply List.ext_getElem (by rw [ha, hb])
  intro i h1 h2
  have := h i (by rw [ha] at h1; exact h1)
  rwa [List.getD_eq_getElem?_getD, List.getD_eq_getElem?_getD, List.getElem?_eq_getElem h1, List.getElem?_eq_getElem h2] at this

def fmW : List Int := 1 :: List.replicate 191 65535
theorem fmW_get {i : Nat} (h0 : 0 < i) (h : i < 192) : fmW.getD i 0 = 65535 := by
  obtain ⟨j, rfl⟩ : ∃ j, i = j + 1 := ⟨i - 1, by omega⟩
  show (List.replicate 191 (65535 : Int)).getD j 0 = _
  rw [List.getD_eq_getElem?_getD, List.getElem?_replicate, if_pos (by omega)]
  rfl
theorem fm_fmt : doT .fmt newF.ws newF.fu = (fmW, -1, 0) := by decide +kernel
theorem fm_did : doV newF .fmt = (⟨fmW, -1, true, 0, 0⟩, true) := by
  unfold doV
  rw [fm_fmt, doU_0 rfl]
  rfl
theorem fm_fld (image : List Int) : Fld fmW image 0 0 fmW := by
  refine ⟨by decide +kernel, by decide +kernel, fun i hi => ?_⟩
  by_cases c : 64 + 64 * 0 ≤ i ∧ i < 128 + 64 * 0
  { rw [if_pos c, if_neg (by omega), fmW_get (by omega) hi] }
  {
  rw [if_neg c]

  }
theorem app_first {H : List Int} (hl : H.length = 192) (hok : okL H = true) (h0 : H.getD 0 0 = 1) (h1 : ∀ i, 0 < i → i < 64 → H.getD i 0 = 65535) :
    ∃ U, appS H (-1) [1, 0, 0] [[1, 0, 0]] = (U, -1, 0) ∧ U.length = 192 ∧ ∀ i, i < 192 → U.getD i 0 = if i = 1 then 42243 else if i = 2 then 1 else if i = 3 ∨ i = 4 then 0 else H.getD i 0 := by
  have hc : chk H (-1) = 0 := by
    apply chk_ok
    { rw [hl]; rfl }
    { unfold rangeB; rw [hok]; simp }
  have g0 : genS H 0 = 1 := by unfold genS; rw [show 0 * 32 = 0 from rfl, h0]; rfl
  have g1 : genS H 1 = 0 := by unfold genS; rw [h1 (1 * 32) (by omega) (by omega)]; rfl
  have sn : secN H = 0 := by unfold secN; rw [g0, g1]; rfl
  have gn : genN H = 1 := by unfold genN; rw [g0, g1]; rfl
  have sl : secL H (secN H) = List.replicate 31 65535 := by
    rw [sn]
    unfold secL
    refine ext_getN (n := 31) (by simp [hl]) (by simp) fun i hi => ?_
    have := h1 (1 + i) (by omega) (by omega)
    rw [List.getD_eq_getElem?_getD] at this ⊢
    rw [List.getElem?_take, if_pos hi, List.getElem?_drop, List.getD_eq_getElem?_getD, List.getElem?_replicate, if_pos hi, show 0 * 32 + 1 + i = 1 + i by omega, this]
    rfl
  have rs : restS H = List.replicate 31 65535 := by unfold restS; rw [sl]; decide +kernel
  have hf : fitsA H [1, 0, 0] = true := by unfold fitsA; rw [rs]; decide +kernel
  have hp : headP H = 1 := by unfold headP; rw [sn, rs]; rfl
  have lk : lchk H (-1) = 0 := by
    unfold lchk secS
    rw [hc, hl, gn]
    rfl
  have he : appErr H (-1) [1, 0, 0] [[1, 0, 0]] = 0 := by
    unfold appErr
    rw [lk, hf, if_neg (by decide), if_neg (by decide), if_neg (by decide +kernel), if_neg (by simp)]
  have e1 : progS H (-1) ((2 : Nat) : Int) [1, 0, 0] = (chg (andW [1, 0, 0]) 2 3 H, -1, 0) := prog_full hc (by rw [hl]; decide) (by decide)
  have ok2 : okL (chg (andW [1, 0, 0]) 2 3 H) = true := chg_ok hok (by decide) (by decide) (by rw [hl]; decide)
  have hc2 : chk (chg (andW [1, 0, 0]) 2 3 H) (-1) = 0 := by
    apply chk_ok
    { rw [chg_length, hl]; rfl }
    { unfold rangeB; rw [ok2]; simp }
  have e2 : progS (chg (andW [1, 0, 0]) 2 3 H) (-1) ((1 : Nat) : Int) [42243] = (chg (andW [42243]) 1 1 (chg (andW [1, 0, 0]) 2 3 H), -1, 0) := prog_full hc2 (by rw [chg_length, hl]; decide) (by decide)
  refine ⟨chg (andW [42243]) 1 1 (chg (andW [1, 0, 0]) 2 3 H), ?_, by rw [chg_length, chg_length, hl], fun i hi => ?_⟩
  {
  unfold appS appSteps
  rw [if_neg (by rw [he]; decide), if_pos hf, hp]
  show (if (progS H (-1) ((2 : Nat) : Int) [1, 0, 0]).2.2 ≠ 0 then progS H (-1) ((2 : Nat) : Int) [1, 0, 0] else turnS [.prg 1 [headS 3]] (progS H (-1) ((2 : Nat) : Int) [1, 0, 0]).1 (progS H (-1) ((2 : Nat) : Int) [1, 0, 0]).2.1) = _
  rw [e1, if_neg (by simp)]
  show (if (progS (chg (andW [1, 0, 0]) 2 3 H) (-1) ((1 : Nat) : Int) [42243]).2.2 ≠ 0 then progS (chg (andW [1, 0, 0]) 2 3 H) (-1) ((1 : Nat) : Int) [42243] else ((progS (chg (andW [1, 0, 0]) 2 3 H) (-1) ((1 : Nat) : Int) [42243]).1, (progS (chg (andW [1, 0, 0]) 2 3 H) (-1) ((1 : Nat) : Int) [42243]).2.1, 0)) = _
  rw [e2, if_neg (by simp)]
  }
  {
  rw [chg_get _ _ _ _ _ (by rw [chg_length, hl]; exact hi), chg_get _ _ _ _ _ (by rw [hl]; exact hi)]
  by_cases c1 : i = 1
  {
  subst c1
  rw [if_pos (by omega), if_neg (by omega), if_pos rfl, h1 1 (by omega) (by omega)]
  decide +kernel
  }
  {
  rw [if_neg (by omega), if_neg c1]
  by_cases c2 : i = 2
  {
  subst c2
  rw [if_pos (by omega), if_pos rfl, h1 2 (by omega) (by omega)]
  decide +kernel
  }
  {
  rw [if_neg c2]
  by_cases c3 : i = 3 ∨ i = 4
  {
  rw [if_pos c3]
  rcases c3 with rfl | rfl
  { rw [if_pos (by omega), h1 3 (by omega) (by omega)]; decide +kernel }
  { rw [if_pos (by omega), h1 4 (by omega) (by omega)]; decide +kernel }
  }
  {
  rw [if_neg c3, if_neg (by omega)]

  }
  }
  }
  }
theorem new_plain {image : List Int} {name : Int} (h : imgE image = 0) (hn : inB name 1 60 = true) : turnU (newSteps image name) newF = (⟨nuW image name, -1, true, 0, 0⟩, true) := by
  have hi := imgE_ok h
  have hlen : 1 ≤ image.length ∧ image.length ≤ 40 := by have := hi.1; omega
  have hB : sealB image.length name = true := by unfold sealB; rw [inB_t (by omega) (by omega), hn]; rfl
  have hd : (image.drop 0).take image.length = image := by simp
  have f0 := fill_step (s := 0) (k := 0) (l := image.length) (fm_fld image) (by omega) (by omega) hlen.2
  rw [hd] at f0
  have hokI : okL image = true := by rw [okL_word, List.all_eq_true]; intro x hx; have := hi.2 x hx; unfold wordB; simp; omega
  obtain ⟨hb, -⟩ | ⟨-, G, hG, hFl⟩ := f0
  { rw [hokI] at hb; cases hb }
  rw [Nat.zero_add] at hFl
  obtain ⟨H, hH, hS⟩ := seal_neg hFl (by omega) hB
  have d1 : doV ⟨fmW, -1, true, 0, 0⟩ (.fil 0 0 image) = (⟨G, -1, true, 0, 0⟩, true) := by
    unfold doV
    show doU _ (fillS fmW (-1) ((0 : Nat) : Int) ((0 : Nat) : Int) image) = _
    rw [hG, doU_0 rfl]
  have d2 : doV ⟨G, -1, true, 0, 0⟩ (.sea 0 image.length name) = (⟨H, -1, true, 0, 0⟩, true) := by
    unfold doV
    show doU _ (sealS G (-1) ((0 : Nat) : Int) image.length name) = _
    rw [hH, doU_0 rfl]
  have hat : ∀ i, i < 64 → H.getD i 0 = fmW.getD i 0 := fun i hi => by rw [hS.at' i (by omega), if_neg (by omega), hFl.at' i (by omega), if_neg (by omega)]
  obtain ⟨U, hU, hUl, hUg⟩ := app_first hS.len hS.ok (by rw [hat 0 (by omega)]; rfl) (fun i h0 h1 => by rw [hat i h1]; exact fmW_get h0 (by omega))
  have d3 : doV ⟨H, -1, true, 0, 0⟩ (.not us0 [1, 0, 0]) = (⟨U, -1, true, 0, 0⟩, true) := by
    unfold doV
    show doU _ (appS H (-1) [1, 0, 0] (keepU us0)) = _
    rw [show keepU us0 = [[1, 0, 0]] from rfl, hU, doU_0 rfl]
  have hUW : U = nuW image name := by
    refine ext_getN hUl (nuW_len _ _) fun i hi => ?_
    rw [hUg i hi, nuW_get _ _ hi]
    unfold nuF
    by_cases c0 : i = 0
    {
    subst c0
    rw [if_neg (by omega), if_neg (by omega), if_neg (by omega), if_pos rfl, hat 0 (by omega)]
    rfl
    }
    {
    rw [if_neg c0]
    by_cases c1 : i = 1
    { rw [if_pos c1, if_pos c1] }
    {
    rw [if_neg c1, if_neg c1]
    by_cases c2 : i = 2
    { rw [if_pos c2, if_pos c2] }
    {
    rw [if_neg c2, if_neg c2]
    by_cases c3 : i = 3 ∨ i = 4
    { rw [if_pos c3, if_pos c3] }
    {
    rw [if_neg c3, if_neg c3, hS.at' i hi]
    by_cases c4 : 64 ≤ i ∧ i < 68
    { rw [if_pos (by omega), if_pos c4] }
    {
    rw [if_neg (by omega), if_neg c4, hFl.at' i hi]
    by_cases c5 : 68 ≤ i ∧ i < 68 + image.length
    { rw [if_pos c5, if_pos (show 64 + 64 * 0 ≤ i ∧ i < 128 + 64 * 0 by omega)] }
    {
    rw [if_neg c5]
    by_cases c6 : 64 + 64 * 0 ≤ i ∧ i < 128 + 64 * 0
    { rw [if_pos c6] }
    { rw [if_neg c6]; exact fmW_get (by omega) hi }
    }
    }
    }
    }
    }
    }
  unfold newSteps
  rw [turnU_go (by rw [fm_did]), fm_did, turnU_go (by rw [d1]), d1, turnU_go (by rw [d2]), d2, turnU_go (by rw [d3]), d3, hUW]
  rfl

end Go.Proofs.YtgngpmgjoifepaaGreatDoor
