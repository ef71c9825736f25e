/- The law MetaNames, walked. -/
import Derived.Test.YtanpglfpopbfkabDoorMWri
import Derived.Test.YtanpglfpopbfkabDoorMRefS
import Derived.Test.YtanpglfpopbfkabDoorMRefB
namespace Go.Proofs.YtanpglfpopbfkabDoor
open Go.RowKit

theorem inN_zero {ss : List ByteArray} {xs : List Int} (h : imgE xs ≠ 0 ∨ bookE ss ≠ 0) : inN ss xs = 0 := by
  unfold inN nameE
  by_cases h1 : imgE xs = 0
  · rw [if_pos h1, if_neg (by rcases h with h | h; exact absurd h1 h; exact h)]
  · rw [if_neg h1]

theorem keep1 {w1 W : World} {b : Nat} {v0 : Value} {t : TypeId} (hb : Below w1.heap.size w1 W) (h : w1.heap[b]? = some (.cells #[v0] t (0, 0))) : W.cell? ⟨b, 0, none⟩ = some v0 ∧ Below w1.heap.size w1 W :=
  ⟨blk_cell (blk_below h hb) 0 _ rfl, hb⟩

set_option maxHeartbeats 1600000 in
set_option maxRecDepth 100000 in
theorem metaNames_walk (a : Option Addr) (n c : Nat) (ss : List ByteArray) (s : ByteArray) (a2 : Option Addr) (n2 c2 : Nat) (xs : List Int) (w : World) (h : IsStrs w a ss) (hn : ss.length = n) (hc : n ≤ c) (hm : n ≤ maxLen) (hz : ∀ s ∈ ss, s.size ≤ maxLen)
    (h2 : IsInts w a2 xs) (hn2 : xs.length = n2) (hm2 : n2 ≤ maxLen) (hT : Tab w) :
    Calls Tryd.prog 3 #[bookv a n c, .string s, .slice a2 n2 c2] w fun e w' => e = .returned (.bool true) ∧ Below w.heap.size w w' := by
  have hw0 : Below w.heap.size w (w.alloc (.cells #[.slice a n c] 24)) := (Below.refl _ _).alloc (Nat.le_refl _) _
  have b0 := hide (heap_alloc_last w (.cells #[.slice a n c] 24))
  have HN1 := hide (fun W (hW : IsStrs W a ss) => name_any a n c ss s W hW hn hc hm hz)
  have HN2 := hide (fun W (hW : IsStrs W a ss) (hV : IsInts W a2 xs) (hTW : Tab W) => imageName_any a n c ss a2 n2 c2 xs W hW hn hc hm hz hV hn2 hm2 hTW)
  have HR := hide (fun W (hW : IsStrs W a ss) => refCheckBook_any a n c ss W hW hn hm hz)
  have HC := hide (fun W (hW : IsStrs W a ss) => checkBook_any a n c ss W hW hn hc hz)
  have HNo := hide (fun W s (hW : IsStrs W a ss) => refNameOf_any a n c ss s W hW hn hm)
  have HI := hide (fun W (hV : IsInts W a2 xs) => refCheckImage_any a2 n2 c2 xs W hV hn2 hm2)
  have HT := hide (fun W (h0 : imgE xs = 0) (hV : IsInts W a2 xs) (hTW : Tab W) => refImageText_any a2 n2 c2 xs W hV hn2 h0 hTW)
  unfold bookv at HN1 HN2 HR HC HNo ⊢
  clear hn hn2
  go_enter Tryd.func3, Tryd.ntmps3
  go_wp2_with fail
  generalize w.alloc (.cells #[.slice a n c] 24) = W at *
  refine (unhide HN1 _ (h.below hw0)).mono ?_
  rintro e w1 ⟨rfl, hb1⟩
  replace hw0 := hw0.trans (hb1.mono hw0.size)
  replace b0 := hide (blk_below b0.out hb1)
  clear hb1
  have x0 := blk_cell b0.out 0 _ rfl
  go_wp2_with fail
  refine (unhide HN2 _ (h.below hw0) (h2.below hw0) (hT.below hw0)).mono ?_
  rintro e w2 ⟨rfl, hb2⟩
  replace hw0 := hw0.trans (hb2.mono hw0.size)
  replace b0 := hide (blk_below b0.out hb2)
  clear hb2 x0
  have x0 := blk_cell b0.out 0 _ rfl
  go_wp2_with fail
  refine (unhide HR _ (h.below hw0)).mono ?_
  rintro e w3 ⟨rfl, hb3⟩
  replace hw0 := hw0.trans (hb3.mono hw0.size)
  replace b0 := hide (blk_below b0.out hb3)
  clear hb3 x0
  have x0 := blk_cell b0.out 0 _ rfl
  go_wp2_with fail
  refine (lawWritten_any _ (hT.below hw0)).mono ?_
  rintro e w4 ⟨rfl, hb4⟩
  replace hw0 := hw0.trans (hb4.mono hw0.size)
  replace b0 := hide (blk_below b0.out hb4)
  clear hb4 x0
  have x0 := blk_cell b0.out 0 _ rfl
  go_wp2_with fail
  refine (unhide HC _ (h.below hw0)).mono ?_
  rintro e w5 ⟨rfl, hb5⟩
  replace hw0 := hw0.trans (hb5.mono hw0.size)
  replace b0 := hide (blk_below b0.out hb5)
  clear hb5 x0 HN1 HN2 HR HC
  have x0 := blk_cell b0.out 0 _ rfl
  have q1 : (bookE ss != bookE ss) = false := by simp
  by_cases h0 : bookE ss = 0
  · have HX1 := hide (show nameE ss s = (nameN ss s : Int) by unfold nameE; rw [if_pos h0])
    have q2 : ((nameN ss s : Int) != (nameN ss s : Int)) = false := by simp
    rw [HX1.out, h0]
    clear q1
    generalize hr : (nameN ss s : Int) = r at *
    replace HNo := hide (⟨fun W (hW : IsStrs W a ss) => by have := HNo.out W s hW; rw [hr] at this; exact this, HNo.out⟩ : (∀ W, IsStrs W a ss → _) ∧ _)
    go_wp2_with fail
    refine (HNo.out.1 _ (h.below hw0)).mono ?_
    rintro e w6 ⟨rfl, hb6⟩
    replace hw0 := hw0.trans (hb6.mono hw0.size)
    replace b0 := hide (blk_below b0.out hb6)
    clear hb6 x0
    have x0 := blk_cell b0.out 0 _ rfl
    go_wp2_with fail
    refine (unhide HI _ (h2.below hw0)).mono ?_
    rintro e w7 ⟨rfl, rfl⟩
    by_cases g0 : imgE xs = 0
    · have HY := hide (show inE ss xs = 0 by unfold inE; rw [if_pos g0, h0])
      have HZ := hide (show inN ss xs = (nameN ss (bs (imgT xs)) : Int) by unfold inN nameE; rw [if_pos g0, if_pos h0])
      rw [HY.out, HZ.out, g0]
      replace HT := hide (fun W => HT.out W g0)
      have i7 := h.below hw0
      have j7 := h2.below hw0
      have t7 := hT.below hw0
      have q3 : ((nameN ss (bs (imgT xs)) : Int) == (nameN ss (bs (imgT xs)) : Int)) = true := by simp
      obtain ⟨m, hm'⟩ : ∃ m : Int, m = (nameN ss (bs (imgT xs)) : Int) := ⟨_, rfl⟩
      have HM := hide (fun W (hW : IsStrs W a ss) => HNo.out.2 W (bs (imgT xs)) hW)
      rw [← hm'] at q3 HM ⊢
      generalize bs (imgT xs) = st at *
      clear hm' hr h0 g0
      replace HT := hide (fun W (hW : Below w7.heap.size w7 W) => (HT.out W (j7.below hW) (t7.below hW)).mono fun _ _ h => (⟨h.1, hW.trans (h.2.mono hW.size)⟩ : _ ∧ Below w7.heap.size w7 _))
      replace HM := hide (fun W (hW : Below w7.heap.size w7 W) => (HM.out W (i7.below hW)).mono fun _ _ h => (⟨h.1, hW.trans (h.2.mono hW.size)⟩ : _ ∧ Below w7.heap.size w7 _))
      go_upto_region 9 with fail
      refine wp_region_held_drew (S := fun w' => w'.cell? ⟨w.heap.size, 0, none⟩ = some (.slice a n c) ∧ Below w7.heap.size w7 w') (by kernel_rfl) ⟨x0, (Below.refl _ _).drew⟩ ?_
      intro hHeld
      refine wpAnyH_take (i := 0) (v := ?_) (by simp only [List.getElem?_toArray, List.getElem?_cons_zero]; rfl) (by kernel_rfl) (by kernel_rfl) (by kernel_rfl) (by exact fun _ _ _ h => h) (Or.inl ⟨by rfl, ?_⟩) (by assumption) ?_
      rotate_left
      · intro w hSw
        try dsimp only at hSw
        go_simp
        try with_reducible rfl
      try simp only [Act.put, List.setIfInBounds_toArray, List.set_cons_zero, List.set_cons_succ]
      refine wpAnyH_take (i := 1) (v := ?_) (by simp only [List.getElem?_toArray, List.getElem?_cons_zero, List.getElem?_cons_succ]; rfl) (by kernel_rfl) (by kernel_rfl) (by kernel_rfl) (by exact fun _ _ _ h => h) (Or.inl ⟨by rfl, ?_⟩) (by assumption) ?_
      rotate_left
      · intro w hSw
        try dsimp only at hSw
        go_simp
        try with_reducible rfl
      try simp only [Act.put, List.setIfInBounds_toArray, List.set_cons_zero, List.set_cons_succ]
      refine wpAnyH_take (i := 2) (v := ?_) (by simp only [List.getElem?_toArray, List.getElem?_cons_zero, List.getElem?_cons_succ]; rfl) (by kernel_rfl) (by kernel_rfl) (by kernel_rfl) (by exact fun _ _ _ h => h) (Or.inl ⟨by rfl, ?_⟩) (by assumption) ?_
      rotate_left
      · intro w hSw
        try dsimp only at hSw
        go_simp
        try with_reducible rfl
      try simp only [Act.put, List.setIfInBounds_toArray, List.set_cons_zero, List.set_cons_succ]
      refine wpAnyH_take (i := 3) (v := ?_) (by simp only [List.getElem?_toArray, List.getElem?_cons_zero, List.getElem?_cons_succ]; rfl) (by kernel_rfl) (by kernel_rfl) (by kernel_rfl) (by exact fun _ _ _ h => h) (Or.inl ⟨by rfl, ?_⟩) (by assumption) ?_
      rotate_left
      · intro w hSw
        try dsimp only at hSw
        go_simp
        try with_reducible rfl
      try simp only [Act.put, List.setIfInBounds_toArray, List.set_cons_zero, List.set_cons_succ]
      refine wpAnyH_take (i := 4) (v := ?_) (by simp only [List.getElem?_toArray, List.getElem?_cons_zero, List.getElem?_cons_succ]; rfl) (by kernel_rfl) (by kernel_rfl) (by kernel_rfl) (by exact fun _ _ _ h => h) (Or.inl ⟨by rfl, ?_⟩) (by assumption) ?_
      rotate_left
      · intro w hSw
        try dsimp only at hSw
        go_simp
        try with_reducible rfl
      try simp only [Act.put, List.setIfInBounds_toArray, List.set_cons_zero, List.set_cons_succ]
      refine wpAnyH_take (i := 5) (v := ?_) (by simp only [List.getElem?_toArray, List.getElem?_cons_zero, List.getElem?_cons_succ]; rfl) (by kernel_rfl) (by kernel_rfl) (by kernel_rfl) (by exact fun _ _ _ h => h) (Or.inl ⟨by rfl, ?_⟩) (by assumption) ?_
      rotate_left
      · intro w hSw
        try dsimp only at hSw
        go_simp
        try with_reducible rfl
      try simp only [Act.put, List.setIfInBounds_toArray, List.set_cons_zero, List.set_cons_succ]
      refine wpAnyH_take (i := 6) (v := ?_) (by simp only [List.getElem?_toArray, List.getElem?_cons_zero, List.getElem?_cons_succ]; rfl) (by kernel_rfl) (by kernel_rfl) (by kernel_rfl) (by exact fun _ _ _ h => h) (Or.inl ⟨by rfl, ?_⟩) (by assumption) ?_
      rotate_left
      · intro w hSw
        try dsimp only at hSw
        go_simp
        try with_reducible rfl
      try simp only [Act.put, List.setIfInBounds_toArray, List.set_cons_zero, List.set_cons_succ]
      refine wpAnyH_take (i := 7) (v := ?_) (by simp only [List.getElem?_toArray, List.getElem?_cons_zero, List.getElem?_cons_succ]; rfl) (by kernel_rfl) (by kernel_rfl) (by kernel_rfl) (by exact fun _ _ _ h => h) (Or.inl ⟨by rfl, ?_⟩) (by assumption) ?_
      rotate_left
      · intro w hSw
        try dsimp only at hSw
        go_simp
        try with_reducible rfl
      try simp only [Act.put, List.setIfInBounds_toArray, List.set_cons_zero, List.set_cons_succ]
      refine wpAnyH_take (i := 8) (v := ?_) (by simp only [List.getElem?_toArray, List.getElem?_cons_zero, List.getElem?_cons_succ]; rfl) (by kernel_rfl) (by kernel_rfl) (by kernel_rfl) (by exact fun _ _ _ h => h) (Or.inl ⟨by rfl, ?_⟩) (by assumption) ?_
      rotate_left
      · intro w hSw
        try dsimp only at hSw
        go_simp
        try with_reducible rfl
      try simp only [Act.put, List.setIfInBounds_toArray, List.set_cons_zero, List.set_cons_succ]
      refine wpAnyH_take (i := 9) (v := ?_) (by simp only [List.getElem?_toArray, List.getElem?_cons_zero, List.getElem?_cons_succ]; rfl) (by kernel_rfl) (by kernel_rfl) (by kernel_rfl) (by exact fun _ _ _ h => h) (Or.inl ⟨by rfl, ?_⟩) (by assumption) ?_
      rotate_left
      · intro w hSw
        try dsimp only at hSw
        go_simp
        try with_reducible rfl
      try simp only [Act.put, List.setIfInBounds_toArray, List.set_cons_zero, List.set_cons_succ]
      refine wpAnyH_ready (rs := [10]) (by kernel_rfl) (by simp) ?_
      refine AllReadyH.cons (by simp only [List.getElem?_toArray, List.getElem?_cons_zero, List.getElem?_cons_succ]; rfl) (fun K hK => ?_) AllReadyH.nil
      go_simp
      refine (unhide HT _ hHeld.2).mono ?_
      rintro e w8 ⟨rfl, hk8⟩
      go_wp2_with fail
      refine hK.out _ _ (keep1 hk8 b0.out) (fun hHeld => ?_)
      clear hK K
      try simp only [Act.put, List.setIfInBounds_toArray, List.set_cons_zero, List.set_cons_succ]
      refine wpAnyH_ready (rs := [11]) (by kernel_rfl) (by simp) ?_
      refine AllReadyH.cons (by simp only [List.getElem?_toArray, List.getElem?_cons_zero, List.getElem?_cons_succ]; rfl) (fun K hK => ?_) AllReadyH.nil
      go_simp
      refine (unhide HM _ hHeld.2).mono ?_
      rintro e w9 ⟨rfl, hk9⟩
      go_wp2_with fail
      refine hK.out _ _ (keep1 hk9 b0.out) (fun hHeld => ?_)
      clear hK K
      try simp only [Act.put, List.setIfInBounds_toArray, List.set_cons_zero, List.set_cons_succ]
      refine wpAnyH_take (i := 12) (v := ?_) (by simp only [List.getElem?_toArray, List.getElem?_cons_zero, List.getElem?_cons_succ]; rfl) (by kernel_rfl) (by kernel_rfl) (by kernel_rfl) (by exact fun _ _ _ h => h) (Or.inl ⟨by rfl, ?_⟩) (by assumption) ?_
      rotate_left
      · intro w hSw
        try dsimp only at hSw
        go_simp
        try with_reducible rfl
      try simp only [Act.put, List.setIfInBounds_toArray, List.set_cons_zero, List.set_cons_succ]
      refine wpAnyH_take (i := 13) (v := ?_) (by simp only [List.getElem?_toArray, List.getElem?_cons_zero, List.getElem?_cons_succ]; rfl) (by kernel_rfl) (by kernel_rfl) (by kernel_rfl) (by exact fun _ _ _ h => h) (Or.inl ⟨by rfl, ?_⟩) (by assumption) ?_
      rotate_left
      · intro w hSw
        try dsimp only at hSw
        go_simp
        try with_reducible rfl
      try simp only [Act.put, List.setIfInBounds_toArray, List.set_cons_zero, List.set_cons_succ]
      refine wpAnyH_take (i := 14) (v := ?_) (by simp only [List.getElem?_toArray, List.getElem?_cons_zero, List.getElem?_cons_succ]; rfl) (by kernel_rfl) (by kernel_rfl) (by kernel_rfl) (by exact fun _ _ _ h => h) (Or.inl ⟨by rfl, ?_⟩) (by assumption) ?_
      rotate_left
      · intro w hSw
        try dsimp only at hSw
        go_simp
        try with_reducible rfl
      try simp only [Act.put, List.setIfInBounds_toArray, List.set_cons_zero, List.set_cons_succ]
      refine wpAnyH_take (i := 15) (v := undef) (by simp only [List.getElem?_toArray, List.getElem?_cons_zero, List.getElem?_cons_succ]; rfl) (by kernel_rfl) (by kernel_rfl) (by kernel_rfl) (by exact fun _ _ _ h => h) (Or.inr ⟨by rfl, rfl⟩) (by assumption) ?_
      try simp only [Act.put, List.setIfInBounds_toArray, List.set_cons_zero, List.set_cons_succ]
      refine wpAnyH_take (i := 16) (v := undef) (by simp only [List.getElem?_toArray, List.getElem?_cons_zero, List.getElem?_cons_succ]; rfl) (by kernel_rfl) (by kernel_rfl) (by kernel_rfl) (by exact fun _ _ _ h => h) (Or.inr ⟨by rfl, rfl⟩) (by assumption) ?_
      try simp only [Act.put, List.setIfInBounds_toArray, List.set_cons_zero, List.set_cons_succ]
      refine wpAnyH_take (i := 17) (v := undef) (by simp only [List.getElem?_toArray, List.getElem?_cons_zero, List.getElem?_cons_succ]; rfl) (by kernel_rfl) (by kernel_rfl) (by kernel_rfl) (by exact fun _ _ _ h => h) (Or.inr ⟨by rfl, rfl⟩) (by assumption) ?_
      try simp only [Act.put, List.setIfInBounds_toArray, List.set_cons_zero, List.set_cons_succ]
      refine wpAnyH_take (i := 18) (v := undef) (by simp only [List.getElem?_toArray, List.getElem?_cons_zero, List.getElem?_cons_succ]; rfl) (by kernel_rfl) (by kernel_rfl) (by kernel_rfl) (by exact fun _ _ _ h => h) (Or.inr ⟨by rfl, rfl⟩) (by assumption) ?_
      try simp only [Act.put, List.setIfInBounds_toArray, List.set_cons_zero, List.set_cons_succ]
      refine wpAnyH_take (i := 19) (v := undef) (by simp only [List.getElem?_toArray, List.getElem?_cons_zero, List.getElem?_cons_succ]; rfl) (by kernel_rfl) (by kernel_rfl) (by kernel_rfl) (by exact fun _ _ _ h => h) (Or.inr ⟨by rfl, rfl⟩) (by assumption) ?_
      try simp only [Act.put, List.setIfInBounds_toArray, List.set_cons_zero, List.set_cons_succ]
      refine wpAnyH_take (i := 20) (v := undef) (by simp only [List.getElem?_toArray, List.getElem?_cons_zero, List.getElem?_cons_succ]; rfl) (by kernel_rfl) (by kernel_rfl) (by kernel_rfl) (by exact fun _ _ _ h => h) (Or.inr ⟨by rfl, rfl⟩) (by assumption) ?_
      try simp only [Act.put, List.setIfInBounds_toArray, List.set_cons_zero, List.set_cons_succ]
      refine wpAnyH_take (i := 21) (v := ?_) (by simp only [List.getElem?_toArray, List.getElem?_cons_zero, List.getElem?_cons_succ]; rfl) (by kernel_rfl) (by kernel_rfl) (by kernel_rfl) (by exact fun _ _ _ h => h) (Or.inl ⟨by rfl, ?_⟩) (by assumption) ?_
      rotate_left
      · intro w hSw
        try dsimp only at hSw
        go_simp
        try with_reducible rfl
      try simp only [Act.put, List.setIfInBounds_toArray, List.set_cons_zero, List.set_cons_succ]
      refine wpAnyH_take (i := 22) (v := ?_) (by simp only [List.getElem?_toArray, List.getElem?_cons_zero, List.getElem?_cons_succ]; rfl) (by kernel_rfl) (by kernel_rfl) (by kernel_rfl) (by exact fun _ _ _ h => h) (Or.inl ⟨by rfl, ?_⟩) (by assumption) ?_
      rotate_left
      · intro w hSw
        try dsimp only at hSw
        go_simp
        try with_reducible rfl
      try simp only [Act.put, List.setIfInBounds_toArray, List.set_cons_zero, List.set_cons_succ]
      refine wpAnyH_take (i := 23) (v := ?_) (by simp only [List.getElem?_toArray, List.getElem?_cons_zero, List.getElem?_cons_succ]; rfl) (by kernel_rfl) (by kernel_rfl) (by kernel_rfl) (by exact fun _ _ _ h => h) (Or.inl ⟨by rfl, ?_⟩) (by assumption) ?_
      rotate_left
      · intro w hSw
        try dsimp only at hSw
        go_simp
        try with_reducible rfl
      try simp only [Act.put, List.setIfInBounds_toArray, List.set_cons_zero, List.set_cons_succ]
      refine wpAnyH_done (by kernel_rfl) ?_ _
      go_wp2_with fail
      go_ret
      exact ⟨rfl, hw0.trans (hk9.mono hw0.size)⟩
    · have HY := hide (show inE ss xs = imgE xs by unfold inE; rw [if_neg g0])
      have HZ := hide (inN_zero (ss := ss) (.inl g0))
      rw [HY.out, HZ.out]
      have q3 : (imgE xs == imgE xs) = true := by simp
      have q4 : (imgE xs != 0) = true := by simpa using g0
      have q5 : (imgE xs == 0) = false := by simpa using g0
      clear g0 HY
      generalize imgE xs = g at *
      go_upto_region 9 with fail
      go_quiet (fail)
      go_wp2_with fail
      go_ret
      exact ⟨rfl, below_drewN hw0 _⟩
  · have HX1 := hide (show nameE ss s = 0 by unfold nameE; rw [if_neg h0])
    have HZ := hide (inN_zero (xs := xs) (.inr h0))
    have q2 : (bookE ss != 0) = true := by simpa using h0
    have q6 : (bookE ss == 0) = false := by simpa using h0
    have q7 : (bookE ss == bookE ss) = true := by simp
    rw [HX1.out, HZ.out]
    obtain ⟨r, hr⟩ : ∃ r : Int, r = bookE ss := ⟨_, rfl⟩
    have HE1 := hide (fun (e : imgE xs = 0) => show inE ss xs = r by unfold inE; rw [if_pos e, hr])
    rw [← hr] at q1 q2 q6 q7 ⊢
    clear hr h0
    go_wp2_with fail
    refine (unhide HI _ (h2.below hw0)).mono ?_
    rintro e w7 ⟨rfl, rfl⟩
    by_cases g0 : imgE xs = 0
    · rw [HE1.out g0, g0]
      clear g0
      go_upto_region 9 with fail
      go_quiet (fail)
      go_wp2_with fail
      go_ret
      exact ⟨rfl, below_drewN hw0 _⟩
    · have HY := hide (show inE ss xs = imgE xs by unfold inE; rw [if_neg g0])
      rw [HY.out]
      have q3 : (imgE xs == imgE xs) = true := by simp
      have q4 : (imgE xs != 0) = true := by simpa using g0
      have q5 : (imgE xs == 0) = false := by simpa using g0
      clear g0 HY HE1
      generalize imgE xs = g at *
      go_upto_region 9 with fail
      go_quiet (fail)
      go_wp2_with fail
      go_ret
      exact ⟨rfl, below_drewN hw0 _⟩

end Go.Proofs.YtanpglfpopbfkabDoor
