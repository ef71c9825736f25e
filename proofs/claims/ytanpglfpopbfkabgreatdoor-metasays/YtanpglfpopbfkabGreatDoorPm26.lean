/- The law MetaSays, walked. -/
import Derived.Test.YtanpglfpopbfkabGreatDoorPm13
import Derived.Test.YtanpglfpopbfkabGreatDoorPm22
import Derived.Test.YtanpglfpopbfkabGreatDoorPm23
import Derived.Test.YtanpglfpopbfkabGreatDoorPm24
import Derived.Test.YtanpglfpopbfkabGreatDoorPm25
import Derived.Deep.DeepCutAuto
import Derived.Deep.RegionHeld
namespace Go.Proofs.YtanpglfpopbfkabGreatDoor
open Go.RowKit

theorem nil_empty : (⟨#[]⟩ : ByteArray).toList.isEmpty = true := by
  first
    | simp
    | decide +kernel
    | simp [ByteArray.toList, ByteArray.toList.loop]

theorem keep6 {w w' : World} {k j : Nat} {r l : TypeId} {a b c d e f : Value} (hb : Below w.heap.size w w') (h0 : w.heap[k]? = some (.cells #[a, b, c] r (0, 0))) (h1 : w.heap[j]? = some (.cells #[d, e, f] l (0, 0))) :
    w'.cell? ⟨k, 0, none⟩ = some a ∧ w'.cell? ⟨k, 1, none⟩ = some b ∧ w'.cell? ⟨k, 2, none⟩ = some c ∧ w'.cell? ⟨j, 0, none⟩ = some d ∧ w'.cell? ⟨j, 1, none⟩ = some e ∧ w'.cell? ⟨j, 2, none⟩ = some f ∧ Below w.heap.size w w' := by
  have g0 := blk_below h0 hb
  have g1 := blk_below h1 hb
  exact ⟨blk_cell g0 0 _ rfl, blk_cell g0 1 _ rfl, blk_cell g0 2 _ rfl, blk_cell g1 0 _ rfl, blk_cell g1 1 _ rfl, blk_cell g1 2 _ rfl, hb⟩

set_option maxHeartbeats 3200000 in
set_option maxRecDepth 100000 in
theorem metaSays_walk (v : Int) (a : Option Addr) (n c : Nat) (t : Int) (ks : List Int) (x y : Int) (a1 : Option Addr) (n1 c1 : Nat) (ts : List T3) (a2 : Option Addr) (n2 c2 : Nat) (ws : List Int) (s : ByteArray) (w : World)
    (h : IsInts w a ks) (hn : ks.length = n) (hm : n ≤ maxLen) (h1 : IsTgts w a1 ts) (hn1 : ts.length = n1) (hm1 : n1 ≤ maxLen) (h2 : IsInts w a2 ws) (hn2 : ws.length = n2) (hm2 : n2 ≤ maxLen) (hs : s.size ≤ maxLen) (hV : Vars w) :
    Calls Tryz.prog 3 #[rv v a n c t, relv x y a1 n1 c1, .slice a2 n2 c2, .string s] w fun e w' => e = .returned (.bool true) ∧ Below w.heap.size w w' := by
  have hw0 : Below w.heap.size w ((w.alloc (.cells #[.int .i64 v, .slice a n c, .int .i64 t] 24)).alloc (.cells #[.int .i64 x, .int .i64 y, .slice a1 n1 c1] 27)) := ((Below.refl _ _).alloc (Nat.le_refl _) _).alloc (by simp) _
  have b0 := hide (blk_alloc (heap_alloc_last w (.cells #[.int .i64 v, .slice a n c, .int .i64 t] 24)) (.cells #[.int .i64 x, .int .i64 y, .slice a1 n1 c1] 27))
  have b1 := hide (heap_alloc_last (w.alloc (.cells #[.int .i64 v, .slice a n c, .int .i64 t] 24)) (.cells #[.int .i64 x, .int .i64 y, .slice a1 n1 c1] 27))
  rw [World.size_alloc] at b1
  have HA1 := hide (fun W (hW : Below w.heap.size w W) => rootText_any v a n c t ks W (h.below hW) hn hm (hV.tab.below hW))
  have HA2 := hide (fun W (hW : Below w.heap.size w W) => releaseText_any x y a1 n1 c1 ts W (h1.below hW) hn1 hm1 (hV.tab.below hW))
  have HA3 := hide (fun W (hW : Below w.heap.size w W) => imageText_any a2 n2 c2 ws W (h2.below hW) hn2 hm2 (hV.tab.below hW))
  have HA4 := hide (fun W (hW : Below w.heap.size w W) => parseRelease_any s hs W (hV.below hW))
  have HC1 := hide (fun W (hW : Below w.heap.size w W) => refCheckRoot_any v a n c t ks W (h.below hW) hn hm)
  have HC2 := hide (fun W (hW : Below w.heap.size w W) => refCheckRelease_any x y a1 n1 c1 ts W (h1.below hW) hn1 hm1)
  have HC3 := hide (fun W (hW : Below w.heap.size w W) => (refCheckImage_any a2 n2 c2 ws W (h2.below hW) hn2 hm2).mono fun _ w' q => (⟨q.1, by rw [q.2]; exact Below.refl _ _⟩ : _ ∧ Below W.heap.size W w'))
  have HW := hide (fun W (hW : Below w.heap.size w W) => lawWritten_any W (hV.tab.below hW))
  have HK1 := hide (fun W (hW : Below w.heap.size w W) => checkRoot_any v a n c t ks W (h.below hW) hn hm)
  have HK2 := hide (fun W (hW : Below w.heap.size w W) => checkRelease_any x y a1 n1 c1 ts W (h1.below hW) hn1 hm1)
  have HK3 := hide (fun W (hW : Below w.heap.size w W) => (checkImage_any a2 n2 c2 ws W (h2.below hW) hn2 hm2).mono fun _ w' q => (⟨q.1, by rw [q.2]; exact Below.refl _ _⟩ : _ ∧ Below W.heap.size W w'))
  have HR := hide (fun (hz : s.size ≤ 2000) W (hW : Below w.heap.size w W) => refReadRelease_any s hz W (hV.below hW))
  have HS := hide (fun W v2 u2 b d e ts2 v3 u3 b' d' e' ts3 (hi : IsTgts W b ts2) (hl : ts2.length = d) (hd : d ≤ maxLen) (hi' : IsTgts W b' ts3) (hl' : ts3.length = d') => sameRelease_any v2 u2 b d e ts2 v3 u3 b' d' e' ts3 W hi hl hd hi' hl')
  have HL2 := hide (fun (hz : 2000 < s.size) => show parseS s.data.toList = (0, 0, [], 2) by unfold parseS; rw [if_pos (by rw [size_data]; exact hz)])
  have HT1 := hide (fun (e : rootE v ks t = 0) W (hW : Below w.heap.size w W) => refRootText_any v a n c t ks W (h.below hW) hn e (hV.tab.below hW))
  have HT2 := hide (fun (e : relE x y ts = 0) W (hW : Below w.heap.size w W) => refReleaseText_any x y a1 n1 c1 ts W (h1.below hW) hn1 e (hV.tab.below hW))
  have HT3 := hide (fun (e : imgE ws = 0) W (hW : Below w.heap.size w W) => refImageText_any a2 n2 c2 ws W (h2.below hW) hn2 e (hV.tab.below hW))
  obtain ⟨t1, ht1⟩ : ∃ t1, t1 = bs (rootTx v ks t) := ⟨_, rfl⟩
  obtain ⟨t2, ht2⟩ : ∃ t2, t2 = bs (relTx x y ts) := ⟨_, rfl⟩
  obtain ⟨t3, ht3⟩ : ∃ t3, t3 = bs (imgTx ws) := ⟨_, rfl⟩
  rw [← ht1] at HA1
  rw [← ht2] at HA2
  rw [← ht3] at HA3
  have HX1 := hide (fun (e : rootE v ks t = 0) W (hW : Below w.heap.size w W) => show Calls Tryz.prog 20 #[rv v a n c t] W fun e w' => e = .returned (.string t1) ∧ Below W.heap.size W w' by have := HT1.out e W hW; rw [ht1]; unfold rootTx; rw [if_pos e]; exact this)
  have HX2 := hide (fun (e : relE x y ts = 0) W (hW : Below w.heap.size w W) => show Calls Tryz.prog 21 #[relv x y a1 n1 c1] W fun e w' => e = .returned (.string t2) ∧ Below W.heap.size W w' by have := HT2.out e W hW; rw [ht2]; unfold relTx; rw [if_pos e]; exact this)
  have HX3 := hide (fun (e : imgE ws = 0) W (hW : Below w.heap.size w W) => show Calls Tryz.prog 22 #[.slice a2 n2 c2] W fun e w' => e = .returned (.string t3) ∧ Below W.heap.size W w' by have := HT3.out e W hW; rw [ht3]; unfold imgTx; rw [if_pos e]; exact this)
  have HE1 := hide (fun (e : ¬ rootE v ks t = 0) => show t1 = ⟨#[]⟩ by rw [ht1]; unfold rootTx; rw [if_neg e]; rfl)
  have HE2 := hide (fun (e : ¬ relE x y ts = 0) => show t2 = ⟨#[]⟩ by rw [ht2]; unfold relTx; rw [if_neg e]; rfl)
  have HE3 := hide (fun (e : ¬ imgE ws = 0) => show t3 = ⟨#[]⟩ by rw [ht3]; unfold imgTx; rw [if_neg e]; rfl)
  clear HT1 HT2 HT3 ht1 ht2 ht3 hn hn1 hn2 h h1 h2
  generalize rootE v ks t = g1 at *
  generalize relE x y ts = g2 at *
  generalize imgE ws = g3 at *
  generalize parseS s.data.toList = pr at *
  obtain ⟨v2, u2, ts2, g4⟩ := pr
  unfold rv at HA1 HC1 HK1 HX1 ⊢
  unfold relv at HA2 HC2 HK2 HX2 HS ⊢
  go_enter Tryz.func3, Tryz.ntmps3
  go_wp2_with fail
  generalize (w.alloc (.cells #[.int .i64 v, .slice a n c, .int .i64 t] 24)).alloc (.cells #[.int .i64 x, .int .i64 y, .slice a1 n1 c1] 27) = W at *
  refine (unhide HA1 _ hw0).mono ?_
  rintro e w1 ⟨rfl, hb⟩
  replace hw0 := hw0.trans (hb.mono hw0.size)
  replace b0 := hide (blk_below b0.out hb)
  replace b1 := hide (blk_below b1.out hb)
  clear hb HA1
  have d0 := blk_cell b1.out 0 _ rfl
  have d1 := blk_cell b1.out 1 _ rfl
  have d2 := blk_cell b1.out 2 _ rfl
  go_wp2_with fail
  refine (unhide HA2 _ hw0).mono ?_
  rintro e w2 ⟨rfl, hb⟩
  replace hw0 := hw0.trans (hb.mono hw0.size)
  replace b0 := hide (blk_below b0.out hb)
  replace b1 := hide (blk_below b1.out hb)
  clear hb HA2 d0 d1 d2
  go_wp2_with fail
  refine (unhide HA3 _ hw0).mono ?_
  rintro e w3 ⟨rfl, hb⟩
  replace hw0 := hw0.trans (hb.mono hw0.size)
  replace b0 := hide (blk_below b0.out hb)
  replace b1 := hide (blk_below b1.out hb)
  clear hb HA3
  go_wp2_with fail
  refine (unhide HA4 _ hw0).mono ?_
  rintro e w4 ⟨⟨a3, n3, c3, rfl, hi3, hn3, hm3⟩, hb⟩
  replace hw0 := hw0.trans (hb.mono hw0.size)
  replace b0 := hide (blk_below b0.out hb)
  replace b1 := hide (blk_below b1.out hb)
  clear hb HA4
  unfold relv
  simp only at hi3 hn3
  have hwP := hw0.alloc hw0.size (.cells #[.int .i64 v2, .int .i64 u2, .slice a3 n3 c3] 27)
  have b2 := hide (heap_alloc_last w4 (.cells #[.int .i64 v2, .int .i64 u2, .slice a3 n3 c3] 27))
  replace b0 := hide (blk_alloc b0.out (.cells #[.int .i64 v2, .int .i64 u2, .slice a3 n3 c3] 27))
  replace b1 := hide (blk_alloc b1.out (.cells #[.int .i64 v2, .int .i64 u2, .slice a3 n3 c3] 27))
  replace hi3 := hi3.alloc (.cells #[.int .i64 v2, .int .i64 u2, .slice a3 n3 c3] 27)
  have HN3 := hide hn3
  clear hn3 hw0
  go_upto_region 5 with fail
  generalize w4.alloc (.cells #[.int .i64 v2, .int .i64 u2, .slice a3 n3 c3] 27) = wP at *
  obtain ⟨P, hP⟩ : ∃ P, P = w4.heap.size := ⟨_, rfl⟩
  rw [← hP] at b2 ⊢
  clear hP
  refine wp_region_held_drew (S := fun w' => w'.cell? ⟨w.heap.size, 0, none⟩ = some (.int .i64 v) ∧ w'.cell? ⟨w.heap.size, 1, none⟩ = some (.slice a n c) ∧ w'.cell? ⟨w.heap.size, 2, none⟩ = some (.int .i64 t) ∧ w'.cell? ⟨w.heap.size + 1, 0, none⟩ = some (.int .i64 x) ∧ w'.cell? ⟨w.heap.size + 1, 1, none⟩ = some (.int .i64 y) ∧ w'.cell? ⟨w.heap.size + 1, 2, none⟩ = some (.slice a1 n1 c1) ∧ Below wP.heap.size wP w') (by kernel_rfl) (keep6 (Below.refl _ _).drew b0.out b1.out) ?_
  intro hHeld
  refine wpAnyH_take (i := 0) (v := ?_) (by simp only [List.getElem?_toArray, List.getElem?_cons_zero]; rfl) (by kernel_rfl) (by kernel_rfl) (by kernel_rfl) (by exact fun _ _ _ h => h) (Or.inl ⟨by rfl, ?_⟩) (by assumption) ?_
  rotate_left
  · intro w hSw
    try dsimp only at hSw
    go_simp
    try with_reducible rfl
  try simp only [Act.put, List.setIfInBounds_toArray, List.set_cons_zero, List.set_cons_succ]
  refine wpAnyH_take (i := 2) (v := ?_) (by simp only [List.getElem?_toArray, List.getElem?_cons_zero, List.getElem?_cons_succ]; rfl) (by kernel_rfl) (by kernel_rfl) (by kernel_rfl) (by exact fun _ _ _ h => h) (Or.inl ⟨by rfl, ?_⟩) (by assumption) ?_
  rotate_left
  · intro w hSw
    try dsimp only at hSw
    go_simp
    try with_reducible rfl
  try simp only [Act.put, List.setIfInBounds_toArray, List.set_cons_zero, List.set_cons_succ]
  refine wpAnyH_take (i := 4) (v := ?_) (by simp only [List.getElem?_toArray, List.getElem?_cons_zero, List.getElem?_cons_succ]; rfl) (by kernel_rfl) (by kernel_rfl) (by kernel_rfl) (by exact fun _ _ _ h => h) (Or.inl ⟨by rfl, ?_⟩) (by assumption) ?_
  rotate_left
  · intro w hSw
    try dsimp only at hSw
    go_simp
    try with_reducible rfl
  try simp only [Act.put, List.setIfInBounds_toArray, List.set_cons_zero, List.set_cons_succ]
  refine wpAnyH_ready (rs := [1]) (by kernel_rfl) (by simp) ?_
  refine AllReadyH.cons (by simp only [List.getElem?_toArray, List.getElem?_cons_zero, List.getElem?_cons_succ]; rfl) (fun K hK => ?_) AllReadyH.nil
  go_simp
  refine (unhide HC1 _ (hwP.trans (hHeld.2.2.2.2.2.2.mono hwP.size))).mono ?_
  rintro e w5 ⟨rfl, hb⟩
  have hk := hHeld.2.2.2.2.2.2.trans (hb.mono hHeld.2.2.2.2.2.2.size)
  go_wp2_with fail
  refine hK.out _ _ (keep6 hk b0.out b1.out) (fun hHeld => ?_)
  clear hK K hk hb
  try simp only [Act.put, List.setIfInBounds_toArray, List.set_cons_zero, List.set_cons_succ]
  refine wpAnyH_ready (rs := [3]) (by kernel_rfl) (by simp) ?_
  refine AllReadyH.cons (by simp only [List.getElem?_toArray, List.getElem?_cons_zero, List.getElem?_cons_succ]; rfl) (fun K hK => ?_) AllReadyH.nil
  go_simp
  refine (unhide HC2 _ (hwP.trans (hHeld.2.2.2.2.2.2.mono hwP.size))).mono ?_
  rintro e w6 ⟨rfl, hb⟩
  have hk := hHeld.2.2.2.2.2.2.trans (hb.mono hHeld.2.2.2.2.2.2.size)
  go_wp2_with fail
  refine hK.out _ _ (keep6 hk b0.out b1.out) (fun hHeld => ?_)
  clear hK K hk hb
  try simp only [Act.put, List.setIfInBounds_toArray, List.set_cons_zero, List.set_cons_succ]
  refine wpAnyH_ready (rs := [5]) (by kernel_rfl) (by simp) ?_
  refine AllReadyH.cons (by simp only [List.getElem?_toArray, List.getElem?_cons_zero, List.getElem?_cons_succ]; rfl) (fun K hK => ?_) AllReadyH.nil
  go_simp
  refine (unhide HC3 _ (hwP.trans (hHeld.2.2.2.2.2.2.mono hwP.size))).mono ?_
  rintro e w7 ⟨rfl, hb⟩
  have hk := hHeld.2.2.2.2.2.2.trans (hb.mono hHeld.2.2.2.2.2.2.size)
  go_wp2_with fail
  refine hK.out _ _ (keep6 hk b0.out b1.out) (fun hHeld => ?_)
  clear hK K hk hb
  try simp only [Act.put, List.setIfInBounds_toArray, List.set_cons_zero, List.set_cons_succ]
  refine wpAnyH_take (i := 6) (v := ?_) (by simp only [List.getElem?_toArray, List.getElem?_cons_zero, List.getElem?_cons_succ]; rfl) (by kernel_rfl) (by kernel_rfl) (by kernel_rfl) (by exact fun _ _ _ h => h) (Or.inl ⟨by rfl, ?_⟩) (by assumption) ?_
  rotate_left
  · intro w hSw
    try dsimp only at hSw
    go_simp
    try with_reducible rfl
  try simp only [Act.put, List.setIfInBounds_toArray, List.set_cons_zero, List.set_cons_succ]
  refine wpAnyH_take (i := 7) (v := ?_) (by simp only [List.getElem?_toArray, List.getElem?_cons_zero, List.getElem?_cons_succ]; rfl) (by kernel_rfl) (by kernel_rfl) (by kernel_rfl) (by exact fun _ _ _ h => h) (Or.inl ⟨by rfl, ?_⟩) (by assumption) ?_
  rotate_left
  · intro w hSw
    try dsimp only at hSw
    go_simp
    try with_reducible rfl
  try simp only [Act.put, List.setIfInBounds_toArray, List.set_cons_zero, List.set_cons_succ]
  refine wpAnyH_take (i := 8) (v := ?_) (by simp only [List.getElem?_toArray, List.getElem?_cons_zero, List.getElem?_cons_succ]; rfl) (by kernel_rfl) (by kernel_rfl) (by kernel_rfl) (by exact fun _ _ _ h => h) (Or.inl ⟨by rfl, ?_⟩) (by assumption) ?_
  rotate_left
  · intro w hSw
    try dsimp only at hSw
    go_simp
    try with_reducible rfl
  try simp only [Act.put, List.setIfInBounds_toArray, List.set_cons_zero, List.set_cons_succ]
  refine wpAnyH_done (by kernel_rfl) ?_ _
  clear HC1 HC2 HC3
  have hw8 := hwP.trans (hHeld.2.2.2.2.2.2.mono hwP.size)
  replace b0 := hide (blk_below b0.out hHeld.2.2.2.2.2.2)
  replace b1 := hide (blk_below b1.out hHeld.2.2.2.2.2.2)
  replace b2 := hide (blk_below b2.out hHeld.2.2.2.2.2.2)
  replace hi3 := hi3.below hHeld.2.2.2.2.2.2
  clear hHeld hwP
  have q1 : (g1 != g1) = false := by simp
  have q2 : (g2 != g2) = false := by simp
  have q3 : (g3 != g3) = false := by simp
  obtain ⟨w8, rfl⟩ : ∃ w8 : World, w8 = w7 := ⟨_, rfl⟩
  go_upto_region 6 with fail
  go_cut [82] (fun v82 wx => v82 = .bool false ∧ Below w8.heap.size w8 wx)
  case first =>
    have hw9 := hw8
    have hb9 := Below.refl w8.heap.size w8
    go_wp2_with fail
    refine (unhide HW _ hw8).mono ?_
    rintro e wA ⟨rfl, hbA⟩
    have hwA := hw8.trans (hbA.mono hw8.size)
    have bA0 := hide (blk_below b0.out hbA)
    have bA1 := hide (blk_below b1.out hbA)
    have x0 := blk_cell bA0.out 0 _ rfl
    have x1 := blk_cell bA0.out 1 _ rfl
    have x2 := blk_cell bA0.out 2 _ rfl
    go_wp2_with fail
    refine (unhide HK1 _ hwA).mono ?_
    rintro e wB ⟨rfl, hbB⟩
    replace hbA := hbA.trans (hbB.mono hbA.size)
    clear x0 x1 x2
    replace hwA := hw8.trans (hbA.mono hw8.size)
    replace bA1 := hide (blk_below bA1.out hbB)
    have d0 := blk_cell bA1.out 0 _ rfl
    have d1 := blk_cell bA1.out 1 _ rfl
    have d2 := blk_cell bA1.out 2 _ rfl
    go_wp2_with fail
    refine (unhide HK2 _ hwA).mono ?_
    rintro e wC ⟨rfl, hbC⟩
    replace hbA := hbA.trans (hbC.mono hbA.size)
    clear d0 d1 d2
    replace hwA := hw8.trans (hbA.mono hw8.size)
    go_wp2_with fail
    refine (unhide HK3 _ hwA).mono ?_
    rintro e wD ⟨rfl, hbD⟩
    replace hbA := hbA.trans (hbD.mono hbA.size)
    go_wp2_with fail
    go_meet
    case rel => exact ⟨rfl, hbA⟩
  case rest =>
  obtain ⟨rfl, hbc⟩ := hcut
  replace hw8 := hw8.trans (hbc.mono hw8.size)
  replace b0 := hide (blk_below b0.out hbc)
  replace b1 := hide (blk_below b1.out hbc)
  replace b2 := hide (blk_below b2.out hbc)
  replace hi3 := hi3.below hbc
  clear hbc HK1 HK2 HK3 HW
  obtain ⟨w9, rfl⟩ : ∃ w9 : World, w9 = wc := ⟨_, rfl⟩
  go_upto_region 8 with fail
  go_cut [134] (fun v134 wx => v134 = .bool false ∧ Below w9.heap.size w9 wx)
  case first =>
    have hb9 := Below.refl w9.heap.size w9
    have z1 : (t1.toList != t1.toList) = false := by simp
    have z2 : (t2.toList != t2.toList) = false := by simp
    have z3 : (t3.toList != t3.toList) = false := by simp
    by_cases e1 : g1 = 0
    · replace HX1 := hide (HX1.out e1)
      have r1 : (g1 == 0) = true := by simpa using e1
      have s1 : (g1 != 0) = false := by simpa using e1
      clear e1 HE1
      by_cases e2 : g2 = 0
      · replace HX2 := hide (HX2.out e2)
        have r2 : (g2 == 0) = true := by simpa using e2
        have s2 : (g2 != 0) = false := by simpa using e2
        clear e2 HE2
        by_cases e3 : g3 = 0
        · replace HX3 := hide (HX3.out e3)
          have r3 : (g3 == 0) = true := by simpa using e3
          have s3 : (g3 != 0) = false := by simpa using e3
          clear e3 HE3
          have x0 := blk_cell b0.out 0 _ rfl
          have x1 := blk_cell b0.out 1 _ rfl
          have x2 := blk_cell b0.out 2 _ rfl
          go_wp2_with fail
          refine (unhide HX1 _ (hw8.trans (hb9.mono hw8.size))).mono ?_
          rintro e wA1 ⟨rfl, hb⟩
          replace hb9 := hb9.trans (hb.mono hb9.size)
          clear hb x0 x1 x2
          have bA := hide (blk_below b1.out hb9)
          have d0 := blk_cell bA.out 0 _ rfl
          have d1 := blk_cell bA.out 1 _ rfl
          have d2 := blk_cell bA.out 2 _ rfl
          go_wp2_with fail
          refine (unhide HX2 _ (hw8.trans (hb9.mono hw8.size))).mono ?_
          rintro e wA2 ⟨rfl, hb⟩
          replace hb9 := hb9.trans (hb.mono hb9.size)
          clear hb d0 d1 d2
          go_wp2_with fail
          refine (unhide HX3 _ (hw8.trans (hb9.mono hw8.size))).mono ?_
          rintro e wA3 ⟨rfl, hb⟩
          replace hb9 := hb9.trans (hb.mono hb9.size)
          clear hb
          go_wp2_with fail
          go_meet
          case rel => exact ⟨rfl, hb9⟩
        · have k3 := HE3.out e3
          have r3 : (g3 == 0) = false := by simpa using e3
          have s3 : (g3 != 0) = true := by simpa using e3
          have m3 : t3.toList.isEmpty = true := by rw [k3]; exact nil_empty
          clear e3 k3 HE3 HX3 z3
          have x0 := blk_cell b0.out 0 _ rfl
          have x1 := blk_cell b0.out 1 _ rfl
          have x2 := blk_cell b0.out 2 _ rfl
          go_wp2_with fail
          refine (unhide HX1 _ (hw8.trans (hb9.mono hw8.size))).mono ?_
          rintro e wA1 ⟨rfl, hb⟩
          replace hb9 := hb9.trans (hb.mono hb9.size)
          clear hb x0 x1 x2
          have bA := hide (blk_below b1.out hb9)
          have d0 := blk_cell bA.out 0 _ rfl
          have d1 := blk_cell bA.out 1 _ rfl
          have d2 := blk_cell bA.out 2 _ rfl
          go_wp2_with fail
          refine (unhide HX2 _ (hw8.trans (hb9.mono hw8.size))).mono ?_
          rintro e wA2 ⟨rfl, hb⟩
          replace hb9 := hb9.trans (hb.mono hb9.size)
          clear hb d0 d1 d2
          go_wp2_with fail
          go_meet
          case rel => exact ⟨rfl, hb9⟩
      · have k2 := HE2.out e2
        have r2 : (g2 == 0) = false := by simpa using e2
        have s2 : (g2 != 0) = true := by simpa using e2
        have m2 : t2.toList.isEmpty = true := by rw [k2]; exact nil_empty
        clear e2 k2 HE2 HX2 z2
        by_cases e3 : g3 = 0
        · replace HX3 := hide (HX3.out e3)
          have r3 : (g3 == 0) = true := by simpa using e3
          have s3 : (g3 != 0) = false := by simpa using e3
          clear e3 HE3
          have x0 := blk_cell b0.out 0 _ rfl
          have x1 := blk_cell b0.out 1 _ rfl
          have x2 := blk_cell b0.out 2 _ rfl
          go_wp2_with fail
          refine (unhide HX1 _ (hw8.trans (hb9.mono hw8.size))).mono ?_
          rintro e wA1 ⟨rfl, hb⟩
          replace hb9 := hb9.trans (hb.mono hb9.size)
          clear hb x0 x1 x2
          go_wp2_with fail
          refine (unhide HX3 _ (hw8.trans (hb9.mono hw8.size))).mono ?_
          rintro e wA3 ⟨rfl, hb⟩
          replace hb9 := hb9.trans (hb.mono hb9.size)
          clear hb
          go_wp2_with fail
          go_meet
          case rel => exact ⟨rfl, hb9⟩
        · have k3 := HE3.out e3
          have r3 : (g3 == 0) = false := by simpa using e3
          have s3 : (g3 != 0) = true := by simpa using e3
          have m3 : t3.toList.isEmpty = true := by rw [k3]; exact nil_empty
          clear e3 k3 HE3 HX3 z3
          have x0 := blk_cell b0.out 0 _ rfl
          have x1 := blk_cell b0.out 1 _ rfl
          have x2 := blk_cell b0.out 2 _ rfl
          go_wp2_with fail
          refine (unhide HX1 _ (hw8.trans (hb9.mono hw8.size))).mono ?_
          rintro e wA1 ⟨rfl, hb⟩
          replace hb9 := hb9.trans (hb.mono hb9.size)
          clear hb x0 x1 x2
          go_wp2_with fail
          go_meet
          case rel => exact ⟨rfl, hb9⟩
    · have k1 := HE1.out e1
      have r1 : (g1 == 0) = false := by simpa using e1
      have s1 : (g1 != 0) = true := by simpa using e1
      have m1 : t1.toList.isEmpty = true := by rw [k1]; exact nil_empty
      clear e1 k1 HE1 HX1 z1
      by_cases e2 : g2 = 0
      · replace HX2 := hide (HX2.out e2)
        have r2 : (g2 == 0) = true := by simpa using e2
        have s2 : (g2 != 0) = false := by simpa using e2
        clear e2 HE2
        by_cases e3 : g3 = 0
        · replace HX3 := hide (HX3.out e3)
          have r3 : (g3 == 0) = true := by simpa using e3
          have s3 : (g3 != 0) = false := by simpa using e3
          clear e3 HE3
          have d0 := blk_cell b1.out 0 _ rfl
          have d1 := blk_cell b1.out 1 _ rfl
          have d2 := blk_cell b1.out 2 _ rfl
          go_wp2_with fail
          refine (unhide HX2 _ (hw8.trans (hb9.mono hw8.size))).mono ?_
          rintro e wA2 ⟨rfl, hb⟩
          replace hb9 := hb9.trans (hb.mono hb9.size)
          clear hb d0 d1 d2
          go_wp2_with fail
          refine (unhide HX3 _ (hw8.trans (hb9.mono hw8.size))).mono ?_
          rintro e wA3 ⟨rfl, hb⟩
          replace hb9 := hb9.trans (hb.mono hb9.size)
          clear hb
          go_wp2_with fail
          go_meet
          case rel => exact ⟨rfl, hb9⟩
        · have k3 := HE3.out e3
          have r3 : (g3 == 0) = false := by simpa using e3
          have s3 : (g3 != 0) = true := by simpa using e3
          have m3 : t3.toList.isEmpty = true := by rw [k3]; exact nil_empty
          clear e3 k3 HE3 HX3 z3
          have d0 := blk_cell b1.out 0 _ rfl
          have d1 := blk_cell b1.out 1 _ rfl
          have d2 := blk_cell b1.out 2 _ rfl
          go_wp2_with fail
          refine (unhide HX2 _ (hw8.trans (hb9.mono hw8.size))).mono ?_
          rintro e wA2 ⟨rfl, hb⟩
          replace hb9 := hb9.trans (hb.mono hb9.size)
          clear hb d0 d1 d2
          go_wp2_with fail
          go_meet
          case rel => exact ⟨rfl, hb9⟩
      · have k2 := HE2.out e2
        have r2 : (g2 == 0) = false := by simpa using e2
        have s2 : (g2 != 0) = true := by simpa using e2
        have m2 : t2.toList.isEmpty = true := by rw [k2]; exact nil_empty
        clear e2 k2 HE2 HX2 z2
        by_cases e3 : g3 = 0
        · replace HX3 := hide (HX3.out e3)
          have r3 : (g3 == 0) = true := by simpa using e3
          have s3 : (g3 != 0) = false := by simpa using e3
          clear e3 HE3
          go_wp2_with fail
          refine (unhide HX3 _ (hw8.trans (hb9.mono hw8.size))).mono ?_
          rintro e wA3 ⟨rfl, hb⟩
          replace hb9 := hb9.trans (hb.mono hb9.size)
          clear hb
          go_wp2_with fail
          go_meet
          case rel => exact ⟨rfl, hb9⟩
        · have k3 := HE3.out e3
          have r3 : (g3 == 0) = false := by simpa using e3
          have s3 : (g3 != 0) = true := by simpa using e3
          have m3 : t3.toList.isEmpty = true := by rw [k3]; exact nil_empty
          clear e3 k3 HE3 HX3 z3
          go_wp2_with fail
          go_meet
          case rel => exact ⟨rfl, hb9⟩
  case rest =>
  obtain ⟨rfl, hbc⟩ := hcut
  replace hw8 := hw8.trans (hbc.mono hw8.size)
  replace b2 := hide (blk_below b2.out hbc)
  replace hi3 := hi3.below hbc
  clear hbc b0 b1 HX1 HX2 HX3 HE1 HE2 HE3
  obtain ⟨wX, rfl⟩ : ∃ wX : World, wX = wc := ⟨_, rfl⟩
  have p0 := blk_cell b2.out 0 _ rfl
  have p1 := blk_cell b2.out 1 _ rfl
  have p2 := blk_cell b2.out 2 _ rfl
  unfold maxLen at hs
  by_cases hz : 2000 < s.size
  · have hd : decide ((2000 : Int) < (s.size : Int)) = true := by simp; omega
    have e := HL2.out hz
    obtain ⟨rfl, rfl, rfl, rfl⟩ : v2 = 0 ∧ u2 = 0 ∧ ts2 = [] ∧ g4 = 2 := by simpa using e
    have HS1 := hide (HS.out wX 0 0 a3 n3 c3 [] 0 0 none 0 0 [] hi3 HN3.out hm3 (.inl rfl) rfl)
    rw [show sameB 0 0 [] 0 0 [] = true by decide] at HS1
    clear e hz HS HR
    go_wp2_with fail
    refine (unhide HS1).mono ?_
    rintro e wY ⟨rfl, hbY⟩
    go_wp2_with fail
    go_ret
    exact ⟨rfl, hw8.trans (hbY.mono hw8.size)⟩
  · have hd : decide ((2000 : Int) < (s.size : Int)) = false := by simp; omega
    have HRr := hide (HR.out (by omega) wX hw8)
    clear hz HR HL2
    go_wp2_with fail
    refine (unhide HRr).mono ?_
    rintro e wY ⟨⟨a5, n5, c5, rfl, hi5, hn5, hm5⟩, hbY⟩
    simp only at hi5 hn5
    clear p0 p1 p2
    replace hw8 := hw8.trans (hbY.mono hw8.size)
    replace b2 := hide (blk_below b2.out hbY)
    replace hi3 := hi3.below hbY
    clear hbY HRr
    unfold relv
    have hwZ := hw8.alloc hw8.size (.cells #[.int .i64 v2, .int .i64 u2, .slice a5 n5 c5] 27)
    have b5 := hide (heap_alloc_last wY (.cells #[.int .i64 v2, .int .i64 u2, .slice a5 n5 c5] 27))
    replace b2 := hide (blk_alloc b2.out (.cells #[.int .i64 v2, .int .i64 u2, .slice a5 n5 c5] 27))
    replace hi3 := hi3.alloc (.cells #[.int .i64 v2, .int .i64 u2, .slice a5 n5 c5] 27)
    replace hi5 := hi5.alloc (.cells #[.int .i64 v2, .int .i64 u2, .slice a5 n5 c5] 27)
    have HS1 := hide (HS.out _ v2 u2 a3 n3 c3 ts2 v2 u2 a5 n5 c5 ts2 hi3 HN3.out hm3 hi5 hn5)
    rw [show sameB v2 u2 ts2 v2 u2 ts2 = true by unfold sameB; simp] at HS1
    have q4 : (g4 == g4) = true := by simp
    clear HS hw8 hn5
    go_upto_region 13 with fail
    generalize wY.alloc (.cells #[.int .i64 v2, .int .i64 u2, .slice a5 n5 c5] 27) = wZ at *
    have p0 := blk_cell b2.out 0 _ rfl
    have p1 := blk_cell b2.out 1 _ rfl
    have p2 := blk_cell b2.out 2 _ rfl
    have r0 := blk_cell b5.out 0 _ rfl
    have r1 := blk_cell b5.out 1 _ rfl
    have r2 := blk_cell b5.out 2 _ rfl
    go_wp2_with fail
    refine (unhide HS1).mono ?_
    rintro e wE ⟨rfl, hbE⟩
    go_wp2_with fail
    go_ret
    exact ⟨rfl, hwZ.trans (hbE.mono hwZ.size)⟩

end Go.Proofs.YtanpglfpopbfkabGreatDoor
