/- The law TrustCounts, walked. -/
import Derived.Test.YtanpglfpopbfkabDoorTCon
import Derived.Test.YtanpglfpopbfkabDoorTFct
namespace Go.Proofs.YtanpglfpopbfkabDoor
open Go.RowKit

set_option maxRecDepth 100000 in
set_option maxHeartbeats 400000 in
theorem revI_none (a : Option Addr) (c : Nat) (w : World) :
    Calls Tryd.prog 36 #[.slice a 0 c] w fun e w' => e = .returned (.tuple #[]) ∧ w' = w := by
  go_enter Tryd.func36, Tryd.ntmps36
  go_wp2
  go_loopw [2, 3] (fun s2 s3 wr => s2 = .int .i64 0 ∧ s3 = .int .i64 (-1) ∧ wr = w) (fun _ _ _ => 0)
  case atStart => exact ⟨rfl, rfl, rfl⟩
  case round =>
    obtain ⟨rfl, rfl, rfl⟩ := hrel
    go_wp2
    go_end0
    exact ⟨rfl, rfl⟩
set_option maxRecDepth 100000 in
set_option maxHeartbeats 400000 in
theorem revG_none (a : Option Addr) (c : Nat) (w : World) :
    Calls Tryd.prog 38 #[.slice a 0 c] w fun e w' => e = .returned (.tuple #[]) ∧ w' = w := by
  go_enter Tryd.func38, Tryd.ntmps38
  go_wp2
  go_loopw [2, 3] (fun s2 s3 wr => s2 = .int .i64 0 ∧ s3 = .int .i64 (-1) ∧ wr = w) (fun _ _ _ => 0)
  case atStart => exact ⟨rfl, rfl, rfl⟩
  case round =>
    obtain ⟨rfl, rfl, rfl⟩ := hrel
    go_wp2
    go_end0
    exact ⟨rfl, rfl⟩

theorem below_of_grown {B g : Nat} {w w' : World} (h : w.grownBy w' (some g)) (hg : B ≤ g) (hB : B ≤ w.heap.size) : Below B w w' :=
  (Below.refl B w).grown h hB (fun k e => by cases e; exact hg)

theorem revI_cl (a : Option Addr) (c B : Nat) (xs : List Int) (w : World) (h : w.ownsRow B 3 1 (.slice a xs.length c) xs.length (vals xs)) (hm : xs.length ≤ maxLen) (hB : B ≤ w.heap.size) :
    Calls Tryd.prog 36 #[.slice a xs.length c] w fun e w' => e = .returned (.tuple #[]) ∧ (∃ ys, Alike xs ys ∧ BI w' a xs.length ys) ∧ Below B w w' := by
  obtain ⟨_, ⟨hv, h0⟩ | ⟨g, cap', cur, hv, hg, hh, hc, _, _, ht⟩⟩ := h
  · obtain rfl : xs = [] := List.eq_nil_of_length_eq_zero h0
    refine (revI_none a c w).mono ?_
    rintro e w' ⟨rfl, rfl⟩
    exact ⟨rfl, ⟨[], Alike.refl _, .inl rfl, rfl, Nat.zero_le _⟩, Below.refl _ _⟩
  · cases hv
    refine (revI_any g xs.length c xs w ⟨cur, _, hh, by rw [vals_length]; simpa using ht⟩ rfl hm).mono ?_
    rintro e w' ⟨rfl, ⟨ys, ha, hy⟩, hgr⟩
    exact ⟨rfl, ⟨ys, ha, hy.bi ha.1 hm⟩, below_of_grown hgr hg hB⟩
theorem revG_cl (a : Option Addr) (c B : Nat) (xs : List S2) (w : World) (h : w.ownsRow B 68 2 (.slice a xs.length c) xs.length (sgs xs)) (hm : xs.length ≤ maxLen) (hB : B ≤ w.heap.size) :
    Calls Tryd.prog 38 #[.slice a xs.length c] w fun e w' => e = .returned (.tuple #[]) ∧ (∃ ys, Alike xs ys ∧ BG w' a xs.length ys) ∧ Below B w w' := by
  obtain ⟨_, ⟨hv, h0⟩ | ⟨g, cap', cur, hv, hg, hh, hc, _, _, ht⟩⟩ := h
  · obtain rfl : xs = [] := List.eq_nil_of_length_eq_zero h0
    refine (revG_none a c w).mono ?_
    rintro e w' ⟨rfl, rfl⟩
    exact ⟨rfl, ⟨[], Alike.refl _, .inl rfl, rfl, Nat.zero_le _⟩, Below.refl _ _⟩
  · cases hv
    refine (revG_any g xs.length c xs w ⟨cur, _, hh, by rw [sgs_length]; exact ht⟩ rfl hm).mono ?_
    rintro e w' ⟨rfl, ⟨ys, ha, hy⟩, hgr⟩
    exact ⟨rfl, ⟨ys, ha, hy.bg ha.1 hm⟩, below_of_grown hgr hg hB⟩

theorem keepR {w1 W : World} {b : Nat} {r : Rt} {a : Option Addr} {n c : Nat} (hb : Below w1.heap.size w1 W) (h : w1.heap[b]? = some (rtO r a n c)) :
    W.cell? ⟨b, 0, none⟩ = some (.int .i64 r.v) ∧ W.cell? ⟨b, 1, none⟩ = some (.slice a n c) ∧ W.cell? ⟨b, 2, none⟩ = some (.int .i64 r.t) ∧ Below w1.heap.size w1 W :=
  ⟨blk_cell (blk_below h hb) 0 _ rfl, blk_cell (blk_below h hb) 1 _ rfl, blk_cell (blk_below h hb) 2 _ rfl, hb⟩

theorem keepRX {w1 W : World} {b : Nat} {r : Rt} {a : Option Addr} {n c : Nat} {u v : Value} {t : TypeId} (hb : Below w1.heap.size w1 W) (h : w1.heap[b]? = some (rtO r a n c)) (h1 : w1.heap[b + 1]? = some (.cells #[u, v] t (0, 0))) :
    W.cell? ⟨b, 0, none⟩ = some (.int .i64 r.v) ∧ W.cell? ⟨b, 1, none⟩ = some (.slice a n c) ∧ W.cell? ⟨b, 2, none⟩ = some (.int .i64 r.t) ∧ W.cell? ⟨b + 1, 0, none⟩ = some u ∧ W.cell? ⟨b + 1, 1, none⟩ = some v ∧ Below w1.heap.size w1 W :=
  ⟨blk_cell (blk_below h hb) 0 _ rfl, blk_cell (blk_below h hb) 1 _ rfl, blk_cell (blk_below h hb) 2 _ rfl, blk_cell (blk_below h1 hb) 0 _ rfl, blk_cell (blk_below h1 hb) 1 _ rfl, hb⟩
theorem news_sig (w : World) (x : S2) (t : TypeId) : ∀ j u, [Value.int .i64 x.1, .int .i64 x.2][j]? = some u → (w.alloc (.cells #[.int .i64 x.1, .int .i64 x.2] t)).cell? ((⟨w.heap.size, 0, none⟩ : Addr).add j) = some u := by
  have hb := heap_alloc_last w (.cells #[.int .i64 x.1, .int .i64 x.2] t)
  intro j u h
  rw [ad_add, Nat.zero_add]
  match j with
  | 0 => simp at h; subst h; exact blk_cell hb 0 _ rfl
  | 1 => simp at h; subst h; exact blk_cell hb 1 _ rfl
  | j + 2 => simp at h
theorem bg_append {w : World} {base g n cap : Nat} {l : List S2} {x : S2} (hl : l.length = n) (h : w.ownsRow base 68 2 (.slice (some ⟨g, 0, none⟩) (n + 1) cap) (n + 1) (sgs l ++ [.int .i64 x.1, .int .i64 x.2])) (hm : n + 1 ≤ maxLen) : BG w (some ⟨g, 0, none⟩) (n + 1) (l ++ [x]) := by
  have e : sgs l ++ [.int .i64 x.1, .int .i64 x.2] = sgs (l ++ [x]) := by unfold sgs; rw [List.flatMap_append]; rfl
  rw [e] at h
  exact (row_of h (by rw [sgs_length]; simp [hl])).1.bg (by simp [hl]) hm

theorem cat_two (w : World) (a2 : Option Addr) (c2 : Nat) (xs : List Int) (a3 : Option Addr) (c3 : Nat) (ys : List Int) (t : TypeId) (h2 : IsInts w a2 xs) (h3 : IsInts w a3 ys) :
    ∀ (i : Nat) (r : List Int), [xs, ys][i]? = some r → ∃ a c, (w.alloc (.cells #[.slice a2 xs.length c2, .slice a3 ys.length c3] t)).cell? ⟨w.heap.size, i, none⟩ = some (.slice a r.length c) ∧ IsInts (w.alloc (.cells #[.slice a2 xs.length c2, .slice a3 ys.length c3] t)) a r := by
  have hb := heap_alloc_last w (.cells #[.slice a2 xs.length c2, .slice a3 ys.length c3] t)
  intro i r hi
  match i with
  | 0 => simp at hi; subst hi; exact ⟨a2, c2, blk_cell hb 0 _ rfl, h2.alloc _⟩
  | 1 => simp at hi; subst hi; exact ⟨a3, c3, blk_cell hb 1 _ rfl, h3.alloc _⟩
  | i + 2 => simp at hi
theorem catI_two (xs ys : List Int) : catI [xs, ys] = xs ++ ys := by simp [catI]

set_option maxHeartbeats 6400000 in
set_option maxRecDepth 100000 in
theorem trustCounts_walk (a1 : Option Addr) (n1 c1 : Nat) (l : List S2) (r : Rt) (a2 : Option Addr) (n2 c2 : Nat) (a3 : Option Addr) (n3 c3 : Nat) (sigs : List Int) (a4 : Option Addr) (n4 c4 : Nat) (more : List Int) (name : Int) (x : S2) (w : World)
    (h1 : BG w a1 n1 l) (h2 : BI w a2 n2 r.ks) (h3 : BI w a3 n3 sigs) (h4 : BI w a4 n4 more) (h48 : n4 * 8 ≤ 140737488351232) (hT : Tab w) :
    Calls Tryd.prog 8 #[.slice a1 n1 c1, rv r.v a2 n2 c2 r.t, .slice a3 n3 c3, .slice a4 n4 c4, .int .i64 name, sv x] w fun e w' => e = .returned (.bool true) ∧ Below w.heap.size w w' := by
  have hw0 : Below w.heap.size w ((w.alloc (rtO r a2 n2 c2)).alloc (.cells #[.int .i64 x.1, .int .i64 x.2] 68)) := ((Below.refl _ _).alloc (Nat.le_refl _) _).alloc (by simp) _
  have b0 : Hid (((w.alloc (rtO r a2 n2 c2)).alloc (.cells #[.int .i64 x.1, .int .i64 x.2] 68)).heap[w.heap.size]? = some (rtO r a2 n2 c2)) := blk_alloc (heap_alloc_last _ _) _
  have b1 := hide (last1 w (rtO r a2 n2 c2) (.cells #[.int .i64 x.1, .int .i64 x.2] 68))
  have HF := hide (fun W (hW : Below w.heap.size w W) => lawTrusted_any W (hT.below hW))
  have HC := hide (fun W la ln lc (l' : List S2) sa sn sc (s' : List Int) (hW : Below w.heap.size w W) (hl : BG W la ln l') (hs : BI W sa sn s') => count_any la ln lc l' r a2 n2 c2 sa sn sc s' name W hl (h2.below hW) hs)
  have H1 := hide h1
  have H3 := hide h3
  have H4 := hide h4
  have L1 := hide h1.len
  have L2 := hide h2.len
  have L3 := hide h3.len
  have L4 := hide h4.len
  have m2 := h2.max
  unfold maxLen at m2
  unfold rv at HC ⊢
  unfold sv
  unfold rtO at hw0 b0 b1
  clear h1 h2 h3 h4 hT
  go_enter Tryd.func8, Tryd.ntmps8
  have x0 := blk_cell b0.out 0 _ rfl
  have x1 := blk_cell b0.out 1 _ rfl
  have x2 := blk_cell b0.out 2 _ rfl
  go_wp2_with fail
  generalize (w.alloc (.cells #[.int .i64 r.v, .slice a2 n2 c2, .int .i64 r.t] 51)).alloc (.cells #[.int .i64 x.1, .int .i64 x.2] 68) = W at *
  refine (HC.out W a1 n1 c1 l a3 n3 c3 sigs hw0 (H1.out.below hw0) (H3.out.below hw0)).mono ?_
  rintro e w1 ⟨rfl, hb⟩
  replace b0 := hide (blk_below b0.out hb)
  replace b1 := hide (blk_below b1.out hb)
  replace hw0 := hw0.trans (hb.mono hw0.size)
  clear hb x0 x1 x2
  by_cases z1 : cntE l r sigs = 0
  rotate_left
  · have hq : (cntE l r sigs != 0) = true := by simpa using z1
    clear HC z1
    generalize cntE l r sigs = q at *
    generalize cntV l r sigs name = q2 at *
    go_wp2_with fail
    refine (unhide HF _ hw0).mono ?_
    rintro e w2 ⟨rfl, hb2⟩
    replace hw0 := hw0.trans (hb2.mono hw0.size)
    go_wp2_with fail
    refine (unhide HF _ hw0).mono ?_
    rintro e w3 ⟨rfl, hb3⟩
    go_wp2_with fail
    go_ret
    exact ⟨rfl, hw0.trans (hb3.mono hw0.size)⟩
  rw [z1, cntV_0 z1]
  have Z1 := hide z1
  have E0 := hide (cntE_nil z1)
  obtain ⟨k1, k2, k3, k4, k5⟩ := cntE_root z1
  rw [L1.out] at k5
  rw [L3.out] at k4
  rw [L2.out] at k3
  have hcn : cntN l r.ks sigs name ≤ n2 := by have := cntN_le l r.ks sigs name; rwa [L2.out] at this
  obtain ⟨cn, hcne⟩ : ∃ cn, cn = cntN l r.ks sigs name := ⟨_, rfl⟩
  rw [← hcne] at hcn ⊢
  have HCN := hide hcne
  clear hcne z1 k1
  have K2 := hide k2
  clear k2
  go_wp2_with fail
  refine (unhide HF _ hw0).mono ?_
  rintro e w2 ⟨rfl, hb⟩
  replace b0 := hide (blk_below b0.out hb)
  replace b1 := hide (blk_below b1.out hb)
  replace hw0 := hw0.trans (hb.mono hw0.size)
  clear hb HF
  have x0 := blk_cell b0.out 0 _ rfl
  have x1 := blk_cell b0.out 1 _ rfl
  have x2 := blk_cell b0.out 2 _ rfl
  go_wp2_with fail
  have HN := hide (HC.out w2 a1 n1 c1 l none 0 0 [] hw0 (H1.out.below hw0) ⟨.inl rfl, rfl, Nat.zero_le _⟩)
  rw [cntV_0 E0.out, E0.out, cntN_nil] at HN
  refine (unhide HN).mono ?_
  rintro e w3 ⟨rfl, hb⟩
  replace b0 := hide (blk_below b0.out hb)
  replace b1 := hide (blk_below b1.out hb)
  replace hw0 := hw0.trans (hb.mono hw0.size)
  clear hb x0 x1 x2 HN
  have x1 := blk_cell b0.out 1 _ rfl
  have d1 : ¬ (cn : Int) < 0 := by omega
  have d2 : ¬ (n2 : Int) < (cn : Int) := by omega
  go_wp2_with fail
  rw [← L3.out]
  refine (cloneI_any a3 sigs.length c3 sigs w3 (by rw [L3.out]; exact H3.out.below hw0) (by rw [L3.out]; omega)).mono ?_
  rintro e w4 ⟨⟨ab, cb, rfl, hrow⟩, hb⟩
  go_wp2_with fail
  refine (revI_cl ab cb w3.heap.size sigs w4 hrow (by rw [L3.out]; unfold maxLen; omega) hb.size).mono ?_
  rintro e w5 ⟨rfl, ⟨bk, hak, hik⟩, hb5⟩
  rw [L3.out] at hik ⊢
  replace hb := hb.trans hb5
  replace b0 := hide (blk_below b0.out hb)
  replace b1 := hide (blk_below b1.out hb)
  replace hw0 := hw0.trans (hb.mono hw0.size)
  clear hb hb5 x1 hrow
  go_wp2_with fail
  rw [← L1.out]
  refine (cloneG_any a1 l.length c1 l w5 (by rw [L1.out]; exact H1.out.below hw0) (by rw [L1.out]; omega)).mono ?_
  rintro e w6 ⟨⟨at6, ct, rfl, hrow⟩, hb⟩
  go_wp2_with fail
  refine (revG_cl at6 ct w5.heap.size l w6 hrow (by rw [L1.out]; unfold maxLen; omega) hb.size).mono ?_
  rintro e w7 ⟨rfl, ⟨tk, hat, hit⟩, hb7⟩
  rw [L1.out] at hit ⊢
  replace hb := hb.trans hb7
  replace b0 := hide (blk_below b0.out hb)
  replace b1 := hide (blk_below b1.out hb)
  replace hw0 := hw0.trans (hb.mono hw0.size)
  replace hik := hik.below hb
  clear hb hb7 hrow
  have x0 := blk_cell b0.out 0 _ rfl
  have x1 := blk_cell b0.out 1 _ rfl
  have x2 := blk_cell b0.out 2 _ rfl
  go_wp2_with fail
  have HN := hide (HC.out w7 at6 n1 ct tk ab n3 cb bk hw0 hit hik)
  rw [cntV_0 ((cntE_alike hat hak r).trans Z1.out), cntE_alike hat hak r, Z1.out, cntN_alike hat hak, ← HCN.out] at HN
  refine (unhide HN).mono ?_
  rintro e w8 ⟨rfl, hb⟩
  replace b0 := hide (blk_below b0.out hb)
  replace b1 := hide (blk_below b1.out hb)
  replace hw0 := hw0.trans (hb.mono hw0.size)
  clear hb x0 x1 x2 HN hik hit hak hat
  go_upto_region 14 with fail
  have HCk := hide (fun W' ca cc (hW : Below w8.heap.size w8 W') (hi : BI W' ca (catI [sigs, more]).length (catI [sigs, more])) => HC.out W' a1 n1 c1 l ca (catI [sigs, more]).length cc (catI [sigs, more]) (hw0.trans (hW.mono hw0.size)) ((H1.out.below hw0).below hW) hi)
  have hlen : (catI [sigs, more]).length = n3 + n4 := by rw [catI_two, List.length_append, L3.out, L4.out]
  have HCat := hide (concatI_any w8.drew.heap.size 2 2 [sigs, more] (w8.drew.alloc (.cells #[.slice a3 n3 c3, .slice a4 n4 c4] 25)) (by
    have := cat_two w8.drew a3 c3 sigs a4 c4 more 25 (H3.out.below (hw0.trans (Below.refl _ _).drew)).at_ (H4.out.below (hw0.trans (Below.refl _ _).drew)).at_
    rw [L3.out, L4.out] at this
    exact this) rfl (by omega) (by rw [hlen]; omega))
  clear hlen
  refine wp_region_held_drew (S := fun w' => w'.cell? ⟨w.heap.size, 0, none⟩ = some (.int .i64 r.v) ∧ w'.cell? ⟨w.heap.size, 1, none⟩ = some (.slice a2 n2 c2) ∧ w'.cell? ⟨w.heap.size, 2, none⟩ = some (.int .i64 r.t) ∧ Below w8.heap.size w8 w') (by kernel_rfl) (keepR (Below.refl _ _).drew b0.out) ?_
  intro hHeld
  refine wpAnyH_take (i := 0) (v := ?_) (by simp only [List.getElem?_toArray, List.getElem?_cons_zero]; rfl) (by kernel_rfl) (by kernel_rfl) (by kernel_rfl) (by exact fun _ _ _ h => h) (Or.inl ⟨by rfl, ?_⟩) (by assumption) ?_
  rotate_left
  · intro w hSw
    try dsimp only at hSw
    go_simp
    try with_reducible rfl
  try simp only [Act.put, List.setIfInBounds_toArray, List.set_cons_zero, List.set_cons_succ]
  refine wpAnyH_take (i := 1) (v := ?_) (by simp only [List.getElem?_toArray, List.getElem?_cons_zero, List.getElem?_cons_succ]; rfl) (by kernel_rfl) (by kernel_rfl) (by kernel_rfl) (by exact fun _ _ _ h => h) (Or.inl ⟨by rfl, ?_⟩) (by assumption) ?_
  rotate_left
  · intro w hSw
    try dsimp only at hSw
    go_simp
    try with_reducible rfl
  try simp only [Act.put, List.setIfInBounds_toArray, List.set_cons_zero, List.set_cons_succ]
  refine wpAnyH_take (i := 2) (v := ?_) (by simp only [List.getElem?_toArray, List.getElem?_cons_zero, List.getElem?_cons_succ]; rfl) (by kernel_rfl) (by kernel_rfl) (by kernel_rfl) (by exact fun _ _ _ h => h) (Or.inl ⟨by rfl, ?_⟩) (by assumption) ?_
  rotate_left
  · intro w hSw
    try dsimp only at hSw
    go_simp
    try with_reducible rfl
  try simp only [Act.put, List.setIfInBounds_toArray, List.set_cons_zero, List.set_cons_succ]
  refine wpAnyH_take (i := 3) (v := ?_) (by simp only [List.getElem?_toArray, List.getElem?_cons_zero, List.getElem?_cons_succ]; rfl) (by kernel_rfl) (by kernel_rfl) (by kernel_rfl) (by exact fun _ _ _ h => h) (Or.inl ⟨by rfl, ?_⟩) (by assumption) ?_
  rotate_left
  · intro w hSw
    try dsimp only at hSw
    go_simp
    try with_reducible rfl
  try simp only [Act.put, List.setIfInBounds_toArray, List.set_cons_zero, List.set_cons_succ]
  refine wpAnyH_take (i := 6) (v := ?_) (by simp only [List.getElem?_toArray, List.getElem?_cons_zero, List.getElem?_cons_succ]; rfl) (by kernel_rfl) (by kernel_rfl) (by kernel_rfl) (by exact fun _ _ _ h => h) (Or.inl ⟨by rfl, ?_⟩) (by assumption) ?_
  rotate_left
  · intro w hSw
    try dsimp only at hSw
    go_simp
    try with_reducible rfl
  try simp only [Act.put, List.setIfInBounds_toArray, List.set_cons_zero, List.set_cons_succ]
  refine wpAnyH_ready (rs := [4]) (by kernel_rfl) (by simp) ?_
  refine AllReadyH.cons (by simp only [List.getElem?_toArray, List.getElem?_cons_zero, List.getElem?_cons_succ]; rfl) (fun K hK => ?_) AllReadyH.nil
  go_simp
  refine hK.out _ _ (keepR ((Below.refl _ _).drew.alloc (Nat.le_refl _) _) b0.out) (fun hHeld => ?_)
  clear hK K
  try simp only [Act.put, List.setIfInBounds_toArray, List.set_cons_zero, List.set_cons_succ]
  refine wpAnyH_ready (rs := [5]) (by kernel_rfl) (by simp) ?_
  refine AllReadyH.cons (by simp only [List.getElem?_toArray, List.getElem?_cons_zero, List.getElem?_cons_succ]; rfl) (fun K hK => ?_) AllReadyH.nil
  go_simp
  have HQ : Hid ((cntE l r (catI [sigs, more]) = 0 ∧ ∃ k : Nat, cntV l r (catI [sigs, more]) name = k ∧ cn ≤ k) ∨ cntE l r (catI [sigs, more]) = 2) := by
    rcases cntE_more (more := more) Z1.out with e | e
    · rw [← catI_two] at e
      exact .inl ⟨e, _, cntV_0 e, by rw [HCN.out, catI_two]; exact cntN_more _ _ _ _ _⟩
    · rw [← catI_two] at e
      exact .inr e
  refine (unhide HCat).mono ?_
  rintro e w9 ⟨⟨ca, cc, rfl, hic⟩, hb⟩
  have hk9 : Below w8.heap.size w8 w9 := ((Below.refl _ _).drew.alloc (Nat.le_refl _) _).trans (hb.mono (by simp))
  generalize catI [sigs, more] = cat at *
  go_wp2_with fail
  refine hK.out _ _ (keepR hk9 b0.out) (fun hHeld => ?_)
  clear hK K
  try simp only [Act.put, List.setIfInBounds_toArray, List.set_cons_zero, List.set_cons_succ]
  refine wpAnyH_ready (rs := [7]) (by kernel_rfl) (by simp) ?_
  refine AllReadyH.cons (by simp only [List.getElem?_toArray, List.getElem?_cons_zero, List.getElem?_cons_succ]; rfl) (fun K hK => ?_) AllReadyH.nil
  go_simp
  refine (unhide HCk _ _ _ hk9 hic).mono ?_
  rintro e w10 ⟨rfl, hb10⟩
  have hk10 := hk9.trans (hb10.mono hk9.size)
  go_wp2_with fail
  refine hK.out _ _ (keepR hk10 b0.out) (fun hHeld => ?_)
  clear hK K
  try simp only [Act.put, List.setIfInBounds_toArray, List.set_cons_zero, List.set_cons_succ]
  refine wpAnyH_take (i := 8) (v := ?_) (by simp only [List.getElem?_toArray, List.getElem?_cons_zero, List.getElem?_cons_succ]; rfl) (by kernel_rfl) (by kernel_rfl) (by kernel_rfl) (by exact fun _ _ _ h => h) (Or.inl ⟨by rfl, ?_⟩) (by assumption) ?_
  rotate_left
  · intro w hSw
    try dsimp only at hSw
    go_simp
    try with_reducible rfl
  try simp only [Act.put, List.setIfInBounds_toArray, List.set_cons_zero, List.set_cons_succ]
  refine wpAnyH_take (i := 9) (v := ?_) (by simp only [List.getElem?_toArray, List.getElem?_cons_zero, List.getElem?_cons_succ]; rfl) (by kernel_rfl) (by kernel_rfl) (by kernel_rfl) (by exact fun _ _ _ h => h) (Or.inl ⟨by rfl, ?_⟩) (by assumption) ?_
  rotate_left
  · intro w hSw
    try dsimp only at hSw
    go_simp
    try with_reducible rfl
  try simp only [Act.put, List.setIfInBounds_toArray, List.set_cons_zero, List.set_cons_succ]
  refine wpAnyH_take (i := 10) (v := ?_) (by simp only [List.getElem?_toArray, List.getElem?_cons_zero, List.getElem?_cons_succ]; rfl) (by kernel_rfl) (by kernel_rfl) (by kernel_rfl) (by exact fun _ _ _ h => h) (Or.inl ⟨by rfl, ?_⟩) (by assumption) ?_
  rotate_left
  · intro w hSw
    try dsimp only at hSw
    go_simp
    try with_reducible rfl
  try simp only [Act.put, List.setIfInBounds_toArray, List.set_cons_zero, List.set_cons_succ]
  refine wpAnyH_take (i := 11) (v := ?_) (by simp only [List.getElem?_toArray, List.getElem?_cons_zero, List.getElem?_cons_succ]; rfl) (by kernel_rfl) (by kernel_rfl) (by kernel_rfl) (by exact fun _ _ _ h => h) (Or.inl ⟨by rfl, ?_⟩) (by assumption) ?_
  rotate_left
  · intro w hSw
    try dsimp only at hSw
    go_simp
    try with_reducible rfl
  try simp only [Act.put, List.setIfInBounds_toArray, List.set_cons_zero, List.set_cons_succ]
  refine wpAnyH_take (i := 12) (v := ?_) (by simp only [List.getElem?_toArray, List.getElem?_cons_zero, List.getElem?_cons_succ]; rfl) (by kernel_rfl) (by kernel_rfl) (by kernel_rfl) (by exact fun _ _ _ h => h) (Or.inl ⟨by rfl, ?_⟩) (by assumption) ?_
  rotate_left
  · intro w hSw
    try dsimp only at hSw
    go_simp
    try with_reducible rfl
  try simp only [Act.put, List.setIfInBounds_toArray, List.set_cons_zero, List.set_cons_succ]
  refine wpAnyH_done (by kernel_rfl) ?_ _
  replace b0 := hide (blk_below b0.out hk10)
  replace b1 := hide (blk_below b1.out hk10)
  replace hw0 := hw0.trans (hk10.mono hw0.size)
  clear hk10 hk9 hb hb10 hic HCk HCat hHeld
  generalize cntE l r cat = q1 at *
  generalize cntV l r cat name = q2 at *
  have HCl := hide (fun W' (hW : Below w10.heap.size w10 W') => cloneG_any a1 l.length c1 l W' (by rw [L1.out]; exact (H1.out.below hw0).below hW) (by rw [L1.out]; omega))
  have HCk := hide (fun W' ca cc (hW : Below w10.heap.size w10 W') (hi : BG W' ca (n1 + 1) (l ++ [x])) => HC.out W' ca (n1 + 1) cc (l ++ [x]) a3 n3 c3 sigs (hw0.trans (hW.mono hw0.size)) hi ((H3.out.below hw0).below hW))
  have HX : Hid (cntE (l ++ [x]) r sigs ≠ 0 ∨ cntE (l ++ [x]) r sigs = 0 ∧ ∃ k : Nat, cntV (l ++ [x]) r sigs name = k ∧ cn ≤ k ∧ k ≤ cn + 1) := by
    by_cases e : cntE (l ++ [x]) r sigs = 0
    · refine .inr ⟨e, _, cntV_0 e, ?_, ?_⟩
      · rw [HCN.out]; exact cntN_extra_lo _ _ _ _ _
      · rw [HCN.out]; exact cntN_extra_hi K2.out _ _ _ _
    · exact .inl e
  rw [L1.out] at HCl
  unfold ClG at HCl
  rw [L1.out] at HCl
  rcases HQ.out with ⟨rfl, kq, rfl, hkq⟩ | rfl
  all_goals
    have e1 : True := trivial
    try have d3 : ¬ (kq : Int) < (cn : Int) := by omega
    go_upto_region 17 with fail
    obtain ⟨irr, hir, rz0, rz1, rz2⟩ := info_parts info_sig
    refine wp_region_held_drew (S := fun w' => w'.cell? ⟨w.heap.size, 0, none⟩ = some (.int .i64 r.v) ∧ w'.cell? ⟨w.heap.size, 1, none⟩ = some (.slice a2 n2 c2) ∧ w'.cell? ⟨w.heap.size, 2, none⟩ = some (.int .i64 r.t) ∧ w'.cell? ⟨w.heap.size + 1, 0, none⟩ = some (.int .i64 x.1) ∧ w'.cell? ⟨w.heap.size + 1, 1, none⟩ = some (.int .i64 x.2) ∧ Below w10.heap.size w10 w') (by kernel_rfl) (keepRX (Below.refl _ _).drew b0.out b1.out) ?_
    intro hHeld
    refine wpAnyH_take (i := 0) (v := ?_) (by simp only [List.getElem?_toArray, List.getElem?_cons_zero]; rfl) (by kernel_rfl) (by kernel_rfl) (by kernel_rfl) (by exact fun _ _ _ h => h) (Or.inl ⟨by rfl, ?_⟩) (by assumption) ?_
    rotate_left
    · intro w hSw
      try dsimp only at hSw
      go_simp
      try with_reducible rfl
    try simp only [Act.put, List.setIfInBounds_toArray, List.set_cons_zero, List.set_cons_succ]
    refine wpAnyH_take (i := 2) (v := ?_) (by simp only [List.getElem?_toArray, List.getElem?_cons_zero, List.getElem?_cons_succ]; rfl) (by kernel_rfl) (by kernel_rfl) (by kernel_rfl) (by exact fun _ _ _ h => h) (Or.inl ⟨by rfl, ?_⟩) (by assumption) ?_
    rotate_left
    · intro w hSw
      try dsimp only at hSw
      go_simp
      try with_reducible rfl
    try simp only [Act.put, List.setIfInBounds_toArray, List.set_cons_zero, List.set_cons_succ]
    refine wpAnyH_take (i := 5) (v := ?_) (by simp only [List.getElem?_toArray, List.getElem?_cons_zero, List.getElem?_cons_succ]; rfl) (by kernel_rfl) (by kernel_rfl) (by kernel_rfl) (by exact fun _ _ _ h => h) (Or.inl ⟨by rfl, ?_⟩) (by assumption) ?_
    rotate_left
    · intro w hSw
      try dsimp only at hSw
      go_simp
      try with_reducible rfl
    try simp only [Act.put, List.setIfInBounds_toArray, List.set_cons_zero, List.set_cons_succ]
    refine wpAnyH_take (i := 6) (v := ?_) (by simp only [List.getElem?_toArray, List.getElem?_cons_zero, List.getElem?_cons_succ]; rfl) (by kernel_rfl) (by kernel_rfl) (by kernel_rfl) (by exact fun _ _ _ h => h) (Or.inl ⟨by rfl, ?_⟩) (by assumption) ?_
    rotate_left
    · intro w hSw
      try dsimp only at hSw
      go_simp
      try with_reducible rfl
    try simp only [Act.put, List.setIfInBounds_toArray, List.set_cons_zero, List.set_cons_succ]
    refine wpAnyH_take (i := 7) (v := ?_) (by simp only [List.getElem?_toArray, List.getElem?_cons_zero, List.getElem?_cons_succ]; rfl) (by kernel_rfl) (by kernel_rfl) (by kernel_rfl) (by exact fun _ _ _ h => h) (Or.inl ⟨by rfl, ?_⟩) (by assumption) ?_
    rotate_left
    · intro w hSw
      try dsimp only at hSw
      go_simp
      try with_reducible rfl
    try simp only [Act.put, List.setIfInBounds_toArray, List.set_cons_zero, List.set_cons_succ]
    refine wpAnyH_ready (rs := [1, 3]) (by kernel_rfl) (by simp) ?_
    refine AllReadyH.cons (by simp only [List.getElem?_toArray, List.getElem?_cons_zero, List.getElem?_cons_succ]; rfl) (fun K hK => ?_) (AllReadyH.cons (by simp only [List.getElem?_toArray, List.getElem?_cons_zero, List.getElem?_cons_succ]; rfl) (fun K hK => ?_) AllReadyH.nil)
    · go_simp
      refine (unhide HCl _ (Below.refl _ _).drew).mono ?_
      rintro e w11 ⟨⟨a', c', rfl, hown⟩, hb⟩
      have hk11 : Below w10.heap.size w10 w11 := (Below.refl _ _).drew.trans hb
      go_wp2_with fail
      refine hK.out _ _ (keepRX hk11 b0.out b1.out) (fun hHeld => ?_)
      clear hK K
      try simp only [Act.put, List.setIfInBounds_toArray, List.set_cons_zero, List.set_cons_succ]
      refine wpAnyH_ready (rs := [3]) (by kernel_rfl) (by simp) ?_
      refine AllReadyH.cons (by simp only [List.getElem?_toArray, List.getElem?_cons_zero, List.getElem?_cons_succ]; rfl) (fun K hK => ?_) AllReadyH.nil
      go_simp
      refine hK.out _ _ (keepRX (below_new hk11 _) b0.out b1.out) (fun hHeld => ?_)
      clear hK K
      try simp only [Act.put, List.setIfInBounds_toArray, List.set_cons_zero, List.set_cons_succ]
      refine wpAnyH_ready (rs := [4]) (by kernel_rfl) (by simp) ?_
      refine AllReadyH.cons (by simp only [List.getElem?_toArray, List.getElem?_cons_zero, List.getElem?_cons_succ]; rfl) (fun K hK => ?_) AllReadyH.nil
      have hownS := hown.alloc (.cells #[.int .i64 x.1, .int .i64 x.2] 68)
      have hnews := news_sig w11 x 68
      have hsz := hk11.size
      refine step_append_lies _ rfl _ _ 49 rfl w10.heap.size 68 irr _ 2 16 Tryd.underlying49 hir rz0 rz1 rz2 rfl (by omega) _ n1 _ rfl hownS ⟨w11.heap.size, 0, none⟩ 1 1 [.int .i64 x.1, .int .i64 x.2] rfl rfl hnews (by simp [Value.oneCell']) (by omega) (by unfold maxLen; omega) (by omega) (by simp; omega) (w11.heap.size + 1) (by simp) ?_
      intro g cap w12 hown12 hgr _ _
      have hk12 : Below w10.heap.size w10 w12 := (below_new hk11 _).grown hgr (by simp; omega) (ownBlock_ge hownS)
      have hbg := bg_append L1.out hown12 (by unfold maxLen; omega)
      clear hown12 hgr hownS hown hnews
      refine hK.out _ _ (keepRX hk12 b0.out b1.out) (fun hHeld => ?_)
      clear hK K
      try simp only [Act.put, List.setIfInBounds_toArray, List.set_cons_zero, List.set_cons_succ]
      refine wpAnyH_ready (rs := [8]) (by kernel_rfl) (by simp) ?_
      refine AllReadyH.cons (by simp only [List.getElem?_toArray, List.getElem?_cons_zero, List.getElem?_cons_succ]; rfl) (fun K hK => ?_) AllReadyH.nil
      go_simp
      refine (unhide HCk _ _ _ hk12 hbg).mono ?_
      rintro e w13 ⟨rfl, hb13⟩
      have hk13 := hk12.trans (hb13.mono hk12.size)
      go_wp2_with fail
      refine hK.out _ _ (keepRX hk13 b0.out b1.out) (fun hHeld => ?_)
      clear hK K
      try simp only [Act.put, List.setIfInBounds_toArray, List.set_cons_zero, List.set_cons_succ]
      refine wpAnyH_take (i := 9) (v := ?_) (by simp only [List.getElem?_toArray, List.getElem?_cons_zero, List.getElem?_cons_succ]; rfl) (by kernel_rfl) (by kernel_rfl) (by kernel_rfl) (by exact fun _ _ _ h => h) (Or.inl ⟨by rfl, ?_⟩) (by assumption) ?_
      rotate_left
      · intro w hSw
        try dsimp only at hSw
        go_simp
        try with_reducible rfl
      try simp only [Act.put, List.setIfInBounds_toArray, List.set_cons_zero, List.set_cons_succ]
      refine wpAnyH_take (i := 10) (v := ?_) (by simp only [List.getElem?_toArray, List.getElem?_cons_zero, List.getElem?_cons_succ]; rfl) (by kernel_rfl) (by kernel_rfl) (by kernel_rfl) (by exact fun _ _ _ h => h) (Or.inl ⟨by rfl, ?_⟩) (by assumption) ?_
      rotate_left
      · intro w hSw
        try dsimp only at hSw
        go_simp
        try with_reducible rfl
      try simp only [Act.put, List.setIfInBounds_toArray, List.set_cons_zero, List.set_cons_succ]
      refine wpAnyH_take (i := 11) (v := ?_) (by simp only [List.getElem?_toArray, List.getElem?_cons_zero, List.getElem?_cons_succ]; rfl) (by kernel_rfl) (by kernel_rfl) (by kernel_rfl) (by exact fun _ _ _ h => h) (Or.inl ⟨by rfl, ?_⟩) (by assumption) ?_
      rotate_left
      · intro w hSw
        try dsimp only at hSw
        go_simp
        try with_reducible rfl
      try simp only [Act.put, List.setIfInBounds_toArray, List.set_cons_zero, List.set_cons_succ]
      refine wpAnyH_take (i := 12) (v := ?_) (by simp only [List.getElem?_toArray, List.getElem?_cons_zero, List.getElem?_cons_succ]; rfl) (by kernel_rfl) (by kernel_rfl) (by kernel_rfl) (by exact fun _ _ _ h => h) (Or.inl ⟨by rfl, ?_⟩) (by assumption) ?_
      rotate_left
      · intro w hSw
        try dsimp only at hSw
        go_simp
        try with_reducible rfl
      try simp only [Act.put, List.setIfInBounds_toArray, List.set_cons_zero, List.set_cons_succ]
      refine wpAnyH_take (i := 13) (v := ?_) (by simp only [List.getElem?_toArray, List.getElem?_cons_zero, List.getElem?_cons_succ]; rfl) (by kernel_rfl) (by kernel_rfl) (by kernel_rfl) (by exact fun _ _ _ h => h) (Or.inl ⟨by rfl, ?_⟩) (by assumption) ?_
      rotate_left
      · intro w hSw
        try dsimp only at hSw
        go_simp
        try with_reducible rfl
      try simp only [Act.put, List.setIfInBounds_toArray, List.set_cons_zero, List.set_cons_succ]
      refine wpAnyH_done (by kernel_rfl) ?_ _
      have hwZ := hw0.trans (hk13.mono hw0.size)
      clear hk13 hb13 hk12 hbg hk11 hb HCk HCl HC hHeld
      generalize cntE (l ++ [x]) r sigs = q5 at *
      generalize cntV (l ++ [x]) r sigs name = q6 at *
      rcases HX.out with z5 | ⟨rfl, k6, rfl, hk6, hk7⟩
      · have d5 : (q5 != 0) = true := by simpa using z5
        clear z5
        go_wp2_with fail
        go_ret
        exact ⟨rfl, hwZ⟩
      · have d6 : (cn : Int) ≤ (k6 : Int) := by omega
        have d7 : (k6 : Int) ≤ (cn : Int) + 1 := by omega
        go_wp2_with fail
        go_ret
        exact ⟨rfl, hwZ⟩
    · go_simp
      refine hK.out _ _ (keepRX (below_new (Below.refl _ _).drew _) b0.out b1.out) (fun hHeld => ?_)
      clear hK K
      try simp only [Act.put, List.setIfInBounds_toArray, List.set_cons_zero, List.set_cons_succ]
      refine wpAnyH_ready (rs := [1]) (by kernel_rfl) (by simp) ?_
      refine AllReadyH.cons (by simp only [List.getElem?_toArray, List.getElem?_cons_zero, List.getElem?_cons_succ]; rfl) (fun K hK => ?_) AllReadyH.nil
      go_simp
      have hkA : Below w10.heap.size w10 (w10.drew.alloc (.cells #[.int .i64 x.1, .int .i64 x.2] 68)) := below_new (Below.refl _ _).drew _
      refine (unhide HCl _ hkA).mono ?_
      rintro e w11 ⟨⟨a', c', rfl, hown⟩, hb⟩
      have hk11 := hkA.trans (hb.mono hkA.size)
      go_wp2_with fail
      refine hK.out _ _ (keepRX hk11 b0.out b1.out) (fun hHeld => ?_)
      clear hK K
      try simp only [Act.put, List.setIfInBounds_toArray, List.set_cons_zero, List.set_cons_succ]
      refine wpAnyH_ready (rs := [4]) (by kernel_rfl) (by simp) ?_
      refine AllReadyH.cons (by simp only [List.getElem?_toArray, List.getElem?_cons_zero, List.getElem?_cons_succ]; rfl) (fun K hK => ?_) AllReadyH.nil
      have hnews : ∀ j u, [Value.int .i64 x.1, .int .i64 x.2][j]? = some u → w11.cell? ((⟨w10.drew.heap.size, 0, none⟩ : Addr).add j) = some u := fun j u hu => by
        have := news_sig w10.drew x 68 j u hu
        rw [hb.cell (cell_lt this)]
        exact this
      have hsz := hk11.size
      refine step_append_lies _ rfl _ _ 49 rfl (w10.drew.alloc (.cells #[.int .i64 x.1, .int .i64 x.2] 68)).heap.size 68 irr _ 2 16 Tryd.underlying49 hir rz0 rz1 rz2 rfl (by omega) _ n1 _ rfl hown ⟨w10.drew.heap.size, 0, none⟩ 1 1 [.int .i64 x.1, .int .i64 x.2] rfl rfl hnews (by simp [Value.oneCell']) (by omega) (by unfold maxLen; omega) (by omega) hb.size w11.heap.size rfl ?_
      intro g cap w12 hown12 hgr _ _
      have hk12 : Below w10.heap.size w10 w12 := hk11.grown hgr hsz (fun k e => Nat.le_trans (by simp) (ownBlock_ge hown k e))
      have hbg := bg_append L1.out hown12 (by unfold maxLen; omega)
      clear hown12 hgr hown hnews
      refine hK.out _ _ (keepRX hk12 b0.out b1.out) (fun hHeld => ?_)
      clear hK K
      try simp only [Act.put, List.setIfInBounds_toArray, List.set_cons_zero, List.set_cons_succ]
      refine wpAnyH_ready (rs := [8]) (by kernel_rfl) (by simp) ?_
      refine AllReadyH.cons (by simp only [List.getElem?_toArray, List.getElem?_cons_zero, List.getElem?_cons_succ]; rfl) (fun K hK => ?_) AllReadyH.nil
      go_simp
      refine (unhide HCk _ _ _ hk12 hbg).mono ?_
      rintro e w13 ⟨rfl, hb13⟩
      have hk13 := hk12.trans (hb13.mono hk12.size)
      go_wp2_with fail
      refine hK.out _ _ (keepRX hk13 b0.out b1.out) (fun hHeld => ?_)
      clear hK K
      try simp only [Act.put, List.setIfInBounds_toArray, List.set_cons_zero, List.set_cons_succ]
      refine wpAnyH_take (i := 9) (v := ?_) (by simp only [List.getElem?_toArray, List.getElem?_cons_zero, List.getElem?_cons_succ]; rfl) (by kernel_rfl) (by kernel_rfl) (by kernel_rfl) (by exact fun _ _ _ h => h) (Or.inl ⟨by rfl, ?_⟩) (by assumption) ?_
      rotate_left
      · intro w hSw
        try dsimp only at hSw
        go_simp
        try with_reducible rfl
      try simp only [Act.put, List.setIfInBounds_toArray, List.set_cons_zero, List.set_cons_succ]
      refine wpAnyH_take (i := 10) (v := ?_) (by simp only [List.getElem?_toArray, List.getElem?_cons_zero, List.getElem?_cons_succ]; rfl) (by kernel_rfl) (by kernel_rfl) (by kernel_rfl) (by exact fun _ _ _ h => h) (Or.inl ⟨by rfl, ?_⟩) (by assumption) ?_
      rotate_left
      · intro w hSw
        try dsimp only at hSw
        go_simp
        try with_reducible rfl
      try simp only [Act.put, List.setIfInBounds_toArray, List.set_cons_zero, List.set_cons_succ]
      refine wpAnyH_take (i := 11) (v := ?_) (by simp only [List.getElem?_toArray, List.getElem?_cons_zero, List.getElem?_cons_succ]; rfl) (by kernel_rfl) (by kernel_rfl) (by kernel_rfl) (by exact fun _ _ _ h => h) (Or.inl ⟨by rfl, ?_⟩) (by assumption) ?_
      rotate_left
      · intro w hSw
        try dsimp only at hSw
        go_simp
        try with_reducible rfl
      try simp only [Act.put, List.setIfInBounds_toArray, List.set_cons_zero, List.set_cons_succ]
      refine wpAnyH_take (i := 12) (v := ?_) (by simp only [List.getElem?_toArray, List.getElem?_cons_zero, List.getElem?_cons_succ]; rfl) (by kernel_rfl) (by kernel_rfl) (by kernel_rfl) (by exact fun _ _ _ h => h) (Or.inl ⟨by rfl, ?_⟩) (by assumption) ?_
      rotate_left
      · intro w hSw
        try dsimp only at hSw
        go_simp
        try with_reducible rfl
      try simp only [Act.put, List.setIfInBounds_toArray, List.set_cons_zero, List.set_cons_succ]
      refine wpAnyH_take (i := 13) (v := ?_) (by simp only [List.getElem?_toArray, List.getElem?_cons_zero, List.getElem?_cons_succ]; rfl) (by kernel_rfl) (by kernel_rfl) (by kernel_rfl) (by exact fun _ _ _ h => h) (Or.inl ⟨by rfl, ?_⟩) (by assumption) ?_
      rotate_left
      · intro w hSw
        try dsimp only at hSw
        go_simp
        try with_reducible rfl
      try simp only [Act.put, List.setIfInBounds_toArray, List.set_cons_zero, List.set_cons_succ]
      refine wpAnyH_done (by kernel_rfl) ?_ _
      have hwZ := hw0.trans (hk13.mono hw0.size)
      clear hk13 hb13 hk12 hbg hk11 hkA hb HCk HCl HC hHeld
      generalize cntE (l ++ [x]) r sigs = q5 at *
      generalize cntV (l ++ [x]) r sigs name = q6 at *
      rcases HX.out with z5 | ⟨rfl, k6, rfl, hk6, hk7⟩
      · have d5 : (q5 != 0) = true := by simpa using z5
        clear z5
        go_wp2_with fail
        go_ret
        exact ⟨rfl, hwZ⟩
      · have d6 : (cn : Int) ≤ (k6 : Int) := by omega
        have d7 : (k6 : Int) ≤ (cn : Int) + 1 := by omega
        go_wp2_with fail
        go_ret
        exact ⟨rfl, hwZ⟩

end Go.Proofs.YtanpglfpopbfkabDoor
