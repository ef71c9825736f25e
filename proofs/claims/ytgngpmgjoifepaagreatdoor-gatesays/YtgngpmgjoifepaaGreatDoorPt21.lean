/- The contracts of trust.checkRelease, allMeant. -/
import Derived.Test.YtgngpmgjoifepaaGreatDoorPt18
import Derived.Test.YtgngpmgjoifepaaGreatDoorPt20
import Derived.Deep.RegionHeld3
import Derived.Deep.DeepCutAuto
namespace Go.Proofs.YtgngpmgjoifepaaGreatDoor
open Go.RowKit

theorem crE_1 {ss : List ByteArray} {l : List S2} {r : Rt} {v u : Int} {ts : List T3} {sigs : List Int} (h : relE v u ts ≠ 0) : crE ss l r v u ts sigs = relE v u ts := by unfold crE; rw [if_neg h]
theorem crE_2 {ss : List ByteArray} {l : List S2} {r : Rt} {v u : Int} {ts : List T3} {sigs : List Int} (h : relE v u ts = 0) (h2 : bookE ss ≠ 0) : crE ss l r v u ts sigs = bookE ss := by unfold crE; rw [if_pos h, if_neg h2]
theorem crE_3 {ss : List ByteArray} {l : List S2} {r : Rt} {v u : Int} {ts : List T3} {sigs : List Int} (h : relE v u ts = 0) (h2 : bookE ss = 0) : crE ss l r v u ts sigs = csE l r sigs (nameN ss (bs (relT v u ts))) := by unfold crE; rw [if_pos h, if_pos h2]

set_option maxHeartbeats 1600000 in
set_option maxRecDepth 100000 in
theorem tCheckRelease_any (ab : Option Addr) (nb cb : Nat) (ss : List ByteArray) (a1 : Option Addr) (n1 c1 : Nat) (l : List S2) (r : Rt) (a2 : Option Addr) (n2 c2 : Nat) (v u : Int) (a3 : Option Addr) (n3 c3 : Nat) (ts : List T3) (a4 : Option Addr) (n4 c4 : Nat) (sigs : List Int) (w : World)
    (h0 : BB w ab nb cb ss) (h1 : BG w a1 n1 l) (h2 : BI w a2 n2 r.ks) (h3 : BT w a3 n3 ts) (h4 : BI w a4 n4 sigs) (hT : Tab w) :
    Calls Tryz.prog 139 #[bookv ab nb cb, .slice a1 n1 c1, rv r.v a2 n2 c2 r.t, relv v u a3 n3 c3, .slice a4 n4 c4] w fun e w' => e = .returned (.int .i64 (crE ss l r v u ts sigs)) ∧ Below w.heap.size w w' := by
  have hw0 : Below w.heap.size w (((w.alloc (.cells #[.slice ab nb cb] 24)).alloc (.cells #[.int .i64 r.v, .slice a2 n2 c2, .int .i64 r.t] 63)).alloc (.cells #[.int .i64 v, .int .i64 u, .slice a3 n3 c3] 73)) := (((Below.refl _ _).alloc (Nat.le_refl _) _).alloc (by simp) _).alloc (by simp; omega) _
  have b0 := hide (blk_alloc (blk_alloc (heap_alloc_last w (.cells #[.slice ab nb cb] 24)) (.cells #[.int .i64 r.v, .slice a2 n2 c2, .int .i64 r.t] 63)) (.cells #[.int .i64 v, .int .i64 u, .slice a3 n3 c3] 73))
  have b1 := heap_alloc_last (w.alloc (.cells #[.slice ab nb cb] 24)) (.cells #[.int .i64 r.v, .slice a2 n2 c2, .int .i64 r.t] 63)
  rw [World.size_alloc] at b1
  replace b1 := hide (blk_alloc b1 (.cells #[.int .i64 v, .int .i64 u, .slice a3 n3 c3] 73))
  have HB := hide (fun W (hW : Below w.heap.size w W) => releaseText_any v u a3 n3 c3 ts W (h3.below hW).at_ h3.len h3.max (hT.below hW))
  have HC := hide (fun W s (hW : Below w.heap.size w W) => name_any ab nb cb ss s W (h0.below hW).at_ h0.len h0.cap h0.max h0.short)
  have HD := hide (fun W name (hW : Below w.heap.size w W) => checkSigs_any a1 n1 c1 l r a2 n2 c2 a4 n4 c4 sigs name W (h1.below hW) (h2.below hW) (h4.below hW))
  unfold rv at HD ⊢
  unfold relv at HB ⊢
  unfold bookv at HC ⊢
  clear h0 h1 h2 h3 h4 hT
  go_enter Tryz.func139, Tryz.ntmps139
  go_wp2_with fail
  generalize ((w.alloc (.cells #[.slice ab nb cb] 24)).alloc (.cells #[.int .i64 r.v, .slice a2 n2 c2, .int .i64 r.t] 63)).alloc (.cells #[.int .i64 v, .int .i64 u, .slice a3 n3 c3] 73) = W at *
  refine (unhide HB _ hw0).mono ?_
  rintro e w1 ⟨rfl, hb⟩
  replace b0 := hide (blk_below b0.out hb)
  replace b1 := hide (blk_below b1.out hb)
  replace hw0 := hw0.trans (hb.mono hw0.size)
  clear hb HB
  by_cases z1 : relE v u ts = 0
  rotate_left
  · have HE := hide (crE_1 (ss := ss) (l := l) (r := r) (sigs := sigs) z1)
    have hq : (relE v u ts != 0) = true := by simpa using z1
    clear z1 HC HD
    generalize relE v u ts = q at *
    generalize bs (relTx v u ts) = sx at *
    go_wp2_with fail
    go_ret
    exact ⟨ret_int HE.out.symm, hw0⟩
  rw [show relTx v u ts = relT v u ts by unfold relTx; rw [if_pos z1], z1]
  have Z1 := hide z1
  clear z1
  have x0 := blk_cell b0.out 0 _ rfl
  generalize hsx : bs (relT v u ts) = sx
  replace hsx := hide hsx
  replace HC := hide (fun W hW => HC.out W sx hW)
  go_wp2_with fail
  refine (unhide HC _ hw0).mono ?_
  rintro e w2 ⟨rfl, hb⟩
  replace b1 := hide (blk_below b1.out hb)
  replace hw0 := hw0.trans (hb.mono hw0.size)
  clear hb HC x0
  by_cases z2 : bookE ss = 0
  rotate_left
  · have HE := hide (crE_2 (l := l) (r := r) (sigs := sigs) Z1.out z2)
    have hq : (bookE ss != 0) = true := by simpa using z2
    clear z2 HD
    generalize bookE ss = q at *
    generalize nameE ss sx = q2 at *
    go_wp2_with fail
    go_ret
    exact ⟨ret_int HE.out.symm, hw0⟩
  have HE := hide (crE_3 (l := l) (r := r) (sigs := sigs) Z1.out z2)
  rw [show nameE ss sx = (nameN ss sx : Int) by unfold nameE; rw [if_pos z2], z2]
  rw [hsx.out] at HE
  clear z2
  generalize (nameN ss sx : Int) = nm at *
  have x0 := blk_cell b1.out 0 _ rfl
  have x1 := blk_cell b1.out 1 _ rfl
  have x2 := blk_cell b1.out 2 _ rfl
  go_wp2_with fail
  refine (unhide HD _ _ hw0).mono ?_
  rintro e w3 ⟨rfl, hb⟩
  go_wp2_with fail
  go_ret
  exact ⟨ret_int HE.out.symm, hw0.trans (hb.mono hw0.size)⟩

/-! ### The images are those that were meant -/

theorem meant_bad {ss : List ByteArray} {ts : List T3} {ws : List (List Int)} {k : Nat} (hk : k < ts.length) (hk2 : k < ws.length) (h : meant1 ss ts[k] ws[k] = false) : meantB ss (ts.drop k) (ws.drop k) = false := by
  rw [List.drop_eq_getElem_cons hk, List.drop_eq_getElem_cons hk2, meantB, h]
  rfl
theorem meant_next {ss : List ByteArray} {ts : List T3} {ws : List (List Int)} {k : Nat} (hk : k < ts.length) (hk2 : k < ws.length) (h : meant1 ss ts[k] ws[k] = true) : meantB ss (ts.drop k) (ws.drop k) = meantB ss (ts.drop (k + 1)) (ws.drop (k + 1)) := by
  rw [List.drop_eq_getElem_cons hk, List.drop_eq_getElem_cons hk2, meantB, h]
  rfl
theorem meant1_1 {ss : List ByteArray} {t : T3} {w : List Int} (h : inE ss w ≠ 0) : meant1 ss t w = false := by unfold meant1; simp [h]
theorem meant1_2 {ss : List ByteArray} {t : T3} {w : List Int} (h : ¬ inN ss w = t.2.1) : meant1 ss t w = false := by unfold meant1; simp [h]
theorem meant1_3 {ss : List ByteArray} {t : T3} {w : List Int} (h : ¬ (w.length : Int) = t.2.2) : meant1 ss t w = false := by unfold meant1; simp [h]
theorem meant1_0 {ss : List ByteArray} {t : T3} {w : List Int} (h : inE ss w = 0) (h2 : inN ss w = t.2.1) (h3 : (w.length : Int) = t.2.2) : meant1 ss t w = true := by unfold meant1; simp [h, h2, h3]

theorem keepM {w1 W : World} {B bs_ os_ : Nat} {v0 v1 : Value} {ty : TypeId} (hb : Below w1.heap.size w1 W) (h : w1.heap[B]? = some (.cells #[v0] ty (0, 0))) (hs : w1.cell? ⟨bs_, os_, none⟩ = some v1) : W.cell? ⟨B, 0, none⟩ = some v0 ∧ W.cell? ⟨bs_, os_, none⟩ = some v1 ∧ Below w1.heap.size w1 W :=
  ⟨blk_cell (blk_below h hb) 0 _ rfl, by rw [hb.cell (cell_lt hs)]; exact hs, hb⟩

set_option maxHeartbeats 3200000 in
set_option maxRecDepth 100000 in
theorem allMeant_any (ab : Option Addr) (nb cb : Nat) (ss : List ByteArray) (a1 : Option Addr) (n1 c1 : Nat) (ts : List T3) (a2 : Option Addr) (n2 c2 : Nat) (ws : List (List Int)) (w : World)
    (h0 : BB w ab nb cb ss) (h1 : BT w a1 n1 ts) (h2 : BL w a2 n2 ws) (hn : n1 = n2) (hT : Tab w) :
    Calls Tryz.prog 140 #[bookv ab nb cb, .slice a1 n1 c1, .slice a2 n2 c2] w fun e w' => e = .returned (.bool (meantB ss ts ws)) ∧ Below w.heap.size w w' := by
  have hw0 : Below w.heap.size w (w.alloc (.cells #[.slice ab nb cb] 24)) := (Below.refl _ _).alloc (Nat.le_refl _) _
  have b0 := hide (heap_alloc_last w (.cells #[.slice ab nb cb] 24))
  have HI := hide (fun W a n c xs (hW : Below w.heap.size w W) (hi : BI W a n xs) => imageName_any ab nb cb ss a n c xs W (h0.below hW).at_ h0.len h0.cap h0.max h0.short hi.at_ hi.len hi.max (hT.below hW))
  have L1 := hide h1.len
  have L2 := hide h2.len
  have m1 := h1.max
  have m2 := h2.max
  have H1 := hide h1.at_
  have H2 := hide h2.at_
  have HNn := hide hn
  unfold maxLen at m1 m2
  unfold bookv at HI ⊢
  clear h0 h1 h2 hT hn
  go_enter Tryz.func140, Tryz.ntmps140
  go_wp2_with fail
  generalize w.alloc (.cells #[.slice ab nb cb] 24) = W at *
  go_loopw [13] (fun i wr => ∃ k : Nat, k ≤ n1 ∧ i = .int .i64 k ∧ Below w.heap.size w wr ∧ Hid (wr.heap[w.heap.size]? = some (.cells #[.slice ab nb cb] 24 (0, 0))) ∧ Hid (meantB ss (ts.drop k) (ws.drop k) = meantB ss ts ws)) (fun i _ => n1 - (intOf i).toNat)
  case atStart => exact ⟨0, Nat.zero_le _, rfl, hw0, b0, rfl⟩
  case round =>
    clear b0 hw0
    obtain ⟨wq, rfl⟩ : ∃ wq : World, wq = wr := ⟨_, rfl⟩
    obtain ⟨k, hk, rfl, hw0, b0, hts⟩ := hrel
    by_cases hlt : k < n1
    · have hk1 : k < ts.length := by rw [L1.out]; exact hlt
      have hk2 : k < ws.length := by rw [L2.out, ← HNn.out]; exact hlt
      have hlt2 : k < n2 := by rw [← HNn.out]; exact hlt
      have i1 := H1.out.below hw0
      have i2 := H2.out.below hw0
      rcases i1 with e | ⟨b3, o3, rfl, hc3⟩
      · rw [e] at hk1; simp at hk1
      rcases i2 with e | ⟨b4, o4, rfl, hc4⟩
      · rw [e] at hk2; simp at hk2
      obtain ⟨e0, e1, e2⟩ := hc3 k ts[k] (List.getElem?_eq_getElem hk1)
      obtain ⟨ag, cg, g0, hig, hlg, hcg⟩ := hc4 k ws[k] (List.getElem?_eq_getElem hk2)
      have big : BI wq ag ws[k].length ws[k] := ⟨hig, rfl, by omega⟩
      have HMb := hide (meant_bad (ss := ss) hk1 hk2)
      have HMn := hide (meant_next (ss := ss) hk1 hk2)
      clear hc3 hc4 hig hlg hcg
      generalize ts[k] = tk at *
      generalize ws[k] = wk at *
      obtain ⟨ng, hng⟩ : ∃ ng, ng = wk.length := ⟨_, rfl⟩
      rw [← hng] at g0 big
      have hbP : Below wq.heap.size wq (wq.alloc (.cells #[.int .i64 tk.1, .int .i64 tk.2.1, .int .i64 tk.2.2] 104)) := (Below.refl _ _).alloc (Nat.le_refl _) _
      have bV := hide (heap_alloc_last wq (.cells #[.int .i64 tk.1, .int .i64 tk.2.1, .int .i64 tk.2.2] 104))
      have b0P := hide (blk_below b0.out hbP)
      have hwP := hw0.trans (hbP.mono hw0.size)
      have bgP := big.below hbP
      have gP : (wq.alloc (.cells #[.int .i64 tk.1, .int .i64 tk.2.1, .int .i64 tk.2.2] 104)).cell? ⟨b4, o4 + k, none⟩ = some (.slice ag ng cg) := by rw [hbP.cell (cell_lt g0)]; exact g0
      replace hng := hide hng
      go_upto_region 4 with fail
      generalize wq.alloc (.cells #[.int .i64 tk.1, .int .i64 tk.2.1, .int .i64 tk.2.2] 104) = wP at *
      obtain ⟨V, hV⟩ : ∃ V, V = wq.heap.size := ⟨_, rfl⟩
      rw [← hV] at bV ⊢
      clear e0 e1 e2 g0 hbP big b0 hw0 hV
      have HIk := hide (fun W' (hW : Below wP.heap.size wP W') => HI.out W' ag ng cg wk (hwP.trans (hW.mono hwP.size)) (bgP.below hW))
      have Q1 := hide (meant1_1 (ss := ss) (t := tk) (w := wk))
      have Q2 := hide (meant1_2 (ss := ss) (t := tk) (w := wk))
      have Q3 := hide (meant1_3 (ss := ss) (t := tk) (w := wk))
      have Q0 := hide (meant1_0 (ss := ss) (t := tk) (w := wk))
      rw [← hng.out] at Q3 Q0
      generalize inE ss wk = qe at *
      generalize inN ss wk = qn at *
      refine wp_region_held_drew (S := fun w' => w'.cell? ⟨w.heap.size, 0, none⟩ = some (.slice ab nb cb) ∧ w'.cell? ⟨b4, o4 + k, none⟩ = some (.slice ag ng cg) ∧ Below wP.heap.size wP w') (by kernel_rfl) (keepM (Below.refl _ _).drew b0P.out gP) ?_
      intro hHeld
      refine wpAnyH_take (i := 0) (v := ?_) (by simp only [List.getElem?_toArray, List.getElem?_cons_zero]; rfl) (by kernel_rfl) (by kernel_rfl) (by kernel_rfl) (by exact fun _ _ _ h => h) (Or.inl ⟨by rfl, ?_⟩) (by assumption) ?_
      rotate_left
      · intro w hSw
        try dsimp only at hSw
        go_simp
        try with_reducible rfl
      try simp only [Act.put, List.setIfInBounds_toArray, List.set_cons_zero, List.set_cons_succ]
      refine wpAnyH_take (i := 1) (v := ?_) (by simp only [List.getElem?_toArray, List.getElem?_cons_zero, List.getElem?_cons_succ]; rfl) (by kernel_rfl) (by kernel_rfl) (by kernel_rfl) (by exact fun _ _ _ h => h) (Or.inl ⟨by rfl, ?_⟩) (by assumption) ?_
      rotate_left
      · intro w hSw
        try dsimp only at hSw
        go_simp
        try with_reducible rfl
      try simp only [Act.put, List.setIfInBounds_toArray, List.set_cons_zero, List.set_cons_succ]
      refine wpAnyH_take (i := 2) (v := ?_) (by simp only [List.getElem?_toArray, List.getElem?_cons_zero, List.getElem?_cons_succ]; rfl) (by kernel_rfl) (by kernel_rfl) (by kernel_rfl) (by exact fun _ _ _ h => h) (Or.inl ⟨by rfl, ?_⟩) (by assumption) ?_
      rotate_left
      · intro w hSw
        try dsimp only at hSw
        go_simp
        try with_reducible rfl
      try simp only [Act.put, List.setIfInBounds_toArray, List.set_cons_zero, List.set_cons_succ]
      refine wpAnyH_take (i := 3) (v := ?_) (by simp only [List.getElem?_toArray, List.getElem?_cons_zero, List.getElem?_cons_succ]; rfl) (by kernel_rfl) (by kernel_rfl) (by kernel_rfl) (by exact fun _ _ _ h => h) (Or.inl ⟨by rfl, ?_⟩) (by assumption) ?_
      rotate_left
      · intro w hSw
        try dsimp only at hSw
        go_simp
        try with_reducible rfl
      try simp only [Act.put, List.setIfInBounds_toArray, List.set_cons_zero, List.set_cons_succ]
      refine wpAnyH_take (i := 4) (v := ?_) (by simp only [List.getElem?_toArray, List.getElem?_cons_zero, List.getElem?_cons_succ]; rfl) (by kernel_rfl) (by kernel_rfl) (by kernel_rfl) (by exact fun _ _ _ h => h) (Or.inl ⟨by rfl, ?_⟩) (by assumption) ?_
      rotate_left
      · intro w hSw
        try dsimp only at hSw
        go_simp
        try with_reducible rfl
      try simp only [Act.put, List.setIfInBounds_toArray, List.set_cons_zero, List.set_cons_succ]
      refine wpAnyH_ready (rs := [5]) (by kernel_rfl) (by simp) ?_
      refine AllReadyH.cons (by simp only [List.getElem?_toArray, List.getElem?_cons_zero, List.getElem?_cons_succ]; rfl) (fun K hK => ?_) AllReadyH.nil
      go_simp
      have hB := hHeld.2.2
      refine (unhide HIk _ hB).mono ?_
      rintro e w5 ⟨rfl, hb⟩
      have hk5 := hB.trans (hb.mono hB.size)
      go_wp2_with fail
      refine hK.out _ _ (keepM hk5 b0P.out gP) (fun hHeld => ?_)
      clear hK K hB
      try simp only [Act.put, List.setIfInBounds_toArray, List.set_cons_zero, List.set_cons_succ]
      refine wpAnyH_take (i := 6) (v := ?_) (by simp only [List.getElem?_toArray, List.getElem?_cons_zero, List.getElem?_cons_succ]; rfl) (by kernel_rfl) (by kernel_rfl) (by kernel_rfl) (by exact fun _ _ _ h => h) (Or.inl ⟨by rfl, ?_⟩) (by assumption) ?_
      rotate_left
      · intro w hSw
        try dsimp only at hSw
        go_simp
        try with_reducible rfl
      try simp only [Act.put, List.setIfInBounds_toArray, List.set_cons_zero, List.set_cons_succ]
      refine wpAnyH_take (i := 7) (v := ?_) (by simp only [List.getElem?_toArray, List.getElem?_cons_zero, List.getElem?_cons_succ]; rfl) (by kernel_rfl) (by kernel_rfl) (by kernel_rfl) (by exact fun _ _ _ h => h) (Or.inl ⟨by rfl, ?_⟩) (by assumption) ?_
      rotate_left
      · intro w hSw
        try dsimp only at hSw
        go_simp
        try with_reducible rfl
      try simp only [Act.put, List.setIfInBounds_toArray, List.set_cons_zero, List.set_cons_succ]
      refine wpAnyH_take (i := 8) (v := ?_) (by simp only [List.getElem?_toArray, List.getElem?_cons_zero, List.getElem?_cons_succ]; rfl) (by kernel_rfl) (by kernel_rfl) (by kernel_rfl) (by exact fun _ _ _ h => h) (Or.inl ⟨by rfl, ?_⟩) (by assumption) ?_
      rotate_left
      · intro w hSw
        try dsimp only at hSw
        go_simp
        try with_reducible rfl
      try simp only [Act.put, List.setIfInBounds_toArray, List.set_cons_zero, List.set_cons_succ]
      refine wpAnyH_take (i := 9) (v := ?_) (by simp only [List.getElem?_toArray, List.getElem?_cons_zero, List.getElem?_cons_succ]; rfl) (by kernel_rfl) (by kernel_rfl) (by kernel_rfl) (by exact fun _ _ _ h => h) (Or.inl ⟨by rfl, ?_⟩) (by assumption) ?_
      rotate_left
      · intro w hSw
        try dsimp only at hSw
        go_simp
        try with_reducible rfl
      try simp only [Act.put, List.setIfInBounds_toArray, List.set_cons_zero, List.set_cons_succ]
      refine wpAnyH_take (i := 10) (v := ?_) (by simp only [List.getElem?_toArray, List.getElem?_cons_zero, List.getElem?_cons_succ]; rfl) (by kernel_rfl) (by kernel_rfl) (by kernel_rfl) (by exact fun _ _ _ h => h) (Or.inl ⟨by rfl, ?_⟩) (by assumption) ?_
      rotate_left
      · intro w hSw
        try dsimp only at hSw
        go_simp
        try with_reducible rfl
      try simp only [Act.put, List.setIfInBounds_toArray, List.set_cons_zero, List.set_cons_succ]
      refine wpAnyH_done (by kernel_rfl) ?_ _
      have hw5 := hwP.trans (hk5.mono hwP.size)
      have b05 := hide (blk_below b0P.out hk5)
      have bV5 := hide (blk_below bV.out hk5)
      have g5 : w5.cell? ⟨b4, o4 + k, none⟩ = some (.slice ag ng cg) := by rw [hk5.cell (cell_lt gP)]; exact gP
      have x1 := blk_cell bV5.out 1 _ rfl
      have x2 := blk_cell bV5.out 2 _ rfl
      clear hk5 hb gP bgP HIk hwP b0P bV
      by_cases z1 : qe = 0
      rotate_left
      · have HE := hide (hts.out.symm.trans (HMb.out (Q1.out z1)))
        have d1 : (qe != 0) = true := by simpa using z1
        clear z1
        go_wp2_with fail
        go_quiet (fail)
        go_wp2_with fail
        go_ret
        exact ⟨ret_bool HE.out.symm, below_drewN hw5 _⟩
      have d1 : (qe != 0) = false := by simpa using z1
      by_cases z2 : qn = tk.2.1
      rotate_left
      · have HE := hide (hts.out.symm.trans (HMb.out (Q2.out z2)))
        have d2 : (qn != tk.2.1) = true := by simpa using z2
        clear z1 z2
        go_wp2_with fail
        go_quiet (fail)
        go_wp2_with fail
        go_ret
        exact ⟨ret_bool HE.out.symm, below_drewN hw5 _⟩
      have d2 : (qn != tk.2.1) = false := by simpa using z2
      by_cases z3 : (ng : Int) = tk.2.2
      rotate_left
      · have HE := hide (hts.out.symm.trans (HMb.out (Q3.out z3)))
        have d3 : ((ng : Int) != tk.2.2) = true := by simpa using z3
        clear z1 z2 z3
        go_wp2_with fail
        go_quiet (fail)
        go_wp2_with fail
        go_ret
        exact ⟨ret_bool HE.out.symm, below_drewN hw5 _⟩
      have d3 : ((ng : Int) != tk.2.2) = false := by simpa using z3
      have HE := hide (HMn.out (Q0.out z1 z2 z3))
      clear z1 z2 z3
      go_wp2_with fail
      go_quiet (fail)
      go_wp2_with fail
      go_roundw
      case rel => exact ⟨k + 1, by omega, by go_num, below_drewN hw5 _, b05.out, HE.out.symm.trans hts.out⟩
      case measure => simp [intOf]; omega
    · go_wp2_with fail
      go_ret
      have hx := hts.out
      rw [List.drop_eq_nil_of_le (by rw [L1.out]; omega)] at hx
      exact ⟨ret_bool (by rw [← hx]; simp [meantB]), hw0⟩

end Go.Proofs.YtgngpmgjoifepaaGreatDoor
