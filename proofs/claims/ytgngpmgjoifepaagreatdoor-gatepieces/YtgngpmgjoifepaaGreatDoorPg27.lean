/- The contracts of trust.checkRelease, allMeant. The contract of trust.Take. -/
import Derived.Test.YtgngpmgjoifepaaGreatDoorPg24
import Derived.Test.YtgngpmgjoifepaaGreatDoorPg26
import Derived.Deep.RegionHeld3
import Derived.Deep.DeepCutAuto
namespace Go.Proofs.YtgngpmgjoifepaaGreatDoor
open Go.RowKit

theorem crE_1 {ss : List ByteArray} {l : List S2} {r : Rt} {v u : Int} {ts : List T3} {sigs : List Int} (h : relE v u ts ≠ 0) : crE ss l r v u ts sigs = relE v u ts := by unfold crE; rw [if_neg h]
theorem crE_2 {ss : List ByteArray} {l : List S2} {r : Rt} {v u : Int} {ts : List T3} {sigs : List Int} (h : relE v u ts = 0) (h2 : bookE ss ≠ 0) : crE ss l r v u ts sigs = bookE ss := by unfold crE; rw [if_pos h, if_neg h2]
theorem crE_3 {ss : List ByteArray} {l : List S2} {r : Rt} {v u : Int} {ts : List T3} {sigs : List Int} (h : relE v u ts = 0) (h2 : bookE ss = 0) : crE ss l r v u ts sigs = csE l r sigs (nameN ss (bs (relT v u ts))) := by unfold crE; rw [if_pos h, if_pos h2]

set_option maxHeartbeats 1600000 in
set_option maxRecDepth 100000 in
theorem tCheckRelease_any (ab : Option Addr) (nb cb : Nat) (ss : List ByteArray) (a1 : Option Addr) (n1 c1 : Nat) (l : List S2) (r : Rt) (a2 : Option Addr) (n2 c2 : Nat) (v u : Int) (a3 : Option Addr) (n3 c3 : Nat) (ts : List T3) (a4 : Option Addr) (n4 c4 : Nat) (sigs : List Int) (w : World)
    (h0 : BB w ab nb cb ss) (h1 : BG w a1 n1 l) (h2 : BI w a2 n2 r.ks) (h3 : BT w a3 n3 ts) (h4 : BI w a4 n4 sigs) (hT : Tab w) :
    Calls Tryz.prog 139 #[bookv ab nb cb, .slice a1 n1 c1, rv r.v a2 n2 c2 r.t, relv v u a3 n3 c3, .slice a4 n4 c4] w fun e w' => e = .returned (.int .i64 (crE ss l r v u ts sigs)) ∧ Below w.heap.size w w' := by
  have hw0 : Below w.heap.size w (((w.alloc (.cells #[.slice ab nb cb] 24)).alloc (.cells #[.int .i64 r.v, .slice a2 n2 c2, .int .i64 r.t] 63)).alloc (.cells #[.int .i64 v, .int .i64 u, .slice a3 n3 c3] 73)) := (((Below.refl _ _).alloc (Nat.le_refl _) _).alloc (by simp) _).alloc (by simp; omega) _
  have b0 := hide (blk_alloc (blk_alloc (heap_alloc_last w (.cells #[.slice ab nb cb] 24)) (.cells #[.int .i64 r.v, .slice a2 n2 c2, .int .i64 r.t] 63)) (.cells #[.int .i64 v, .int .i64 u, .slice a3 n3 c3] 73))
  have b1 := heap_alloc_last (w.alloc (.cells #[.slice ab nb cb] 24)) (.cells #[.int .i64 r.v, .slice a2 n2 c2, .int .i64 r.t] 63)
  rw [World.size_alloc] at b1
  replace b1 := hide (blk_alloc b1 (.cells #[.int .i64 v, .int .i64 u, .slice a3 n3 c3] 73))
  have HB := hide (fun W (hW : Below w.heap.size w W) => releaseText_any v u a3 n3 c3 ts W (h3.below hW).at_ h3.len h3.max (hT.below hW))
  have HC := hide (fun W s (hW : Below w.heap.size w W) => name_any ab nb cb ss s W (h0.below hW).at_ h0.len h0.cap h0.max h0.short)
  have HD := hide (fun W name (hW : Below w.heap.size w W) => checkSigs_any a1 n1 c1 l r a2 n2 c2 a4 n4 c4 sigs name W (h1.below hW) (h2.below hW) (h4.below hW))
  unfold rv at HD ⊢
  unfold relv at HB ⊢
  unfold bookv at HC ⊢
  clear h0 h1 h2 h3 h4 hT
  go_enter Tryz.func139, Tryz.ntmps139
  go_wp2_with fail
  generalize ((w.alloc (.cells #[.slice ab nb cb] 24)).alloc (.cells #[.int .i64 r.v, .slice a2 n2 c2, .int .i64 r.t] 63)).alloc (.cells #[.int .i64 v, .int .i64 u, .slice a3 n3 c3] 73) = W at *
  refine (unhide HB _ hw0).mono ?_
  rintro e w1 ⟨rfl, hb⟩
  replace b0 := hide (blk_below b0.out hb)
  replace b1 := hide (blk_below b1.out hb)
  replace hw0 := hw0.trans (hb.mono hw0.size)
  clear hb HB
  by_cases z1 : relE v u ts = 0
  rotate_left
  · have HE := hide (crE_1 (ss := ss) (l := l) (r := r) (sigs := sigs) z1)
    have hq : (relE v u ts != 0) = true := by simpa using z1
    clear z1 HC HD
    generalize relE v u ts = q at *
    generalize bs (relTx v u ts) = sx at *
    go_wp2_with fail
    go_ret
    exact ⟨ret_int HE.out.symm, hw0⟩
  rw [show relTx v u ts = relT v u ts by unfold relTx; rw [if_pos z1], z1]
  have Z1 := hide z1
  clear z1
  have x0 := blk_cell b0.out 0 _ rfl
  generalize hsx : bs (relT v u ts) = sx
  replace hsx := hide hsx
  replace HC := hide (fun W hW => HC.out W sx hW)
  go_wp2_with fail
  refine (unhide HC _ hw0).mono ?_
  rintro e w2 ⟨rfl, hb⟩
  replace b1 := hide (blk_below b1.out hb)
  replace hw0 := hw0.trans (hb.mono hw0.size)
  clear hb HC x0
  by_cases z2 : bookE ss = 0
  rotate_left
  · have HE := hide (crE_2 (l := l) (r := r) (sigs := sigs) Z1.out z2)
    have hq : (bookE ss != 0) = true := by simpa using z2
    clear z2 HD
    generalize bookE ss = q at *
    generalize nameE ss sx = q2 at *
    go_wp2_with fail
    go_ret
    exact ⟨ret_int HE.out.symm, hw0⟩
  have HE := hide (crE_3 (l := l) (r := r) (sigs := sigs) Z1.out z2)
  rw [show nameE ss sx = (nameN ss sx : Int) by unfold nameE; rw [if_pos z2], z2]
  rw [hsx.out] at HE
  clear z2
  generalize (nameN ss sx : Int) = nm at *
  have x0 := blk_cell b1.out 0 _ rfl
  have x1 := blk_cell b1.out 1 _ rfl
  have x2 := blk_cell b1.out 2 _ rfl
  go_wp2_with fail
  refine (unhide HD _ _ hw0).mono ?_
  rintro e w3 ⟨rfl, hb⟩
  go_wp2_with fail
  go_ret
  exact ⟨ret_int HE.out.symm, hw0.trans (hb.mono hw0.size)⟩

/-! ### The images are those that were meant -/

theorem meant_bad {ss : List ByteArray} {ts : List T3} {ws : List (List Int)} {k : Nat} (hk : k < ts.length) (hk2 : k < ws.length) (h : meant1 ss ts[k] ws[k] = false) : meantB ss (ts.drop k) (ws.drop k) = false := by
  rw [List.drop_eq_getElem_cons hk, List.drop_eq_getElem_cons hk2, meantB, h]
  rfl
theorem meant_next {ss : List ByteArray} {ts : List T3} {ws : List (List Int)} {k : Nat} (hk : k < ts.length) (hk2 : k < ws.length) (h : meant1 ss ts[k] ws[k] = true) : meantB ss (ts.drop k) (ws.drop k) = meantB ss (ts.drop (k + 1)) (ws.drop (k + 1)) := by
  rw [List.drop_eq_getElem_cons hk, List.drop_eq_getElem_cons hk2, meantB, h]
  rfl
theorem meant1_1 {ss : List ByteArray} {t : T3} {w : List Int} (h : inE ss w ≠ 0) : meant1 ss t w = false := by unfold meant1; simp [h]
theorem meant1_2 {ss : List ByteArray} {t : T3} {w : List Int} (h : ¬ inN ss w = t.2.1) : meant1 ss t w = false := by unfold meant1; simp [h]
theorem meant1_3 {ss : List ByteArray} {t : T3} {w : List Int} (h : ¬ (w.length : Int) = t.2.2) : meant1 ss t w = false := by unfold meant1; simp [h]
theorem meant1_0 {ss : List ByteArray} {t : T3} {w : List Int} (h : inE ss w = 0) (h2 : inN ss w = t.2.1) (h3 : (w.length : Int) = t.2.2) : meant1 ss t w = true := by unfold meant1; simp [h, h2, h3]

theorem keepM {w1 W : World} {B bs_ os_ : Nat} {v0 v1 : Value} {ty : TypeId} (hb : Below w1.heap.size w1 W) (h : w1.heap[B]? = some (.cells #[v0] ty (0, 0))) (hs : w1.cell? ⟨bs_, os_, none⟩ = some v1) : W.cell? ⟨B, 0, none⟩ = some v0 ∧ W.cell? ⟨bs_, os_, none⟩ = some v1 ∧ Below w1.heap.size w1 W :=
  ⟨blk_cell (blk_below h hb) 0 _ rfl, by rw [hb.cell (cell_lt hs)]; exact hs, hb⟩

set_option maxHeartbeats 3200000 in
set_option maxRecDepth 100000 in
theorem allMeant_any (ab : Option Addr) (nb cb : Nat) (ss : List ByteArray) (a1 : Option Addr) (n1 c1 : Nat) (ts : List T3) (a2 : Option Addr) (n2 c2 : Nat) (ws : List (List Int)) (w : World)
    (h0 : BB w ab nb cb ss) (h1 : BT w a1 n1 ts) (h2 : BL w a2 n2 ws) (hn : n1 = n2) (hT : Tab w) :
    Calls Tryz.prog 140 #[bookv ab nb cb, .slice a1 n1 c1, .slice a2 n2 c2] w fun e w' => e = .returned (.bool (meantB ss ts ws)) ∧ Below w.heap.size w w' := by
  have hw0 : Below w.heap.size w (w.alloc (.cells #[.slice ab nb cb] 24)) := (Below.refl _ _).alloc (Nat.le_refl _) _
  have b0 := hide (heap_alloc_last w (.cells #[.slice ab nb cb] 24))
  have HI := hide (fun W a n c xs (hW : Below w.heap.size w W) (hi : BI W a n xs) => imageName_any ab nb cb ss a n c xs W (h0.below hW).at_ h0.len h0.cap h0.max h0.short hi.at_ hi.len hi.max (hT.below hW))
  have L1 := hide h1.len
  have L2 := hide h2.len
  have m1 := h1.max
  have m2 := h2.max
  have H1 := hide h1.at_
  have H2 := hide h2.at_
  have HNn := hide hn
  unfold maxLen at m1 m2
  unfold bookv at HI ⊢
  clear h0 h1 h2 hT hn
  go_enter Tryz.func140, Tryz.ntmps140
  go_wp2_with fail
  generalize w.alloc (.cells #[.slice ab nb cb] 24) = W at *
  go_loopw [13] (fun i wr => ∃ k : Nat, k ≤ n1 ∧ i = .int .i64 k ∧ Below w.heap.size w wr ∧ Hid (wr.heap[w.heap.size]? = some (.cells #[.slice ab nb cb] 24 (0, 0))) ∧ Hid (meantB ss (ts.drop k) (ws.drop k) = meantB ss ts ws)) (fun i _ => n1 - (intOf i).toNat)
  case atStart => exact ⟨0, Nat.zero_le _, rfl, hw0, b0, rfl⟩
  case round =>
    clear b0 hw0
    obtain ⟨wq, rfl⟩ : ∃ wq : World, wq = wr := ⟨_, rfl⟩
    obtain ⟨k, hk, rfl, hw0, b0, hts⟩ := hrel
    by_cases hlt : k < n1
    · have hk1 : k < ts.length := by rw [L1.out]; exact hlt
      have hk2 : k < ws.length := by rw [L2.out, ← HNn.out]; exact hlt
      have hlt2 : k < n2 := by rw [← HNn.out]; exact hlt
      have i1 := H1.out.below hw0
      have i2 := H2.out.below hw0
      rcases i1 with e | ⟨b3, o3, rfl, hc3⟩
      · rw [e] at hk1; simp at hk1
      rcases i2 with e | ⟨b4, o4, rfl, hc4⟩
      · rw [e] at hk2; simp at hk2
      obtain ⟨e0, e1, e2⟩ := hc3 k ts[k] (List.getElem?_eq_getElem hk1)
      obtain ⟨ag, cg, g0, hig, hlg, hcg⟩ := hc4 k ws[k] (List.getElem?_eq_getElem hk2)
      have big : BI wq ag ws[k].length ws[k] := ⟨hig, rfl, by omega⟩
      have HMb := hide (meant_bad (ss := ss) hk1 hk2)
      have HMn := hide (meant_next (ss := ss) hk1 hk2)
      clear hc3 hc4 hig hlg hcg
      generalize ts[k] = tk at *
      generalize ws[k] = wk at *
      obtain ⟨ng, hng⟩ : ∃ ng, ng = wk.length := ⟨_, rfl⟩
      rw [← hng] at g0 big
      have hbP : Below wq.heap.size wq (wq.alloc (.cells #[.int .i64 tk.1, .int .i64 tk.2.1, .int .i64 tk.2.2] 104)) := (Below.refl _ _).alloc (Nat.le_refl _) _
      have bV := hide (heap_alloc_last wq (.cells #[.int .i64 tk.1, .int .i64 tk.2.1, .int .i64 tk.2.2] 104))
      have b0P := hide (blk_below b0.out hbP)
      have hwP := hw0.trans (hbP.mono hw0.size)
      have bgP := big.below hbP
      have gP : (wq.alloc (.cells #[.int .i64 tk.1, .int .i64 tk.2.1, .int .i64 tk.2.2] 104)).cell? ⟨b4, o4 + k, none⟩ = some (.slice ag ng cg) := by rw [hbP.cell (cell_lt g0)]; exact g0
      replace hng := hide hng
      go_upto_region 4 with fail
      generalize wq.alloc (.cells #[.int .i64 tk.1, .int .i64 tk.2.1, .int .i64 tk.2.2] 104) = wP at *
      obtain ⟨V, hV⟩ : ∃ V, V = wq.heap.size := ⟨_, rfl⟩
      rw [← hV] at bV ⊢
      clear e0 e1 e2 g0 hbP big b0 hw0 hV
      have HIk := hide (fun W' (hW : Below wP.heap.size wP W') => HI.out W' ag ng cg wk (hwP.trans (hW.mono hwP.size)) (bgP.below hW))
      have Q1 := hide (meant1_1 (ss := ss) (t := tk) (w := wk))
      have Q2 := hide (meant1_2 (ss := ss) (t := tk) (w := wk))
      have Q3 := hide (meant1_3 (ss := ss) (t := tk) (w := wk))
      have Q0 := hide (meant1_0 (ss := ss) (t := tk) (w := wk))
      rw [← hng.out] at Q3 Q0
      generalize inE ss wk = qe at *
      generalize inN ss wk = qn at *
      refine wp_region_held_drew (S := fun w' => w'.cell? ⟨w.heap.size, 0, none⟩ = some (.slice ab nb cb) ∧ w'.cell? ⟨b4, o4 + k, none⟩ = some (.slice ag ng cg) ∧ Below wP.heap.size wP w') (by kernel_rfl) (keepM (Below.refl _ _).drew b0P.out gP) ?_
      intro hHeld
      refine wpAnyH_take (i := 0) (v := ?_) (by simp only [List.getElem?_toArray, List.getElem?_cons_zero]; rfl) (by kernel_rfl) (by kernel_rfl) (by kernel_rfl) (by exact fun _ _ _ h => h) (Or.inl ⟨by rfl, ?_⟩) (by assumption) ?_
      rotate_left
      · intro w hSw
        try dsimp only at hSw
        go_simp
        try with_reducible rfl
      try simp only [Act.put, List.setIfInBounds_toArray, List.set_cons_zero, List.set_cons_succ]
      refine wpAnyH_take (i := 1) (v := ?_) (by simp only [List.getElem?_toArray, List.getElem?_cons_zero, List.getElem?_cons_succ]; rfl) (by kernel_rfl) (by kernel_rfl) (by kernel_rfl) (by exact fun _ _ _ h => h) (Or.inl ⟨by rfl, ?_⟩) (by assumption) ?_
      rotate_left
      · intro w hSw
        try dsimp only at hSw
        go_simp
        try with_reducible rfl
      try simp only [Act.put, List.setIfInBounds_toArray, List.set_cons_zero, List.set_cons_succ]
      refine wpAnyH_take (i := 2) (v := ?_) (by simp only [List.getElem?_toArray, List.getElem?_cons_zero, List.getElem?_cons_succ]; rfl) (by kernel_rfl) (by kernel_rfl) (by kernel_rfl) (by exact fun _ _ _ h => h) (Or.inl ⟨by rfl, ?_⟩) (by assumption) ?_
      rotate_left
      · intro w hSw
        try dsimp only at hSw
        go_simp
        try with_reducible rfl
      try simp only [Act.put, List.setIfInBounds_toArray, List.set_cons_zero, List.set_cons_succ]
      refine wpAnyH_take (i := 3) (v := ?_) (by simp only [List.getElem?_toArray, List.getElem?_cons_zero, List.getElem?_cons_succ]; rfl) (by kernel_rfl) (by kernel_rfl) (by kernel_rfl) (by exact fun _ _ _ h => h) (Or.inl ⟨by rfl, ?_⟩) (by assumption) ?_
      rotate_left
      · intro w hSw
        try dsimp only at hSw
        go_simp
        try with_reducible rfl
      try simp only [Act.put, List.setIfInBounds_toArray, List.set_cons_zero, List.set_cons_succ]
      refine wpAnyH_take (i := 4) (v := ?_) (by simp only [List.getElem?_toArray, List.getElem?_cons_zero, List.getElem?_cons_succ]; rfl) (by kernel_rfl) (by kernel_rfl) (by kernel_rfl) (by exact fun _ _ _ h => h) (Or.inl ⟨by rfl, ?_⟩) (by assumption) ?_
      rotate_left
      · intro w hSw
        try dsimp only at hSw
        go_simp
        try with_reducible rfl
      try simp only [Act.put, List.setIfInBounds_toArray, List.set_cons_zero, List.set_cons_succ]
      refine wpAnyH_ready (rs := [5]) (by kernel_rfl) (by simp) ?_
      refine AllReadyH.cons (by simp only [List.getElem?_toArray, List.getElem?_cons_zero, List.getElem?_cons_succ]; rfl) (fun K hK => ?_) AllReadyH.nil
      go_simp
      have hB := hHeld.2.2
      refine (unhide HIk _ hB).mono ?_
      rintro e w5 ⟨rfl, hb⟩
      have hk5 := hB.trans (hb.mono hB.size)
      go_wp2_with fail
      refine hK.out _ _ (keepM hk5 b0P.out gP) (fun hHeld => ?_)
      clear hK K hB
      try simp only [Act.put, List.setIfInBounds_toArray, List.set_cons_zero, List.set_cons_succ]
      refine wpAnyH_take (i := 6) (v := ?_) (by simp only [List.getElem?_toArray, List.getElem?_cons_zero, List.getElem?_cons_succ]; rfl) (by kernel_rfl) (by kernel_rfl) (by kernel_rfl) (by exact fun _ _ _ h => h) (Or.inl ⟨by rfl, ?_⟩) (by assumption) ?_
      rotate_left
      · intro w hSw
        try dsimp only at hSw
        go_simp
        try with_reducible rfl
      try simp only [Act.put, List.setIfInBounds_toArray, List.set_cons_zero, List.set_cons_succ]
      refine wpAnyH_take (i := 7) (v := ?_) (by simp only [List.getElem?_toArray, List.getElem?_cons_zero, List.getElem?_cons_succ]; rfl) (by kernel_rfl) (by kernel_rfl) (by kernel_rfl) (by exact fun _ _ _ h => h) (Or.inl ⟨by rfl, ?_⟩) (by assumption) ?_
      rotate_left
      · intro w hSw
        try dsimp only at hSw
        go_simp
        try with_reducible rfl
      try simp only [Act.put, List.setIfInBounds_toArray, List.set_cons_zero, List.set_cons_succ]
      refine wpAnyH_take (i := 8) (v := ?_) (by simp only [List.getElem?_toArray, List.getElem?_cons_zero, List.getElem?_cons_succ]; rfl) (by kernel_rfl) (by kernel_rfl) (by kernel_rfl) (by exact fun _ _ _ h => h) (Or.inl ⟨by rfl, ?_⟩) (by assumption) ?_
      rotate_left
      · intro w hSw
        try dsimp only at hSw
        go_simp
        try with_reducible rfl
      try simp only [Act.put, List.setIfInBounds_toArray, List.set_cons_zero, List.set_cons_succ]
      refine wpAnyH_take (i := 9) (v := ?_) (by simp only [List.getElem?_toArray, List.getElem?_cons_zero, List.getElem?_cons_succ]; rfl) (by kernel_rfl) (by kernel_rfl) (by kernel_rfl) (by exact fun _ _ _ h => h) (Or.inl ⟨by rfl, ?_⟩) (by assumption) ?_
      rotate_left
      · intro w hSw
        try dsimp only at hSw
        go_simp
        try with_reducible rfl
      try simp only [Act.put, List.setIfInBounds_toArray, List.set_cons_zero, List.set_cons_succ]
      refine wpAnyH_take (i := 10) (v := ?_) (by simp only [List.getElem?_toArray, List.getElem?_cons_zero, List.getElem?_cons_succ]; rfl) (by kernel_rfl) (by kernel_rfl) (by kernel_rfl) (by exact fun _ _ _ h => h) (Or.inl ⟨by rfl, ?_⟩) (by assumption) ?_
      rotate_left
      · intro w hSw
        try dsimp only at hSw
        go_simp
        try with_reducible rfl
      try simp only [Act.put, List.setIfInBounds_toArray, List.set_cons_zero, List.set_cons_succ]
      refine wpAnyH_done (by kernel_rfl) ?_ _
      have hw5 := hwP.trans (hk5.mono hwP.size)
      have b05 := hide (blk_below b0P.out hk5)
      have bV5 := hide (blk_below bV.out hk5)
      have g5 : w5.cell? ⟨b4, o4 + k, none⟩ = some (.slice ag ng cg) := by rw [hk5.cell (cell_lt gP)]; exact gP
      have x1 := blk_cell bV5.out 1 _ rfl
      have x2 := blk_cell bV5.out 2 _ rfl
      clear hk5 hb gP bgP HIk hwP b0P bV
      by_cases z1 : qe = 0
      rotate_left
      · have HE := hide (hts.out.symm.trans (HMb.out (Q1.out z1)))
        have d1 : (qe != 0) = true := by simpa using z1
        clear z1
        go_wp2_with fail
        go_quiet (fail)
        go_wp2_with fail
        go_ret
        exact ⟨ret_bool HE.out.symm, below_drewN hw5 _⟩
      have d1 : (qe != 0) = false := by simpa using z1
      by_cases z2 : qn = tk.2.1
      rotate_left
      · have HE := hide (hts.out.symm.trans (HMb.out (Q2.out z2)))
        have d2 : (qn != tk.2.1) = true := by simpa using z2
        clear z1 z2
        go_wp2_with fail
        go_quiet (fail)
        go_wp2_with fail
        go_ret
        exact ⟨ret_bool HE.out.symm, below_drewN hw5 _⟩
      have d2 : (qn != tk.2.1) = false := by simpa using z2
      by_cases z3 : (ng : Int) = tk.2.2
      rotate_left
      · have HE := hide (hts.out.symm.trans (HMb.out (Q3.out z3)))
        have d3 : ((ng : Int) != tk.2.2) = true := by simpa using z3
        clear z1 z2 z3
        go_wp2_with fail
        go_quiet (fail)
        go_wp2_with fail
        go_ret
        exact ⟨ret_bool HE.out.symm, below_drewN hw5 _⟩
      have d3 : ((ng : Int) != tk.2.2) = false := by simpa using z3
      have HE := hide (HMn.out (Q0.out z1 z2 z3))
      clear z1 z2 z3
      go_wp2_with fail
      go_quiet (fail)
      go_wp2_with fail
      go_roundw
      case rel => exact ⟨k + 1, by omega, by go_num, below_drewN hw5 _, b05.out, HE.out.symm.trans hts.out⟩
      case measure => simp [intOf]; omega
    · go_wp2_with fail
      go_ret
      have hx := hts.out
      rw [List.drop_eq_nil_of_le (by rw [L1.out]; omega)] at hx
      exact ⟨ret_bool (by rw [← hx]; simp [meantB]), hw0⟩

end Go.Proofs.YtgngpmgjoifepaaGreatDoor

namespace Go.Proofs.YtgngpmgjoifepaaGreatDoor
open Go.RowKit

/-- Where an offer's lists lie. -/
structure OA where
  a1 : Option Addr
  n1 : Nat
  c1 : Nat
  a2 : Option Addr
  n2 : Nat
  c2 : Nat
  a3 : Option Addr
  n3 : Nat
  c3 : Nat
  a4 : Option Addr
  n4 : Nat
  c4 : Nat
  a5 : Option Addr
  n5 : Nat
  c5 : Nat
def offv (v u : Int) (m : OA) : Value := .agg #[.slice m.a1 m.n1 m.c1, .slice m.a2 m.n2 m.c2, .int .i64 v, .int .i64 u, .slice m.a3 m.n3 m.c3, .slice m.a4 m.n4 m.c4, .slice m.a5 m.n5 m.c5]
def ofO (v u : Int) (m : OA) : Obj := .cells #[.slice m.a1 m.n1 m.c1, .slice m.a2 m.n2 m.c2, .int .i64 v, .int .i64 u, .slice m.a3 m.n3 m.c3, .slice m.a4 m.n4 m.c4, .slice m.a5 m.n5 m.c5] 75 (0, 0)
structure BO (w : World) (m : OA) (o : Of) : Prop where
  roots : BR w m.a1 m.n1 o.roots
  rsigs : BL w m.a2 m.n2 o.rsigs
  tgts : BT w m.a3 m.n3 o.ts
  sigs : BI w m.a4 m.n4 o.sigs
  imgs : BL w m.a5 m.n5 o.imgs
theorem BO.below {w w' : World} {m : OA} {o : Of} (h : BO w m o) (hb : Below w.heap.size w w') : BO w' m o := ⟨h.roots.below hb, h.rsigs.below hb, h.tgts.below hb, h.sigs.below hb, h.imgs.below hb⟩

theorem restE_1 {ss : List ByteArray} {ver : Int} {o : Of} {now units : Int} (h : o.v ≤ ver) : restE ss ver o now units = 10 := by unfold restE; rw [if_pos h]
theorem restE_2 {ss : List ByteArray} {ver : Int} {o : Of} {now units : Int} (h : ¬ o.v ≤ ver) (h2 : o.u < now) : restE ss ver o now units = 11 := by unfold restE; rw [if_neg h, if_pos h2]
theorem restE_3 {ss : List ByteArray} {ver : Int} {o : Of} {now units : Int} (h : ¬ o.v ≤ ver) (h2 : ¬ o.u < now) (h3 : ¬ (o.ts.length : Int) = units) : restE ss ver o now units = 4 := by unfold restE; rw [if_neg h, if_neg h2, if_pos h3]
theorem restE_4 {ss : List ByteArray} {ver : Int} {o : Of} {now units : Int} (h : ¬ o.v ≤ ver) (h2 : ¬ o.u < now) (h3 : (o.ts.length : Int) = units) (h4 : ¬ (o.imgs.length : Int) = units) : restE ss ver o now units = 4 := by unfold restE; rw [if_neg h, if_neg h2, if_neg (by simpa using h3), if_pos h4]
theorem restE_5 {ss : List ByteArray} {ver : Int} {o : Of} {now units : Int} (h : ¬ o.v ≤ ver) (h2 : ¬ o.u < now) (h3 : (o.ts.length : Int) = units) (h4 : (o.imgs.length : Int) = units) (h5 : meantB ss o.ts o.imgs = false) : restE ss ver o now units = 5 := by unfold restE; rw [if_neg h, if_neg h2, if_neg (by simpa using h3), if_neg (by simpa using h4), h5]; rfl
theorem restE_0 {ss : List ByteArray} {ver : Int} {o : Of} {now units : Int} (h : ¬ o.v ≤ ver) (h2 : ¬ o.u < now) (h3 : (o.ts.length : Int) = units) (h4 : (o.imgs.length : Int) = units) (h5 : meantB ss o.ts o.imgs = true) : restE ss ver o now units = 0 := by unfold restE; rw [if_neg h, if_neg h2, if_neg (by simpa using h3), if_neg (by simpa using h4), h5]; rfl

theorem takeE_1 {ss : List ByteArray} {l : List S2} {t : Tr} {o : Of} {now units : Int} (h1 : trE t ≠ 0) : takeE ss l t o now units = trE t := by unfold takeE; rw [if_neg h1]
theorem takeE_2 {ss : List ByteArray} {l : List S2} {t : Tr} {o : Of} {now units : Int} (h1 : trE t = 0) (h2 : allE ss l t o.roots o.rsigs ≠ 0) : takeE ss l t o now units = allE ss l t o.roots o.rsigs := by unfold takeE; rw [if_pos h1, if_neg h2]
theorem takeE_3 {ss : List ByteArray} {l : List S2} {t : Tr} {o : Of} {now units : Int} (h1 : trE t = 0) (h2 : allE ss l t o.roots o.rsigs = 0) (h3 : crE ss l (lastR t.r o.roots) o.v o.u o.ts o.sigs ≠ 0) : takeE ss l t o now units = crE ss l (lastR t.r o.roots) o.v o.u o.ts o.sigs := by unfold takeE; rw [if_pos h1, if_pos h2, if_neg h3]
theorem takeE_4 {ss : List ByteArray} {l : List S2} {t : Tr} {o : Of} {now units : Int} (h1 : trE t = 0) (h2 : allE ss l t o.roots o.rsigs = 0) (h3 : crE ss l (lastR t.r o.roots) o.v o.u o.ts o.sigs = 0) : takeE ss l t o now units = restE ss t.ver o now units := by unfold takeE; rw [if_pos h1, if_pos h2, if_pos h3]

theorem csE_ok {l : List S2} {r : Rt} {sigs : List Int} {name : Int} (h : csE l r sigs name = 0) : cntE l r sigs = 0 ∧ r.t ≤ (cntN l r.ks sigs name : Int) := by
  unfold csE at h
  split at h
  · rename_i h1
    split at h
    · cases h
    · exact ⟨h1, by omega⟩
  · rename_i h1
    exact absurd h h1
theorem cntE_ok {l : List S2} {r : Rt} {sigs : List Int} (h : cntE l r sigs = 0) : sigE l = 0 ∧ r.e = 0 ∧ sigs.length ≤ 50 := by
  unfold cntE at h
  split at h
  · rename_i h1
    split at h
    · rename_i h2
      split at h
      · cases h
      · exact ⟨h1, h2, by omega⟩
    · rename_i h2
      exact absurd h h2
  · rename_i h1
    exact absurd h h1
theorem crE_ok {ss : List ByteArray} {l : List S2} {r : Rt} {v u : Int} {ts : List T3} {sigs : List Int} (h : crE ss l r v u ts sigs = 0) : relE v u ts = 0 ∧ bookE ss = 0 ∧ csE l r sigs (nameN ss (bs (relT v u ts))) = 0 := by
  unfold crE at h
  split at h
  · rename_i h1
    split at h
    · rename_i h2
      exact ⟨h1, h2, h⟩
    · rename_i h2
      exact absurd h h2
  · rename_i h1
    exact absurd h h1

/-- What Take answers with. -/
def takeT (q : Int) (t : Tr) (o : Of) : Tr := turnT q ⟨t.r, o.v⟩ (lastR t.r o.roots)

set_option maxHeartbeats 6400000 in
set_option maxRecDepth 100000 in
theorem take_any (ab : Option Addr) (nb cb : Nat) (ss : List ByteArray) (a1 : Option Addr) (n1 c1 : Nat) (l : List S2) (t : Tr) (a2 : Option Addr) (n2 c2 : Nat) (o : Of) (m : OA) (now units : Int) (w : World)
    (h0 : BB w ab nb cb ss) (h1 : BG w a1 n1 l) (h2 : BI w a2 n2 t.r.ks) (h3 : BO w m o) (hT : Tab w) :
    Calls Tryz.prog 83 #[bookv ab nb cb, .slice a1 n1 c1, trv t.r.v a2 n2 c2 t.r.t t.ver, offv o.v o.u m, .int .i64 now, .int .i64 units] w fun e w' => TAns w' e (takeT (takeE ss l t o now units) t o) (takeE ss l t o now units) (Frsh w.heap.size) ∧ Below w.heap.size w w' := by
  have hw0 : Below w.heap.size w ((((w.alloc (bkO ab nb cb)).alloc (trO t a2 n2 c2)).alloc (ofO o.v o.u m)).alloc tzO) := ((((Below.refl _ _).alloc (Nat.le_refl _) _).alloc (by simp) _).alloc (by simp; omega) _).alloc (by simp; omega) _
  have tb : Hid (TB ((((w.alloc (bkO ab nb cb)).alloc (trO t a2 n2 c2)).alloc (ofO o.v o.u m)).alloc tzO) w.heap.size (bkO ab nb cb) (trO t a2 n2 c2) (ofO o.v o.u m) tzO) :=
    ⟨blk_alloc (blk_alloc (blk_alloc (heap_alloc_last _ _) _) _) _, blk_alloc (blk_alloc (last1 _ _ _) _) _, blk_alloc (last2 _ _ _ _) _, last3 _ _ _ _ _⟩
  have HA := hide (fun W (hW : Below w.heap.size w W) => checkTrust_any t a2 n2 c2 W (h2.below hW))
  have HB := hide (fun W (hW : Below w.heap.size w W) => turnAll_any ab nb cb ss a1 n1 c1 l t a2 n2 c2 m.a1 m.n1 m.c1 o.roots m.a2 m.n2 m.c2 o.rsigs W (h0.below hW) (h1.below hW) (h2.below hW) (h3.below hW).roots (h3.below hW).rsigs (hT.below hW))
  have HC := hide (fun W (r : Rt) a n c (hW : Below w.heap.size w W) (hr : BI W a n r.ks) => tCheckRelease_any ab nb cb ss a1 n1 c1 l r a n c o.v o.u m.a3 m.n3 m.c3 o.ts m.a4 m.n4 m.c4 o.sigs W (h0.below hW) (h1.below hW) hr (h3.below hW).tgts (h3.below hW).sigs (hT.below hW))
  have HD := hide (fun W (hW : Below w.heap.size w W) (hn : m.n3 = m.n5) => allMeant_any ab nb cb ss m.a3 m.n3 m.c3 o.ts m.a5 m.n5 m.c5 o.imgs W (h0.below hW) (h3.below hW).tgts (h3.below hW).imgs hn (hT.below hW))
  have H2o := hide h2.old
  have L3 := hide h3.tgts.len
  have L5 := hide h3.imgs.len
  unfold trv rv relv bookv at *
  unfold offv
  clear h0 h1 h2 h3 hT
  unfold bkO trO ofO tzO at hw0 tb
  unfold TAns trv at HB
  go_enter Tryz.func83, Tryz.ntmps83
  go_wp2_with fail
  generalize (((w.alloc (.cells #[.slice ab nb cb] 24)).alloc (.cells #[.int .i64 t.r.v, .slice a2 n2 c2, .int .i64 t.r.t, .int .i64 t.ver] 65)).alloc (.cells #[.slice m.a1 m.n1 m.c1, .slice m.a2 m.n2 m.c2, .int .i64 o.v, .int .i64 o.u, .slice m.a3 m.n3 m.c3, .slice m.a4 m.n4 m.c4, .slice m.a5 m.n5 m.c5] 75)).alloc (.cells #[.int .i64 0, .slice none 0 0, .int .i64 0, .int .i64 0] 65) = W at *
  refine (unhide HA _ hw0).mono ?_
  rintro e w1 ⟨rfl, hb⟩
  replace tb := hide (tb.out.below hb)
  replace hw0 := hw0.trans (hb.mono hw0.size)
  clear hb HA
  by_cases z1 : trE t = 0
  rotate_left
  · have HE := hide (takeE_1 (ss := ss) (l := l) (o := o) (now := now) (units := units) z1)
    have ZN := hide z1
    have hq : (trE t != 0) = true := by simpa using z1
    clear HB HC HD z1
    generalize trE t = q at *
    have y0 := blk_cell tb.out.b3 0 _ rfl
    have fy0 := blk_free tb.out.b3 0
    have y1 := blk_cell tb.out.b3 1 _ rfl
    have fy1 := blk_free tb.out.b3 1
    have y2 := blk_cell tb.out.b3 2 _ rfl
    have fy2 := blk_free tb.out.b3 2
    have y3 := blk_cell tb.out.b3 3 _ rfl
    have fy3 := blk_free tb.out.b3 3
    go_wp2_with fail
    refine bodyPost_ret (v := .tuple #[.agg #[.int .i64 0, .slice none 0 0, .int .i64 0, .int .i64 0], .int .i64 q]) (by simp [results, Tryz.results83, go_sem, y0, y1, y2, y3]) rfl ?_
    exact ⟨tAns_e HE.out ZN.out (frsh_none _), ((((hw0).setCell (by show w.heap.size ≤ w.heap.size + 1 + 1 + 1; omega) _).setCell (by show w.heap.size ≤ w.heap.size + 1 + 1 + 1; omega) _).setCell (by show w.heap.size ≤ w.heap.size + 1 + 1 + 1; omega) _).setCell (by show w.heap.size ≤ w.heap.size + 1 + 1 + 1; omega) _⟩
  have Z1 := hide z1
  rw [z1]
  clear z1
  have k0 := blk_cell tb.out.b0 0 _ rfl
  have p0 := blk_cell tb.out.b1 0 _ rfl
  have p1 := blk_cell tb.out.b1 1 _ rfl
  have p2 := blk_cell tb.out.b1 2 _ rfl
  have p3 := blk_cell tb.out.b1 3 _ rfl
  have o0 := blk_cell tb.out.b2 0 _ rfl
  have o1 := blk_cell tb.out.b2 1 _ rfl
  have hsz := blk_lt tb.out.b3
  have HE2 := hide (takeE_2 (ss := ss) (l := l) (o := o) (now := now) (units := units) Z1.out)
  have HE3 := hide (takeE_3 (ss := ss) (l := l) (o := o) (now := now) (units := units) Z1.out)
  have HE4 := hide (takeE_4 (ss := ss) (l := l) (o := o) (now := now) (units := units) Z1.out)
  generalize allE ss l t o.roots o.rsigs = A at *
  obtain ⟨T, hTT⟩ : ∃ T, T = turnT A t (lastR t.r o.roots) := ⟨_, rfl⟩
  rw [← hTT] at HB
  replace hTT := hide hTT
  go_wp2_with fail
  refine (unhide HB _ hw0).mono ?_
  rintro e w2 ⟨⟨a5, n5, c5, rfl, hi5, hf5⟩, hb⟩
  replace tb := hide (tb.out.below hb)
  replace hw0 := hw0.trans (hb.mono hw0.size)
  have hfar : T.r.ks = [] ∨ ∀ ad, a5 = some ad → ad.block ≠ w.heap.size + 1 := by
    rcases hf5 with ⟨rfl, hr⟩ | hf5
    · by_cases hA : A = 0
      · have : T.r.ks = t.r.ks := by rw [hTT.out, hA, hr]; rfl
        rw [this]
        exact H2o.out.imp id (fun h ad e => by have := h ad e; omega)
      · left
        rw [hTT.out, turnT_no hA]
        rfl
    · exact .inr (fun ad e => by have := hf5 ad e; omega)
  clear hb HB hf5 hsz H2o k0 o0 o1 p0 p1 p2 p3
  have y0 := blk_cell tb.out.b1 0 _ rfl
  have fy0 := blk_free tb.out.b1 0
  have y1 := blk_cell tb.out.b1 1 _ rfl
  have fy1 := blk_free tb.out.b1 1
  have y2 := blk_cell tb.out.b1 2 _ rfl
  have fy2 := blk_free tb.out.b1 2
  have y3 := blk_cell tb.out.b1 3 _ rfl
  have fy3 := blk_free tb.out.b1 3
  have hiS := (((hi5.set2 _ 0 (.int .i64 T.r.v) hfar).set2 _ 1 (.slice a5 n5 c5) hfar).set2 _ 2 (.int .i64 T.r.t) hfar).set2 _ 3 (.int .i64 T.ver) hfar
  have hwS : Below w.heap.size w ((((w2.setCell ⟨w.heap.size + 1, 0, none⟩ (.int .i64 T.r.v)).setCell ⟨w.heap.size + 1, 1, none⟩ (.slice a5 n5 c5)).setCell ⟨w.heap.size + 1, 2, none⟩ (.int .i64 T.r.t)).setCell ⟨w.heap.size + 1, 3, none⟩ (.int .i64 T.ver)) := ((((hw0).setCell (by show w.heap.size ≤ w.heap.size + 1; omega) _).setCell (by show w.heap.size ≤ w.heap.size + 1; omega) _).setCell (by show w.heap.size ≤ w.heap.size + 1; omega) _).setCell (by show w.heap.size ≤ w.heap.size + 1; omega) _
  have tbS : Hid (TB ((((w2.setCell ⟨w.heap.size + 1, 0, none⟩ (.int .i64 T.r.v)).setCell ⟨w.heap.size + 1, 1, none⟩ (.slice a5 n5 c5)).setCell ⟨w.heap.size + 1, 2, none⟩ (.int .i64 T.r.t)).setCell ⟨w.heap.size + 1, 3, none⟩ (.int .i64 T.ver)) w.heap.size (bkO ab nb cb) (trO T a5 n5 c5) (ofO o.v o.u m) tzO) := ⟨blk_far4 tb.out.b0 (by omega), blk_set4 tb.out.b1, blk_far4 tb.out.b2 (by omega), blk_far4 tb.out.b3 (by omega)⟩
  unfold bkO trO ofO tzO at tbS
  have hk1 := Nat.le_refl 0
  go_upto_region 5 with fail
  generalize (((w2.setCell ⟨w.heap.size + 1, 0, none⟩ (.int .i64 T.r.v)).setCell ⟨w.heap.size + 1, 1, none⟩ (.slice a5 n5 c5)).setCell ⟨w.heap.size + 1, 2, none⟩ (.int .i64 T.r.t)).setCell ⟨w.heap.size + 1, 3, none⟩ (.int .i64 T.ver) = wS at *
  clear tb hw0 hi5 hfar y0 y1 y2 y3 fy0 fy1 fy2 fy3 hk1
  have tb := tbS
  have hw0 := hwS
  clear tbS hwS
  by_cases z2 : A = 0
  rotate_left
  · have HE := hide (HE2.out z2)
    have ZN := hide z2
    have hq : (A != 0) = true := by simpa using z2
    clear HC HD z2
    have y0 := blk_cell tb.out.b3 0 _ rfl
    have fy0 := blk_free tb.out.b3 0
    have y1 := blk_cell tb.out.b3 1 _ rfl
    have fy1 := blk_free tb.out.b3 1
    have y2 := blk_cell tb.out.b3 2 _ rfl
    have fy2 := blk_free tb.out.b3 2
    have y3 := blk_cell tb.out.b3 3 _ rfl
    have fy3 := blk_free tb.out.b3 3
    go_wp2_with fail
    refine bodyPost_ret (v := .tuple #[.agg #[.int .i64 0, .slice none 0 0, .int .i64 0, .int .i64 0], .int .i64 A]) (by simp [results, Tryz.results83, go_sem, y0, y1, y2, y3]) rfl ?_
    exact ⟨tAns_e HE.out ZN.out (frsh_none _), ((((hw0).setCell (by show w.heap.size ≤ w.heap.size + 1 + 1 + 1; omega) _).setCell (by show w.heap.size ≤ w.heap.size + 1 + 1 + 1; omega) _).setCell (by show w.heap.size ≤ w.heap.size + 1 + 1 + 1; omega) _).setCell (by show w.heap.size ≤ w.heap.size + 1 + 1 + 1; omega) _⟩
  have hT' : T = ⟨lastR t.r o.roots, t.ver⟩ := by rw [hTT.out, z2]; rfl
  replace HE3 := hide (HE3.out z2)
  replace HE4 := hide (HE4.out z2)
  subst hT'
  rw [z2]
  clear z2 hTT HE2
  generalize hL : lastR t.r o.roots = L at *
  replace hL := hide hL
  have k0 := blk_cell tb.out.b0 0 _ rfl
  have p0 := blk_cell tb.out.b1 0 _ rfl
  have p1 := blk_cell tb.out.b1 1 _ rfl
  have p2 := blk_cell tb.out.b1 2 _ rfl
  have o2 := blk_cell tb.out.b2 2 _ rfl
  have o3 := blk_cell tb.out.b2 3 _ rfl
  have o4 := blk_cell tb.out.b2 4 _ rfl
  have o5 := blk_cell tb.out.b2 5 _ rfl
  go_wp2_with fail
  refine (unhide HC _ L a5 n5 c5 hw0 hiS).mono ?_
  rintro e w3 ⟨rfl, hb⟩
  replace tb := hide (tb.out.below hb)
  replace hw0 := hw0.trans (hb.mono hw0.size)
  replace hiS := hiS.below hb
  clear hb HC k0 p0 p1 p2 o2 o3 o4 o5
  have HK := hide (crE_ok (ss := ss) (l := l) (r := L) (v := o.v) (u := o.u) (ts := o.ts) (sigs := o.sigs))
  generalize crE ss l L o.v o.u o.ts o.sigs = C at *
  by_cases z3 : C = 0
  rotate_left
  · have HE := hide (HE3.out z3)
    have ZN := hide z3
    have hq : (C != 0) = true := by simpa using z3
    clear HD z3 HK
    have y0 := blk_cell tb.out.b3 0 _ rfl
    have fy0 := blk_free tb.out.b3 0
    have y1 := blk_cell tb.out.b3 1 _ rfl
    have fy1 := blk_free tb.out.b3 1
    have y2 := blk_cell tb.out.b3 2 _ rfl
    have fy2 := blk_free tb.out.b3 2
    have y3 := blk_cell tb.out.b3 3 _ rfl
    have fy3 := blk_free tb.out.b3 3
    go_wp2_with fail
    refine bodyPost_ret (v := .tuple #[.agg #[.int .i64 0, .slice none 0 0, .int .i64 0, .int .i64 0], .int .i64 C]) (by simp [results, Tryz.results83, go_sem, y0, y1, y2, y3]) rfl ?_
    exact ⟨tAns_e HE.out ZN.out (frsh_none _), ((((hw0).setCell (by show w.heap.size ≤ w.heap.size + 1 + 1 + 1; omega) _).setCell (by show w.heap.size ≤ w.heap.size + 1 + 1 + 1; omega) _).setCell (by show w.heap.size ≤ w.heap.size + 1 + 1 + 1; omega) _).setCell (by show w.heap.size ≤ w.heap.size + 1 + 1 + 1; omega) _⟩
  have hn5 : n5 ≤ 1000 := by
    have h := (rootE_ok (cntE_ok (csE_ok (HK.out z3).2.2).1).2.1).2.1
    have := hiS.len
    omega
  replace HE4 := hide (HE4.out z3)
  rw [z3]
  clear z3 HK HE3
  have p3 := blk_cell tb.out.b1 3 _ rfl
  have o2 := blk_cell tb.out.b2 2 _ rfl
  by_cases z4 : o.v ≤ t.ver
  · have HE := hide (HE4.out.trans (restE_1 z4))
    have d4 : decide (o.v ≤ t.ver) = true := by simpa using z4
    clear z4
    have y0 := blk_cell tb.out.b3 0 _ rfl
    have fy0 := blk_free tb.out.b3 0
    have y1 := blk_cell tb.out.b3 1 _ rfl
    have fy1 := blk_free tb.out.b3 1
    have y2 := blk_cell tb.out.b3 2 _ rfl
    have fy2 := blk_free tb.out.b3 2
    have y3 := blk_cell tb.out.b3 3 _ rfl
    have fy3 := blk_free tb.out.b3 3
    go_wp2_with fail
    refine bodyPost_ret (v := .tuple #[.agg #[.int .i64 0, .slice none 0 0, .int .i64 0, .int .i64 0], .int .i64 10]) (by simp [results, Tryz.results83, go_sem, y0, y1, y2, y3]) rfl ?_
    exact ⟨tAns_e HE.out (by decide) (frsh_none _), ((((hw0).setCell (by show w.heap.size ≤ w.heap.size + 1 + 1 + 1; omega) _).setCell (by show w.heap.size ≤ w.heap.size + 1 + 1 + 1; omega) _).setCell (by show w.heap.size ≤ w.heap.size + 1 + 1 + 1; omega) _).setCell (by show w.heap.size ≤ w.heap.size + 1 + 1 + 1; omega) _⟩
  have d4 : decide (o.v ≤ t.ver) = false := by simpa using z4
  have Z4 := hide z4
  clear z4
  have o3 := blk_cell tb.out.b2 3 _ rfl
  by_cases z5 : o.u < now
  · have HE := hide (HE4.out.trans (restE_2 Z4.out z5))
    have d5 : decide (o.u < now) = true := by simpa using z5
    clear z5
    have y0 := blk_cell tb.out.b3 0 _ rfl
    have fy0 := blk_free tb.out.b3 0
    have y1 := blk_cell tb.out.b3 1 _ rfl
    have fy1 := blk_free tb.out.b3 1
    have y2 := blk_cell tb.out.b3 2 _ rfl
    have fy2 := blk_free tb.out.b3 2
    have y3 := blk_cell tb.out.b3 3 _ rfl
    have fy3 := blk_free tb.out.b3 3
    go_wp2_with fail
    refine bodyPost_ret (v := .tuple #[.agg #[.int .i64 0, .slice none 0 0, .int .i64 0, .int .i64 0], .int .i64 11]) (by simp [results, Tryz.results83, go_sem, y0, y1, y2, y3]) rfl ?_
    exact ⟨tAns_e HE.out (by decide) (frsh_none _), ((((hw0).setCell (by show w.heap.size ≤ w.heap.size + 1 + 1 + 1; omega) _).setCell (by show w.heap.size ≤ w.heap.size + 1 + 1 + 1; omega) _).setCell (by show w.heap.size ≤ w.heap.size + 1 + 1 + 1; omega) _).setCell (by show w.heap.size ≤ w.heap.size + 1 + 1 + 1; omega) _⟩
  have d5 : decide (o.u < now) = false := by simpa using z5
  have Z5 := hide z5
  clear z5
  have o4 := blk_cell tb.out.b2 4 _ rfl
  have o6 := blk_cell tb.out.b2 6 _ rfl
  by_cases z6 : (m.n3 : Int) = units
  rotate_left
  · have HE := hide (HE4.out.trans (restE_3 (by have := Z4.out; omega) (by have := Z5.out; omega) (by rw [L3.out]; exact z6)))
    have d6 : ((m.n3 : Int) != units) = true := by simpa using z6
    clear z6
    have y0 := blk_cell tb.out.b3 0 _ rfl
    have fy0 := blk_free tb.out.b3 0
    have y1 := blk_cell tb.out.b3 1 _ rfl
    have fy1 := blk_free tb.out.b3 1
    have y2 := blk_cell tb.out.b3 2 _ rfl
    have fy2 := blk_free tb.out.b3 2
    have y3 := blk_cell tb.out.b3 3 _ rfl
    have fy3 := blk_free tb.out.b3 3
    go_wp2_with fail
    refine bodyPost_ret (v := .tuple #[.agg #[.int .i64 0, .slice none 0 0, .int .i64 0, .int .i64 0], .int .i64 4]) (by simp [results, Tryz.results83, go_sem, y0, y1, y2, y3]) rfl ?_
    exact ⟨tAns_e HE.out (by decide) (frsh_none _), ((((hw0).setCell (by show w.heap.size ≤ w.heap.size + 1 + 1 + 1; omega) _).setCell (by show w.heap.size ≤ w.heap.size + 1 + 1 + 1; omega) _).setCell (by show w.heap.size ≤ w.heap.size + 1 + 1 + 1; omega) _).setCell (by show w.heap.size ≤ w.heap.size + 1 + 1 + 1; omega) _⟩
  have d6 : ((m.n3 : Int) != units) = false := by simpa using z6
  have Z6 := hide z6
  clear z6
  by_cases z7 : (m.n5 : Int) = units
  rotate_left
  · have HE := hide (HE4.out.trans (restE_4 (by have := Z4.out; omega) (by have := Z5.out; omega) (by rw [L3.out]; exact Z6.out) (by rw [L5.out]; exact z7)))
    have d7 : ((m.n5 : Int) != units) = true := by simpa using z7
    clear z7
    have y0 := blk_cell tb.out.b3 0 _ rfl
    have fy0 := blk_free tb.out.b3 0
    have y1 := blk_cell tb.out.b3 1 _ rfl
    have fy1 := blk_free tb.out.b3 1
    have y2 := blk_cell tb.out.b3 2 _ rfl
    have fy2 := blk_free tb.out.b3 2
    have y3 := blk_cell tb.out.b3 3 _ rfl
    have fy3 := blk_free tb.out.b3 3
    go_wp2_with fail
    refine bodyPost_ret (v := .tuple #[.agg #[.int .i64 0, .slice none 0 0, .int .i64 0, .int .i64 0], .int .i64 4]) (by simp [results, Tryz.results83, go_sem, y0, y1, y2, y3]) rfl ?_
    exact ⟨tAns_e HE.out (by decide) (frsh_none _), ((((hw0).setCell (by show w.heap.size ≤ w.heap.size + 1 + 1 + 1; omega) _).setCell (by show w.heap.size ≤ w.heap.size + 1 + 1 + 1; omega) _).setCell (by show w.heap.size ≤ w.heap.size + 1 + 1 + 1; omega) _).setCell (by show w.heap.size ≤ w.heap.size + 1 + 1 + 1; omega) _⟩
  have d7 : ((m.n5 : Int) != units) = false := by simpa using z7
  have Z7 := hide z7
  clear z7
  have k0 := blk_cell tb.out.b0 0 _ rfl
  go_wp2_with fail
  refine (unhide HD _ hw0 (by have := Z6.out; have := Z7.out; omega)).mono ?_
  rintro e w4 ⟨rfl, hb⟩
  replace tb := hide (tb.out.below hb)
  replace hw0 := hw0.trans (hb.mono hw0.size)
  replace hiS := hiS.below hb
  clear hb HD k0 p3 o2 o3 o4 o6
  cases z8 : meantB ss o.ts o.imgs
  · have HE := hide (HE4.out.trans (restE_5 (by have := Z4.out; omega) (by have := Z5.out; omega) (by rw [L3.out]; exact Z6.out) (by rw [L5.out]; exact Z7.out) z8))
    clear z8
    have y0 := blk_cell tb.out.b3 0 _ rfl
    have fy0 := blk_free tb.out.b3 0
    have y1 := blk_cell tb.out.b3 1 _ rfl
    have fy1 := blk_free tb.out.b3 1
    have y2 := blk_cell tb.out.b3 2 _ rfl
    have fy2 := blk_free tb.out.b3 2
    have y3 := blk_cell tb.out.b3 3 _ rfl
    have fy3 := blk_free tb.out.b3 3
    go_wp2_with fail
    refine bodyPost_ret (v := .tuple #[.agg #[.int .i64 0, .slice none 0 0, .int .i64 0, .int .i64 0], .int .i64 5]) (by simp [results, Tryz.results83, go_sem, y0, y1, y2, y3]) rfl ?_
    exact ⟨tAns_e HE.out (by decide) (frsh_none _), ((((hw0).setCell (by show w.heap.size ≤ w.heap.size + 1 + 1 + 1; omega) _).setCell (by show w.heap.size ≤ w.heap.size + 1 + 1 + 1; omega) _).setCell (by show w.heap.size ≤ w.heap.size + 1 + 1 + 1; omega) _).setCell (by show w.heap.size ≤ w.heap.size + 1 + 1 + 1; omega) _⟩
  have HE := hide (HE4.out.trans (restE_0 (by have := Z4.out; omega) (by have := Z5.out; omega) (by rw [L3.out]; exact Z6.out) (by rw [L5.out]; exact Z7.out) z8))
  clear z8 HE4
  have p0 := blk_cell tb.out.b1 0 _ rfl
  have p1 := blk_cell tb.out.b1 1 _ rfl
  have p2 := blk_cell tb.out.b1 2 _ rfl
  have o2 := blk_cell tb.out.b2 2 _ rfl
  have hsz := blk_lt tb.out.b3
  have HT := hide (tTrusted_any L a5 n5 c5 o.v w4 hiS hn5)
  unfold rv trv at HT
  go_wp2_with fail
  refine (unhide HT).mono ?_
  rintro e w5 ⟨rfl, hbi, hb⟩
  replace tb := hide (tb.out.below hb)
  have hwE := hw0.trans (hb.mono hw0.size)
  clear hb HT p0 p1 p2 o2
  have y0 := blk_cell tb.out.b3 0 _ rfl
  have fy0 := blk_free tb.out.b3 0
  have y1 := blk_cell tb.out.b3 1 _ rfl
  have fy1 := blk_free tb.out.b3 1
  have y2 := blk_cell tb.out.b3 2 _ rfl
  have fy2 := blk_free tb.out.b3 2
  have y3 := blk_cell tb.out.b3 3 _ rfl
  have fy3 := blk_free tb.out.b3 3
  go_wp2_with fail
  refine bodyPost_ret (v := .tuple #[.agg #[.int .i64 L.v, .slice (some ⟨w4.heap.size + 2, 0, none⟩) n5 n5, .int .i64 L.t, .int .i64 o.v], .int .i64 0]) (by simp [results, Tryz.results83, go_sem, y0, y1, y2, y3]) rfl ?_
  rw [HE.out, show takeT 0 t o = ⟨L, o.v⟩ by rw [← hL.out]; rfl]
  refine ⟨⟨some ⟨w4.heap.size + 2, 0, none⟩, n5, n5, rfl, ?_, fun ad e => by cases e; exact Nat.le_trans hw0.size (by simp)⟩, ((((hwE).setCell (by show w.heap.size ≤ w.heap.size + 1 + 1 + 1; omega) _).setCell (by show w.heap.size ≤ w.heap.size + 1 + 1 + 1; omega) _).setCell (by show w.heap.size ≤ w.heap.size + 1 + 1 + 1; omega) _).setCell (by show w.heap.size ≤ w.heap.size + 1 + 1 + 1; omega) _⟩
  exact (((hbi.set _ 0 _ (by omega)).set _ 1 _ (by omega)).set _ 2 _ (by omega)).set _ 3 _ (by omega)

end Go.Proofs.YtgngpmgjoifepaaGreatDoor
