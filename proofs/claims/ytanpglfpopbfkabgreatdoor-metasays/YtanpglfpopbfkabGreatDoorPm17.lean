/- The contract of meta.readRelease. -/
import Derived.Test.YtanpglfpopbfkabGreatDoorPm16
import Derived.Test.YtanpglfpopbfkabGreatDoorPm7
import Derived.Test.YtanpglfpopbfkabGreatDoorPm10
import Derived.Deep.AppendLies
import Derived.Deep.DeepCutAuto
namespace Go.Proofs.YtanpglfpopbfkabGreatDoor
open Go.RowKit

def hdP (l : List UInt8) : List UInt8 := (Lib.split l semiW).headD []
def tlP (l : List UInt8) : List (List UInt8) := (Lib.split l semiW).tail
def rts (l : List UInt8) : List T3 := (tlP l).map tgV
def relB (l : List UInt8) : Bool := headB (hdP l) && (tlP l).all tgB

theorem allO_tgt : ∀ (ps : List (List UInt8)), allO tgtO ps = if ps.all tgB then some (ps.map tgV) else none
  | [] => rfl
  | p :: r => by
    simp only [allO]
    rw [tgtO_eq, allO_tgt r]
    cases h1 : tgB p <;> cases h2 : r.all tgB <;> simp [h1, h2]

theorem readR_eq (l : List UInt8) : readR l = if relB l then some (hv (hdP l), hu (hdP l), rts l) else none := by
  unfold readR relB hdP tlP rts tlP
  cases h : Lib.split l semiW with
  | nil => exact absurd h (split_ne _ _)
  | cons a r =>
    simp only [List.headD_cons, List.tail_cons]
    rw [headO_eq, allO_tgt]
    by_cases h1 : headB a = true <;> by_cases h2 : r.all tgB = true <;> simp [h1, h2]

/-! ### Rows of targets -/

def flat (ts : List T3) : List Value := ts.flatMap tcells
theorem flat_snoc (ts : List T3) (t : T3) : flat (ts ++ [t]) = flat ts ++ tcells t := by unfold flat; simp
theorem flat_get : ∀ (ts : List T3) (i : Nat) (t : T3) (j : Nat), ts[i]? = some t → j < 3 → (flat ts)[i * 3 + j]? = (tcells t)[j]?
  | [], i, t, j, h, _ => by simp at h
  | x :: r, 0, t, j, h, hj => by
    simp at h
    subst h
    unfold flat
    rw [List.flatMap_cons, Nat.zero_mul, Nat.zero_add, List.getElem?_append_left (by simpa [tcells] using hj)]
  | x :: r, i + 1, t, j, h, hj => by
    have ih := flat_get r i t j (by simpa using h) hj
    unfold flat at ih ⊢
    rw [List.flatMap_cons, List.getElem?_append_right (by simp [tcells]; omega), show (i + 1) * 3 + j - (tcells x).length = i * 3 + j by simp [tcells]; omega]
    exact ih

theorem row_tgts {w : World} {b n : Nat} {v : Value} {ts : List T3} (h : w.ownsRow b 78 3 v n (flat ts)) (hn : ts.length = n) : ∃ A C, v = .slice A n C ∧ IsTgts w A ts ∧ ∀ ad, A = some ad → b ≤ ad.block := by
  obtain ⟨_, ⟨rfl, rfl⟩ | ⟨g, cap, cur, rfl, hbg, hg, hc, _, hs, ht⟩⟩ := h
  · exact ⟨none, 0, rfl, .inl (by simpa using hn), fun _ e => by cases e⟩
  · refine ⟨_, cap, rfl, .inr ⟨g, 0, rfl, fun i t hi => ?_⟩, fun ad e => by cases e; exact hbg⟩
    have hlt : i < n := by rw [← hn]; exact (List.getElem?_eq_some_iff.1 hi).1
    have one : ∀ j u, j < 3 → (tcells t)[j]? = some u → w.cell? ⟨g, i * 3 + j, none⟩ = some u := by
      intro j u hj hu
      have h2 := flat_get ts i t j hi hj
      rw [← ht, hu, List.getElem?_take, if_pos (by omega)] at h2
      exact blk_cell hg _ _ (by simpa using h2)
    rw [Nat.zero_add]
    exact ⟨by simpa using one 0 _ (by decide) rfl, one 1 _ (by decide) rfl, one 2 _ (by decide) rfl⟩

theorem IsTgts.setFar {w : World} {a : Option Addr} {ts : List T3} (h : IsTgts w a ts) {b : Nat} (hb : ∀ ad, a = some ad → b < ad.block) (i : Nat) (v : Value) : IsTgts (w.setCell ⟨b, i, none⟩ v) a ts := by
  rcases h with h | ⟨g, off, rfl, hc⟩
  · exact .inl h
  · have hne := hb _ rfl
    refine .inr ⟨g, off, rfl, fun j t hj => ?_⟩
    obtain ⟨h1, h2, h3⟩ := hc j t hj
    have e : ∀ o, (w.setCell ⟨b, i, none⟩ v).cell? ⟨g, o, none⟩ = w.cell? ⟨g, o, none⟩ := fun o => World.cell?_of_block (w := w) (Below.heap_setCell w _ _ _ (Nat.ne_of_gt hne))
    exact ⟨by rw [e]; exact h1, by rw [e]; exact h2, by rw [e]; exact h3⟩

set_option maxRecDepth 100000 in
theorem info_tgt : (Tryz.prog.info? 78).map (fun i => (i.zero, i.size, i.bytes)) = some (some (.agg #[.int .i64 0, .int .i64 0, .int .i64 0]), 3, 24) := by kernel_rfl

theorem tcells_one (t : T3) : ∀ u ∈ tcells t, u.oneCell' = true := by
  intro u hu
  simp [tcells] at hu
  rcases hu with rfl | rfl | rfl <;> rfl

theorem news_tgt (w : World) (t : T3) (ty : TypeId) : ∀ j u, (tcells t)[j]? = some u → (w.alloc (.cells #[.int .i64 t.1, .int .i64 t.2.1, .int .i64 t.2.2] ty)).cell? ((⟨w.heap.size, 0, none⟩ : Addr).add j) = some u :=
  fun j u hu => World.news_of_block (heap_alloc_last w _) j u hu

/-- What is answered: a release in memory, and whether it is written so. -/
def RelAns (l : List UInt8) (w w' : World) (e : Ending) : Prop :=
  ∃ a n c, e = .returned (.tuple #[relv (hv (hdP l)) (hu (hdP l)) a n c, .bool (relB l)]) ∧ IsTgts w' a (rts l) ∧ (rts l).length = n ∧ n ≤ maxLen ∧ ∀ ad, a = some ad → w.heap.size < ad.block

/-- What holds ahead of each round of readRelease's loop. -/
def RLoop (w : World) (V F B n : Nat) (x y : Int) (q : Bool) (f0 : ByteArray) (ps : List ByteArray) (v6 i : Value) (wq : World) : Prop :=
  ∃ (k : Nat) (p : Value) (ok : Bool), k ≤ n ∧ v6 = .bool ok ∧ i = .int .i64 k ∧ Below w.heap.size w wq ∧ B ≤ wq.heap.size ∧ Hid (wq.heap[V]? = some (.cells #[.int .i64 x, .int .i64 y, p] 27 (0, 0))) ∧ Hid (wq.heap[w.heap.size]? = some (.cells #[.int .i64 0, .int .i64 0, .slice none 0 0] 27 (0, 0))) ∧ Hid (OwnStrs wq F (f0 :: ps)) ∧ Hid (wq.ownsRow B 78 3 p k (flat ((ps.take k).map (fun f => tgV f.data.toList)))) ∧ Hid (ok = (q && (ps.take k).all (fun f => tgB f.data.toList)))

set_option maxHeartbeats 3200000 in
set_option maxRecDepth 100000 in
theorem readRelease_any (s : ByteArray) (hs : s.size ≤ 2000) (w : World) (hV : Vars w) :
    Calls Tryz.prog 41 #[.string s] w fun e w' => RelAns s.data.toList w w' e ∧ Below w.heap.size w w' := by
  have HS := hide (fun W (hW : Vars W) => split_any s [59, 32] hs (by decide) W hW)
  change Hid (∀ W, Vars W → Calls Tryz.prog _ #[.string s, .string { data := #[59, 32] }] W _) at HS
  have HD := hide (fsB_data s [59, 32])
  have HZ := hide (fun f (hf : f ∈ fsB s [59, 32]) => fsB_short hf)
  have hlim : (fsB s [59, 32]).length ≤ 2001 := by
    rw [fsB_len _ _ (by decide)]
    have := Lib.countB_le (bs [59, 32]) (by decide) _ s (Nat.le_refl _)
    omega
  have hne : fsB s [59, 32] ≠ [] := by
    intro e
    have := HD.out
    rw [e] at this
    exact split_ne _ _ this.symm
  have hw0 : Below w.heap.size w (w.alloc (.cells #[.int .i64 0, .int .i64 0, .slice none 0 0] 27)) := (Below.refl _ _).alloc (Nat.le_refl _) _
  have b0 := hide (heap_alloc_last w (.cells #[.int .i64 0, .int .i64 0, .slice none 0 0] 27))
  generalize fsB s [59, 32] = fs at *
  obtain ⟨f0, ps, rfl⟩ : ∃ f0 ps, fs = f0 :: ps := by
    cases fs with
    | nil => exact absurd rfl hne
    | cons a r => exact ⟨a, r, rfl⟩
  clear hne
  have H1 := hide (show hdP s.data.toList = f0.data.toList by unfold hdP; rw [show semiW = [59, 32] from rfl, ← HD.out]; rfl)
  have H2 := hide (show tlP s.data.toList = ps.map (·.data.toList) by unfold tlP; rw [show semiW = [59, 32] from rfl, ← HD.out]; rfl)
  clear HD
  have HR := hide (fun X (hX : Vars X) => readHead_any f0 (Nat.le_trans (HZ.out f0 (by simp)) hs) X hX)
  have HL : (f0 :: ps).length = ps.length + 1 := rfl
  rw [HL] at HS hlim
  clear HL
  go_enter Tryz.func41, Tryz.ntmps41
  go_wp2_with fail
  generalize w.alloc (.cells #[.int .i64 0, .int .i64 0, .slice none 0 0] 27) = W at *
  refine (unhide HS _ (hV.below hw0)).mono ?_
  rintro e w1 ⟨rfl, ho, hb1⟩
  have ltW : w.heap.size < W.heap.size := blk_lt b0.out
  replace b0 := hide (blk_below b0.out hb1)
  replace hw0 := hw0.trans (hb1.mono hw0.size)
  clear hb1 HS
  have ho' := hide ho
  clear ho
  have e0 : w1.cell? ⟨W.heap.size, 0, none⟩ = some (.string f0) := ho'.out.cell 0 (by simp)
  obtain ⟨n, hn⟩ : ∃ n, n = ps.length := ⟨_, rfl⟩
  rw [← hn] at hlim ⊢
  have HN := hide hn
  clear hn
  have z1 : (0 : Int) < ((n + 1 : Nat) : Int) := by omega
  go_wp2_with fail
  refine (unhide HR _ (hV.below hw0)).mono ?_
  rintro e w2 ⟨rfl, hb2⟩
  replace b0 := hide (blk_below b0.out hb2)
  replace ho' := hide (ho'.out.below hb2 ho'.out.lt)
  replace hw0 := hw0.trans (hb2.mono hw0.size)
  clear hb2 HR e0
  have ltF : W.heap.size < w2.heap.size := ho'.out.lt
  rw [← H1.out]
  obtain ⟨x, hx⟩ : ∃ x, x = hv (hdP s.data.toList) := ⟨_, rfl⟩
  obtain ⟨y, hy⟩ : ∃ y, y = hu (hdP s.data.toList) := ⟨_, rfl⟩
  obtain ⟨q, hq⟩ : ∃ q, q = headB (hdP s.data.toList) := ⟨_, rfl⟩
  rw [← hx, ← hy, ← hq]
  have HA := hide (⟨hx, hy, hq⟩ : _ ∧ _ ∧ _)
  clear hx hy hq
  have hwV := hw0.alloc hw0.size (.cells #[.int .i64 x, .int .i64 y, .slice none 0 0] 27)
  have bV := hide (heap_alloc_last w2 (.cells #[.int .i64 x, .int .i64 y, .slice none 0 0] 27))
  have bR := hide (blk_alloc b0.out (.cells #[.int .i64 x, .int .i64 y, .slice none 0 0] 27))
  have oF := hide (ho'.out.below ((Below.refl _ _).alloc (Nat.le_refl _) (.cells #[.int .i64 x, .int .i64 y, .slice none 0 0] 27)) ltF)
  clear b0 ho' hw0
  have z2 : (1 : Int) ≤ ((n + 1 : Nat) : Int) := by omega
  have z3 : (n + 1 : Nat) ≤ 9223372036854775807 := by omega
  obtain ⟨B, hB⟩ : ∃ B, B = w2.heap.size + 1 := ⟨_, rfl⟩
  have r0 : Hid ((w2.alloc (.cells #[.int .i64 x, .int .i64 y, .slice none 0 0] 27)).ownsRow B 78 3 (.slice none 0 0) 0 (flat ((ps.take 0).map (fun f => tgV f.data.toList)))) := World.ownsRow_nil _ _ _ _
  have hsz : B ≤ (w2.alloc (.cells #[.int .i64 x, .int .i64 y, .slice none 0 0] 27)).heap.size := by simp; omega
  have hBV : w2.heap.size < B := by omega
  have hBW : W.heap.size < B := by omega
  have hBw : w.heap.size < B := by omega
  have hwV2 : w.heap.size ≤ w2.heap.size := by omega
  clear hB
  go_upto_region 3 with fail
  generalize w2.alloc (.cells #[.int .i64 x, .int .i64 y, .slice none 0 0] 27) = wV at *
  go_cut [21, 22, 23] (fun v21 v22 v23 wx => (∃ A, v21 = .slice A n n ∧ (0 < n → A = some ⟨W.heap.size, 1, none⟩)) ∧ v22 = .int .i64 n ∧ v23 = .int .i64 0 ∧ wx = wV)
  case first =>
    by_cases n0 : n = 0
    · subst n0
      go_wp2_with fail
      go_meet
      case rel => exact ⟨⟨_, rfl, fun h => absurd h (by decide)⟩, rfl, rfl, rfl⟩
    · go_wp2_with fail
      go_meet
      case rel => exact ⟨⟨_, rfl, fun _ => rfl⟩, rfl, rfl, rfl⟩
  case rest =>
  obtain ⟨⟨A, rfl, hA⟩, rfl, rfl, hwc⟩ := hcut
  subst hwc
  obtain ⟨wV, rfl⟩ : ∃ wV : World, wV = wc := ⟨_, rfl⟩
  obtain ⟨ii, hii, iz0, iz1, iz2⟩ := info_parts info_tgt
  have HAd := hide hA
  clear hA
  go_wp2_with fail
  go_loopw [6, 23] (fun v6 i wq => RLoop w w2.heap.size W.heap.size B n x y q f0 ps v6 i wq) (fun _ i _ => n - (intOf i).toNat)
  case atStart => exact ⟨0, _, q, Nat.zero_le _, rfl, rfl, hwV, hsz, bV, bR, oF, r0, by show _ = _; simp⟩
  case round =>
  clear hwV hsz bV bR oF r0
  obtain ⟨k, p, ok, hk, rfl, rfl, hw, hsz, bV, bR, oF, hr, hok⟩ := hrel
  by_cases hlt : k < n
  · obtain rfl : A = some ⟨W.heap.size, 1, none⟩ := HAd.out (by omega)
    have hkx : k < ps.length := by rw [← HN.out]; exact hlt
    have ek : wr.cell? ⟨W.heap.size, 1 + k, none⟩ = some (.string ps[k]) := by
      have := oF.out.cell (1 + k) (by simp; omega)
      rw [this]
      simp [hkx, Nat.add_comm 1 k]
    have HT := hide (fun X (hX : Vars X) => readTarget_any ps[k] (Nat.le_trans (HZ.out ps[k] (by simp)) hs) X hX)
    unfold tv at HT
    have HP := hide (show flat ((ps.take (k + 1)).map (fun f => tgV f.data.toList)) = flat ((ps.take k).map (fun f => tgV f.data.toList)) ++ tcells (tgV ps[k].data.toList) by rw [List.take_succ_eq_append_getElem hkx, List.map_append, List.map_cons, List.map_nil, flat_snoc])
    have HQ := hide (show (q && (ps.take (k + 1)).all (fun f => tgB f.data.toList)) = (ok && tgB ps[k].data.toList) by rw [List.take_succ_eq_append_getElem hkx, List.all_append, hok.out]; simp [Bool.and_assoc])
    generalize ps[k] = fk at *
    generalize tgV fk.data.toList = tk at *
    generalize tgB fk.data.toList = tb at *
    go_wp2_with fail
    refine (unhide HT _ (hV.below hw)).mono ?_
    rintro e w3 ⟨rfl, hb3⟩
    have ltV : w2.heap.size < wr.heap.size := blk_lt bV.out
    replace bV := hide (blk_below bV.out hb3)
    replace bR := hide (blk_below bR.out hb3)
    replace oF := hide (oF.out.below hb3 oF.out.lt)
    replace hr := hide (ownsRow_below hr.out hb3)
    replace hw := hw.trans (hb3.mono hw.size)
    replace hsz := Nat.le_trans hsz hb3.size
    clear hb3
    have hwT := hw.alloc hw.size (.cells #[.int .i64 tk.1, .int .i64 tk.2.1, .int .i64 tk.2.2] 78)
    have bT := hide (heap_alloc_last w3 (.cells #[.int .i64 tk.1, .int .i64 tk.2.1, .int .i64 tk.2.2] 78))
    have hbT : Below w3.heap.size w3 (w3.alloc (.cells #[.int .i64 tk.1, .int .i64 tk.2.1, .int .i64 tk.2.2] 78)) := (Below.refl _ _).alloc (Nat.le_refl _) _
    replace bV := hide (blk_below bV.out hbT)
    replace bR := hide (blk_below bR.out hbT)
    replace oF := hide (oF.out.below hbT oF.out.lt)
    replace hr := hide (ownsRow_below hr.out hbT)
    replace hsz := Nat.le_trans hsz hbT.size
    clear hbT hw
    go_upto_region 7 with fail
    generalize w3.alloc (.cells #[.int .i64 tk.1, .int .i64 tk.2.1, .int .i64 tk.2.2] 78) = wT at *
    have c2 := blk_cell bV.out 2 _ rfl
    have t0 := blk_cell bT.out 0 _ rfl
    have t1 := blk_cell bT.out 1 _ rfl
    have t2 := blk_cell bT.out 2 _ rfl
    have ltV' : w2.heap.size < wT.heap.size := blk_lt bV.out
    have ltR' : w.heap.size < wT.heap.size := blk_lt bR.out
    have ltF' : W.heap.size < wT.heap.size := oF.out.lt
    have hnews := news_tgt wT tk 78
    have hrS := hr.out.alloc (.cells #[.int .i64 tk.1, .int .i64 tk.2.1, .int .i64 tk.2.2] 78)
    have hwS := hwT.alloc hwT.size (.cells #[.int .i64 tk.1, .int .i64 tk.2.1, .int .i64 tk.2.2] 78)
    have hge := ownBlock_ge hrS
    have hfin : ∀ ok', ok' = (ok && tb) → Hid (ok' = (q && (ps.take (k + 1)).all (fun f => tgB f.data.toList))) := fun ok' e => by show _ = _; rw [HQ.out, e]
    clear HQ hok
    cases ok <;> cases tb
    all_goals
      go_wp2_with (at_builtin; refine wpList_append_lies _ rfl _ _ 25 rfl B 78 ii _ 3 24 Tryz.underlying25 hii iz0 iz1 iz2 rfl (by omega) p k _ rfl hrS ⟨wT.heap.size, 0, none⟩ 1 1 (tcells tk) rfl rfl hnews (tcells_one _) (by omega) (by unfold maxLen; omega) (by omega) (by simp; omega) (wT.heap.size + 1) (by simp) ?_; intro g cap w4 hown4 hgr4 _ _; have bV4 := (hgr4.block w2.heap.size (by simp; omega) (fun e => absurd (hge _ e.symm) (by omega))).trans (blk_alloc bV.out _); have bR4 := (hgr4.block w.heap.size (by simp; omega) (fun e => absurd (hge _ e.symm) (by omega))).trans (blk_alloc bR.out _); have oF4 := (hgr4.block W.heap.size (by simp; omega) (fun e => absurd (hge _ e.symm) (by omega))).trans (blk_alloc oF.out _); have hw4 : Below w.heap.size w w4 := hwS.grown hgr4 (by have := hwS.size; simp; omega) (fun j hj => by have := hge j hj; omega); have u2 := blk_free bV4 2; have v2 := blk_cell bV4 2 _ rfl; have hsz4 : B ≤ w4.heap.size := (by have := hgr4.size; simp at this; omega))
      go_wp2_with fail
      go_roundw
      case rel =>
        refine ⟨k + 1, .slice (some ⟨g, 0, none⟩) (k + 1) cap, _, by omega, rfl, by go_num, hw4.setCell (p := ⟨w2.heap.size, 2, none⟩) hwV2 _, ?_, ?_, ?_, ?_, ?_, hfin _ rfl⟩
        · simpa using hsz4
        · show _ = _
          exact set1 bV4 2 _
        · show _ = _
          exact set_far bR4 _ _ (by omega)
        · show OwnStrs _ _ _
          exact set_far oF4 _ _ (by omega)
        · show World.ownsRow _ _ _ _ _ _ _
          rw [HP.out]
          exact ownsRow_setCell_below hown4 (by simp; omega) _
      case measure => simp [intOf]; omega
  · have hkn : k = n := by omega
    subst hkn
    have HE := hide (show ps.take k = ps from List.take_of_length_le (by rw [← HN.out]; exact Nat.le_refl _))
    rw [HE.out] at hr hok
    have HRt := hide (show rts s.data.toList = ps.map (fun f => tgV f.data.toList) by unfold rts; rw [H2.out, List.map_map]; rfl)
    have HRb := hide (show relB s.data.toList = ok by unfold relB; rw [H2.out, hok.out, HA.out.2.2, List.all_map]; rfl)
    obtain ⟨A', C, rfl, -, -⟩ := row_tgts hr.out (by simp [HN.out])
    have v0 := blk_cell bV.out 0 _ rfl
    have v1 := blk_cell bV.out 1 _ rfl
    have v2 := blk_cell bV.out 2 _ rfl
    have u0 := blk_free bR.out 0
    have u1 := blk_free bR.out 1
    have u2 := blk_free bR.out 2
    have c0 := blk_cell bR.out 0 _ rfl
    have c1 := blk_cell bR.out 1 _ rfl
    have c2 := blk_cell bR.out 2 _ rfl
    have hwf := ((hw.setCell (p := ⟨w.heap.size, 0, none⟩) (Nat.le_refl _) (.int .i64 x)).setCell (p := ⟨w.heap.size, 1, none⟩) (Nat.le_refl _) (.int .i64 y)).setCell (p := ⟨w.heap.size, 2, none⟩) (Nat.le_refl _) (.slice A' k C)
    have bf := hide (set3 bR.out (.int .i64 x) (.int .i64 y) (.slice A' k C))
    have hrf := ownsRow_setCell_below (ownsRow_setCell_below (ownsRow_setCell_below hr.out (a := ⟨w.heap.size, 0, none⟩) (by simp; omega) (.int .i64 x)) (a := ⟨w.heap.size, 1, none⟩) (by simp; omega) (.int .i64 y)) (a := ⟨w.heap.size, 2, none⟩) (by simp; omega) (.slice A' k C)
    go_wp2_with fail
    generalize ((wr.setCell ⟨w.heap.size, 0, none⟩ (.int .i64 x)).setCell ⟨w.heap.size, 1, none⟩ (.int .i64 y)).setCell ⟨w.heap.size, 2, none⟩ (.slice A' k C) = wf at *
    have y0 := blk_cell bf.out 0 _ rfl
    have y1 := blk_cell bf.out 1 _ rfl
    have y2 := blk_cell bf.out 2 _ rfl
    refine bodyPost_ret (v := .tuple #[.agg #[.int .i64 x, .int .i64 y, .slice A' k C], .bool ok]) (by simp [results, Tryz.results41, go_sem, y0, y1, y2]) rfl ⟨?_, hwf⟩
    obtain ⟨A'', C', he, hT, hfr⟩ := row_tgts hrf (by simp [HN.out])
    cases he
    refine ⟨A', k, C, ?_, by rw [HRt.out]; exact hT, by rw [HRt.out]; simp [HN.out], by unfold maxLen; omega, fun ad e => by have := hfr ad e; omega⟩
    rw [HRb.out, ← HA.out.1, ← HA.out.2.1]
    rfl

end Go.Proofs.YtanpglfpopbfkabGreatDoor
