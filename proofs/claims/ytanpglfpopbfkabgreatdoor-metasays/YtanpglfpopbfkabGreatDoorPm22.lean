/- The ref's ReadRelease. -/
import Derived.Test.YtanpglfpopbfkabGreatDoorPm21
import Derived.Test.YtanpglfpopbfkabGreatDoorPm10
import Derived.Deep.AppendLies
import Derived.Deep.DeepCutAuto
import Derived.Deep.RegionHeld
namespace Go.Proofs.YtanpglfpopbfkabGreatDoor
open Go.RowKit

/-- What holds ahead of each round of the loop over the targets' texts. -/
def QLoop (w : World) (V F B n : Nat) (x y : Int) (f0 : ByteArray) (ps : List ByteArray) (i : Value) (wq : World) : Prop :=
  ∃ (k : Nat) (p : Value), k ≤ n ∧ i = .int .i64 k ∧ Below w.heap.size w wq ∧ B ≤ wq.heap.size ∧ Hid (wq.heap[V]? = some (.cells #[.int .i64 x, .int .i64 y, p] 27 (0, 0))) ∧ Hid (wq.heap[w.heap.size]? = some (.cells #[.int .i64 0, .int .i64 0, .slice none 0 0] 27 (0, 0))) ∧ Hid (OwnStrs wq F (f0 :: ps)) ∧ Hid (wq.ownsRow B 78 3 p k (flat ((ps.take k).map (fun f => tgV f.data.toList)))) ∧ Hid (∀ f ∈ ps.take k, tgB f.data.toList = true)

/-- What holds ahead of each round of the loop over a target's numbers. -/
def NLoop (wS : World) (H m : Nat) (gs : List ByteArray) (v i : Value) (wq : World) : Prop :=
  ∃ (j : Nat) (q : Value), j ≤ m ∧ q = v ∧ i = .int .i64 j ∧ Below H wS wq ∧ Hid (wq.ownsRow H 3 1 q j ((gs.take j).map (fun g => Value.int .i64 (numV g.data.toList)))) ∧ Hid (∀ g ∈ gs.take j, numB g.data.toList = true)

theorem int_one (z : Int) : ∀ u ∈ [Value.int .i64 z], u.oneCell' = true := by
  intro u hu
  simp at hu
  subst hu
  rfl

set_option maxHeartbeats 3200000 in
set_option maxRecDepth 100000 in
theorem refReadRelease_any (s : ByteArray) (hs : s.size ≤ 2000) (w : World) (hV : Vars w) :
    Calls Tryz.prog 24 #[.string s] w fun e w' => ParseAns (parseS s.data.toList) w' e ∧ Below w.heap.size w w' := by
  have hl : s.data.toList.length ≤ 2000 := by rw [size_data]; exact hs
  have hl1 := trim_len s.data.toList relW
  have hsz : (bs (Lib.trimPrefix s.data.toList relW)).size ≤ 2000 := by rw [bs_size]; omega
  have HBad := hide (fun W => refBad_any W)
  have HP := hide (fun W => Tryz.strings_CutPrefix s (bs relW) W)
  rw [bs_data] at HP
  change Hid (∀ W, Calls Tryz.prog _ #[.string s, .string { data := #[114, 101, 108, 101, 97, 115, 101, 32] }] W fun e w' => e = .returned (.tuple #[.string (bs (Lib.trimPrefix s.data.toList relW)), .bool (Lib.hasPrefix s.data.toList relW)]) ∧ w' = W) at HP
  have HS := hide (fun W (hW : Vars W) => split_any (bs (Lib.trimPrefix s.data.toList relW)) [59, 32] hsz (by decide) W hW)
  change Hid (∀ W, Vars W → Calls Tryz.prog _ #[.string (bs (Lib.trimPrefix s.data.toList relW)), .string { data := #[59, 32] }] W _) at HS
  have HD := hide (fsB_data (bs (Lib.trimPrefix s.data.toList relW)) [59, 32])
  rw [bs_data] at HD
  have HZ := hide (fun f (hf : f ∈ fsB (bs (Lib.trimPrefix s.data.toList relW)) [59, 32]) => Nat.le_trans (fsB_short hf) hsz)
  have hlim : (fsB (bs (Lib.trimPrefix s.data.toList relW)) [59, 32]).length ≤ 2001 := by
    rw [fsB_len _ _ (by decide)]
    have := Lib.countB_le (bs [59, 32]) (by decide) _ (bs (Lib.trimPrefix s.data.toList relW)) (Nat.le_refl _)
    omega
  have hne : fsB (bs (Lib.trimPrefix s.data.toList relW)) [59, 32] ≠ [] := by
    intro e
    have := HD.out
    rw [e] at this
    exact split_ne _ _ this.symm
  have hw0 : Below w.heap.size w (w.alloc (.cells #[.int .i64 0, .int .i64 0, .slice none 0 0] 27)) := (Below.refl _ _).alloc (Nat.le_refl _) _
  have b0 := hide (heap_alloc_last w (.cells #[.int .i64 0, .int .i64 0, .slice none 0 0] 27))
  generalize fsB (bs (Lib.trimPrefix s.data.toList relW)) [59, 32] = fs at *
  generalize bs (Lib.trimPrefix s.data.toList relW) = s3 at *
  obtain ⟨f0, ps, rfl⟩ : ∃ f0 ps, fs = f0 :: ps := by
    cases fs with
    | nil => exact absurd rfl hne
    | cons a r => exact ⟨a, r, rfl⟩
  have H1 := hide (show hdQ s.data.toList = f0.data.toList by unfold hdQ; rw [show semiW = [59, 32] from rfl, ← HD.out]; rfl)
  have H2 := hide (show tlQ s.data.toList = ps.map (·.data.toList) by unfold tlQ; rw [show semiW = [59, 32] from rfl, ← HD.out]; rfl)
  have HNo := hide (fun (hq : qB s.data.toList = false) => parse_none hl hq)
  have HOk := hide (fun (hq : qB s.data.toList = true) => parse_qok hl hq (v := numV (Lib.cut f0.data.toList untW).1) (u := numV (Lib.cut f0.data.toList untW).2.1) (by rw [H1.out]) (by rw [H1.out]) (ts := ps.map (fun f => tgV f.data.toList)) (by rw [H2.out, List.map_map]; rfl))
  have HU := hide (show unB (hdQ s.data.toList) = ((Lib.cut f0.data.toList untW).2.2 && numB (Lib.cut f0.data.toList untW).1 && numB (Lib.cut f0.data.toList untW).2.1) by rw [H1.out]; rfl)
  clear hne HD hl hl1 hsz
  have hf0 : f0.size ≤ 2000 := HZ.out f0 (by simp)
  have hc := cut_len f0.data.toList untW
  rw [size_data] at hc
  have HC := hide (fun W m (hm : W.cell? ⟨3, 0, none⟩ = some (.int .i64 m)) => Tryz.strings_Cut f0 (bs untW) m W (by omega) hm)
  rw [bs_data] at HC
  change Hid (∀ W m, _ → Calls Tryz.prog _ #[.string f0, .string { data := #[32, 117, 110, 116, 105, 108, 32] }] W fun e w' => e = .returned (.tuple #[.string (bs (Lib.cut f0.data.toList untW).1), .string (bs (Lib.cut f0.data.toList untW).2.1), .bool (Lib.cut f0.data.toList untW).2.2]) ∧ ∃ n, w' = W.drewN n) at HC
  have HR1 := hide (fun W (hW : Vars W) => refNum_any (bs (Lib.cut f0.data.toList untW).1) (by rw [bs_size]; omega) W hW)
  have HR2 := hide (fun W (hW : Vars W) => refNum_any (bs (Lib.cut f0.data.toList untW).2.1) (by rw [bs_size]; omega) W hW)
  rw [bs_data] at HR1 HR2
  clear hc hf0
  generalize bs (Lib.cut f0.data.toList untW).1 = s1 at *
  generalize bs (Lib.cut f0.data.toList untW).2.1 = s2 at *
  generalize numB (Lib.cut f0.data.toList untW).1 = q1 at *
  generalize numB (Lib.cut f0.data.toList untW).2.1 = q2 at *
  generalize numV (Lib.cut f0.data.toList untW).1 = x at *
  generalize numV (Lib.cut f0.data.toList untW).2.1 = y at *
  generalize (Lib.cut f0.data.toList untW).2.2 = q3 at *
  have HQ1 := hide (fun (h : Lib.hasPrefix s.data.toList relW = false) => HNo.out (qB_1 h))
  have HQ2 := hide (fun (h : (q3 && q1 && q2) = false) => HNo.out (qB_2 (HU.out.trans h)))
  have HQ3 := hide (fun (p : ByteArray) (hp : p ∈ ps) (h : tgB p.data.toList = false) => HNo.out (qB_3 (p := p.data.toList) (by rw [H2.out]; exact List.mem_map.2 ⟨p, hp, rfl⟩) h))
  have HQ0 := hide (fun (h : Lib.hasPrefix s.data.toList relW = true) (h2 : (q3 && q1 && q2) = true) (h3 : ∀ p ∈ ps, tgB p.data.toList = true) => HOk.out (qB_t h (HU.out.trans h2) (fun p hp => by rw [H2.out] at hp; obtain ⟨f, hf, rfl⟩ := List.mem_map.1 hp; exact h3 f hf)))
  clear HNo HOk HU H1 H2
  obtain ⟨q4, hq4⟩ : ∃ q4, q4 = Lib.hasPrefix s.data.toList relW := ⟨_, rfl⟩
  rw [← hq4] at HQ1 HQ0 HP
  clear hq4
  have HL : (f0 :: ps).length = ps.length + 1 := rfl
  rw [HL] at HS hlim
  clear HL
  go_enter Tryz.func24, Tryz.ntmps24
  go_wp2_with fail
  generalize w.alloc (.cells #[.int .i64 0, .int .i64 0, .slice none 0 0] 27) = W at *
  refine (unhide HP _).mono ?_
  rintro e w0 ⟨rfl, hw00⟩
  subst hw00
  clear HP
  cases q4
  · have HP1 := hide (HQ1.out rfl)
    clear HQ0 HQ1 HQ2 HQ3
    go_wp2_with fail
    refine (unhide HBad _).mono ?_
    rintro e wB ⟨rfl, hbB⟩
    have bB := hide (blk_below b0.out hbB)
    have hwB := hw0.trans (hbB.mono hw0.size)
    have u0 := blk_free bB.out 0
    have u1 := blk_free bB.out 1
    have u2 := blk_free bB.out 2
    have c0 := blk_cell bB.out 0 _ rfl
    have c1 := blk_cell bB.out 1 _ rfl
    have c2 := blk_cell bB.out 2 _ rfl
    have hwf := ((hwB.setCell (p := ⟨w.heap.size, 0, none⟩) (Nat.le_refl _) (.int .i64 0)).setCell (p := ⟨w.heap.size, 1, none⟩) (Nat.le_refl _) (.int .i64 0)).setCell (p := ⟨w.heap.size, 2, none⟩) (Nat.le_refl _) (.slice none 0 0)
    have bf := hide (set3 bB.out (.int .i64 0) (.int .i64 0) (.slice none 0 0))
    go_wp2_with fail
    generalize ((wB.setCell ⟨w.heap.size, 0, none⟩ (.int .i64 0)).setCell ⟨w.heap.size, 1, none⟩ (.int .i64 0)).setCell ⟨w.heap.size, 2, none⟩ (.slice none 0 0) = wf at *
    have y0 := blk_cell bf.out 0 _ rfl
    have y1 := blk_cell bf.out 1 _ rfl
    have y2 := blk_cell bf.out 2 _ rfl
    exact bodyPost_ret (v := .tuple #[.agg #[.int .i64 0, .int .i64 0, .slice none 0 0], .int .i64 1]) (by simp [results, Tryz.results24, go_sem, y0, y1, y2]) rfl ⟨parse_zero HP1.out, hwf⟩
  clear HQ1
  replace HQ0 := hide (HQ0.out rfl)
  go_wp2_with fail
  refine (unhide HS _ (hV.below hw0)).mono ?_
  rintro e w1 ⟨rfl, ho, hb1⟩
  have ltW : w.heap.size < w0.heap.size := blk_lt b0.out
  replace b0 := hide (blk_below b0.out hb1)
  replace hw0 := hw0.trans (hb1.mono hw0.size)
  clear hb1 HS
  have ho' := hide ho
  clear ho
  obtain ⟨F, hF⟩ : ∃ F, F = w0.heap.size := ⟨_, rfl⟩
  rw [← hF] at ho' ltW ⊢
  clear hF
  have e0 : w1.cell? ⟨F, 0, none⟩ = some (.string f0) := ho'.out.cell 0 (by simp)
  obtain ⟨n, hn⟩ : ∃ n, n = ps.length := ⟨_, rfl⟩
  rw [← hn] at hlim ⊢
  have HN := hide hn
  clear hn
  have z1 : (0 : Int) < ((n + 1 : Nat) : Int) := by omega
  obtain ⟨m, hm⟩ := (hV.below hw0).mx
  go_wp2_with fail
  refine (unhide HC _ m hm).mono ?_
  rintro e w2 ⟨rfl, nq, hw2⟩
  have hb2 : Below w1.heap.size w1 w2 := by subst hw2; exact below_drewN (Below.refl _ _) nq
  clear hw2 hm e0 HC
  replace b0 := hide (blk_below b0.out hb2)
  replace ho' := hide (ho'.out.below hb2 ho'.out.lt)
  replace hw0 := hw0.trans (hb2.mono hw0.size)
  clear hb2
  go_wp2_with fail
  refine (unhide HR1 _ (hV.below hw0)).mono ?_
  rintro e w3 ⟨rfl, hb3⟩
  replace b0 := hide (blk_below b0.out hb3)
  replace ho' := hide (ho'.out.below hb3 ho'.out.lt)
  replace hw0 := hw0.trans (hb3.mono hw0.size)
  clear hb3 HR1
  go_wp2_with fail
  refine (unhide HR2 _ (hV.below hw0)).mono ?_
  rintro e w4 ⟨rfl, hb4⟩
  replace b0 := hide (blk_below b0.out hb4)
  replace ho' := hide (ho'.out.below hb4 ho'.out.lt)
  replace hw0 := hw0.trans (hb4.mono hw0.size)
  clear hb4 HR2
  by_cases hq : (q3 && q1 && q2) = false
  · have HP1 := hide (HQ2.out hq)
    clear HQ0 HQ2 HQ3
    cases q3 <;> cases q1 <;> cases q2 <;> first | (exfalso; revert hq; decide) | skip
    all_goals
      go_wp2_with fail
      refine (unhide HBad _).mono ?_
      rintro e wB ⟨rfl, hbB⟩
      have bB := hide (blk_below b0.out hbB)
      have hwB := hw0.trans (hbB.mono hw0.size)
      have u0 := blk_free bB.out 0
      have u1 := blk_free bB.out 1
      have u2 := blk_free bB.out 2
      have c0 := blk_cell bB.out 0 _ rfl
      have c1 := blk_cell bB.out 1 _ rfl
      have c2 := blk_cell bB.out 2 _ rfl
      have hwf := ((hwB.setCell (p := ⟨w.heap.size, 0, none⟩) (Nat.le_refl _) (.int .i64 0)).setCell (p := ⟨w.heap.size, 1, none⟩) (Nat.le_refl _) (.int .i64 0)).setCell (p := ⟨w.heap.size, 2, none⟩) (Nat.le_refl _) (.slice none 0 0)
      have bf := hide (set3 bB.out (.int .i64 0) (.int .i64 0) (.slice none 0 0))
      go_wp2_with fail
      generalize ((wB.setCell ⟨w.heap.size, 0, none⟩ (.int .i64 0)).setCell ⟨w.heap.size, 1, none⟩ (.int .i64 0)).setCell ⟨w.heap.size, 2, none⟩ (.slice none 0 0) = wf at *
      have y0 := blk_cell bf.out 0 _ rfl
      have y1 := blk_cell bf.out 1 _ rfl
      have y2 := blk_cell bf.out 2 _ rfl
      exact bodyPost_ret (v := .tuple #[.agg #[.int .i64 0, .int .i64 0, .slice none 0 0], .int .i64 1]) (by simp [results, Tryz.results24, go_sem, y0, y1, y2]) rfl ⟨parse_zero HP1.out, hwf⟩
  obtain ⟨rfl, rfl, rfl⟩ : q3 = true ∧ q1 = true ∧ q2 = true := by
    revert hq
    cases q3 <;> cases q1 <;> cases q2 <;> decide
  clear hq HQ2
  replace HQ0 := hide (HQ0.out rfl)
  have ltF : F < w4.heap.size := ho'.out.lt
  have hwV := hw0.alloc hw0.size (.cells #[.int .i64 x, .int .i64 y, .slice none 0 0] 27)
  have bV := hide (heap_alloc_last w4 (.cells #[.int .i64 x, .int .i64 y, .slice none 0 0] 27))
  have bR := hide (blk_alloc b0.out (.cells #[.int .i64 x, .int .i64 y, .slice none 0 0] 27))
  have oF := hide (ho'.out.below ((Below.refl _ _).alloc (Nat.le_refl _) (.cells #[.int .i64 x, .int .i64 y, .slice none 0 0] 27)) ltF)
  have z2 : (1 : Int) ≤ ((n + 1 : Nat) : Int) := by omega
  have z3 : (n + 1 : Nat) ≤ 9223372036854775807 := by omega
  obtain ⟨B, hB⟩ : ∃ B, B = w4.heap.size + 1 := ⟨_, rfl⟩
  have r0 : Hid ((w4.alloc (.cells #[.int .i64 x, .int .i64 y, .slice none 0 0] 27)).ownsRow B 78 3 (.slice none 0 0) 0 (flat ((ps.take 0).map (fun f => tgV f.data.toList)))) := World.ownsRow_nil _ _ _ _
  have hsz : B ≤ (w4.alloc (.cells #[.int .i64 x, .int .i64 y, .slice none 0 0] 27)).heap.size := by simp; omega
  have hwV2 : w.heap.size ≤ w4.heap.size := by have := blk_lt b0.out; omega
  have hwV3 : w.heap.size < w4.heap.size := blk_lt b0.out
  have hBV : w4.heap.size < B := by omega
  clear hB b0 ho' hw0
  go_upto_region 13 with fail
  generalize w4.alloc (.cells #[.int .i64 x, .int .i64 y, .slice none 0 0] 27) = wV at *
  obtain ⟨V, hVe⟩ : ∃ V, V = w4.heap.size := ⟨_, rfl⟩
  rw [← hVe] at bV ltF hwV2 hwV3 hBV ⊢
  clear hVe
  go_cut [75, 76, 77] (fun v75 v76 v77 wx => (∃ A, v75 = .slice A n n ∧ (0 < n → A = some ⟨F, 1, none⟩)) ∧ v76 = .int .i64 n ∧ v77 = .int .i64 0 ∧ wx = wV)
  case first =>
    by_cases n0 : n = 0
    · subst n0
      go_wp2_with fail
      go_meet
      case rel => exact ⟨⟨_, rfl, fun h => absurd h (by decide)⟩, rfl, rfl, rfl⟩
    · go_wp2_with fail
      go_meet
      case rel => exact ⟨⟨_, rfl, fun _ => rfl⟩, rfl, rfl, rfl⟩
  case rest =>
  obtain ⟨⟨A, rfl, hA⟩, rfl, rfl, hwc⟩ := hcut
  subst hwc
  obtain ⟨wV, rfl⟩ : ∃ wV : World, wV = wc := ⟨_, rfl⟩
  have HAd := hide hA
  obtain ⟨ii, hii, iz0, iz1, iz2⟩ := info_parts info_int
  obtain ⟨ti, hti, tz0, tz1, tz2⟩ := info_parts info_tgt
  clear hA
  go_wp2_with fail
  go_loopw [77] (fun i wq => QLoop w V F B n x y f0 ps i wq) (fun i _ => n - (intOf i).toNat)
  case atStart => exact ⟨0, _, Nat.zero_le _, rfl, hwV, hsz, bV, bR, oF, r0, fun f hf => by simp at hf⟩
  case round =>
  clear hwV hsz bV bR oF r0
  obtain ⟨k, p, hk, rfl, hw, hsz, bV, bR, oF, hr, hok⟩ := hrel
  obtain ⟨w5, rfl⟩ : ∃ w5 : World, w5 = wr := ⟨_, rfl⟩
  by_cases hlt : k < n
  · obtain rfl : A = some ⟨F, 1, none⟩ := HAd.out (by omega)
    have hkx : k < ps.length := by rw [← HN.out]; exact hlt
    have ek : w5.cell? ⟨F, 1 + k, none⟩ = some (.string ps[k]) := by
      have := oF.out.cell (1 + k) (by simp; omega)
      rw [this]
      simp [hkx, Nat.add_comm 1 k]
    have hz : ps[k].size ≤ 2000 := HZ.out ps[k] (by simp)
    have HSk := hide (fun X (hX : Vars X) => split_any ps[k] [32] hz (by decide) X hX)
    change Hid (∀ X, Vars X → Calls Tryz.prog _ #[.string ps[k], .string { data := #[32] }] X _) at HSk
    have HDk := hide (fsB_data ps[k] [32])
    have HZk := hide (fun f (hf : f ∈ fsB ps[k] [32]) => Nat.le_trans (fsB_short hf) hz)
    have hlk : (fsB ps[k] [32]).length ≤ 2001 := by
      rw [fsB_len _ _ (by decide)]
      have := Lib.countB_le (bs [32]) (by decide) _ ps[k] (Nat.le_refl _)
      omega
    have HP := hide (show flat ((ps.take (k + 1)).map (fun f => tgV f.data.toList)) = flat ((ps.take k).map (fun f => tgV f.data.toList)) ++ tcells (tgV ps[k].data.toList) by rw [List.take_succ_eq_append_getElem hkx, List.map_append, List.map_cons, List.map_nil, flat_snoc])
    have HB3 := hide (HQ3.out ps[k] (List.getElem_mem hkx))
    have HTk := hide (fun (h : tgB ps[k].data.toList = true) => show ∀ f ∈ ps.take (k + 1), tgB f.data.toList = true by
      intro f hf
      rw [List.take_succ_eq_append_getElem hkx] at hf
      rcases List.mem_append.1 hf with hf | hf
      · exact hok.out f hf
      · simp at hf
        rw [hf]
        exact h)
    clear hok hz
    generalize ps[k] = fk at *
    generalize fsB fk [32] = gs at *
    go_wp2_with fail
    refine (unhide HSk _ (hV.below hw)).mono ?_
    rintro e w6 ⟨rfl, ho, hb6⟩
    replace bV := hide (blk_below bV.out hb6)
    replace bR := hide (blk_below bR.out hb6)
    replace oF := hide (oF.out.below hb6 oF.out.lt)
    replace hr := hide (ownsRow_below hr.out hb6)
    replace hw := hw.trans (hb6.mono hw.size)
    replace hsz := Nat.le_trans hsz hb6.size
    clear hb6 ek HSk
    have oG := hide ho
    clear ho
    obtain ⟨G, hG⟩ : ∃ G, G = w5.heap.size := ⟨_, rfl⟩
    rw [← hG] at oG ⊢
    clear hG
    obtain ⟨m, hm⟩ : ∃ m, m = gs.length := ⟨_, rfl⟩
    rw [← hm] at hlk ⊢
    have HMm := hide hm
    clear hm
    have r1 : Hid (w6.ownsRow w6.heap.size 3 1 (.slice none 0 0) 0 ((gs.take 0).map (fun g => Value.int .i64 (numV g.data.toList)))) := World.ownsRow_nil _ _ _ _
    go_wp2_with fail
    go_loopw [18, 84] (fun v i wq => NLoop w6 w6.heap.size m gs v i wq) (fun _ i _ => m - (intOf i).toNat)
    case atStart => exact ⟨0, _, Nat.zero_le _, rfl, rfl, Below.refl _ _, r1, fun g hg => by simp at hg⟩
    case round =>
    clear r1
    obtain ⟨j, q, hj, rfl, rfl, hb7, hn, hnok⟩ := hrel
    obtain ⟨w7, rfl⟩ : ∃ w7 : World, w7 = wr := ⟨_, rfl⟩
    have hw7 := hw.trans (hb7.mono hw.size)
    by_cases hjlt : j < m
    · have hjx : j < gs.length := by rw [← HMm.out]; exact hjlt
      have ej : w7.cell? ⟨G, j, none⟩ = some (.string gs[j]) := by
        have := (oG.out.below hb7 oG.out.lt).cell j hjx
        rw [this]
        simp [hjx]
      have HNk := hide (fun X (hX : Vars X) => refNum_any gs[j] (HZk.out gs[j] (List.getElem_mem hjx)) X hX)
      have HPn := hide (show (gs.take (j + 1)).map (fun g => Value.int .i64 (numV g.data.toList)) = (gs.take j).map (fun g => Value.int .i64 (numV g.data.toList)) ++ [.int .i64 (numV gs[j].data.toList)] by rw [List.take_succ_eq_append_getElem hjx, List.map_append, List.map_cons, List.map_nil])
      have HBn := hide (fun (h : numB gs[j].data.toList = false) => HB3.out (tgB_num (f := gs[j].data.toList) (by rw [← HDk.out]; exact List.mem_map.2 ⟨_, List.getElem_mem hjx, rfl⟩) h))
      have HTn := hide (fun (h : numB gs[j].data.toList = true) => show ∀ g ∈ gs.take (j + 1), numB g.data.toList = true by
        intro g hg
        rw [List.take_succ_eq_append_getElem hjx] at hg
        rcases List.mem_append.1 hg with hg | hg
        · exact hnok.out g hg
        · simp at hg
          rw [hg]
          exact h)
      clear hnok
      generalize gs[j] = gj at *
      generalize numV gj.data.toList = z at *
      generalize numB gj.data.toList = qz at *
      go_wp2_with fail
      refine (unhide HNk _ (hV.below hw7)).mono ?_
      rintro e w8 ⟨rfl, hb8⟩
      replace hb7 := hb7.trans (hb8.mono hb7.size)
      replace hn := hide (ownsRow_below hn.out hb8)
      clear hb8 ej HNk hw7
      have hw8 := hw.trans (hb7.mono hw.size)
      cases qz
      · have HP1 := hide (HBn.out rfl)
        have b8 := hide (blk_below bR.out hb7)
        clear hn HBn HTn HPn
        go_wp2_with fail
        refine (unhide HBad _).mono ?_
        rintro e wB ⟨rfl, hbB⟩
        have bB := hide (blk_below b8.out hbB)
        have hwB := hw8.trans (hbB.mono hw8.size)
        have u0 := blk_free bB.out 0
        have u1 := blk_free bB.out 1
        have u2 := blk_free bB.out 2
        have c0 := blk_cell bB.out 0 _ rfl
        have c1 := blk_cell bB.out 1 _ rfl
        have c2 := blk_cell bB.out 2 _ rfl
        have hwf := ((hwB.setCell (p := ⟨w.heap.size, 0, none⟩) (Nat.le_refl _) (.int .i64 0)).setCell (p := ⟨w.heap.size, 1, none⟩) (Nat.le_refl _) (.int .i64 0)).setCell (p := ⟨w.heap.size, 2, none⟩) (Nat.le_refl _) (.slice none 0 0)
        have bf := hide (set3 bB.out (.int .i64 0) (.int .i64 0) (.slice none 0 0))
        go_wp2_with fail
        generalize ((wB.setCell ⟨w.heap.size, 0, none⟩ (.int .i64 0)).setCell ⟨w.heap.size, 1, none⟩ (.int .i64 0)).setCell ⟨w.heap.size, 2, none⟩ (.slice none 0 0) = wf at *
        have y0 := blk_cell bf.out 0 _ rfl
        have y1 := blk_cell bf.out 1 _ rfl
        have y2 := blk_cell bf.out 2 _ rfl
        exact bodyPost_ret (v := .tuple #[.agg #[.int .i64 0, .int .i64 0, .slice none 0 0], .int .i64 1]) (by simp [results, Tryz.results24, go_sem, y0, y1, y2]) rfl ⟨parse_zero HP1.out, hwf⟩
      · replace HTn := hide (HTn.out rfl)
        have hbS := hb7.alloc hb7.size (.cells #[.int .i64 z] 3)
        have hrS := hn.out.alloc (.cells #[.int .i64 z] 3)
        have hnews := news_one w8 (.int .i64 z) 3
        have hge := ownBlock_ge hrS
        have hs8 := hb7.size
        clear HBn
        go_wp2_with (at_builtin; refine wpList_append_lies _ rfl _ _ 22 rfl w6.heap.size 3 ii _ 1 8 Tryz.underlying22 hii iz0 iz1 iz2 rfl (by omega) q j _ rfl hrS ⟨w8.heap.size, 0, none⟩ 1 1 [.int .i64 z] rfl rfl hnews (int_one z) (by omega) (by unfold maxLen; omega) (by omega) (by simp; omega) (w8.heap.size + 1) (by simp) ?_; intro g cap w9 hown9 hgr9 _ _; have hb9 : Below w6.heap.size w6 w9 := hbS.grown hgr9 (by simp; omega) (fun i hi => by have := hge i hi; omega))
        go_wp2_with fail
        go_roundw
        case rel => exact ⟨j + 1, _, by omega, rfl, by go_num, hb9, by show World.ownsRow _ _ _ _ _ _ _; rw [HPn.out]; exact hown9, HTn⟩
        case measure => simp [intOf]; omega
    · have hjm : j = m := by omega
      subst hjm
      have HE := hide (show gs.take j = gs from List.take_of_length_le (by rw [← HMm.out]; exact Nat.le_refl _))
      rw [HE.out] at hn hnok
      by_cases h3 : j = 3
      · subst h3
        obtain ⟨g0, g1, g2, rfl⟩ : ∃ g0 g1 g2, gs = [g0, g1, g2] := by
          match gs, HMm.out with
          | [a, b, c], _ => exact ⟨a, b, c, rfl⟩
        obtain ⟨tb, tv1⟩ := tg_three (p := fk.data.toList) (f0 := g0.data.toList) (f1 := g1.data.toList) (f2 := g2.data.toList) (by rw [← HDk.out]; rfl) (hnok.out g0 (by simp)) (hnok.out g1 (by simp)) (hnok.out g2 (by simp))
        obtain ⟨gb, C', rfl, hC3, hgb, hgl, x0, x1, x2⟩ := row_three (x := numV g0.data.toList) (y := numV g1.data.toList) (z := numV g2.data.toList) hn.out
        have HTt := hide (HTk.out tb)
        rw [tv1] at HP
        clear tb tv1 HTk hn hnok HE HB3 HDk HZk oG
        generalize numV g0.data.toList = z0 at *
        generalize numV g1.data.toList = z1' at *
        generalize numV g2.data.toList = z2' at *
        have hpl := hide (row_lt hr.out)
        have hV6 : V < w6.heap.size := blk_lt bV.out
        replace bV := hide (blk_below bV.out hb7)
        replace bR := hide (blk_below bR.out hb7)
        replace oF := hide (oF.out.below hb7 oF.out.lt)
        replace hr := hide (ownsRow_below hr.out hb7)
        replace hsz := Nat.le_trans hsz hb7.size
        have hs7 := hb7.size
        clear hw hb7
        have bVd : Hid (w7.drew.heap[V]? = _) := bV
        have bRd : Hid (w7.drew.heap[w.heap.size]? = _) := bR
        have oFd : Hid (OwnStrs w7.drew F (f0 :: ps)) := oF
        have hrd := hide (ownsRow_below hr.out ((Below.refl _ _).drew : Below w7.heap.size w7 w7.drew))
        have hwd := hw7.drew
        have hszd : B ≤ w7.drew.heap.size := hsz
        have hgld : gb < w7.drew.heap.size := hgl
        have hs7d : w6.heap.size ≤ w7.drew.heap.size := hs7
        clear bV bR oF hr hw7 hsz hgl hs7
        go_upto_region 27 with fail
        refine wp_region_held_drew (S := fun w' => w'.cell? ⟨gb, 0, none⟩ = some (.int .i64 z0) ∧ w'.cell? ⟨gb, 1, none⟩ = some (.int .i64 z1') ∧ w'.cell? ⟨gb, 2, none⟩ = some (.int .i64 z2')) (by kernel_rfl) ⟨x0, x1, x2⟩ ?_
        intro hHeld
        clear x0 x1 x2
        generalize w7.drew = wd at *
        refine wpAnyH_take (i := 0) (v := ?_) (by simp only [List.getElem?_toArray, List.getElem?_cons_zero]; rfl) (by kernel_rfl) (by kernel_rfl) (by kernel_rfl) (by exact fun _ _ _ h => h) (Or.inl ⟨by rfl, ?_⟩) (by assumption) ?_
        rotate_left
        · intro w hSw
          try dsimp only at hSw
          go_simp
          try with_reducible rfl
        try simp only [Act.put, List.setIfInBounds_toArray, List.set_cons_zero, List.set_cons_succ]
        refine wpAnyH_take (i := 2) (v := ?_) (by simp only [List.getElem?_toArray, List.getElem?_cons_zero, List.getElem?_cons_succ]; rfl) (by kernel_rfl) (by kernel_rfl) (by kernel_rfl) (by exact fun _ _ _ h => h) (Or.inl ⟨by rfl, ?_⟩) (by assumption) ?_
        rotate_left
        · intro w hSw
          try dsimp only at hSw
          go_simp
          try with_reducible rfl
        try simp only [Act.put, List.setIfInBounds_toArray, List.set_cons_zero, List.set_cons_succ]
        refine wpAnyH_take (i := 3) (v := ?_) (by simp only [List.getElem?_toArray, List.getElem?_cons_zero, List.getElem?_cons_succ]; rfl) (by kernel_rfl) (by kernel_rfl) (by kernel_rfl) (by exact fun _ _ _ h => h) (Or.inl ⟨by rfl, ?_⟩) (by assumption) ?_
        rotate_left
        · intro w hSw
          try dsimp only at hSw
          go_simp
          try with_reducible rfl
        try simp only [Act.put, List.setIfInBounds_toArray, List.set_cons_zero, List.set_cons_succ]
        refine wpAnyH_take (i := 4) (v := ?_) (by simp only [List.getElem?_toArray, List.getElem?_cons_zero, List.getElem?_cons_succ]; rfl) (by kernel_rfl) (by kernel_rfl) (by kernel_rfl) (by exact fun _ _ _ h => h) (Or.inl ⟨by rfl, ?_⟩) (by assumption) ?_
        rotate_left
        · intro w hSw
          try dsimp only at hSw
          go_simp
          try with_reducible rfl
        try simp only [Act.put, List.setIfInBounds_toArray, List.set_cons_zero, List.set_cons_succ]
        refine wpAnyH_take (i := 5) (v := ?_) (by simp only [List.getElem?_toArray, List.getElem?_cons_zero, List.getElem?_cons_succ]; rfl) (by kernel_rfl) (by kernel_rfl) (by kernel_rfl) (by exact fun _ _ _ h => h) (Or.inl ⟨by rfl, ?_⟩) (by assumption) ?_
        rotate_left
        · intro w hSw
          try dsimp only at hSw
          go_simp
          try with_reducible rfl
        try simp only [Act.put, List.setIfInBounds_toArray, List.set_cons_zero, List.set_cons_succ]
        refine wpAnyH_take (i := 6) (v := ?_) (by simp only [List.getElem?_toArray, List.getElem?_cons_zero, List.getElem?_cons_succ]; rfl) (by kernel_rfl) (by kernel_rfl) (by kernel_rfl) (by exact fun _ _ _ h => h) (Or.inl ⟨by rfl, ?_⟩) (by assumption) ?_
        rotate_left
        · intro w hSw
          try dsimp only at hSw
          go_simp
          try with_reducible rfl
        try simp only [Act.put, List.setIfInBounds_toArray, List.set_cons_zero, List.set_cons_succ]
        refine wpAnyH_take (i := 7) (v := ?_) (by simp only [List.getElem?_toArray, List.getElem?_cons_zero, List.getElem?_cons_succ]; rfl) (by kernel_rfl) (by kernel_rfl) (by kernel_rfl) (by exact fun _ _ _ h => h) (Or.inl ⟨by rfl, ?_⟩) (by assumption) ?_
        rotate_left
        · intro w hSw
          try dsimp only at hSw
          go_simp
          try with_reducible rfl
        try simp only [Act.put, List.setIfInBounds_toArray, List.set_cons_zero, List.set_cons_succ]
        refine wpAnyH_take (i := 8) (v := ?_) (by simp only [List.getElem?_toArray, List.getElem?_cons_zero, List.getElem?_cons_succ]; rfl) (by kernel_rfl) (by kernel_rfl) (by kernel_rfl) (by exact fun _ _ _ h => h) (Or.inl ⟨by rfl, ?_⟩) (by assumption) ?_
        rotate_left
        · intro w hSw
          try dsimp only at hSw
          go_simp
          try with_reducible rfl
        try simp only [Act.put, List.setIfInBounds_toArray, List.set_cons_zero, List.set_cons_succ]
        refine wpAnyH_take (i := 9) (v := ?_) (by simp only [List.getElem?_toArray, List.getElem?_cons_zero, List.getElem?_cons_succ]; rfl) (by kernel_rfl) (by kernel_rfl) (by kernel_rfl) (by exact fun _ _ _ h => h) (Or.inl ⟨by rfl, ?_⟩) (by assumption) ?_
        rotate_left
        · intro w hSw
          try dsimp only at hSw
          go_simp
          try with_reducible rfl
        try simp only [Act.put, List.setIfInBounds_toArray, List.set_cons_zero, List.set_cons_succ]
        refine wpAnyH_take (i := 10) (v := ?_) (by simp only [List.getElem?_toArray, List.getElem?_cons_zero, List.getElem?_cons_succ]; rfl) (by kernel_rfl) (by kernel_rfl) (by kernel_rfl) (by exact fun _ _ _ h => h) (Or.inl ⟨by rfl, ?_⟩) (by assumption) ?_
        rotate_left
        · intro w hSw
          try dsimp only at hSw
          go_simp
          try with_reducible rfl
        try simp only [Act.put, List.setIfInBounds_toArray, List.set_cons_zero, List.set_cons_succ]
        refine wpAnyH_take (i := 11) (v := ?_) (by simp only [List.getElem?_toArray, List.getElem?_cons_zero, List.getElem?_cons_succ]; rfl) (by kernel_rfl) (by kernel_rfl) (by kernel_rfl) (by exact fun _ _ _ h => h) (Or.inl ⟨by rfl, ?_⟩) (by assumption) ?_
        rotate_left
        · intro w hSw
          try dsimp only at hSw
          go_simp
          try with_reducible rfl
        try simp only [Act.put, List.setIfInBounds_toArray, List.set_cons_zero, List.set_cons_succ]
        have c2 := blk_cell bVd.out 2 _ rfl
        have c2a : (wd.alloc (.cells #[.int .i64 z0, .int .i64 z1', .int .i64 z2'] 78)).cell? ⟨V, 2, none⟩ = some p := blk_cell (blk_alloc bVd.out _) 2 _ rfl
        have hka := keepN3 (w' := wd.alloc (.cells #[.int .i64 z0, .int .i64 z1', .int .i64 z2'] 78)) (heap_alloc_old wd _ hgld) hHeld
        have hrS := hrd.out.alloc (.cells #[.int .i64 z0, .int .i64 z1', .int .i64 z2'] 78)
        have hwS := hwd.alloc hwd.size (.cells #[.int .i64 z0, .int .i64 z1', .int .i64 z2'] 78)
        have hnews := news_tgt wd (z0, z1', z2') 78
        have hge := ownBlock_ge hrS
        have ltVd : V < wd.heap.size := blk_lt bVd.out
        refine wpAnyH_ready (rs := [1, 12]) (by kernel_rfl) (by simp) ?_
        refine AllReadyH.cons (by simp only [List.getElem?_toArray, List.getElem?_cons_zero, List.getElem?_cons_succ]; rfl) (fun K hK => ?_) (AllReadyH.cons (by simp only [List.getElem?_toArray, List.getElem?_cons_zero, List.getElem?_cons_succ]; rfl) (fun K hK => ?_) AllReadyH.nil)
        · go_simp
          refine hK.out _ _ hHeld (fun hHeld => ?_)
          clear hK K
          try simp only [Act.put, List.setIfInBounds_toArray, List.set_cons_zero, List.set_cons_succ]
          refine wpAnyH_ready (rs := [12]) (by kernel_rfl) (by simp) ?_
          refine AllReadyH.cons (by simp only [List.getElem?_toArray, List.getElem?_cons_zero, List.getElem?_cons_succ]; rfl) (fun K hK => ?_) AllReadyH.nil
          go_simp
          refine hK.out _ _ hka (fun hHeld => ?_)
          clear hK K
          try simp only [Act.put, List.setIfInBounds_toArray, List.set_cons_zero, List.set_cons_succ]
          refine wpAnyH_ready (rs := [13]) (by kernel_rfl) (by simp) ?_
          refine AllReadyH.cons (by simp only [List.getElem?_toArray, List.getElem?_cons_zero, List.getElem?_cons_succ]; rfl) (fun K hK => ?_) AllReadyH.nil
          refine step_append_lies _ rfl _ _ 25 rfl B 78 ti _ 3 24 Tryz.underlying25 hti tz0 tz1 tz2 rfl (by omega) p k _ rfl hrS ⟨wd.heap.size, 0, none⟩ 1 1 (tcells (z0, z1', z2')) rfl rfl hnews (tcells_one _) (by omega) (by unfold maxLen; omega) (by omega) (by simp; omega) (wd.heap.size + 1) (by simp) ?_
          intro g cap w9 hown9 hgr9 _ _
          have bV9 := (hgr9.block V (by simp; omega) (fun e => absurd (hge _ e.symm) (by omega))).trans (blk_alloc bVd.out _)
          have bR9 := (hgr9.block w.heap.size (by simp; omega) (fun e => absurd (hge _ e.symm) (by omega))).trans (blk_alloc bRd.out _)
          have oF9 := (hgr9.block F (by simp; omega) (fun e => absurd (hge _ e.symm) (by omega))).trans (blk_alloc oFd.out _)
          have hw9 : Below w.heap.size w w9 := hwS.grown hgr9 (by have := hwS.size; simp; omega) (fun i hi => by have := hge i hi; omega)
          have hk9 := keepN3 (hgr9.block gb (by simp; omega) (fun e => absurd (hpl.out _ e.symm) (by omega))) hHeld
          have hs9 : B ≤ w9.heap.size := by have := hgr9.size; simp at this; omega
          have u2 := blk_free bV9 2
          have v2 := blk_cell bV9 2 _ rfl
          refine hK.out _ _ hk9 (fun hHeld => ?_)
          clear hK K
          try simp only [Act.put, List.setIfInBounds_toArray, List.set_cons_zero, List.set_cons_succ]
          refine wpAnyH_take (i := 14) (v := ?_) (by simp only [List.getElem?_toArray, List.getElem?_cons_zero, List.getElem?_cons_succ]; rfl) (by kernel_rfl) (by kernel_rfl) (by kernel_rfl) (by exact fun _ _ _ h => h) (Or.inl ⟨by rfl, ?_⟩) (by assumption) ?_
          rotate_left
          · intro w hSw
            try dsimp only at hSw
            go_simp
            try with_reducible rfl
          try simp only [Act.put, List.setIfInBounds_toArray, List.set_cons_zero, List.set_cons_succ]
          refine wpAnyH_ready (rs := [15]) (by kernel_rfl) (by simp) ?_
          refine AllReadyH.cons (by simp only [List.getElem?_toArray, List.getElem?_cons_zero, List.getElem?_cons_succ]; rfl) (fun K hK => ?_) AllReadyH.nil
          go_simp
          refine hK.out _ _ (keepN3 (Below.heap_setCell w9 _ _ _ (by show gb ≠ V; omega)) hHeld) (fun hHeld => ?_)
          clear hK K hHeld
          try simp only [Act.put, List.setIfInBounds_toArray, List.set_cons_zero, List.set_cons_succ]
          refine wpAnyH_done (by kernel_rfl) ?_ _
          go_wp2_with fail
          go_roundw
          case rel =>
            refine ⟨k + 1, .slice (some ⟨g, 0, none⟩) (k + 1) cap, by omega, by go_num, hw9.setCell (p := ⟨V, 2, none⟩) hwV2 _, ?_, ?_, ?_, ?_, ?_, HTt⟩
            · simpa using hs9
            · show _ = _
              exact set1 bV9 2 _
            · show _ = _
              exact set_far bR9 _ _ (by omega)
            · show OwnStrs _ _ _
              exact set_far oF9 _ _ (by omega)
            · show World.ownsRow _ _ _ _ _ _ _
              rw [HP.out]
              exact ownsRow_setCell_below hown9 (by simp; omega) _
          case measure => simp [intOf]; omega
        · go_simp
          refine hK.out _ _ hka (fun hHeld => ?_)
          clear hK K
          try simp only [Act.put, List.setIfInBounds_toArray, List.set_cons_zero, List.set_cons_succ]
          refine wpAnyH_ready (rs := [1]) (by kernel_rfl) (by simp) ?_
          refine AllReadyH.cons (by simp only [List.getElem?_toArray, List.getElem?_cons_zero, List.getElem?_cons_succ]; rfl) (fun K hK => ?_) AllReadyH.nil
          go_simp
          refine hK.out _ _ hka (fun hHeld => ?_)
          clear hK K
          try simp only [Act.put, List.setIfInBounds_toArray, List.set_cons_zero, List.set_cons_succ]
          refine wpAnyH_ready (rs := [13]) (by kernel_rfl) (by simp) ?_
          refine AllReadyH.cons (by simp only [List.getElem?_toArray, List.getElem?_cons_zero, List.getElem?_cons_succ]; rfl) (fun K hK => ?_) AllReadyH.nil
          refine step_append_lies _ rfl _ _ 25 rfl B 78 ti _ 3 24 Tryz.underlying25 hti tz0 tz1 tz2 rfl (by omega) p k _ rfl hrS ⟨wd.heap.size, 0, none⟩ 1 1 (tcells (z0, z1', z2')) rfl rfl hnews (tcells_one _) (by omega) (by unfold maxLen; omega) (by omega) (by simp; omega) (wd.heap.size + 1) (by simp) ?_
          intro g cap w9 hown9 hgr9 _ _
          have bV9 := (hgr9.block V (by simp; omega) (fun e => absurd (hge _ e.symm) (by omega))).trans (blk_alloc bVd.out _)
          have bR9 := (hgr9.block w.heap.size (by simp; omega) (fun e => absurd (hge _ e.symm) (by omega))).trans (blk_alloc bRd.out _)
          have oF9 := (hgr9.block F (by simp; omega) (fun e => absurd (hge _ e.symm) (by omega))).trans (blk_alloc oFd.out _)
          have hw9 : Below w.heap.size w w9 := hwS.grown hgr9 (by have := hwS.size; simp; omega) (fun i hi => by have := hge i hi; omega)
          have hk9 := keepN3 (hgr9.block gb (by simp; omega) (fun e => absurd (hpl.out _ e.symm) (by omega))) hHeld
          have hs9 : B ≤ w9.heap.size := by have := hgr9.size; simp at this; omega
          have u2 := blk_free bV9 2
          have v2 := blk_cell bV9 2 _ rfl
          refine hK.out _ _ hk9 (fun hHeld => ?_)
          clear hK K
          try simp only [Act.put, List.setIfInBounds_toArray, List.set_cons_zero, List.set_cons_succ]
          refine wpAnyH_take (i := 14) (v := ?_) (by simp only [List.getElem?_toArray, List.getElem?_cons_zero, List.getElem?_cons_succ]; rfl) (by kernel_rfl) (by kernel_rfl) (by kernel_rfl) (by exact fun _ _ _ h => h) (Or.inl ⟨by rfl, ?_⟩) (by assumption) ?_
          rotate_left
          · intro w hSw
            try dsimp only at hSw
            go_simp
            try with_reducible rfl
          try simp only [Act.put, List.setIfInBounds_toArray, List.set_cons_zero, List.set_cons_succ]
          refine wpAnyH_ready (rs := [15]) (by kernel_rfl) (by simp) ?_
          refine AllReadyH.cons (by simp only [List.getElem?_toArray, List.getElem?_cons_zero, List.getElem?_cons_succ]; rfl) (fun K hK => ?_) AllReadyH.nil
          go_simp
          refine hK.out _ _ (keepN3 (Below.heap_setCell w9 _ _ _ (by show gb ≠ V; omega)) hHeld) (fun hHeld => ?_)
          clear hK K hHeld
          try simp only [Act.put, List.setIfInBounds_toArray, List.set_cons_zero, List.set_cons_succ]
          refine wpAnyH_done (by kernel_rfl) ?_ _
          go_wp2_with fail
          go_roundw
          case rel =>
            refine ⟨k + 1, .slice (some ⟨g, 0, none⟩) (k + 1) cap, by omega, by go_num, hw9.setCell (p := ⟨V, 2, none⟩) hwV2 _, ?_, ?_, ?_, ?_, ?_, HTt⟩
            · simpa using hs9
            · show _ = _
              exact set1 bV9 2 _
            · show _ = _
              exact set_far bR9 _ _ (by omega)
            · show OwnStrs _ _ _
              exact set_far oF9 _ _ (by omega)
            · show World.ownsRow _ _ _ _ _ _ _
              rw [HP.out]
              exact ownsRow_setCell_below hown9 (by simp; omega) _
          case measure => simp [intOf]; omega
      · have f1 : ((j : Int) != 3) = true := by simp; omega
        have HP1 := hide (HB3.out (tgB_len (by rw [← HDk.out, List.length_map, ← HMm.out]; exact h3)))
        obtain ⟨A', C', rfl⟩ := row_form hn.out
        have b7 := hide (blk_below bR.out hb7)
        clear h3 hn hnok HE
        go_wp2_with fail
        refine (unhide HBad _).mono ?_
        rintro e wB ⟨rfl, hbB⟩
        have bB := hide (blk_below b7.out hbB)
        have hwB := hw7.trans (hbB.mono hw7.size)
        have u0 := blk_free bB.out 0
        have u1 := blk_free bB.out 1
        have u2 := blk_free bB.out 2
        have c0 := blk_cell bB.out 0 _ rfl
        have c1 := blk_cell bB.out 1 _ rfl
        have c2 := blk_cell bB.out 2 _ rfl
        have hwf := ((hwB.setCell (p := ⟨w.heap.size, 0, none⟩) (Nat.le_refl _) (.int .i64 0)).setCell (p := ⟨w.heap.size, 1, none⟩) (Nat.le_refl _) (.int .i64 0)).setCell (p := ⟨w.heap.size, 2, none⟩) (Nat.le_refl _) (.slice none 0 0)
        have bf := hide (set3 bB.out (.int .i64 0) (.int .i64 0) (.slice none 0 0))
        go_wp2_with fail
        generalize ((wB.setCell ⟨w.heap.size, 0, none⟩ (.int .i64 0)).setCell ⟨w.heap.size, 1, none⟩ (.int .i64 0)).setCell ⟨w.heap.size, 2, none⟩ (.slice none 0 0) = wf at *
        have y0 := blk_cell bf.out 0 _ rfl
        have y1 := blk_cell bf.out 1 _ rfl
        have y2 := blk_cell bf.out 2 _ rfl
        exact bodyPost_ret (v := .tuple #[.agg #[.int .i64 0, .int .i64 0, .slice none 0 0], .int .i64 1]) (by simp [results, Tryz.results24, go_sem, y0, y1, y2]) rfl ⟨parse_zero HP1.out, hwf⟩
  · have hkn : k = n := by omega
    subst hkn
    have HE := hide (show ps.take k = ps from List.take_of_length_le (by rw [← HN.out]; exact Nat.le_refl _))
    rw [HE.out] at hr hok
    have HPs := hide (HQ0.out hok.out)
    have HLn := hide (show (ps.map (fun f => tgV f.data.toList)).length = k by rw [List.length_map, HN.out])
    obtain ⟨A', C, rfl, hT, hfr0⟩ := row_tgts hr.out HLn.out
    have hfr : ∀ ad, A' = some ad → w.heap.size < ad.block := fun ad e => by have := hfr0 ad e; omega
    have hkm : k ≤ maxLen := by unfold maxLen; omega
    have HCk := hide (fun X (hX : IsTgts X A' (ps.map (fun f => tgV f.data.toList))) => refCheckRelease_any x y A' k C (ps.map (fun f => tgV f.data.toList)) X hX HLn.out hkm)
    clear hr hok HE hfr0 HQ0 HQ3
    generalize ps.map (fun f => tgV f.data.toList) = ts at *
    unfold relv at HCk
    have d0 := blk_cell bV.out 0 _ rfl
    have d1 := blk_cell bV.out 1 _ rfl
    have d2 := blk_cell bV.out 2 _ rfl
    go_wp2_with fail
    refine (unhide HCk _ hT).mono ?_
    rintro e w6 ⟨rfl, hb6⟩
    clear d0 d1 d2 HCk
    replace bV := hide (blk_below bV.out hb6)
    replace bR := hide (blk_below bR.out hb6)
    replace hT := hT.below hb6
    replace hw := hw.trans (hb6.mono hw.size)
    clear hb6
    have u0 := blk_free bR.out 0
    have u1 := blk_free bR.out 1
    have u2 := blk_free bR.out 2
    have c0 := blk_cell bR.out 0 _ rfl
    have c1 := blk_cell bR.out 1 _ rfl
    have c2 := blk_cell bR.out 2 _ rfl
    have d0 := blk_cell bV.out 0 _ rfl
    have d1 := blk_cell bV.out 1 _ rfl
    have d2 := blk_cell bV.out 2 _ rfl
    by_cases h0 : relE x y ts = 0
    · have HP1 := hide (show parseS s.data.toList = (x, y, ts, 0) by rw [HPs.out, if_pos h0])
      rw [h0]
      clear h0 HPs
      have hwf := ((hw.setCell (p := ⟨w.heap.size, 0, none⟩) (Nat.le_refl _) (.int .i64 x)).setCell (p := ⟨w.heap.size, 1, none⟩) (Nat.le_refl _) (.int .i64 y)).setCell (p := ⟨w.heap.size, 2, none⟩) (Nat.le_refl _) (.slice A' k C)
      have bf := hide (set3 bR.out (.int .i64 x) (.int .i64 y) (.slice A' k C))
      have hif := ((hT.setFar hfr 0 (.int .i64 x)).setFar hfr 1 (.int .i64 y)).setFar hfr 2 (.slice A' k C)
      go_wp2_with fail
      generalize ((w6.setCell ⟨w.heap.size, 0, none⟩ (.int .i64 x)).setCell ⟨w.heap.size, 1, none⟩ (.int .i64 y)).setCell ⟨w.heap.size, 2, none⟩ (.slice A' k C) = wf at *
      have y0 := blk_cell bf.out 0 _ rfl
      have y1 := blk_cell bf.out 1 _ rfl
      have y2 := blk_cell bf.out 2 _ rfl
      refine bodyPost_ret (v := .tuple #[.agg #[.int .i64 x, .int .i64 y, .slice A' k C], .int .i64 0]) (by simp [results, Tryz.results24, go_sem, y0, y1, y2]) rfl ⟨?_, hwf⟩
      rw [HP1.out]
      exact ⟨A', k, C, rfl, hif, HLn.out, hkm⟩
    · have HP1 := hide (show parseS s.data.toList = (0, 0, [], relE x y ts) by rw [HPs.out, if_neg h0])
      have hb : (relE x y ts != 0) = true := by simpa using h0
      clear h0 HPs
      generalize relE x y ts = g at *
      have hwf := ((hw.setCell (p := ⟨w.heap.size, 0, none⟩) (Nat.le_refl _) (.int .i64 0)).setCell (p := ⟨w.heap.size, 1, none⟩) (Nat.le_refl _) (.int .i64 0)).setCell (p := ⟨w.heap.size, 2, none⟩) (Nat.le_refl _) (.slice none 0 0)
      have bf := hide (set3 bR.out (.int .i64 0) (.int .i64 0) (.slice none 0 0))
      go_wp2_with fail
      generalize ((w6.setCell ⟨w.heap.size, 0, none⟩ (.int .i64 0)).setCell ⟨w.heap.size, 1, none⟩ (.int .i64 0)).setCell ⟨w.heap.size, 2, none⟩ (.slice none 0 0) = wf at *
      have y0 := blk_cell bf.out 0 _ rfl
      have y1 := blk_cell bf.out 1 _ rfl
      have y2 := blk_cell bf.out 2 _ rfl
      exact bodyPost_ret (v := .tuple #[.agg #[.int .i64 0, .int .i64 0, .slice none 0 0], .int .i64 g]) (by simp [results, Tryz.results24, go_sem, y0, y1, y2]) rfl ⟨parse_zero HP1.out, hwf⟩

end Go.Proofs.YtanpglfpopbfkabGreatDoor
