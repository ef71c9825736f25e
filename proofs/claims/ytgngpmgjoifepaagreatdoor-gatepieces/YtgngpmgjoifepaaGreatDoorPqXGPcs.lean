/- The walk of the law GatePieces: the pieces that are due are the image, one behind the other; then comes a Prepare; once it is decided one word is due. -/
import Derived.Test.YtgngpmgjoifepaaGreatDoorPq38
import Derived.BigQuiet
namespace Go.Proofs.YtgngpmgjoifepaaGreatDoor
open Go.RowKit
attribute [local go_sem ↓] Go.wp_at_zero Go.wp_at_succ

theorem dueE_ok {g : Gt} {cn : Int} {ts : List T3} {ims : List (List Int)} {u : Int} (h : dueE g cn ts ims u = 0) : upE g = 0 ∧ (0 ≤ u ∧ u < g.vo.length) ∧ cn = (gOf g.ws).n ∧ u < ims.length ∧ u < ts.length := by
  unfold dueE at h
  split at h
  · rename_i h1; exact absurd h h1
  · rename_i h1
    split at h
    · cases h
    · split at h
      · rename_i h3
        unfold inB at h3
        simp at h3
        exact ⟨by simpa using h1, by omega, h3.2.1, h3.2.2.1, h3.2.2.2⟩
      · cases h
/-- What is due, of what has no error. -/
theorem due_ok {g : Gt} {cn : Int} {ts : List T3} {ims : List (List Int)} {u : Int} (h : (gDue g cn ts ims u).2 = 0) : dueE g cn ts ims u = 0 ∧
    ((decG (gOf g.ws) = true ∧ ((gDue g cn ts ims u).1 = [] ∨ (gDue g cn ts ims u).1 = [verd (gOf g.ws) u (gOf g.ws).n])) ∨ (decG (gOf g.ws) = false ∧ g.vo.getD u.toNat false = true ∧ (gDue g cn ts ims u).1 = []) ∨
     (decG (gOf g.ws) = false ∧ (ims.getD u.toNat []).length ≤ 40 ∧ (gDue g cn ts ims u).1 = delG cn u (ts.getD u.toNat (0, 0, 0)).2.1 (ims.getD u.toNat []))) := by
  unfold gDue at *
  by_cases z : dueE g cn ts ims u = 0
  · refine ⟨z, ?_⟩
    rw [if_neg (by simpa using z)] at h ⊢
    split
    · rename_i hd
      refine .inl ⟨hd, ?_⟩
      dsimp only
      split
      · exact .inl rfl
      · exact .inr rfl
    · rename_i hd
      split
      · rename_i hv
        exact .inr (.inl ⟨by simpa using hd, hv, rfl⟩)
      · rename_i hv
        rw [if_neg hd, if_neg hv] at h
        split at h
        · cases h
        · rename_i h40
          rw [if_neg h40]
          exact .inr (.inr ⟨by simpa using hd, by omega, rfl⟩)
  · rw [if_pos z] at h; exact absurd h z
/-- How many pieces there are. -/
theorem pcs_at (u n : Int) (image : List Int) (K i : Nat) (h : i < K) (last : Ms) : (pcs u n image K ++ [last])[i]? = some ⟨1, u, n, (8 * i : Nat), 0, (image.drop (8 * i)).take 8, false⟩ := by
  unfold pcs
  rw [List.getElem?_append_left (by simpa using h)]
  simp [h]
theorem pcs_last (u n : Int) (image : List Int) (K : Nat) (last : Ms) : (pcs u n image K ++ [last])[K]? = some last := by
  rw [List.getElem?_append_right (by rw [pcs_len]; exact Nat.le_refl _), pcs_len]
  simp
theorem take_8 (image : List Int) (i : Nat) : image.take (8 * i) ++ (image.drop (8 * i)).take 8 = image.take (8 * (i + 1)) := by
  rw [show 8 * (i + 1) = 8 * i + 8 by omega, List.take_add]

theorem msw_some {w : World} {a : Option Addr} {l : List Ms} (h : IsMsw w a l) (hl : l ≠ []) : ∃ b off, a = some ⟨b, off, none⟩ ∧ ∀ i m, l[i]? = some m → ∃ am nm cm, BI w am nm m.ws ∧ w.cell? ⟨b, off + i * 7, none⟩ = some (.int .i64 m.k) ∧ w.cell? ⟨b, off + i * 7 + 1, none⟩ = some (.int .i64 m.u) ∧ w.cell? ⟨b, off + i * 7 + 2, none⟩ = some (.int .i64 m.n) ∧ w.cell? ⟨b, off + i * 7 + 3, none⟩ = some (.int .i64 m.at') ∧ w.cell? ⟨b, off + i * 7 + 4, none⟩ = some (.int .i64 m.im) ∧ w.cell? ⟨b, off + i * 7 + 5, none⟩ = some (.slice am nm cm) ∧ w.cell? ⟨b, off + i * 7 + 6, none⟩ = some (.bool m.y) :=
  h.resolve_left hl
theorem row_slice {w : World} {base n : Nat} {v : Value} {vs : List Value} {t : TypeId} (h : w.ownsRow base t 1 v n vs) : ∃ a c, v = .slice a n c ∧ n ≤ c := by
  obtain ⟨_, ⟨hv, hn⟩ | ⟨g', cap, cur, hv, _, _, hc, _⟩⟩ := h
  · exact ⟨none, 0, by rw [hv, hn], by omega⟩
  · exact ⟨_, cap, hv, hc⟩
/-- What stands round by round. -/
structure PInv (W : World) (image : List Int) (k : Nat) (v : Value) (wr : World) : Prop where
  bel : Below W.heap.size W wr
  row : ∃ n, n = (image.take (8 * k)).length ∧ wr.ownsRow W.heap.size 3 1 v n (vals (image.take (8 * k)))
theorem msw_one {w : World} {a : Option Addr} {m : Ms} (h : IsMsw w a [m]) : ∃ b off, a = some ⟨b, off, none⟩ ∧ w.cell? ⟨b, off, none⟩ = some (.int .i64 m.k) ∧ w.cell? ⟨b, off + 1, none⟩ = some (.int .i64 m.u) ∧ w.cell? ⟨b, off + 2, none⟩ = some (.int .i64 m.n) := by
  rcases h with h | ⟨b, off, ha, hc⟩
  · cases h
  · obtain ⟨am, nm, cm, h0, h1, h2, h3, -⟩ := hc 0 m rfl
    exact ⟨b, off, ha, by simpa using h1, by simpa using h2, by simpa using h3⟩
set_option maxRecDepth 100000 in
set_option maxHeartbeats 25600000 in
theorem gatePieces_walk (g : Gt) (k0 : GA) (cn cv cu : Int) (ca : CA) (ts : List T3) (ims : List (List Int)) (u : Int) (w : World) (h : GIn w k0 g) (ht : BT w ca.at_ ca.nt ts) (hi : BL w ca.ai ca.ni ims) (hT : Tab w) :
    Calls Tryz.prog 7 #[gtv g k0, cpv cn cv cu ca, .int .i64 u] w fun e w' => e = .returned (.bool true) ∧ Below w.heap.size w w' := by
  have hw : Below w.heap.size w ((w.alloc (.cells #[.slice k0.a k0.n k0.c, .int .i64 g.fu, .bool g.up, .int .i64 g.t.r.v, .slice k0.ak k0.nk k0.ck, .int .i64 g.t.r.t, .int .i64 g.t.ver, .slice k0.av k0.nv k0.cv, .slice k0.ad k0.nd k0.cd] 68)).alloc (.cells #[.int .i64 cn, .int .i64 cv, .int .i64 cu, .slice ca.at_ ca.nt ca.ct, .slice ca.ai ca.ni ca.ci] 93)) := ((Below.refl _ _).alloc (Nat.le_refl _) _).alloc (by simp) _
  have b0 : Hid (((w.alloc (.cells #[.slice k0.a k0.n k0.c, .int .i64 g.fu, .bool g.up, .int .i64 g.t.r.v, .slice k0.ak k0.nk k0.ck, .int .i64 g.t.r.t, .int .i64 g.t.ver, .slice k0.av k0.nv k0.cv, .slice k0.ad k0.nd k0.cd] 68)).alloc (.cells #[.int .i64 cn, .int .i64 cv, .int .i64 cu, .slice ca.at_ ca.nt ca.ct, .slice ca.ai ca.ni ca.ci] 93)).heap[w.heap.size]? = some (.cells #[.slice k0.a k0.n k0.c, .int .i64 g.fu, .bool g.up, .int .i64 g.t.r.v, .slice k0.ak k0.nk k0.ck, .int .i64 g.t.r.t, .int .i64 g.t.ver, .slice k0.av k0.nv k0.cv, .slice k0.ad k0.nd k0.cd] 68 (0, 0))) := blk_alloc (heap_alloc_last _ _) _
  have b1 : Hid (((w.alloc (.cells #[.slice k0.a k0.n k0.c, .int .i64 g.fu, .bool g.up, .int .i64 g.t.r.v, .slice k0.ak k0.nk k0.ck, .int .i64 g.t.r.t, .int .i64 g.t.ver, .slice k0.av k0.nv k0.cv, .slice k0.ad k0.nd k0.cd] 68)).alloc (.cells #[.int .i64 cn, .int .i64 cv, .int .i64 cu, .slice ca.at_ ca.nt ca.ct, .slice ca.ai ca.ni ca.ci] 93)).heap[w.heap.size + 1]? = some (.cells #[.int .i64 cn, .int .i64 cv, .int .i64 cu, .slice ca.at_ ca.nt ca.ct, .slice ca.ai ca.ni ca.ci] 93 (0, 0))) := uLast1 _ _ _
  have HDu := hide (fun W (hW : Below w.heap.size w W) => gateDue_any g k0 cn cv cu ca ts ims u W (h.below hW) (ht.below hW) (hi.below hW))
  have HRd := hide (fun W (hW : Below w.heap.size w W) => gateRead_any g k0 W (h.below hW))
  have HGt := hide (fun W (hW : Below w.heap.size w W) => lawGated_any W (hT.below hW))
  have HP := hide h
  have HTs := hide ht
  have HIs := hide hi
  clear h ht hi hT
  unfold gtv cpv at HDu
  unfold gtv at HRd
  unfold gtv cpv
  obtain ⟨D, hD⟩ : ∃ D, D = gDue g cn ts ims u := ⟨_, rfl⟩
  rw [← hD] at HDu
  have HOk : Hid (D.2 = 0 → _) := fun e => due_ok (g := g) (cn := cn) (ts := ts) (ims := ims) (u := u) (by rw [← hD]; exact e)
  rw [← hD] at HOk
  clear hD
  go_enter Tryz.func7, Tryz.ntmps7
  go_upto_region 1 with fail
  generalize ((w.alloc (.cells #[.slice k0.a k0.n k0.c, .int .i64 g.fu, .bool g.up, .int .i64 g.t.r.v, .slice k0.ak k0.nk k0.ck, .int .i64 g.t.r.t, .int .i64 g.t.ver, .slice k0.av k0.nv k0.cv, .slice k0.ad k0.nd k0.cd] 68)).alloc (.cells #[.int .i64 cn, .int .i64 cv, .int .i64 cu, .slice ca.at_ ca.nt ca.ct, .slice ca.ai ca.ni ca.ci] 93)) = W at *
  have x0 := blk_cell b0.out 0 _ rfl
  have x1 := blk_cell b0.out 1 _ rfl
  have x2 := blk_cell b0.out 2 _ rfl
  have x3 := blk_cell b0.out 3 _ rfl
  have x4 := blk_cell b0.out 4 _ rfl
  have x5 := blk_cell b0.out 5 _ rfl
  have x6 := blk_cell b0.out 6 _ rfl
  have x7 := blk_cell b0.out 7 _ rfl
  have x8 := blk_cell b0.out 8 _ rfl
  have c0 := blk_cell b1.out 0 _ rfl
  have c1 := blk_cell b1.out 1 _ rfl
  have c2 := blk_cell b1.out 2 _ rfl
  have c3 := blk_cell b1.out 3 _ rfl
  have c4 := blk_cell b1.out 4 _ rfl
  go_wp2_with fail
  refine (unhide HDu _ hw).mono ?_
  rintro e w1 ⟨⟨al, nl, cl, rfl, hml, hnl, hcl, -⟩, hb⟩
  clear HDu x0 x1 x2 x3 x4 x5 x6 x7 x8 c0 c1 c2 c3 c4
  replace b0 := hide (blk_below b0.out hb)
  replace b1 := hide (blk_below b1.out hb)
  replace hw := hw.trans (hb.mono hw.size)
  have ML := hide hml
  clear hml hb
  have x0 := blk_cell b0.out 0 _ rfl
  have x1 := blk_cell b0.out 1 _ rfl
  have x2 := blk_cell b0.out 2 _ rfl
  have x3 := blk_cell b0.out 3 _ rfl
  have x4 := blk_cell b0.out 4 _ rfl
  have x5 := blk_cell b0.out 5 _ rfl
  have x6 := blk_cell b0.out 6 _ rfl
  have x7 := blk_cell b0.out 7 _ rfl
  have x8 := blk_cell b0.out 8 _ rfl
  go_wp2_with fail
  refine (unhide HRd _ hw).mono ?_
  rintro e w2 ⟨rfl, hb⟩
  clear HRd x0 x1 x2 x3 x4 x5 x6 x7 x8
  obtain ⟨s, q, hsq⟩ : ∃ s q, gReadS g = (s, q) := ⟨_, _, rfl⟩
  rw [hsq]
  have HSQ := hide hsq
  clear hsq
  unfold gsv
  dsimp only
  have hb2 : Below w1.heap.size w1 (w2.alloc (.cells #[.int .i64 s.n, .int .i64 s.v, .bool s.co, .bool s.ab, .bool s.en] 82)) := below_new hb _
  have bS := hide (heap_alloc_last w2 (.cells #[.int .i64 s.n, .int .i64 s.v, .bool s.co, .bool s.ab, .bool s.en] 82))
  replace b0 := hide (blk_below b0.out hb2)
  replace b1 := hide (blk_below b1.out hb2)
  replace ML := hide (ML.out.below hb2)
  replace hw := hw.trans (hb2.mono hw.size)
  clear hb hb2
  go_upto_region 3 with fail
  generalize w2.alloc (.cells #[.int .i64 s.n, .int .i64 s.v, .bool s.co, .bool s.ab, .bool s.en] 82) = W2 at *
  generalize w2.heap.size = S at *
  go_wp2_with fail
  refine (unhide HGt _ hw).mono ?_
  rintro e w3 ⟨rfl, hb⟩
  replace b0 := hide (blk_below b0.out hb)
  replace b1 := hide (blk_below b1.out hb)
  replace bS := hide (blk_below bS.out hb)
  replace ML := hide (ML.out.below hb)
  replace hw := hw.trans (hb.mono hw.size)
  clear hb
  by_cases z : D.2 = 0
  rotate_left
  · have d : (D.2 != 0) = true := by simpa using z
    clear z HOk
    generalize D.2 = qq at *
    go_wp2_with fail
    refine (unhide HGt _ hw).mono ?_
    rintro e w4 ⟨rfl, hb⟩
    go_wp2_with fail
    go_ret
    exact ⟨rfl, hw.trans (hb.mono hw.size)⟩
  obtain ⟨hde, hcs⟩ := HOk.out z
  obtain ⟨hup, ⟨hu0, hul⟩, hcn, hui, hut⟩ := dueE_ok hde
  have hgt := upE_gt hup
  obtain ⟨l, e0⟩ := D
  dsimp only at *
  subst z
  have e := HSQ.out
  rw [gReadS_0 hgt] at e
  obtain ⟨hs, rfl⟩ : s = gOf g.ws ∧ q = 0 := ⟨(congrArg Prod.fst e).symm, (congrArg Prod.snd e).symm⟩
  rw [← hs] at hcs hcn
  clear e HSQ hde hup hgt hs HGt HOk
  obtain ⟨un, rfl⟩ : ∃ v : Nat, u = (v : Int) := ⟨u.toNat, by omega⟩
  rw [Int.toNat_natCast] at hcs
  subst hcn
  have c4 := blk_cell b1.out 4 _ rfl
  have c3 := blk_cell b1.out 3 _ rfl
  have hni := HIs.out.len
  have hnt := HTs.out.len
  have huI : (un : Int) < (ca.ni : Int) := by omega
  have huT : (un : Int) < (ca.nt : Int) := by omega
  have hu0' : ¬ (un : Int) < 0 := by omega
  have s0 := blk_cell bS.out 0 _ rfl
  have s1 := blk_cell bS.out 1 _ rfl
  have s2 := blk_cell bS.out 2 _ rfl
  have s3 := blk_cell bS.out 3 _ rfl
  have s4 := blk_cell bS.out 4 _ rfl
  have hvl := HP.out.vo.len
  rcases hcs with ⟨hdec, hl⟩ | ⟨hdec, hvo, hl⟩ | ⟨hdec, h40, hl⟩
  · unfold decG at hdec
    go_upto_region 5 with fail
    clear c3 c4
    rcases hl with rfl | rfl
    · obtain rfl : nl = 0 := hnl.symm
      clear ML HP HTs HIs
      cases hco : s.co
      · rw [hco] at s2 hdec
        have hab : s.ab = true := by simpa using hdec
        rw [hab] at s3
        clear hdec hab
        go_upto_region 6 with fail
        go_quiet (fail)
        go_wp2_with fail
        go_ret
        exact ⟨rfl, below_drewN hw _⟩
      · rw [hco] at s2
        clear hdec
        go_upto_region 6 with fail
        go_quiet (fail)
        go_wp2_with fail
        go_ret
        exact ⟨rfl, below_drewN hw _⟩
    obtain rfl : nl = 1 := hnl.symm
    obtain ⟨b, off, rfl, hc0, hc1, hc2⟩ := msw_one ML.out
    clear ML HP HTs HIs
    have hk : (verd s un s.n).k = if s.co = true then 4 else 5 := by unfold verd; simp
    rw [hk] at hc0
    rw [show (verd s un s.n).u = (un : Int) from rfl] at hc1
    rw [show (verd s un s.n).n = s.n from rfl] at hc2
    cases hco : s.co
    · rw [hco] at s2 hdec hc0
      have hab : s.ab = true := by simpa using hdec
      rw [hab] at s3
      rw [if_neg (by decide)] at hc0
      clear hdec hab hk
      go_upto_region 6 with fail
      go_quiet (fail)
      go_wp2_with fail
      go_ret
      exact ⟨rfl, below_drewN hw _⟩
    · rw [hco] at s2 hc0
      rw [if_pos rfl] at hc0
      clear hdec hk
      go_upto_region 6 with fail
      go_quiet (fail)
      go_wp2_with fail
      go_ret
      exact ⟨rfl, below_drewN hw _⟩
  · subst hl
    obtain rfl : nl = 0 := hnl.symm
    unfold decG at hdec
    obtain ⟨bv, ov, hav, hvc⟩ := bools_at (HP.out.vo.below hw) un (by omega)
    rw [hvo] at hvc
    have x7 := blk_cell b0.out 7 _ rfl
    rw [hav] at x7
    have huv : (un : Int) < (k0.nv : Int) := by omega
    have hc2 : s.co = false ∧ s.ab = false := by simpa using hdec
    rw [hc2.1] at s2
    rw [hc2.2] at s3
    clear hdec hc2 hvo hav ML HP HTs HIs
    go_wp2_with fail
    go_ret
    exact ⟨rfl, hw⟩
  have hc2 : s.co = false ∧ s.ab = false := by unfold decG at hdec; simpa using hdec
  rw [hc2.1] at s2
  rw [hc2.2] at s3
  clear hdec hc2
  rw [show ims.getD un [] = ims[un] by simp [show un < ims.length by omega]] at h40 hl
  rw [show ts.getD un (0, 0, 0) = ts[un] by simp [show un < ts.length by omega]] at hl
  obtain ⟨bi, oi, ai, ci, hai, hcell, hints, hci, hmi⟩ := lists_at (HIs.out.at_.below hw) un (by omega)
  obtain ⟨bt, ot, hat, htc⟩ := tgts_at (HTs.out.at_.below hw) un (by omega)
  generalize ims[un] = image at *
  generalize ts[un] = tt at *
  obtain ⟨K, hK⟩ : ∃ K, 8 * K < image.length + 8 ∧ image.length ≤ 8 * K := ⟨(image.length + 7) / 8, by omega⟩
  unfold delG at hl
  rw [pieces_all un s.n image K h40 hK] at hl
  subst hl
  have hn1 : nl = K + 1 := by rw [← hnl]; simp [pcs_len]
  subst hn1
  have HKl := hide hK
  have hK8 : K ≤ 5 := by omega
  have HIn := hide hints
  have HC1 := hide hcell
  have HC2 := hide htc
  clear hnl hK hints hcell htc HP HTs HIs hvl hni hnt hui hut hul hu0
  have hK0 : ((K : Int) + 1 == 0) = false := by simp; omega
  go_wp2_with fail
  obtain ⟨bl, ol, rfl, hcL⟩ := msw_some ML.out (by simp)
  have HL := hide hcL
  clear hcL ML
  obtain ⟨ii, hii, iz0, iz1, iz2⟩ := info_parts info_int
  go_loopw [11, 129] (fun p i wr => ∃ k : Nat, k ≤ K ∧ i = .int .i64 k ∧ Hid (PInv w3 image k p wr)) (fun _ i _ => K + 1 - (intOf i).toNat)
  case atStart => exact ⟨0, Nat.zero_le _, rfl, ⟨Below.refl _ _, 0, by simp, World.ownsRow_nil _ _ _ _⟩⟩
  case round =>
    obtain ⟨wq, rfl⟩ : ∃ wq : World, wq = wr := ⟨_, rfl⟩
    obtain ⟨k, hk, rfl, hI⟩ := hrel
    obtain ⟨hbel, n, hn, hrow⟩ := hI.out
    obtain ⟨A, C, rfl, hC⟩ := row_slice hrow
    clear hI
    have hltI : (k : Int) < (K : Int) + 1 := by omega
    have bS' := hide (blk_below bS.out hbel)
    have b1' := hide (blk_below b1.out hbel)
    clear s0 s1 s2 s3 s4 c3 c4
    have s0 := blk_cell bS'.out 0 _ rfl
    by_cases hlt : k < K
    · obtain ⟨am, q, cm, hbi, h0, h1, h2, h3, h4, h5, h6⟩ := HL.out k _ (pcs_at un s.n image K k hlt _)
      have hq8 : q = ((image.drop (8 * k)).take 8).length := hbi.len.symm
      have hn8 : n = 8 * k := by rw [hn, List.length_take]; have := HKl.out; omega
      have hq1 : 0 < q ∧ q ≤ 8 := by rw [hq8, List.length_take, List.length_drop]; have := HKl.out; omega
      have HT8 := hide (take_8 image k)
      have HN := hide hn
      dsimp only at hbi h0 h1 h2 h3 h4 h5 h6
      rw [← hn8] at hbi h3
      have hk8 := hide hn8
      rw [← hn8] at HT8 hrow
      clear hn hq8 hn8
      generalize (image.drop n).take 8 = ws at *
      replace h0 := (hbel.cell (cell_lt h0)).trans h0
      replace h1 := (hbel.cell (cell_lt h1)).trans h1
      replace h2 := (hbel.cell (cell_lt h2)).trans h2
      replace h3 := (hbel.cell (cell_lt h3)).trans h3
      replace h4 := (hbel.cell (cell_lt h4)).trans h4
      replace h5 := (hbel.cell (cell_lt h5)).trans h5
      replace h6 := (hbel.cell (cell_lt h6)).trans h6
      have HB := hide (hbi.below hbel)
      have hqI : (0 : Int) < (q : Int) := by omega
      have hqJ : ¬ (8 : Int) < (q : Int) := by omega
      have hqz : ((q : Int) == 0) = false := by simp; omega
      clear hbi
      have bm := hide (heap_alloc_last wq (.cells #[.int .i64 1, .int .i64 un, .int .i64 s.n, .int .i64 n, .int .i64 0, .slice am q cm, .bool false] 31))
      have hwd := below_new hbel (.cells #[.int .i64 1, .int .i64 un, .int .i64 s.n, .int .i64 n, .int .i64 0, .slice am q cm, .bool false] 31)
      have hrowd := hide (hrow.alloc (.cells #[.int .i64 1, .int .i64 un, .int .i64 s.n, .int .i64 n, .int .i64 0, .slice am q cm, .bool false] 31))
      have hb9 : Below wq.heap.size wq (wq.alloc (.cells #[.int .i64 1, .int .i64 un, .int .i64 s.n, .int .i64 n, .int .i64 0, .slice am q cm, .bool false] 31)) := below_new (Below.refl _ _) _
      replace HB := hide (HB.out.below hb9)
      replace bS' := hide (blk_below bS'.out hb9)
      clear hb9 hrow
      go_upto_region 13 with fail
      generalize wq.alloc (.cells #[.int .i64 1, .int .i64 un, .int .i64 s.n, .int .i64 n, .int .i64 0, .slice am q cm, .bool false] 31) = w4 at *
      generalize wq.heap.size = Q at *
      clear s0 h0 h1 h2 h3 h4 h5 h6
      have s0 := blk_cell bS'.out 0 _ rfl
      have m0 := blk_cell bm.out 0 _ rfl
      have m1 := blk_cell bm.out 1 _ rfl
      have m2 := blk_cell bm.out 2 _ rfl
      have m3 := blk_cell bm.out 3 _ rfl
      have m4 := blk_cell bm.out 4 _ rfl
      have m5 := blk_cell bm.out 5 _ rfl
      have m6 := blk_cell bm.out 6 _ rfl
      have hkK : ((k : Int) == (K : Int)) = false := by simp; omega
      go_upto_region 19 with fail
      obtain ⟨ba, oa, rfl⟩ := HB.out.spot (by omega)
      have hnm : n + q ≤ maxLen := by have := hk8.out; unfold maxLen; omega
      have hnb : (n + q) * 8 ≤ 140737488355328 := by have := hk8.out; omega
      have hvl : (vals ws).length = q * 1 := by rw [vals_length, HB.out.len]; omega
      have hsz := hwd.size
      obtain ⟨H4, hH4⟩ : ∃ H4, w4.heap.size = H4 := ⟨_, rfl⟩
      go_wp2_with (at_builtin; refine wpList_append_lies _ rfl _ _ 25 rfl w3.heap.size 3 ii _ 1 8 Tryz.underlying25 hii iz0 iz1 iz2 rfl (by omega) _ n _ rfl hrowd.out ⟨ba, oa, none⟩ q cm (vals ws) rfl hvl (BI.news HB.out) (vals_one ws) (by omega) hnm hnb hsz H4 hH4 ?_; intro g5 cap w5 hown5 hgr5 _ _)
      have hw5 : Below w3.heap.size w3 w5 := hwd.grown hgr5 hwd.size (fun j e => drow_ge hrowd.out e)
      have hlen5 : n + q = (image.take (8 * (k + 1))).length := by rw [← HT8.out, List.length_append, HB.out.len]; have e := HN.out; rw [← hk8.out] at e; omega
      have hval5 : vals (image.take (8 * (k + 1))) = vals (image.take n) ++ vals ws := by rw [← HT8.out]; simp [vals]
      have HI5 : Hid (PInv w3 image (k + 1) (.slice (some ⟨g5, 0, none⟩) (n + q) cap) w5) := ⟨hw5, n + q, hlen5, by rw [hval5]; exact hown5⟩
      clear hown5 hgr5 hlen5 hval5 hw5
      go_wp2_with fail
      go_roundw
      case rel => exact ⟨k + 1, by omega, by go_num, HI5⟩
      case measure => simp [intOf]; omega
    · obtain rfl : k = K := by omega
      obtain ⟨am, q, cm, hbi, h0, h1, h2, h3, h4, h5, h6⟩ := HL.out k _ (pcs_last un s.n image k _)
      obtain rfl : q = 0 := hbi.len.symm
      dsimp only at h0 h1 h2 h3 h4 h5 h6
      have hnL : n = image.length := by rw [hn, List.length_take]; have := HKl.out; omega
      have hall : image.take (8 * k) = image := List.take_of_length_le HKl.out.2
      rw [hall] at hrow
      subst hnL
      clear hn hall hbi
      replace h0 := (hbel.cell (cell_lt h0)).trans h0
      replace h1 := (hbel.cell (cell_lt h1)).trans h1
      replace h2 := (hbel.cell (cell_lt h2)).trans h2
      replace h3 := (hbel.cell (cell_lt h3)).trans h3
      replace h4 := (hbel.cell (cell_lt h4)).trans h4
      replace h5 := (hbel.cell (cell_lt h5)).trans h5
      replace h6 := (hbel.cell (cell_lt h6)).trans h6
      have bm := hide (heap_alloc_last wq (.cells #[.int .i64 2, .int .i64 un, .int .i64 s.n, .int .i64 image.length, .int .i64 tt.2.1, .slice am 0 cm, .bool false] 31))
      have hwd := below_new hbel (.cells #[.int .i64 2, .int .i64 un, .int .i64 s.n, .int .i64 image.length, .int .i64 tt.2.1, .slice am 0 cm, .bool false] 31)
      have hb9 : Below wq.heap.size wq (wq.alloc (.cells #[.int .i64 2, .int .i64 un, .int .i64 s.n, .int .i64 image.length, .int .i64 tt.2.1, .slice am 0 cm, .bool false] 31)) := below_new (Below.refl _ _) _
      obtain ⟨hia, -, -⟩ := own_ints (hrow.alloc (.cells #[.int .i64 2, .int .i64 un, .int .i64 s.n, .int .i64 image.length, .int .i64 tt.2.1, .slice am 0 cm, .bool false] 31)) rfl
      have HA := hide hia
      clear hia hrow hb9
      go_upto_region 13 with fail
      generalize wq.alloc (.cells #[.int .i64 2, .int .i64 un, .int .i64 s.n, .int .i64 image.length, .int .i64 tt.2.1, .slice am 0 cm, .bool false] 31) = w4 at *
      generalize wq.heap.size = Q at *
      clear s0 h0 h1 h2 h3 h4 h5 h6
      have s0 := blk_cell (blk_below bS.out hwd) 0 _ rfl
      have m0 := blk_cell bm.out 0 _ rfl
      have m1 := blk_cell bm.out 1 _ rfl
      have m2 := blk_cell bm.out 2 _ rfl
      have m3 := blk_cell bm.out 3 _ rfl
      have m4 := blk_cell bm.out 4 _ rfl
      have m5 := blk_cell bm.out 5 _ rfl
      have m6 := blk_cell bm.out 6 _ rfl
      have c3 := blk_cell (blk_below b1.out hwd) 3 _ rfl
      have c4 := blk_cell (blk_below b1.out hwd) 4 _ rfl
      have t1 := (hwd.cell (cell_lt HC2.out)).trans HC2.out
      have l1 := (hwd.cell (cell_lt HC1.out)).trans HC1.out
      rw [hai] at c4
      rw [hat] at c3
      have HQ := hide (fun x => equal_at A ai image.length image.length C ci image image true (w4.drewN x) (HA.out.below (below_drewN (Below.refl _ _) x)) ((HIn.out.below hwd).below (below_drewN (Below.refl _ _) x)) rfl rfl (by unfold eqL; simp) (by unfold maxLen; omega) (by unfold maxLen; omega))
      go_upto_region 16 with fail
      go_quiet ((go_at_call 25; refine Calls.quiet_of (unhide HQ _)))
      go_wp2_with fail
      go_ret
      exact ⟨rfl, below_drewN (hw.trans (hwd.mono hw.size)) _⟩

end Go.Proofs.YtgngpmgjoifepaaGreatDoor
