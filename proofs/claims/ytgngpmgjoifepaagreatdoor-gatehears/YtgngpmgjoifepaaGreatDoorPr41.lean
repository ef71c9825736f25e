/- The ref's GateDue. -/
import Derived.Test.YtgngpmgjoifepaaGreatDoorPr40
import Derived.Test.YtgngpmgjoifepaaGreatDoorPr33
import Derived.Test.YtgngpmgjoifepaaGreatDoorPr29
import Derived.Test.YtgngpmgjoifepaaGreatDoorPr24
import Derived.Deep.DeepCutAuto
namespace Go.Proofs.YtgngpmgjoifepaaGreatDoor
open Go.RowKit
attribute [local go_sem ↓] Go.wp_at_zero Go.wp_at_succ

theorem upE_0r {g : Gt} (h : gtE g = 0) (h2 : g.up = true) : upE g = 0 := by unfold upE; rw [if_neg (by simpa using h), if_pos h2]
theorem upE_7r {g : Gt} (h : gtE g = 0) (h2 : g.up = false) : upE g = 7 := by unfold upE; rw [if_neg (by simpa using h), if_neg (by rw [h2]; decide)]
/-- What the last region reads. -/
theorem rduS {W W' : World} {C S bt o : Nat} {cs : Array Value} {t : TypeId} {s : Gs} {vt : Value} {x : Int} (hC : W.heap[C]? = some (.cells cs t (0, 0))) (h3 : cs[3]? = some vt) (hS : W.heap[S]? = some (gsO s)) (hx : W.cell? ⟨bt, o, none⟩ = some (.int .i64 x)) (h : Below W.heap.size W W') :
    W'.cell? ⟨S, 0, none⟩ = some (.int .i64 s.n) ∧ W'.cell? ⟨C, 3, none⟩ = some vt ∧ W'.cell? ⟨bt, o, none⟩ = some (.int .i64 x) ∧ Below W.heap.size W W' := by
  have z := blk_below hS h
  unfold gsO at z
  exact ⟨blk_cell z 0 _ rfl, blk_cell (blk_below hC h) 3 _ h3, (h.cell (cell_lt hx)).trans hx, h⟩

set_option maxRecDepth 100000 in
set_option maxHeartbeats 12800000 in
theorem refDue_any (g : Gt) (k0 : GA) (cn cv cu : Int) (m : CA) (ts : List T3) (ims : List (List Int)) (u : Int) (w : World) (h : GIn w k0 g) (ht : BT w m.at_ m.nt ts) (hi : BL w m.ai m.ni ims) (hg : gtE g = 0) :
    Calls Tryz.prog 46 #[gtv g k0, cpv cn cv cu m, .int .i64 u] w (DuAns w (gDue g cn ts ims u)) := by
  obtain ⟨irr, hir, rz0, rz1, rz2⟩ := info_parts infoM
  obtain ⟨ii, hii, iz0, iz1, iz2⟩ := info_parts info_int
  have hw : Below w.heap.size w ((w.alloc (.cells #[.slice k0.a k0.n k0.c, .int .i64 g.fu, .bool g.up, .int .i64 g.t.r.v, .slice k0.ak k0.nk k0.ck, .int .i64 g.t.r.t, .int .i64 g.t.ver, .slice k0.av k0.nv k0.cv, .slice k0.ad k0.nd k0.cd] 68)).alloc (.cells #[.int .i64 cn, .int .i64 cv, .int .i64 cu, .slice m.at_ m.nt m.ct, .slice m.ai m.ni m.ci] 93)) := ((Below.refl _ _).alloc (Nat.le_refl _) _).alloc (by simp) _
  have b0 : Hid (((w.alloc (.cells #[.slice k0.a k0.n k0.c, .int .i64 g.fu, .bool g.up, .int .i64 g.t.r.v, .slice k0.ak k0.nk k0.ck, .int .i64 g.t.r.t, .int .i64 g.t.ver, .slice k0.av k0.nv k0.cv, .slice k0.ad k0.nd k0.cd] 68)).alloc (.cells #[.int .i64 cn, .int .i64 cv, .int .i64 cu, .slice m.at_ m.nt m.ct, .slice m.ai m.ni m.ci] 93)).heap[w.heap.size]? = some (.cells #[.slice k0.a k0.n k0.c, .int .i64 g.fu, .bool g.up, .int .i64 g.t.r.v, .slice k0.ak k0.nk k0.ck, .int .i64 g.t.r.t, .int .i64 g.t.ver, .slice k0.av k0.nv k0.cv, .slice k0.ad k0.nd k0.cd] 68 (0, 0))) := blk_alloc (heap_alloc_last _ _) _
  have b1 : Hid (((w.alloc (.cells #[.slice k0.a k0.n k0.c, .int .i64 g.fu, .bool g.up, .int .i64 g.t.r.v, .slice k0.ak k0.nk k0.ck, .int .i64 g.t.r.t, .int .i64 g.t.ver, .slice k0.av k0.nv k0.cv, .slice k0.ad k0.nd k0.cd] 68)).alloc (.cells #[.int .i64 cn, .int .i64 cv, .int .i64 cu, .slice m.at_ m.nt m.ct, .slice m.ai m.ni m.ci] 93)).heap[w.heap.size + 1]? = some (.cells #[.int .i64 cn, .int .i64 cv, .int .i64 cu, .slice m.at_ m.nt m.ct, .slice m.ai m.ni m.ci] 93 (0, 0))) := uLast1 _ _ _
  have HU := hide (fun W (hW : Below w.heap.size w W) => refState_any g k0 W (h.below hW) (gtE_ok hg).1)
  have HP := hide h
  have HTs := hide ht
  have HIs := hide hi
  have HGt := hide hg
  obtain ⟨hlw, hlk, hlv, hld⟩ := h.sizes hg
  have hnd := (gtE_ok hg).2.2.1
  clear h ht hi hg hlw hlk
  unfold gtv gsv at HU
  unfold gtv cpv
  have x0 := blk_cell b0.out 0 _ rfl
  have x1 := blk_cell b0.out 1 _ rfl
  have x2 := blk_cell b0.out 2 _ rfl
  have x3 := blk_cell b0.out 3 _ rfl
  have x4 := blk_cell b0.out 4 _ rfl
  have x5 := blk_cell b0.out 5 _ rfl
  have x6 := blk_cell b0.out 6 _ rfl
  have x7 := blk_cell b0.out 7 _ rfl
  have x8 := blk_cell b0.out 8 _ rfl
  go_enter Tryz.func46, Tryz.ntmps46
  go_wp2_with fail
  generalize ((w.alloc (.cells #[.slice k0.a k0.n k0.c, .int .i64 g.fu, .bool g.up, .int .i64 g.t.r.v, .slice k0.ak k0.nk k0.ck, .int .i64 g.t.r.t, .int .i64 g.t.ver, .slice k0.av k0.nv k0.cv, .slice k0.ad k0.nd k0.cd] 68)).alloc (.cells #[.int .i64 cn, .int .i64 cv, .int .i64 cu, .slice m.at_ m.nt m.ct, .slice m.ai m.ni m.ci] 93)) = W at *
  refine (unhide HU _ hw).mono ?_
  rintro e w1 ⟨rfl, hb⟩
  replace b0 := hide (blk_below b0.out hb)
  replace b1 := hide (blk_below b1.out hb)
  replace hw := hw.trans (hb.mono hw.size)
  clear hb HU x0 x1 x2 x3 x4 x5 x6 x7 x8
  obtain ⟨s, hs⟩ : ∃ s, s = gOf g.ws := ⟨_, rfl⟩
  rw [← hs]
  have hok : GsOk s := by rw [hs]; exact gsOk_of _
  have HS := hide hs
  have HK := hide hok
  clear hs hok
  go_upto_region 2 with fail
  have bS := hide (heap_alloc_last w1 (.cells #[.int .i64 s.n, .int .i64 s.v, .bool s.co, .bool s.ab, .bool s.en] 82))
  have hb7 : Below w1.heap.size w1 (w1.alloc (.cells #[.int .i64 s.n, .int .i64 s.v, .bool s.co, .bool s.ab, .bool s.en] 82)) := below_new (Below.refl _ _) _
  replace b0 := hide (blk_below b0.out hb7)
  replace b1 := hide (blk_below b1.out hb7)
  replace hw := hw.trans (hb7.mono hw.size)
  clear hb7
  generalize (w1.alloc (.cells #[.int .i64 s.n, .int .i64 s.v, .bool s.co, .bool s.ab, .bool s.en] 82)) = W1 at *
  generalize w1.heap.size = S at *
  have x2 := blk_cell b0.out 2 _ rfl
  cases zu : g.up
  · have HE : Hid (gDue g cn ts ims u = ([], 7)) := by have q := upE_7r HGt.out zu; exact gDue_e (by rw [dueE_1 (by rw [q]; decide), q]) (by decide)
    rw [zu] at x2
    clear zu HP HTs HIs HGt HS HK
    go_wp2_with fail
    refine bodyPost_ret (v := .tuple #[.slice none 0 0, .int .i64 7]) (by simp [results, Tryz.results46, go_sem]) rfl ?_
    exact duAns_nil HE.out hw
  rw [zu] at x2
  have Z1 := hide (upE_0r HGt.out zu)
  clear zu HGt
  have s0 := blk_cell bS.out 0 _ rfl
  have s1 := blk_cell bS.out 1 _ rfl
  have s2 := blk_cell bS.out 2 _ rfl
  have s3 := blk_cell bS.out 3 _ rfl
  have s4 := blk_cell bS.out 4 _ rfl
  by_cases z2 : s.n = 0
  · have HE := hide (gDue_e (dueE_2 (cn := cn) (ts := ts) (ims := ims) (u := u) Z1.out (.inl (by rw [← HS.out]; exact z2))) (by decide))
    have d2 : (s.n == 0) = true := by simpa using z2
    clear z2 HP HTs HIs HK
    go_wp2_with fail
    refine bodyPost_ret (v := .tuple #[.slice none 0 0, .int .i64 12]) (by simp [results, Tryz.results46, go_sem]) rfl ?_
    exact duAns_nil HE.out hw
  have d2 : (s.n == 0) = false := by simpa using z2
  have Z2 := hide z2
  clear z2
  cases z3 : s.en
  rotate_left
  · have HE := hide (gDue_e (dueE_2 (cn := cn) (ts := ts) (ims := ims) (u := u) Z1.out (.inr (by rw [← HS.out]; exact z3))) (by decide))
    rw [z3] at s4
    clear z3 HP HTs HIs HK
    go_wp2_with fail
    refine bodyPost_ret (v := .tuple #[.slice none 0 0, .int .i64 12]) (by simp [results, Tryz.results46, go_sem]) rfl ?_
    exact duAns_nil HE.out hw
  rw [z3] at s4
  have Z3 := hide z3
  clear z3
  have c0 := blk_cell b1.out 0 _ rfl
  have c3 := blk_cell b1.out 3 _ rfl
  have c4 := blk_cell b1.out 4 _ rfl
  have x7 := blk_cell b0.out 7 _ rfl
  have hlen := HP.out.vo.len
  by_cases z0 : u < 0
  · have HE := hide (gDue_e (dueE_3 (cn := cn) (ts := ts) (ims := ims) (u := u) Z1.out (by rw [← HS.out]; exact Z2.out) (by rw [← HS.out]; exact Z3.out) (.inl (by unfold inB; simp; omega))) (by decide))
    clear HP HTs HIs HK
    go_wp2_with fail
    refine bodyPost_ret (v := .tuple #[.slice none 0 0, .int .i64 5]) (by simp [results, Tryz.results46, go_sem]) rfl ?_
    exact duAns_nil HE.out hw
  obtain ⟨un, hun⟩ : ∃ v : Nat, u = (v : Int) := ⟨u.toNat, by omega⟩
  subst hun
  by_cases z4 : (k0.nv : Int) ≤ un
  · have HE := hide (gDue_e (dueE_3 (cn := cn) (ts := ts) (ims := ims) (u := un) Z1.out (by rw [← HS.out]; exact Z2.out) (by rw [← HS.out]; exact Z3.out) (.inl (by unfold inB; simp; omega))) (by decide))
    clear HP HTs HIs HK
    go_wp2_with fail
    refine bodyPost_ret (v := .tuple #[.slice none 0 0, .int .i64 5]) (by simp [results, Tryz.results46, go_sem]) rfl ?_
    exact duAns_nil HE.out hw
  have z4' : (un : Int) < (k0.nv : Int) := by omega
  by_cases z5 : cn = s.n
  rotate_left
  · have HE := hide (gDue_e (dueE_3 (cn := cn) (ts := ts) (ims := ims) (u := un) Z1.out (by rw [← HS.out]; exact Z2.out) (by rw [← HS.out]; exact Z3.out) (.inr (.inl (by rw [← HS.out]; exact z5)))) (by decide))
    have d5 : (cn != s.n) = true := by simpa using z5
    clear z5 HP HTs HIs HK
    go_wp2_with fail
    refine bodyPost_ret (v := .tuple #[.slice none 0 0, .int .i64 5]) (by simp [results, Tryz.results46, go_sem]) rfl ?_
    exact duAns_nil HE.out hw
  have d5 : (cn != s.n) = false := by simpa using z5
  have Z5 := hide z5
  clear z5
  by_cases z6 : (m.ni : Int) ≤ un
  · have HE := hide (gDue_e (dueE_3 (cn := cn) (ts := ts) (ims := ims) (u := un) Z1.out (by rw [← HS.out]; exact Z2.out) (by rw [← HS.out]; exact Z3.out) (.inr (.inr (.inl (by rw [HIs.out.len]; exact z6))))) (by decide))
    clear HP HTs HIs HK
    go_wp2_with fail
    refine bodyPost_ret (v := .tuple #[.slice none 0 0, .int .i64 5]) (by simp [results, Tryz.results46, go_sem]) rfl ?_
    exact duAns_nil HE.out hw
  have z6' : (un : Int) < (m.ni : Int) := by omega
  by_cases z7 : (m.nt : Int) ≤ un
  · have HE := hide (gDue_e (dueE_3 (cn := cn) (ts := ts) (ims := ims) (u := un) Z1.out (by rw [← HS.out]; exact Z2.out) (by rw [← HS.out]; exact Z3.out) (.inr (.inr (.inr (by rw [HTs.out.len]; exact z7))))) (by decide))
    clear HP HTs HIs HK
    go_wp2_with fail
    refine bodyPost_ret (v := .tuple #[.slice none 0 0, .int .i64 5]) (by simp [results, Tryz.results46, go_sem]) rfl ?_
    exact duAns_nil HE.out hw
  have z7' : (un : Int) < (m.nt : Int) := by omega
  have HE0 := hide (dueE_0 (cn := cn) (ts := ts) (ims := ims) (u := un) Z1.out (by rw [← HS.out]; exact Z2.out) (by rw [← HS.out]; exact Z3.out) (by unfold inB; simp; omega) (by rw [← HS.out]; exact Z5.out) (by rw [HIs.out.len]; exact z6') (by rw [HTs.out.len]; exact z7'))
  have hui : un < ims.length := by have := HIs.out.len; omega
  have hut : un < ts.length := by have := HTs.out.len; omega
  have hul : un < g.vo.length := by omega
  clear Z1 Z2 Z3
  obtain ⟨bd, od, had, hdc⟩ := bools_at (HP.out.di.below hw) un (by omega)
  have hud : (un : Int) < (k0.nd : Int) := by have := HP.out.di.len; omega
  obtain ⟨bv, ov, hav, hvc⟩ := bools_at (HP.out.vo.below hw) un hul
  have x8 := blk_cell b0.out 8 _ rfl
  rw [had] at x8
  rw [hav] at x7
  clear had hav
  go_upto_region 8 with fail
  clear x2 s4 d2 z0 z4 z6 z7 c0 d5
  cases co : s.co
  rotate_left
  · rw [co] at s2
    have CO := co
    have DD : decG s = true := by unfold decG; rw [co]; rfl
    have ab : s.ab = false := HK.out.one co
    rw [ab] at s3
    clear co ab
    have HE := gDue_d HE0.out (by rw [← HS.out]; exact DD)
    rw [← HS.out, Int.toNat_natCast] at HE
    generalize g.di.getD un false = x at *
    cases x
    · have HE : Hid (gDue g cn ts ims un = ([⟨4, un, s.n, 0, 0, [], false⟩], 0)) := by show _ = _; rw [HE, if_neg (by decide)]; unfold verd; rw [CO]; simp
      clear HE0 HS DD CO HP HTs HIs HK
      go_wp2_with fail
      refine bodyPost_ret (v := .tuple #[.slice (some ⟨W1.heap.size, 0, none⟩) 1 1, .int .i64 0]) (by simp [results, Tryz.results46, go_sem]) rfl ?_
      rw [HE.out]
      exact ⟨⟨_, 1, 1, rfl, (isMsgs_one rfl (heap_alloc_last W1 (.cells #[.int .i64 4, .int .i64 un, .int .i64 s.n, .int .i64 0, .int .i64 0, .slice none 0 0, .bool false] 31))).msw, rfl, Nat.le_refl _, fun ad e => by cases e; exact hw.size⟩, below_new hw _⟩
    · replace HE := hide HE
      clear HE0 HS DD CO HP HTs HIs HK
      go_wp2_with fail
      refine bodyPost_ret (v := .tuple #[.slice none 0 0, .int .i64 0]) (by simp [results, Tryz.results46, go_sem]) rfl ?_
      exact duAns_nil HE.out hw
  rw [co] at s2
  cases ab : s.ab
  rotate_left
  · rw [ab] at s3
    have CO := co
    have DD : decG s = true := by unfold decG; rw [ab]; simp
    clear co ab
    have HE := gDue_d HE0.out (by rw [← HS.out]; exact DD)
    rw [← HS.out, Int.toNat_natCast] at HE
    generalize g.di.getD un false = x at *
    cases x
    · have HE : Hid (gDue g cn ts ims un = ([⟨5, un, s.n, 0, 0, [], false⟩], 0)) := by show _ = _; rw [HE, if_neg (by decide)]; unfold verd; rw [CO]; simp
      clear HE0 HS DD CO HP HTs HIs HK
      go_wp2_with fail
      refine bodyPost_ret (v := .tuple #[.slice (some ⟨W1.heap.size, 0, none⟩) 1 1, .int .i64 0]) (by simp [results, Tryz.results46, go_sem]) rfl ?_
      rw [HE.out]
      exact ⟨⟨_, 1, 1, rfl, (isMsgs_one rfl (heap_alloc_last W1 (.cells #[.int .i64 5, .int .i64 un, .int .i64 s.n, .int .i64 0, .int .i64 0, .slice none 0 0, .bool false] 31))).msw, rfl, Nat.le_refl _, fun ad e => by cases e; exact hw.size⟩, below_new hw _⟩
    · replace HE := hide HE
      clear HE0 HS DD CO HP HTs HIs HK
      go_wp2_with fail
      refine bodyPost_ret (v := .tuple #[.slice none 0 0, .int .i64 0]) (by simp [results, Tryz.results46, go_sem]) rfl ?_
      exact duAns_nil HE.out hw
  rw [ab] at s3
  have Z8 : Hid (decG (gOf g.ws) = false) := by show _ = _; rw [← HS.out]; unfold decG; rw [co, ab]; rfl
  clear co ab
  cases z9 : g.vo.getD un false
  rotate_left
  · have HE := hide (gDue_v HE0.out Z8.out z9)
    rw [z9] at hvc
    clear z9 HP HTs HIs HE0 Z8 HK
    go_wp2_with fail
    refine bodyPost_ret (v := .tuple #[.slice none 0 0, .int .i64 0]) (by simp [results, Tryz.results46, go_sem]) rfl ?_
    exact duAns_nil HE.out hw
  rw [z9] at hvc
  have Z9 := hide z9
  clear z9
  obtain ⟨bi, oi, a5, c5, hai, hcell, hin, hcap, hmx⟩ := lists_at (HIs.out.at_.below hw) un hui
  rw [hai] at c4
  clear hai
  have hgd : ims.getD un [] = ims[un] := by simp [hui]
  by_cases za : 40 < ims[un].length
  · have HE := hide (gDue_m HE0.out Z8.out Z9.out (by rw [Int.toNat_natCast, hgd]; exact za))
    have zaI : (40 : Int) < (ims[un].length : Int) := by omega
    clear HP HTs HIs HE0 Z8 Z9 za hgd hin
    generalize ims[un].length = L5 at *
    go_wp2_with fail
    refine bodyPost_ret (v := .tuple #[.slice none 0 0, .int .i64 2]) (by simp [results, Tryz.results46, go_sem]) rfl ?_
    exact duAns_nil HE.out hw
  have HE := gDue_p HE0.out Z8.out Z9.out (by rw [Int.toNat_natCast, hgd]; exact za)
  rw [Int.toNat_natCast, hgd] at HE
  obtain ⟨bt, ot, hat, htc⟩ := tgts_at (HTs.out.at_.below hw) un hut
  rw [hat] at c3 b1
  clear hat
  have htd : ts.getD un (0, 0, 0) = ts[un] := by simp [hut]
  rw [htd] at HE
  generalize ts[un] = tt at *
  generalize ims[un] = im at *
  obtain ⟨L, hL⟩ : ∃ L, L = im.length := ⟨_, rfl⟩
  rw [← hL] at hcell hcap za
  have zaI : ¬ (40 : Int) < (L : Int) := by omega
  have hL40 : L ≤ 40 := by omega
  have HEh : Hid (gDue g cn ts ims un = (delG s.n un tt.2.1 im, 0)) := by rw [← Z5.out]; exact hide HE
  have HL := hide hL
  have HIn := hide hin
  have HTc := hide htc
  clear HE hL hin hgd htd HE0 Z8 Z9 za HP HTs HIs HK HS htc
  go_upto_region 17 with fail
  clear x7 x8 c3 c4 hdc hvc hcell s0 s1 s2 s3
  go_wp2_with fail
  go_loopw [10, 113] (fun v i wr => ∃ q, ∃ k : Nat, q = v ∧ k ≤ L ∧ i = .int .i64 k ∧ DBeg W1 wr un s.n im k q) (fun _ i _ => L - (intOf i).toNat)
  case atStart => exact ⟨_, 0, rfl, Nat.zero_le _, rfl, .full rfl (Below.refl _ _) [] (World.ownsRow_nil _ _ _ _) rfl⟩
  case round =>
    obtain ⟨q, k, rfl, hk, rfl, hB⟩ := hrel
    obtain ⟨wq, rfl⟩ : ∃ wq : World, wq = wr := ⟨_, rfl⟩
    have hbel := hB.bel
    by_cases hlt : k < L
    · have hkL : k < im.length := by rw [← HL.out]; exact hlt
      have hin := HIn.out.below hbel
      obtain ⟨b5, o5, rfl, hc⟩ := ints_at hin (by omega)
      have cx := hc k hkL
      have hx : im[k]? = some (im.getD k 0) := by rw [List.getElem?_eq_getElem hkL]; simp [hkL]
      have HX := hide hx
      generalize im.getD k 0 = x at *
      have hltI : (k : Int) < (L : Int) := by omega
      have bS2 := hide (blk_below bS.out hbel)
      have s0 := blk_cell bS2.out 0 _ rfl
      clear hc hx hin
      have hk40 : k < 40 := by omega
      obtain ⟨P, hP⟩ : ∃ P, P = k / 8 := ⟨_, rfl⟩
      have hP5 : P ≤ 5 := by omega
      go_upto_if 120 with fail
      go_cut [10, 113] from 113 to 144 (fun v i wx => i = .int .i64 k ∧ ∃ q', q' = v ∧ DMid W1 wx un s.n im k k q')
      case first =>
        rcases hB with ⟨z, bel, vs, row, ms⟩ | ⟨z, h⟩
        · skip
          have hrem : (Int.tmod (k : Int) 8 == 0) = true := by rw [Int.tmod_eq_emod_of_nonneg (by omega)]; simp; omega
          have hbA : Below wq.heap.size wq (wq.alloc (.cells #[.int .i64 1, .int .i64 un, .int .i64 s.n, .int .i64 k, .int .i64 0, .slice none 0 0, .bool false] 31)) := below_new (Below.refl _ _) _
          rw [← hP] at row
          have hrowd := ownsRow_below row hbA
          have bm := heap_alloc_last wq (.cells #[.int .i64 1, .int .i64 un, .int .i64 s.n, .int .i64 k, .int .i64 0, .slice none 0 0, .bool false] 31)
          have hHs : (wq.alloc (.cells #[.int .i64 1, .int .i64 un, .int .i64 s.n, .int .i64 k, .int .i64 0, .slice none 0 0, .bool false] 31)).heap.size = wq.heap.size + 1 := by simp
          have hsd : W1.heap.size ≤ (wq.alloc (.cells #[.int .i64 1, .int .i64 un, .int .i64 s.n, .int .i64 k, .int .i64 0, .slice none 0 0, .bool false] 31)).heap.size := (bel.trans (hbA.mono bel.size)).size
          have hkm : P + 1 ≤ maxLen := by unfold maxLen; omega
          have HRow := hide row
          have HMs := hide ms
          clear row ms
          go_wp2_with (at_builtin; refine wpList_append_lies _ rfl _ _ 33 rfl W1.heap.size 31 irr _ 7 72 Tryz.underlying33 hir rz0 rz1 rz2 rfl (by omega) _ P _ rfl hrowd ⟨wq.heap.size, 0, none⟩ 1 1 [.int .i64 1, .int .i64 un, .int .i64 s.n, .int .i64 k, .int .i64 0, .slice none 0 0, .bool false] rfl rfl (World.news_of_block bm) (by simp [Value.oneCell']) (by omega) hkm (by omega) hsd (wq.heap.size + 1) hHs ?_; intro g4 cap w4 hown4 hgr4 hat4 _)
          subst hP
          have HD := hide (dmid_first z bel HRow.out HMs.out hbA hown4 hgr4 hat4 hHs)
          clear hown4 hgr4 hat4 hrowd bm hHs hsd HRow HMs hbA
          go_wp2_with fail
          go_meet
          case rel => exact ⟨rfl, _, rfl, HD.out⟩
        · skip
          have hrem : (Int.tmod (k : Int) 8 == 0) = false := by rw [Int.tmod_eq_emod_of_nonneg (by omega)]; simp; omega
          have HD := hide h
          clear h
          go_wp2_with fail
          go_meet
          case rel => exact ⟨rfl, _, rfl, HD.out⟩
      case rest =>
      obtain ⟨rfl, q', rfl, hD⟩ := hcut
      obtain ⟨wd, rfl⟩ : ∃ wd : World, wd = wc := ⟨_, rfl⟩
      obtain ⟨g5, c5', vs, vl, rfl, row, m1, m2, hv⟩ := hD.row
      have hbd := hD.bel
      clear hD cx s0 bS2 hB
      have hvl : vs.length = k / 8 * 7 := by have := MVs.len _ _ m1; rw [pcs_len] at this; exact this
      have ccell : wd.cell? ⟨g5, k / 8 * 7 + 5, none⟩ = some vl := by
        have := row.cells (g := g5) rfl (k / 8 * 7 + 5) vl (by rw [List.getElem?_append_right (by omega), hvl, Nat.add_sub_cancel_left]; rfl)
        rwa [ad_add, Nat.zero_add] at this
      obtain ⟨av, cvl, rfl, hiv, hob⟩ := row_ints hv
      clear hiv hob
      have HLW : Hid (∀ l, lsW im k k = l → l.length ≤ 40) := fun l e => by rw [← e]; unfold lsW; simp; omega
      obtain ⟨LW, hLW⟩ : ∃ LW, LW = lsW im k k := ⟨_, rfl⟩
      have hlw := HLW.out LW hLW.symm
      rw [← hLW] at hv ccell row
      have hbA : Below wd.heap.size wd (wd.alloc (.cells #[.int .i64 x] 3)) := below_new (Below.refl _ _) _
      have hrI := ownsRow_below hv hbA
      have hrM := ownsRow_below row hbA
      have bm := heap_alloc_last wd (.cells #[.int .i64 x] 3)
      have hHs : (wd.alloc (.cells #[.int .i64 x] 3)).heap.size = wd.heap.size + 1 := by simp
      have hsd : W1.heap.size ≤ (wd.alloc (.cells #[.int .i64 x] 3)).heap.size := (hbd.trans (hbA.mono hbd.size)).size
      have hlm : LW.length + 1 ≤ maxLen := by unfold maxLen; omega
      rw [← hP] at ccell
      have HRow := hide row
      have HM1 := hide m1
      have HM2 := hide m2
      have HV := hide hv
      have HRM := hide hrM
      have HLW2 := hide hLW
      have HPP := hide hP
      rw [← hP]
      clear row m1 m2 hv hrM hLW HLW hP
      go_wp2_with (at_builtin; refine wpList_append_lies _ rfl _ _ 25 rfl W1.heap.size 3 ii _ 1 8 Tryz.underlying25 hii iz0 iz1 iz2 rfl (by omega) _ LW.length _ rfl hrI ⟨wd.heap.size, 0, none⟩ 1 1 [.int .i64 x] rfl rfl (World.news_of_block bm) (by simp [Value.oneCell']) (by omega) hlm (by omega) hsd (wd.heap.size + 1) hHs ?_)
      intro g6 cap w6 hown6 hgr6 hat6 _
      have hr6 := HRM.out.kept hgr6 (.inr (by intro e; exact ints_row_ne hrI HRM.out (by decide) rfl e.symm))
      obtain ⟨_, ⟨hn0, _⟩ | ⟨g7, cap7, cur7, he7, hg7, hh7, _⟩⟩ := hr6
      · cases hn0
      cases he7
      have c6 : w6.cell? ⟨g5, P * 7 + 5, none⟩ = some (.slice av LW.length cvl) := by
        have q := HRM.out.kept hgr6 (.inr (by intro e; exact ints_row_ne hrI HRM.out (by decide) rfl e.symm))
        have := q.cells (g := g5) rfl (k / 8 * 7 + 5) (.slice av LW.length cvl) (by rw [List.getElem?_append_right (by omega), hvl, Nat.add_sub_cancel_left]; rfl)
        rwa [ad_add, Nat.zero_add, ← HPP.out] at this
      have f6 := blk_free hh7 (P * 7 + 5)
      clear hh7
      have HD2 : Hid (DBeg W1 (w6.setCell ⟨g5, P * 7 + 5, none⟩ (.slice (some ⟨g6, 0, none⟩) (LW.length + 1) cap)) un s.n im (k + 1) (.slice (some ⟨g5, 0, none⟩) (P + 1) c5')) := by
        have hLW := HLW2.out
        have hP := HPP.out
        subst hLW
        subst hP
        exact dbeg_next (by omega) (dmid_step HX.out hbd HRow.out HM1.out HM2.out HV.out hbA hown6 hgr6 hat6 hHs)
      clear hown6 hgr6 hat6 hrI HRM HRow HM1 HM2 HV bm hHs hsd ccell hbA hvl HX
      go_wp2_with fail
      go_roundw
      case rel => exact ⟨_, k + 1, rfl, by omega, by go_num, HD2.out⟩
      case measure => simp [intOf]; omega
    obtain rfl : k = L := by omega
    obtain ⟨vs, kk, row, ms, hlen2, hk6⟩ := dbeg_row (by omega) hB
    have HBA := hide (beg_all (u := un) (n := s.n) (im := im) (by rw [← HL.out]; exact hL40))
    rw [← HL.out] at HBA
    clear hB hlt
    have hIk : ¬ (k : Int) < (k : Int) := by omega
    go_upto_region 26 with fail
    refine wp_region_held_drew (S := fun W' => W'.cell? ⟨S, 0, none⟩ = some (.int .i64 s.n) ∧ W'.cell? ⟨w.heap.size + 1, 3, none⟩ = some (.slice (some ⟨bt, ot, none⟩) m.nt m.ct) ∧ W'.cell? ⟨bt, ot + un * 3 + 1, none⟩ = some (.int .i64 tt.2.1) ∧ Below W1.heap.size W1 W') (by kernel_rfl) (rduS b1.out rfl bS.out HTc.out hbel.drew) ?_
    intro hHeld
    refine wpAnyH_take (i := 0) (v := ?_) (by simp only [List.getElem?_toArray, List.getElem?_cons_zero]; rfl) (by kernel_rfl) (by kernel_rfl) (by kernel_rfl) (by exact fun _ _ _ h => h) (Or.inl ⟨by rfl, ?_⟩) (by assumption) ?_
    rotate_left
    · intro w hSw
      try dsimp only at hSw
      go_simp
      try with_reducible rfl
    try simp only [Act.put, List.setIfInBounds_toArray, List.set_cons_zero, List.set_cons_succ]
    refine wpAnyH_take (i := 1) (v := ?_) (by simp only [List.getElem?_toArray, List.getElem?_cons_zero, List.getElem?_cons_succ]; rfl) (by kernel_rfl) (by kernel_rfl) (by kernel_rfl) (by exact fun _ _ _ h => h) (Or.inl ⟨by rfl, ?_⟩) (by assumption) ?_
    rotate_left
    · intro w hSw
      try dsimp only at hSw
      go_simp
      try with_reducible rfl
    try simp only [Act.put, List.setIfInBounds_toArray, List.set_cons_zero, List.set_cons_succ]
    refine wpAnyH_take (i := 2) (v := ?_) (by simp only [List.getElem?_toArray, List.getElem?_cons_zero, List.getElem?_cons_succ]; rfl) (by kernel_rfl) (by kernel_rfl) (by kernel_rfl) (by exact fun _ _ _ h => h) (Or.inl ⟨by rfl, ?_⟩) (by assumption) ?_
    rotate_left
    · intro w hSw
      try dsimp only at hSw
      go_simp
      try with_reducible rfl
    try simp only [Act.put, List.setIfInBounds_toArray, List.set_cons_zero, List.set_cons_succ]
    refine wpAnyH_take (i := 3) (v := ?_) (by simp only [List.getElem?_toArray, List.getElem?_cons_zero, List.getElem?_cons_succ]; rfl) (by kernel_rfl) (by kernel_rfl) (by kernel_rfl) (by exact fun _ _ _ h => h) (Or.inl ⟨by rfl, ?_⟩) (by assumption) ?_
    rotate_left
    · intro w hSw
      try dsimp only at hSw
      go_simp
      try with_reducible rfl
    try simp only [Act.put, List.setIfInBounds_toArray, List.set_cons_zero, List.set_cons_succ]
    refine wpAnyH_take (i := 4) (v := ?_) (by simp only [List.getElem?_toArray, List.getElem?_cons_zero, List.getElem?_cons_succ]; rfl) (by kernel_rfl) (by kernel_rfl) (by kernel_rfl) (by exact fun _ _ _ h => h) (Or.inl ⟨by rfl, ?_⟩) (by assumption) ?_
    rotate_left
    · intro w hSw
      try dsimp only at hSw
      go_simp
      try with_reducible rfl
    try simp only [Act.put, List.setIfInBounds_toArray, List.set_cons_zero, List.set_cons_succ]
    refine wpAnyH_take (i := 5) (v := ?_) (by simp only [List.getElem?_toArray, List.getElem?_cons_zero, List.getElem?_cons_succ]; rfl) (by kernel_rfl) (by kernel_rfl) (by kernel_rfl) (by exact fun _ _ _ h => h) (Or.inl ⟨by rfl, ?_⟩) (by assumption) ?_
    rotate_left
    · intro w hSw
      try dsimp only at hSw
      go_simp
      try with_reducible rfl
    try simp only [Act.put, List.setIfInBounds_toArray, List.set_cons_zero, List.set_cons_succ]
    refine wpAnyH_take (i := 6) (v := ?_) (by simp only [List.getElem?_toArray, List.getElem?_cons_zero, List.getElem?_cons_succ]; rfl) (by kernel_rfl) (by kernel_rfl) (by kernel_rfl) (by exact fun _ _ _ h => h) (Or.inl ⟨by rfl, ?_⟩) (by assumption) ?_
    rotate_left
    · intro w hSw
      try dsimp only at hSw
      go_simp
      try with_reducible rfl
    try simp only [Act.put, List.setIfInBounds_toArray, List.set_cons_zero, List.set_cons_succ]
    refine wpAnyH_take (i := 7) (v := ?_) (by simp only [List.getElem?_toArray, List.getElem?_cons_zero, List.getElem?_cons_succ]; rfl) (by kernel_rfl) (by kernel_rfl) (by kernel_rfl) (by exact fun _ _ _ h => h) (Or.inl ⟨by rfl, ?_⟩) (by assumption) ?_
    rotate_left
    · intro w hSw
      try dsimp only at hSw
      go_simp
      try with_reducible rfl
    try simp only [Act.put, List.setIfInBounds_toArray, List.set_cons_zero, List.set_cons_succ]
    refine wpAnyH_take (i := 8) (v := ?_) (by simp only [List.getElem?_toArray, List.getElem?_cons_zero, List.getElem?_cons_succ]; rfl) (by kernel_rfl) (by kernel_rfl) (by kernel_rfl) (by exact fun _ _ _ h => h) (Or.inl ⟨by rfl, ?_⟩) (by assumption) ?_
    rotate_left
    · intro w hSw
      try dsimp only at hSw
      go_simp
      try with_reducible rfl
    try simp only [Act.put, List.setIfInBounds_toArray, List.set_cons_zero, List.set_cons_succ]
    refine wpAnyH_take (i := 9) (v := ?_) (by simp only [List.getElem?_toArray, List.getElem?_cons_zero, List.getElem?_cons_succ]; rfl) (by kernel_rfl) (by kernel_rfl) (by kernel_rfl) (by exact fun _ _ _ h => h) (Or.inl ⟨by rfl, ?_⟩) (by assumption) ?_
    rotate_left
    · intro w hSw
      try dsimp only at hSw
      go_simp
      try with_reducible rfl
    try simp only [Act.put, List.setIfInBounds_toArray, List.set_cons_zero, List.set_cons_succ]
    refine wpAnyH_take (i := 10) (v := ?_) (by simp only [List.getElem?_toArray, List.getElem?_cons_zero, List.getElem?_cons_succ]; rfl) (by kernel_rfl) (by kernel_rfl) (by kernel_rfl) (by exact fun _ _ _ h => h) (Or.inl ⟨by rfl, ?_⟩) (by assumption) ?_
    rotate_left
    · intro w hSw
      try dsimp only at hSw
      go_simp
      try with_reducible rfl
    try simp only [Act.put, List.setIfInBounds_toArray, List.set_cons_zero, List.set_cons_succ]
    refine wpAnyH_take (i := 11) (v := ?_) (by simp only [List.getElem?_toArray, List.getElem?_cons_zero, List.getElem?_cons_succ]; rfl) (by kernel_rfl) (by kernel_rfl) (by kernel_rfl) (by exact fun _ _ _ h => h) (Or.inl ⟨by rfl, ?_⟩) (by assumption) ?_
    rotate_left
    · intro w hSw
      try dsimp only at hSw
      go_simp
      try with_reducible rfl
    try simp only [Act.put, List.setIfInBounds_toArray, List.set_cons_zero, List.set_cons_succ]
    refine wpAnyH_take (i := 12) (v := ?_) (by simp only [List.getElem?_toArray, List.getElem?_cons_zero, List.getElem?_cons_succ]; rfl) (by kernel_rfl) (by kernel_rfl) (by kernel_rfl) (by exact fun _ _ _ h => h) (Or.inl ⟨by rfl, ?_⟩) (by assumption) ?_
    rotate_left
    · intro w hSw
      try dsimp only at hSw
      go_simp
      try with_reducible rfl
    try simp only [Act.put, List.setIfInBounds_toArray, List.set_cons_zero, List.set_cons_succ]
    refine wpAnyH_take (i := 13) (v := ?_) (by simp only [List.getElem?_toArray, List.getElem?_cons_zero, List.getElem?_cons_succ]; rfl) (by kernel_rfl) (by kernel_rfl) (by kernel_rfl) (by exact fun _ _ _ h => h) (Or.inl ⟨by rfl, ?_⟩) (by assumption) ?_
    rotate_left
    · intro w hSw
      try dsimp only at hSw
      go_simp
      try with_reducible rfl
    try simp only [Act.put, List.setIfInBounds_toArray, List.set_cons_zero, List.set_cons_succ]
    refine wpAnyH_ready (rs := [14]) (by kernel_rfl) (by simp) ?_
    refine AllReadyH.cons (by simp only [List.getElem?_toArray, List.getElem?_cons_zero, List.getElem?_cons_succ]; rfl) (fun K hK => ?_) AllReadyH.nil
    go_simp
    refine hK.out _ _ (rduS b1.out rfl bS.out HTc.out (below_new hbel.drew _)) (fun hHeld => ?_)
    clear hK K
    try simp only [Act.put, List.setIfInBounds_toArray, List.set_cons_zero, List.set_cons_succ]
    have hbd : Below wq.heap.size wq (wq.drew.alloc (.cells #[.int .i64 2, .int .i64 un, .int .i64 s.n, .int .i64 k, .int .i64 tt.2.1, .slice none 0 0, .bool false] 31)) := below_new (Below.refl _ _).drew _
    have hrowd := ownsRow_below row hbd
    have bm := heap_alloc_last wq.drew (.cells #[.int .i64 2, .int .i64 un, .int .i64 s.n, .int .i64 k, .int .i64 tt.2.1, .slice none 0 0, .bool false] 31)
    have hwd := below_new hbel.drew (.cells #[.int .i64 2, .int .i64 un, .int .i64 s.n, .int .i64 k, .int .i64 tt.2.1, .slice none 0 0, .bool false] 31)
    have hmd := hide (MVs.snoc (m := ⟨2, un, s.n, k, tt.2.1, [], false⟩) (am := none) (cm := 0) (.inl rfl) (Nat.zero_le _) (.inl rfl) _ _ (MVs.grow (bel_grown hbd _) (.inl rfl) _ _ ms))
    have hHs : (wq.drew.alloc (.cells #[.int .i64 2, .int .i64 un, .int .i64 s.n, .int .i64 k, .int .i64 tt.2.1, .slice none 0 0, .bool false] 31)).heap.size = wq.heap.size + 1 := by simp
    refine wpAnyH_ready (rs := [15]) (by kernel_rfl) (by simp) ?_
    refine AllReadyH.cons (by simp only [List.getElem?_toArray, List.getElem?_cons_zero, List.getElem?_cons_succ]; rfl) (fun K hK => ?_) AllReadyH.nil
    refine step_append_lies _ rfl _ _ 33 rfl W1.heap.size 31 irr _ 7 72 Tryz.underlying33 hir rz0 rz1 rz2 rfl (by omega) _ kk _ rfl hrowd ⟨wq.heap.size, 0, none⟩ 1 1 [.int .i64 2, .int .i64 un, .int .i64 s.n, .int .i64 k, .int .i64 tt.2.1, .slice none 0 0, .bool false] rfl rfl (World.news_of_block bm) (by simp [Value.oneCell']) (by omega) (by unfold maxLen; omega) (by omega) hwd.size (wq.heap.size + 1) hHs ?_
    intro g4 cap w4 hown4 hgr4 hat4 _
    have hw4 : Below W1.heap.size W1 w4 := hwd.grown hgr4 hwd.size (fun j e => drow_ge hrowd e)
    have hmv4 := MVs.grow (o' := some g4) hgr4 (by rcases hat4 with h | h; exact .inl h.symm; exact .inr ⟨_, by rw [h], by simp⟩) _ _ hmd.out
    have hge : W1.heap.size ≤ g4 := by
      rcases hat4 with h | h
      · exact drow_ge hrowd h
      · have := hbel.size; omega
    have HM := hide (row_msgs hown4 hmv4)
    have hcap4 : kk + 1 ≤ cap := by
      obtain ⟨_, ⟨hv, _⟩ | ⟨g', cap', cur, hv, _, _, hc, _⟩⟩ := hown4
      · cases hv
      · cases hv; exact hc
    clear hown4 hgr4 hat4 hmv4 hmd hrowd hHs hbd bm row ms
    refine hK.out _ _ (rduS b1.out rfl bS.out HTc.out hw4) (fun hHeld => ?_)
    clear hK K
    try simp only [Act.put, List.setIfInBounds_toArray, List.set_cons_zero, List.set_cons_succ]
    refine wpAnyH_take (i := 16) (v := ?_) (by simp only [List.getElem?_toArray, List.getElem?_cons_zero, List.getElem?_cons_succ]; rfl) (by kernel_rfl) (by kernel_rfl) (by kernel_rfl) (by exact fun _ _ _ h => h) (Or.inl ⟨by rfl, ?_⟩) (by assumption) ?_
    rotate_left
    · intro w hSw
      try dsimp only at hSw
      go_simp
      try with_reducible rfl
    try simp only [Act.put, List.setIfInBounds_toArray, List.set_cons_zero, List.set_cons_succ]
    refine wpAnyH_take (i := 17) (v := ?_) (by simp only [List.getElem?_toArray, List.getElem?_cons_zero, List.getElem?_cons_succ]; rfl) (by kernel_rfl) (by kernel_rfl) (by kernel_rfl) (by exact fun _ _ _ h => h) (Or.inl ⟨by rfl, ?_⟩) (by assumption) ?_
    rotate_left
    · intro w hSw
      try dsimp only at hSw
      go_simp
      try with_reducible rfl
    try simp only [Act.put, List.setIfInBounds_toArray, List.set_cons_zero, List.set_cons_succ]
    refine wpAnyH_done (by kernel_rfl) ?_ _
    go_wp2_with fail
    refine bodyPost_ret (v := .tuple #[.slice (some ⟨g4, 0, none⟩) (kk + 1) cap, .int .i64 0]) (by simp [results, Tryz.results46, go_sem]) rfl ?_
    rw [HEh.out]
    refine ⟨⟨_, _, _, rfl, ?_, ?_, hcap4, fun ad e => by cases e; exact Nat.le_trans hw.size hge⟩, hw.trans (hw4.mono hw.size)⟩
    · unfold delG; rw [← HBA.out, ← HL.out]; exact HM.out
    · unfold delG; rw [← HBA.out, List.length_append, hlen2]; rfl

end Go.Proofs.YtgngpmgjoifepaaGreatDoor
