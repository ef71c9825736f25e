/- (With the place of the keys.) The ref's Taken. -/
import Derived.Test.YtgngpmgjoifepaaGreatDoorPt38
import Derived.Test.YtgngpmgjoifepaaGreatDoorPt22
import Derived.Test.YtgngpmgjoifepaaGreatDoorPt37
namespace Go.Proofs.YtgngpmgjoifepaaGreatDoor
open Go.RowKit

set_option maxHeartbeats 400000 in
set_option maxRecDepth 100000 in
theorem tfail2_any (q : Int) (w : World) : Calls Tryz.prog 147 #[.int .i64 q] w fun e w' => e = .returned (.tuple #[.agg #[.int .i64 0, .slice none 0 0, .int .i64 0, .int .i64 0], .int .i64 q]) ∧ Below w.heap.size w w' := by
  have b0 := heap_alloc_last w (.cells #[.int .i64 0, .slice none 0 0, .int .i64 0, .int .i64 0] 65)
  have hw : Below w.heap.size w (w.alloc (.cells #[.int .i64 0, .slice none 0 0, .int .i64 0, .int .i64 0] 65)) := (Below.refl _ _).alloc (Nat.le_refl _) _
  have y0 := blk_cell b0 0 _ rfl
  have fy0 := blk_free b0 0
  have y1 := blk_cell b0 1 _ rfl
  have fy1 := blk_free b0 1
  have y2 := blk_cell b0 2 _ rfl
  have fy2 := blk_free b0 2
  have y3 := blk_cell b0 3 _ rfl
  have fy3 := blk_free b0 3
  clear b0
  go_enter Tryz.func147, Tryz.ntmps147
  go_wp2_with fail
  refine bodyPost_ret (v := .tuple #[.agg #[.int .i64 0, .slice none 0 0, .int .i64 0, .int .i64 0], .int .i64 q]) (by simp [results, Tryz.results147, go_sem, y0, y1, y2, y3]) rfl ?_
  exact ⟨rfl, hw⟩

/-- An address of what was there, or nothing is there. -/
def Old (w : World) (xs : List Int) (a : Option Addr) : Prop := xs = [] ∨ ∀ ad, a = some ad → ad.block < w.heap.size

/-- Behind so many roots. -/
theorem old_none (w : World) (xs : List Int) : Old w xs none := .inr fun ad e => by cases e
/-- Behind so many roots. -/
def KInv (v w : World) (ab : Option Addr) (nb cb : Nat) (ss : List ByteArray) (l : List S2) (t : Tr) (o : Of) (m : OA) (k : Nat) (wr : World) : Prop :=
  ∃ (tr : Tr) (a : Option Addr) (n c : Nat), Below w.heap.size w wr ∧ Hid (TB wr w.heap.size (bkO ab nb cb) (trO tr a n c) (ofO o.v o.u m) tzO) ∧ BI wr a n tr.r.ks ∧ Hid (Old v tr.r.ks a) ∧
    Hid (turnsE ss l tr (o.roots.drop k) (o.rsigs.drop k) = turnsE ss l t o.roots o.rsigs ∧ lastR tr.r (o.roots.drop k) = lastR t.r o.roots ∧ tr.ver = t.ver)

theorem keepK {w1 W : World} {B b3 o3 b4 o4 k : Nat} {ab : Option Addr} {nb cb : Nat} {tr : Tr} {a : Option Addr} {n c : Nat} {v u : Int} {m : OA} {x : Rt} {ax : Option Addr} {nx cx : Nat} {sv_ : Value} {oz : Obj} (hb : Below w1.heap.size w1 W) (h : TB w1 B (bkO ab nb cb) (trO tr a n c) (ofO v u m) oz)
    (e0 : w1.cell? ⟨b3, o3 + k * 3, none⟩ = some (.int .i64 x.v)) (e1 : w1.cell? ⟨b3, o3 + k * 3 + 1, none⟩ = some (.slice ax nx cx)) (e2 : w1.cell? ⟨b3, o3 + k * 3 + 2, none⟩ = some (.int .i64 x.t)) (hs : w1.cell? ⟨b4, o4 + k, none⟩ = some sv_) (hm1 : m.a1 = some ⟨b3, o3, none⟩) (hm2 : m.a2 = some ⟨b4, o4, none⟩) :
    W.cell? ⟨B, 0, none⟩ = some (.slice ab nb cb) ∧ W.cell? ⟨B + 1, 0, none⟩ = some (.int .i64 tr.r.v) ∧ W.cell? ⟨B + 1, 1, none⟩ = some (.slice a n c) ∧ W.cell? ⟨B + 1, 2, none⟩ = some (.int .i64 tr.r.t) ∧ W.cell? ⟨B + 1, 3, none⟩ = some (.int .i64 tr.ver) ∧
    W.cell? ⟨B + 1 + 1, 0, none⟩ = some (.slice (some ⟨b3, o3, none⟩) m.n1 m.c1) ∧ W.cell? ⟨B + 1 + 1, 1, none⟩ = some (.slice (some ⟨b4, o4, none⟩) m.n2 m.c2) ∧
    W.cell? ⟨b3, o3 + k * 3, none⟩ = some (.int .i64 x.v) ∧ W.cell? ⟨b3, o3 + k * 3 + 1, none⟩ = some (.slice ax nx cx) ∧ W.cell? ⟨b3, o3 + k * 3 + 2, none⟩ = some (.int .i64 x.t) ∧ W.cell? ⟨b4, o4 + k, none⟩ = some sv_ ∧ Below w1.heap.size w1 W := by
  have h' := h.below hb
  rw [← hm1, ← hm2]
  exact ⟨blk_cell h'.b0 0 _ rfl, blk_cell h'.b1 0 _ rfl, blk_cell h'.b1 1 _ rfl, blk_cell h'.b1 2 _ rfl, blk_cell h'.b1 3 _ rfl, blk_cell h'.b2 0 _ rfl, blk_cell h'.b2 1 _ rfl, by rw [hb.cell (cell_lt e0)]; exact e0, by rw [hb.cell (cell_lt e1)]; exact e1, by rw [hb.cell (cell_lt e2)]; exact e2, by rw [hb.cell (cell_lt hs)]; exact hs, hb⟩

theorem keepJ {w1 W : World} {B : Nat} {ab : Option Addr} {nb cb : Nat} {tr : Tr} {a : Option Addr} {n c : Nat} {v u : Int} {m : OA} {oz : Obj} (hb : Below w1.heap.size w1 W) (h : TB w1 B (bkO ab nb cb) (trO tr a n c) (ofO v u m) oz) :
    W.cell? ⟨B, 0, none⟩ = some (.slice ab nb cb) ∧ W.cell? ⟨B + 1, 0, none⟩ = some (.int .i64 tr.r.v) ∧ W.cell? ⟨B + 1, 1, none⟩ = some (.slice a n c) ∧ W.cell? ⟨B + 1, 2, none⟩ = some (.int .i64 tr.r.t) ∧
    W.cell? ⟨B + 1 + 1, 2, none⟩ = some (.int .i64 v) ∧ W.cell? ⟨B + 1 + 1, 3, none⟩ = some (.int .i64 u) ∧ W.cell? ⟨B + 1 + 1, 4, none⟩ = some (.slice m.a3 m.n3 m.c3) ∧ W.cell? ⟨B + 1 + 1, 5, none⟩ = some (.slice m.a4 m.n4 m.c4) ∧ Below w1.heap.size w1 W := by
  have h' := h.below hb
  exact ⟨blk_cell h'.b0 0 _ rfl, blk_cell h'.b1 0 _ rfl, blk_cell h'.b1 1 _ rfl, blk_cell h'.b1 2 _ rfl, blk_cell h'.b2 2 _ rfl, blk_cell h'.b2 3 _ rfl, blk_cell h'.b2 4 _ rfl, blk_cell h'.b2 5 _ rfl, hb⟩

theorem inE_img {ss : List ByteArray} {w : List Int} (h : bookE ss = 0) : inE ss w = imgE w := by
  unfold inE
  split
  · rename_i h1
    rw [h, h1]
  · rfl
theorem keepP {w1 W : World} {B V : Nat} {v0 u0 u1 u2 : Value} {ty ty2 : TypeId} (hb : Below w1.heap.size w1 W) (h : w1.heap[B]? = some (.cells #[v0] ty (0, 0))) (hV : w1.heap[V]? = some (.cells #[u0, u1, u2] ty2 (0, 0))) :
    W.cell? ⟨B, 0, none⟩ = some v0 ∧ W.cell? ⟨V, 1, none⟩ = some u1 ∧ W.cell? ⟨V, 2, none⟩ = some u2 ∧ Below w1.heap.size w1 W :=
  ⟨blk_cell (blk_below h hb) 0 _ rfl, blk_cell (blk_below hV hb) 1 _ rfl, blk_cell (blk_below hV hb) 2 _ rfl, hb⟩

set_option maxHeartbeats 25600000 in
set_option maxRecDepth 100000 in
theorem refTaken_any (ab : Option Addr) (nb cb : Nat) (ss : List ByteArray) (a1 : Option Addr) (n1 c1 : Nat) (l : List S2) (t : Tr) (a2 : Option Addr) (n2 c2 : Nat) (o : Of) (m : OA) (now units : Int) (w : World)
    (h0 : BB w ab nb cb ss) (h1 : BG w a1 n1 l) (h2 : BI w a2 n2 t.r.ks) (h3 : BO w m o) (hwf : ∀ k ∈ o.sigs, WfI k) (hwr : ∀ s ∈ o.rsigs, ∀ k ∈ s, WfI k) (hT : Tab w) (v : World) (hv : Below v.heap.size v w) (h2v : BI v a2 n2 t.r.ks) (h3v : BR v m.a1 m.n1 o.roots) :
    Calls Tryz.prog 93 #[bookv ab nb cb, .slice a1 n1 c1, trv t.r.v a2 n2 c2 t.r.t t.ver, offv o.v o.u m, .int .i64 now, .int .i64 units] w fun e w' => TAns w' e (takeT (takeE ss l t o now units) t o) (takeE ss l t o now units) (fun a => Old v (takeT (takeE ss l t o now units) t o).r.ks a) ∧ Below w.heap.size w w' := by
  have hw0 : Below w.heap.size w ((((w.alloc (bkO ab nb cb)).alloc (trO t a2 n2 c2)).alloc (ofO o.v o.u m)).alloc tzO) := ((((Below.refl _ _).alloc (Nat.le_refl _) _).alloc (by simp) _).alloc (by simp; omega) _).alloc (by simp; omega) _
  have tb : Hid (TB ((((w.alloc (bkO ab nb cb)).alloc (trO t a2 n2 c2)).alloc (ofO o.v o.u m)).alloc tzO) w.heap.size (bkO ab nb cb) (trO t a2 n2 c2) (ofO o.v o.u m) tzO) :=
    ⟨blk_alloc (blk_alloc (blk_alloc (heap_alloc_last _ _) _) _) _, blk_alloc (blk_alloc (last1 _ _ _) _) _, blk_alloc (last2 _ _ _ _) _, last3 _ _ _ _ _⟩
  have HA := hide (fun W (hW : Below w.heap.size w W) => refCheckTrust_any t a2 n2 c2 W (h2.below hW))
  have HTn := hide (fun W (tr : Tr) a n c x ax nx cx ag ng cg sg (hW : Below w.heap.size w W) (hi : BI W a n tr.r.ks) (hx : BI W ax nx x.ks) (hg : BI W ag ng sg) (hwg : ∀ k ∈ sg, WfI k) => refTurned_any ab nb cb ss a1 n1 c1 l tr a n c x ax nx cx ag ng cg sg W (h0.below hW) (h1.below hW) hi hx hg hwg (hT.below hW))
  have HR := hide (fun W (hW : Below w.heap.size w W) => refCheckRelease_any o.v o.u m.a3 m.n3 m.c3 o.ts W (h3.below hW).tgts.at_ h3.tgts.len h3.tgts.max)
  have HK := hide (fun W (hW : Below w.heap.size w W) => refCheckBook_any ab nb cb ss W (h0.below hW).at_ h0.len h0.max h0.short)
  have HX := hide (fun he W (hW : Below w.heap.size w W) => refReleaseText_any o.v o.u m.a3 m.n3 m.c3 o.ts W (h3.below hW).tgts.at_ h3.tgts.len he (hT.below hW))
  have HC := hide (fun W s (hW : Below w.heap.size w W) => refNameOf_any ab nb cb ss s W (h0.below hW).at_ h0.len h0.max)
  have HD := hide (fun W (r : Rt) a n c name (hW : Below w.heap.size w W) (hr : BI W a n r.ks) => refCounted_any a1 n1 c1 l r a n c m.a4 m.n4 m.c4 o.sigs name W (h1.below hW) hr (h3.below hW).sigs hwf)
  have HP := hide (fun W a n c xs (hi : BI W a n xs) => refCheckImage_any a n c xs W hi.at_ hi.len hi.max)
  have HQ := hide (fun W a n c xs (he : imgE xs = 0) (hW : Below w.heap.size w W) (hi : BI W a n xs) => refImageText_any a n c xs W hi.at_ hi.len he (hT.below hW))
  have H2 := hide (h2.below hw0)
  have H2o : Hid (Old v t.r.ks a2) := h2v.old
  have hvs := hv.size
  have H3v := hide h3v
  have HV := hide hv
  clear hv h2v h3v
  have H3 := hide h3
  have HWR := hide hwr
  have L1 := hide h3.roots.len
  have L2 := hide h3.rsigs.len
  have L3 := hide h3.tgts.len
  have L5 := hide h3.imgs.len
  have m1 := h3.roots.max
  have m2 := h3.rsigs.max
  have m3 := h3.tgts.max
  have m5 := h3.imgs.max
  unfold maxLen at m1 m2 m3 m5
  unfold trv at HA
  unfold trv rv bookv at HTn
  unfold relv at HR HX
  unfold rv at HD
  unfold bookv at HC HK
  unfold trv bookv offv
  clear h0 h1 h2 h3 hT hwf hwr
  unfold bkO trO ofO tzO at hw0 tb H2
  go_enter Tryz.func93, Tryz.ntmps93
  have p0 := blk_cell tb.out.b1 0 _ rfl
  have p1 := blk_cell tb.out.b1 1 _ rfl
  have p2 := blk_cell tb.out.b1 2 _ rfl
  have p3 := blk_cell tb.out.b1 3 _ rfl
  go_wp2_with fail
  generalize (((w.alloc (.cells #[.slice ab nb cb] 24)).alloc (.cells #[.int .i64 t.r.v, .slice a2 n2 c2, .int .i64 t.r.t, .int .i64 t.ver] 65)).alloc (.cells #[.slice m.a1 m.n1 m.c1, .slice m.a2 m.n2 m.c2, .int .i64 o.v, .int .i64 o.u, .slice m.a3 m.n3 m.c3, .slice m.a4 m.n4 m.c4, .slice m.a5 m.n5 m.c5] 75)).alloc (.cells #[.int .i64 0, .slice none 0 0, .int .i64 0, .int .i64 0] 65) = W at *
  refine (unhide HA _ hw0).mono ?_
  rintro e w1 ⟨rfl, hb⟩
  replace tb := hide (tb.out.below hb)
  replace hw0 := hw0.trans (hb.mono hw0.size)
  replace H2 := hide (H2.out.below hb)
  clear hb HA p0 p1 p2 p3
  by_cases z1 : trE t = 0
  rotate_left
  · have HE := hide (takeE_1 (ss := ss) (l := l) (o := o) (now := now) (units := units) z1)
    have hq : (trE t != 0) = true := by simpa using z1
    have ZN := hide z1
    clear HTn HR HK HX HC HD HP HQ z1
    generalize trE t = q at *
    go_wp2_with fail
    refine (tfail2_any q _).mono ?_
    rintro e w9 ⟨rfl, hb9⟩
    have tb9 := hide (tb.out.below hb9)
    have hw9 := hw0.trans (hb9.mono hw0.size)
    clear hb9
    have y0 := blk_cell tb9.out.b3 0 _ rfl
    have fy0 := blk_free tb9.out.b3 0
    have y1 := blk_cell tb9.out.b3 1 _ rfl
    have fy1 := blk_free tb9.out.b3 1
    have y2 := blk_cell tb9.out.b3 2 _ rfl
    have fy2 := blk_free tb9.out.b3 2
    have y3 := blk_cell tb9.out.b3 3 _ rfl
    have fy3 := blk_free tb9.out.b3 3
    go_wp2_with fail
    refine bodyPost_ret (v := .tuple #[.agg #[.int .i64 0, .slice none 0 0, .int .i64 0, .int .i64 0], .int .i64 q]) (by simp [results, Tryz.results93, go_sem, y0, y1, y2, y3]) rfl ?_
    exact ⟨tAns_e HE.out ZN.out (old_none _ _), ((((hw9).setCell (by simp; omega) _).setCell (by simp; omega) _).setCell (by simp; omega) _).setCell (by simp; omega) _⟩
  have Z1 := hide z1
  rw [z1]
  clear z1
  have o0 := blk_cell tb.out.b2 0 _ rfl
  have o1 := blk_cell tb.out.b2 1 _ rfl
  have T2 := hide (takeE_2 (ss := ss) (l := l) (o := o) (now := now) (units := units) Z1.out)
  by_cases z1 : 6 < m.n1
  · have hA2 := allE_1 (ss := ss) (l := l) (t := t) (sgs := o.rsigs) (rs := o.roots) (by rw [L1.out]; exact z1)
    have HE := hide ((T2.out (by rw [hA2]; decide)).trans hA2)
    have ZN := hide (show (2 : Int) ≠ 0 by decide)
    clear HTn HR HK HX HC HD HP HQ T2 hA2
    go_wp2_with fail
    refine (tfail2_any 2 _).mono ?_
    rintro e w9 ⟨rfl, hb9⟩
    have tb9 := hide (tb.out.below hb9)
    have hw9 := hw0.trans (hb9.mono hw0.size)
    clear hb9
    have y0 := blk_cell tb9.out.b3 0 _ rfl
    have fy0 := blk_free tb9.out.b3 0
    have y1 := blk_cell tb9.out.b3 1 _ rfl
    have fy1 := blk_free tb9.out.b3 1
    have y2 := blk_cell tb9.out.b3 2 _ rfl
    have fy2 := blk_free tb9.out.b3 2
    have y3 := blk_cell tb9.out.b3 3 _ rfl
    have fy3 := blk_free tb9.out.b3 3
    go_wp2_with fail
    refine bodyPost_ret (v := .tuple #[.agg #[.int .i64 0, .slice none 0 0, .int .i64 0, .int .i64 0], .int .i64 2]) (by simp [results, Tryz.results93, go_sem, y0, y1, y2, y3]) rfl ?_
    exact ⟨tAns_e HE.out ZN.out (old_none _ _), ((((hw9).setCell (by simp; omega) _).setCell (by simp; omega) _).setCell (by simp; omega) _).setCell (by simp; omega) _⟩
  by_cases z2 : m.n2 = m.n1
  rotate_left
  · have hA2 := allE_2 (ss := ss) (l := l) (t := t) (sgs := o.rsigs) (rs := o.roots) (by rw [L1.out]; exact z1) (by rw [L1.out, L2.out]; exact z2)
    have HE := hide ((T2.out (by rw [hA2]; decide)).trans hA2)
    have d2 : ((m.n2 : Int) != (m.n1 : Int)) = true := by simp; omega
    have ZN := hide (show (2 : Int) ≠ 0 by decide)
    clear HTn HR HK HX HC HD HP HQ T2 hA2 z2
    go_wp2_with fail
    refine (tfail2_any 2 _).mono ?_
    rintro e w9 ⟨rfl, hb9⟩
    have tb9 := hide (tb.out.below hb9)
    have hw9 := hw0.trans (hb9.mono hw0.size)
    clear hb9
    have y0 := blk_cell tb9.out.b3 0 _ rfl
    have fy0 := blk_free tb9.out.b3 0
    have y1 := blk_cell tb9.out.b3 1 _ rfl
    have fy1 := blk_free tb9.out.b3 1
    have y2 := blk_cell tb9.out.b3 2 _ rfl
    have fy2 := blk_free tb9.out.b3 2
    have y3 := blk_cell tb9.out.b3 3 _ rfl
    have fy3 := blk_free tb9.out.b3 3
    go_wp2_with fail
    refine bodyPost_ret (v := .tuple #[.agg #[.int .i64 0, .slice none 0 0, .int .i64 0, .int .i64 0], .int .i64 2]) (by simp [results, Tryz.results93, go_sem, y0, y1, y2, y3]) rfl ?_
    exact ⟨tAns_e HE.out ZN.out (old_none _ _), ((((hw9).setCell (by simp; omega) _).setCell (by simp; omega) _).setCell (by simp; omega) _).setCell (by simp; omega) _⟩
  have HAll := hide (allE_3 (ss := ss) (l := l) (t := t) (sgs := o.rsigs) (rs := o.roots) (by rw [L1.out]; exact z1) (by rw [L1.out, L2.out]; exact z2))
  have d2 : ((m.n2 : Int) != (m.n1 : Int)) = false := by simp; omega
  have Z2 := hide z2
  clear z2
  go_wp2_with fail
  clear o0 o1
  go_loopw [55] (fun i wr => ∃ k : Nat, k ≤ m.n1 ∧ i = .int .i64 k ∧ KInv v w ab nb cb ss l t o m k wr) (fun i _ => m.n1 - (intOf i).toNat)
  case atStart => exact ⟨0, Nat.zero_le _, rfl, t, a2, n2, c2, hw0, tb, H2.out, H2o, ⟨rfl, rfl, rfl⟩⟩
  case round =>
    clear tb hw0 H2 d2
    obtain ⟨wq, rfl⟩ : ∃ wq : World, wq = wr := ⟨_, rfl⟩
    obtain ⟨k, hk, rfl, tr, a, n, c, hw0, tb, hi, hold, hts⟩ := hrel
    by_cases hlt : k < m.n1
    · have hk3 : k < o.roots.length := by rw [L1.out]; exact hlt
      have hk4 : k < o.rsigs.length := by rw [L2.out, Z2.out]; exact hlt
      have hlt4 : k < m.n2 := by rw [Z2.out]; exact hlt
      have HWk := hide (HWR.out o.rsigs[k] (List.getElem_mem hk4))
      have i3 := H3v.out.at_
      have i4 := H3.out.rsigs.at_
      rcases i3 with e | ⟨b3, o3, e3, hc3⟩
      · rw [e] at hk3; simp at hk3
      rcases i4 with e | ⟨b4, o4, e4, hc4⟩
      · rw [e] at hk4; simp at hk4
      obtain ⟨ax, cx, e0, e1, e2, hix, hlx, hcx⟩ := hc3 k o.roots[k] (List.getElem?_eq_getElem hk3)
      obtain ⟨ag, cg, g0, hig, hlg, hcg⟩ := hc4 k o.rsigs[k] (List.getElem?_eq_getElem hk4)
      have bix0 : BI v ax o.roots[k].ks.length o.roots[k].ks := ⟨hix, rfl, by omega⟩
      have hxo := hide bix0.old
      have bix := (bix0.below HV.out).below hw0
      rw [← HV.out.cell (cell_lt e0)] at e0
      rw [← HV.out.cell (cell_lt e1)] at e1
      rw [← HV.out.cell (cell_lt e2)] at e2
      have big := BI.below (⟨hig, rfl, by omega⟩ : BI w ag o.rsigs[k].length o.rsigs[k]) hw0
      have HEb := hide (turnsE_bad (ss := ss) (l := l) (t := tr) hk3 hk4)
      have HEn := hide (turnsE_next (ss := ss) (l := l) (t := tr) hk3 hk4)
      have HLn := hide (lastR_next (r := tr.r) hk3)
      rw [← hw0.cell (cell_lt e0)] at e0
      rw [← hw0.cell (cell_lt e1)] at e1
      rw [← hw0.cell (cell_lt e2)] at e2
      rw [← hw0.cell (cell_lt g0)] at g0
      clear hc3 hc4 hix hig hlx hcx hlg hcg bix0
      generalize o.roots[k] = x at *
      generalize o.rsigs[k] = sg at *
      obtain ⟨nx, hnx⟩ : ∃ nx, nx = x.ks.length := ⟨_, rfl⟩
      obtain ⟨ng, hng⟩ : ∃ ng, ng = sg.length := ⟨_, rfl⟩
      rw [← hnx] at e1 bix
      rw [← hng] at g0 big
      have lt0 := blk_lt tb.out.b3
      have E3 := hide e3
      have E4 := hide e4
      clear hnx hng e3 e4
      go_upto_region 10 with fail
      have HTk := hide (fun W' (hW : Below wq.heap.size wq W') => HTn.out W' tr a n c x ax nx cx ag ng cg sg (hw0.trans (hW.mono hw0.size)) (hi.below hW) (bix.below hW) (big.below hW) HWk.out)
      generalize turnE ss l tr x sg = R at *
      obtain ⟨T5, hT5⟩ : ∃ T, T = turnT R tr x := ⟨_, rfl⟩
      rw [← hT5] at HTk
      replace hT5 := hide hT5
      unfold TAns trv at HTk
      go_cut [17, 18] (fun v14 v15 wc => ∃ G a5 n5 c5, v14 = .pointer (some ⟨G, 0, none⟩) ∧ v15 = .int .i64 R ∧ Hid (wc.heap[G]? = some (trO T5 a5 n5 c5)) ∧ BI wc a5 n5 T5.r.ks ∧ (a5 = none ∨ a5 = ax) ∧ Below wq.heap.size wq wc)
      case first =>
        refine wp_region_held_drew (S := fun w' => w'.cell? ⟨w.heap.size, 0, none⟩ = some (.slice ab nb cb) ∧ w'.cell? ⟨w.heap.size + 1, 0, none⟩ = some (.int .i64 tr.r.v) ∧ w'.cell? ⟨w.heap.size + 1, 1, none⟩ = some (.slice a n c) ∧ w'.cell? ⟨w.heap.size + 1, 2, none⟩ = some (.int .i64 tr.r.t) ∧ w'.cell? ⟨w.heap.size + 1, 3, none⟩ = some (.int .i64 tr.ver) ∧ w'.cell? ⟨w.heap.size + 1 + 1, 0, none⟩ = some (.slice (some ⟨b3, o3, none⟩) m.n1 m.c1) ∧ w'.cell? ⟨w.heap.size + 1 + 1, 1, none⟩ = some (.slice (some ⟨b4, o4, none⟩) m.n2 m.c2) ∧ w'.cell? ⟨b3, o3 + k * 3, none⟩ = some (.int .i64 x.v) ∧ w'.cell? ⟨b3, o3 + k * 3 + 1, none⟩ = some (.slice ax nx cx) ∧ w'.cell? ⟨b3, o3 + k * 3 + 2, none⟩ = some (.int .i64 x.t) ∧ w'.cell? ⟨b4, o4 + k, none⟩ = some (.slice ag ng cg) ∧ Below wq.heap.size wq w') (by kernel_rfl) (keepK (Below.refl _ _).drew tb.out e0 e1 e2 g0 E3.out E4.out) ?_
        intro hHeld
        refine wpAnyH_take (i := 0) (v := ?_) (by simp only [List.getElem?_toArray, List.getElem?_cons_zero]; rfl) (by kernel_rfl) (by kernel_rfl) (by kernel_rfl) (by exact fun _ _ _ h => h) (Or.inl ⟨by rfl, ?_⟩) (by assumption) ?_
        rotate_left
        · intro w hSw
          try dsimp only at hSw
          go_simp
          try with_reducible rfl
        try simp only [Act.put, List.setIfInBounds_toArray, List.set_cons_zero, List.set_cons_succ]
        refine wpAnyH_take (i := 1) (v := ?_) (by simp only [List.getElem?_toArray, List.getElem?_cons_zero, List.getElem?_cons_succ]; rfl) (by kernel_rfl) (by kernel_rfl) (by kernel_rfl) (by exact fun _ _ _ h => h) (Or.inl ⟨by rfl, ?_⟩) (by assumption) ?_
        rotate_left
        · intro w hSw
          try dsimp only at hSw
          go_simp
          try with_reducible rfl
        try simp only [Act.put, List.setIfInBounds_toArray, List.set_cons_zero, List.set_cons_succ]
        refine wpAnyH_take (i := 2) (v := ?_) (by simp only [List.getElem?_toArray, List.getElem?_cons_zero, List.getElem?_cons_succ]; rfl) (by kernel_rfl) (by kernel_rfl) (by kernel_rfl) (by exact fun _ _ _ h => h) (Or.inl ⟨by rfl, ?_⟩) (by assumption) ?_
        rotate_left
        · intro w hSw
          try dsimp only at hSw
          go_simp
          try with_reducible rfl
        try simp only [Act.put, List.setIfInBounds_toArray, List.set_cons_zero, List.set_cons_succ]
        refine wpAnyH_take (i := 3) (v := ?_) (by simp only [List.getElem?_toArray, List.getElem?_cons_zero, List.getElem?_cons_succ]; rfl) (by kernel_rfl) (by kernel_rfl) (by kernel_rfl) (by exact fun _ _ _ h => h) (Or.inl ⟨by rfl, ?_⟩) (by assumption) ?_
        rotate_left
        · intro w hSw
          try dsimp only at hSw
          go_simp
          try with_reducible rfl
        try simp only [Act.put, List.setIfInBounds_toArray, List.set_cons_zero, List.set_cons_succ]
        refine wpAnyH_take (i := 4) (v := ?_) (by simp only [List.getElem?_toArray, List.getElem?_cons_zero, List.getElem?_cons_succ]; rfl) (by kernel_rfl) (by kernel_rfl) (by kernel_rfl) (by exact fun _ _ _ h => h) (Or.inl ⟨by rfl, ?_⟩) (by assumption) ?_
        rotate_left
        · intro w hSw
          try dsimp only at hSw
          go_simp
          try with_reducible rfl
        try simp only [Act.put, List.setIfInBounds_toArray, List.set_cons_zero, List.set_cons_succ]
        refine wpAnyH_take (i := 5) (v := ?_) (by simp only [List.getElem?_toArray, List.getElem?_cons_zero, List.getElem?_cons_succ]; rfl) (by kernel_rfl) (by kernel_rfl) (by kernel_rfl) (by exact fun _ _ _ h => h) (Or.inl ⟨by rfl, ?_⟩) (by assumption) ?_
        rotate_left
        · intro w hSw
          try dsimp only at hSw
          go_simp
          try with_reducible rfl
        try simp only [Act.put, List.setIfInBounds_toArray, List.set_cons_zero, List.set_cons_succ]
        refine wpAnyH_take (i := 6) (v := ?_) (by simp only [List.getElem?_toArray, List.getElem?_cons_zero, List.getElem?_cons_succ]; rfl) (by kernel_rfl) (by kernel_rfl) (by kernel_rfl) (by exact fun _ _ _ h => h) (Or.inl ⟨by rfl, ?_⟩) (by assumption) ?_
        rotate_left
        · intro w hSw
          try dsimp only at hSw
          go_simp
          try with_reducible rfl
        try simp only [Act.put, List.setIfInBounds_toArray, List.set_cons_zero, List.set_cons_succ]
        refine wpAnyH_take (i := 7) (v := ?_) (by simp only [List.getElem?_toArray, List.getElem?_cons_zero, List.getElem?_cons_succ]; rfl) (by kernel_rfl) (by kernel_rfl) (by kernel_rfl) (by exact fun _ _ _ h => h) (Or.inl ⟨by rfl, ?_⟩) (by assumption) ?_
        rotate_left
        · intro w hSw
          try dsimp only at hSw
          go_simp
          try with_reducible rfl
        try simp only [Act.put, List.setIfInBounds_toArray, List.set_cons_zero, List.set_cons_succ]
        refine wpAnyH_take (i := 8) (v := ?_) (by simp only [List.getElem?_toArray, List.getElem?_cons_zero, List.getElem?_cons_succ]; rfl) (by kernel_rfl) (by kernel_rfl) (by kernel_rfl) (by exact fun _ _ _ h => h) (Or.inl ⟨by rfl, ?_⟩) (by assumption) ?_
        rotate_left
        · intro w hSw
          try dsimp only at hSw
          go_simp
          try with_reducible rfl
        try simp only [Act.put, List.setIfInBounds_toArray, List.set_cons_zero, List.set_cons_succ]
        refine wpAnyH_take (i := 9) (v := ?_) (by simp only [List.getElem?_toArray, List.getElem?_cons_zero, List.getElem?_cons_succ]; rfl) (by kernel_rfl) (by kernel_rfl) (by kernel_rfl) (by exact fun _ _ _ h => h) (Or.inl ⟨by rfl, ?_⟩) (by assumption) ?_
        rotate_left
        · intro w hSw
          try dsimp only at hSw
          go_simp
          try with_reducible rfl
        try simp only [Act.put, List.setIfInBounds_toArray, List.set_cons_zero, List.set_cons_succ]
        refine wpAnyH_take (i := 10) (v := ?_) (by simp only [List.getElem?_toArray, List.getElem?_cons_zero, List.getElem?_cons_succ]; rfl) (by kernel_rfl) (by kernel_rfl) (by kernel_rfl) (by exact fun _ _ _ h => h) (Or.inl ⟨by rfl, ?_⟩) (by assumption) ?_
        rotate_left
        · intro w hSw
          try dsimp only at hSw
          go_simp
          try with_reducible rfl
        try simp only [Act.put, List.setIfInBounds_toArray, List.set_cons_zero, List.set_cons_succ]
        refine wpAnyH_take (i := 11) (v := ?_) (by simp only [List.getElem?_toArray, List.getElem?_cons_zero, List.getElem?_cons_succ]; rfl) (by kernel_rfl) (by kernel_rfl) (by kernel_rfl) (by exact fun _ _ _ h => h) (Or.inl ⟨by rfl, ?_⟩) (by assumption) ?_
        rotate_left
        · intro w hSw
          try dsimp only at hSw
          go_simp
          try with_reducible rfl
        try simp only [Act.put, List.setIfInBounds_toArray, List.set_cons_zero, List.set_cons_succ]
        refine wpAnyH_take (i := 12) (v := ?_) (by simp only [List.getElem?_toArray, List.getElem?_cons_zero, List.getElem?_cons_succ]; rfl) (by kernel_rfl) (by kernel_rfl) (by kernel_rfl) (by exact fun _ _ _ h => h) (Or.inl ⟨by rfl, ?_⟩) (by assumption) ?_
        rotate_left
        · intro w hSw
          try dsimp only at hSw
          go_simp
          try with_reducible rfl
        try simp only [Act.put, List.setIfInBounds_toArray, List.set_cons_zero, List.set_cons_succ]
        refine wpAnyH_ready (rs := [13, 17]) (by kernel_rfl) (by simp) ?_
        refine AllReadyH.cons (by simp only [List.getElem?_toArray, List.getElem?_cons_zero, List.getElem?_cons_succ]; rfl) (fun K hK => ?_) (AllReadyH.cons (by simp only [List.getElem?_toArray, List.getElem?_cons_zero, List.getElem?_cons_succ]; rfl) (fun K hK => ?_) AllReadyH.nil)
        · go_simp
          have hB := hHeld.2.2.2.2.2.2.2.2.2.2.2
          refine (unhide HTk _ hB).mono ?_
          rintro e w5 ⟨⟨a5, n5, c5, rfl, hi5, hf5⟩, hb⟩
          have hk5 := hB.trans (hb.mono hB.size)
          go_wp2_with fail
          refine hK.out _ _ (keepK hk5 tb.out e0 e1 e2 g0 E3.out E4.out) (fun hHeld => ?_)
          clear hK K
          try simp only [Act.put, List.setIfInBounds_toArray, List.set_cons_zero, List.set_cons_succ]
          refine wpAnyH_take (i := 14) (v := ?_) (by simp only [List.getElem?_toArray, List.getElem?_cons_zero, List.getElem?_cons_succ]; rfl) (by kernel_rfl) (by kernel_rfl) (by kernel_rfl) (by exact fun _ _ _ h => h) (Or.inl ⟨by rfl, ?_⟩) (by assumption) ?_
          rotate_left
          · intro w hSw
            try dsimp only at hSw
            go_simp
            try with_reducible rfl
          try simp only [Act.put, List.setIfInBounds_toArray, List.set_cons_zero, List.set_cons_succ]
          refine wpAnyH_take (i := 15) (v := ?_) (by simp only [List.getElem?_toArray, List.getElem?_cons_zero, List.getElem?_cons_succ]; rfl) (by kernel_rfl) (by kernel_rfl) (by kernel_rfl) (by exact fun _ _ _ h => h) (Or.inl ⟨by rfl, ?_⟩) (by assumption) ?_
          rotate_left
          · intro w hSw
            try dsimp only at hSw
            go_simp
            try with_reducible rfl
          try simp only [Act.put, List.setIfInBounds_toArray, List.set_cons_zero, List.set_cons_succ]
          refine wpAnyH_take (i := 16) (v := ?_) (by simp only [List.getElem?_toArray, List.getElem?_cons_zero, List.getElem?_cons_succ]; rfl) (by kernel_rfl) (by kernel_rfl) (by kernel_rfl) (by exact fun _ _ _ h => h) (Or.inl ⟨by rfl, ?_⟩) (by assumption) ?_
          rotate_left
          · intro w hSw
            try dsimp only at hSw
            go_simp
            try with_reducible rfl
          try simp only [Act.put, List.setIfInBounds_toArray, List.set_cons_zero, List.set_cons_succ]
          refine wpAnyH_ready (rs := [17]) (by kernel_rfl) (by simp) ?_
          refine AllReadyH.cons (by simp only [List.getElem?_toArray, List.getElem?_cons_zero, List.getElem?_cons_succ]; rfl) (fun K hK => ?_) AllReadyH.nil
          go_simp
          refine hK.out _ _ (keepK (hk5.alloc hk5.size _) tb.out e0 e1 e2 g0 E3.out E4.out) (fun hHeld => ?_)
          clear hK K
          try simp only [Act.put, List.setIfInBounds_toArray, List.set_cons_zero, List.set_cons_succ]
          refine wpAnyH_ready (rs := [18]) (by kernel_rfl) (by simp) ?_
          refine AllReadyH.cons (by simp only [List.getElem?_toArray, List.getElem?_cons_zero, List.getElem?_cons_succ]; rfl) (fun K hK => ?_) AllReadyH.nil
          go_simp
          refine hK.out _ _ (keepK (hk5.alloc hk5.size _) tb.out e0 e1 e2 g0 E3.out E4.out) (fun hHeld => ?_)
          clear hK K
          try simp only [Act.put, List.setIfInBounds_toArray, List.set_cons_zero, List.set_cons_succ]
          refine wpAnyH_take (i := 19) (v := ?_) (by simp only [List.getElem?_toArray, List.getElem?_cons_zero, List.getElem?_cons_succ]; rfl) (by kernel_rfl) (by kernel_rfl) (by kernel_rfl) (by exact fun _ _ _ h => h) (Or.inl ⟨by rfl, ?_⟩) (by assumption) ?_
          rotate_left
          · intro w hSw
            try dsimp only at hSw
            go_simp
            try with_reducible rfl
          try simp only [Act.put, List.setIfInBounds_toArray, List.set_cons_zero, List.set_cons_succ]
          refine wpAnyH_done (by kernel_rfl) ?_ _
          go_wp2_with fail
          go_meet
          case rel => exact ⟨w5.heap.size, a5, n5, c5, rfl, rfl, heap_alloc_last _ (trO T5 a5 n5 c5), hi5.below ((Below.refl _ _).alloc (Nat.le_refl _) _), hf5, hk5.alloc hk5.size _⟩
        · go_simp
          refine hK.out _ _ (keepK ((Below.refl _ _).drew.alloc (by simp) _) tb.out e0 e1 e2 g0 E3.out E4.out) (fun hHeld => ?_)
          clear hK K
          try simp only [Act.put, List.setIfInBounds_toArray, List.set_cons_zero, List.set_cons_succ]
          refine wpAnyH_ready (rs := [13]) (by kernel_rfl) (by simp) ?_
          refine AllReadyH.cons (by simp only [List.getElem?_toArray, List.getElem?_cons_zero, List.getElem?_cons_succ]; rfl) (fun K hK => ?_) AllReadyH.nil
          go_simp
          have hB := hHeld.2.2.2.2.2.2.2.2.2.2.2
          refine (unhide HTk _ hB).mono ?_
          rintro e w5 ⟨⟨a5, n5, c5, rfl, hi5, hf5⟩, hb⟩
          have bG : Hid (w5.heap[wq.heap.size]? = some tzO) := blk_below (heap_alloc_last wq.drew tzO) hb
          have hk5 := hB.trans (hb.mono hB.size)
          have hi5o : x.ks = [] ∨ ∀ ad, ax = some ad → ad.block ≠ wq.heap.size := hxo.out.imp id (fun h ad e => by have := h ad e; have := hw0.size; omega)
          unfold tzO at bG
          have y0 := blk_cell bG.out 0 _ rfl
          have y1 := blk_cell bG.out 1 _ rfl
          have y2 := blk_cell bG.out 2 _ rfl
          have y3 := blk_cell bG.out 3 _ rfl
          have f0 := blk_free bG.out 0
          have f1 := blk_free bG.out 1
          have f2 := blk_free bG.out 2
          have f3 := blk_free bG.out 3
          go_wp2_with fail
          refine hK.out _ _ (keepK hk5 tb.out e0 e1 e2 g0 E3.out E4.out) (fun hHeld => ?_)
          clear hK K
          try simp only [Act.put, List.setIfInBounds_toArray, List.set_cons_zero, List.set_cons_succ]
          refine wpAnyH_take (i := 14) (v := ?_) (by simp only [List.getElem?_toArray, List.getElem?_cons_zero, List.getElem?_cons_succ]; rfl) (by kernel_rfl) (by kernel_rfl) (by kernel_rfl) (by exact fun _ _ _ h => h) (Or.inl ⟨by rfl, ?_⟩) (by assumption) ?_
          rotate_left
          · intro w hSw
            try dsimp only at hSw
            go_simp
            try with_reducible rfl
          try simp only [Act.put, List.setIfInBounds_toArray, List.set_cons_zero, List.set_cons_succ]
          refine wpAnyH_take (i := 15) (v := ?_) (by simp only [List.getElem?_toArray, List.getElem?_cons_zero, List.getElem?_cons_succ]; rfl) (by kernel_rfl) (by kernel_rfl) (by kernel_rfl) (by exact fun _ _ _ h => h) (Or.inl ⟨by rfl, ?_⟩) (by assumption) ?_
          rotate_left
          · intro w hSw
            try dsimp only at hSw
            go_simp
            try with_reducible rfl
          try simp only [Act.put, List.setIfInBounds_toArray, List.set_cons_zero, List.set_cons_succ]
          refine wpAnyH_take (i := 16) (v := ?_) (by simp only [List.getElem?_toArray, List.getElem?_cons_zero, List.getElem?_cons_succ]; rfl) (by kernel_rfl) (by kernel_rfl) (by kernel_rfl) (by exact fun _ _ _ h => h) (Or.inl ⟨by rfl, ?_⟩) (by assumption) ?_
          rotate_left
          · intro w hSw
            try dsimp only at hSw
            go_simp
            try with_reducible rfl
          try simp only [Act.put, List.setIfInBounds_toArray, List.set_cons_zero, List.set_cons_succ]
          refine wpAnyH_ready (rs := [18]) (by kernel_rfl) (by simp) ?_
          refine AllReadyH.cons (by simp only [List.getElem?_toArray, List.getElem?_cons_zero, List.getElem?_cons_succ]; rfl) (fun K hK => ?_) AllReadyH.nil
          go_simp
          refine hK.out _ _ (keepK ((((hk5.setCell (p := ⟨wq.heap.size, 0, none⟩) (Nat.le_refl _) _).setCell (p := ⟨wq.heap.size, 1, none⟩) (Nat.le_refl _) _).setCell (p := ⟨wq.heap.size, 2, none⟩) (Nat.le_refl _) _).setCell (p := ⟨wq.heap.size, 3, none⟩) (Nat.le_refl _) _) tb.out e0 e1 e2 g0 E3.out E4.out) (fun hHeld => ?_)
          clear hK K
          try simp only [Act.put, List.setIfInBounds_toArray, List.set_cons_zero, List.set_cons_succ]
          refine wpAnyH_take (i := 19) (v := ?_) (by simp only [List.getElem?_toArray, List.getElem?_cons_zero, List.getElem?_cons_succ]; rfl) (by kernel_rfl) (by kernel_rfl) (by kernel_rfl) (by exact fun _ _ _ h => h) (Or.inl ⟨by rfl, ?_⟩) (by assumption) ?_
          rotate_left
          · intro w hSw
            try dsimp only at hSw
            go_simp
            try with_reducible rfl
          try simp only [Act.put, List.setIfInBounds_toArray, List.set_cons_zero, List.set_cons_succ]
          refine wpAnyH_done (by kernel_rfl) ?_ _
          go_wp2_with fail
          go_meet
          case rel =>
            have hfar : T5.r.ks = [] ∨ ∀ ad, a5 = some ad → ad.block ≠ wq.heap.size := by
              rcases hf5 with rfl | rfl
              · exact .inr fun ad e => by cases e
              · rcases hi5o with h | h
                · refine .inl ?_
                  rw [hT5.out]
                  unfold turnT
                  split
                  · exact h
                  · rfl
                · exact .inr h
            exact ⟨wq.heap.size, a5, n5, c5, rfl, rfl, blk_set4 bG.out, (((hi5.set2 _ 0 _ hfar).set2 _ 1 _ hfar).set2 _ 2 _ hfar).set2 _ 3 _ hfar, hf5, (((hk5.setCell (p := ⟨wq.heap.size, 0, none⟩) (Nat.le_refl _) _).setCell (p := ⟨wq.heap.size, 1, none⟩) (Nat.le_refl _) _).setCell (p := ⟨wq.heap.size, 2, none⟩) (Nat.le_refl _) _).setCell (p := ⟨wq.heap.size, 3, none⟩) (Nat.le_refl _) _⟩
      case rest =>
        obtain ⟨G, a5, n5, c5, rfl, rfl, bG, hi5, hf5, hbc⟩ := hcut
        replace tb := hide (tb.out.below hbc)
        have hwC := hw0.trans (hbc.mono hw0.size)
        unfold bkO trO ofO tzO at tb
        by_cases z5 : R = 0
        · have hT := hT5.out
          rw [z5] at hT
          have hT' : T5 = ⟨x, tr.ver⟩ := by rw [hT]; rfl
          have HEN := hide (HEn.out z5)
          subst hT'
          subst z5
          have ho5 : Hid (Old v x.ks a5) := by
            show Old _ _ _
            rcases hf5 with rfl | rfl
            · exact .inr fun ad e => by cases e
            · exact hxo.out
          unfold trO at bG
          have q0 := blk_cell bG.out 0 _ rfl
          have q1 := blk_cell bG.out 1 _ rfl
          have q2 := blk_cell bG.out 2 _ rfl
          have q3 := blk_cell bG.out 3 _ rfl
          have y0 := blk_cell tb.out.b1 0 _ rfl
          have fy0 := blk_free tb.out.b1 0
          have y1 := blk_cell tb.out.b1 1 _ rfl
          have fy1 := blk_free tb.out.b1 1
          have y2 := blk_cell tb.out.b1 2 _ rfl
          have fy2 := blk_free tb.out.b1 2
          have y3 := blk_cell tb.out.b1 3 _ rfl
          have fy3 := blk_free tb.out.b1 3
          go_wp2_with fail
          go_roundw
          case rel =>
            have hfar : x.ks = [] ∨ ∀ ad, a5 = some ad → ad.block ≠ w.heap.size + 1 := ho5.out.imp id (fun h ad e => by have := h ad e; omega)
            refine ⟨k + 1, by omega, by go_num, ⟨x, tr.ver⟩, a5, n5, c5, ?_, ⟨blk_far4 tb.out.b0 (by omega), blk_set4 tb.out.b1, blk_far4 tb.out.b2 (by omega), blk_far4 tb.out.b3 (by omega)⟩, (((hi5.set2 _ 0 _ hfar).set2 _ 1 _ hfar).set2 _ 2 _ hfar).set2 _ 3 _ hfar, ho5, ?_⟩
            · exact ((((hwC).setCell (by show w.heap.size ≤ w.heap.size + 1; omega) _).setCell (by show w.heap.size ≤ w.heap.size + 1; omega) _).setCell (by show w.heap.size ≤ w.heap.size + 1; omega) _).setCell (by show w.heap.size ≤ w.heap.size + 1; omega) _
            · exact ⟨HEN.out.symm.trans hts.out.1, HLn.out.symm.trans hts.out.2.1, hts.out.2.2⟩
          case measure => simp [intOf]; omega
        · have hA2 : allE ss l t o.roots o.rsigs = R := HAll.out.trans (hts.out.1.symm.trans (HEb.out z5))
          have HE := hide ((T2.out (by rw [hA2]; exact z5)).trans hA2)
          have ZN := hide z5
          have hq : (R != 0) = true := by simpa using z5
          clear z5 HTk HTn HEn HEb hA2 bG hi5
          go_wp2_with fail
          refine (tfail2_any R _).mono ?_
          rintro e w9 ⟨rfl, hb9⟩
          have tb9 := hide (tb.out.below hb9)
          have hw9 := hwC.trans (hb9.mono hwC.size)
          clear hb9
          have y0 := blk_cell tb9.out.b3 0 _ rfl
          have fy0 := blk_free tb9.out.b3 0
          have y1 := blk_cell tb9.out.b3 1 _ rfl
          have fy1 := blk_free tb9.out.b3 1
          have y2 := blk_cell tb9.out.b3 2 _ rfl
          have fy2 := blk_free tb9.out.b3 2
          have y3 := blk_cell tb9.out.b3 3 _ rfl
          have fy3 := blk_free tb9.out.b3 3
          go_wp2_with fail
          refine bodyPost_ret (v := .tuple #[.agg #[.int .i64 0, .slice none 0 0, .int .i64 0, .int .i64 0], .int .i64 R]) (by simp [results, Tryz.results93, go_sem, y0, y1, y2, y3]) rfl ?_
          exact ⟨tAns_e HE.out ZN.out (old_none _ _), ((((hw9).setCell (by simp; omega) _).setCell (by simp; omega) _).setCell (by simp; omega) _).setCell (by simp; omega) _⟩
    · have hkn : o.roots.length ≤ k := by rw [L1.out]; omega
      have hA2 : allE ss l t o.roots o.rsigs = 0 := by
        rw [HAll.out, ← hts.out.1, List.drop_eq_nil_of_le hkn]
        simp [turnsE]
      have hLR : tr.r = lastR t.r o.roots := by
        rw [← hts.out.2.1, List.drop_eq_nil_of_le hkn]
        rfl
      have hver := hide hts.out.2.2
      have TE3 := hide (takeE_3 (now := now) (units := units) Z1.out hA2)
      have TE4 := hide (takeE_4 (now := now) (units := units) Z1.out hA2)
      have LR := hide hLR
      rw [← hLR] at TE3 TE4
      clear hA2 hLR hts T2 HAll HTn
      unfold bkO trO ofO tzO at tb
      have o2 := blk_cell tb.out.b2 2 _ rfl
      have o3 := blk_cell tb.out.b2 3 _ rfl
      have o4 := blk_cell tb.out.b2 4 _ rfl
      go_wp2_with fail
      refine (unhide HR _ hw0).mono ?_
      rintro e w2 ⟨rfl, hb⟩
      replace tb := hide (tb.out.below hb)
      replace hw0 := hw0.trans (hb.mono hw0.size)
      replace hi := hi.below hb
      clear hb HR o2 o3 o4
      by_cases z1 : relE o.v o.u o.ts = 0
      rotate_left
      · have hC := crE_1 (ss := ss) (l := l) (r := tr.r) (sigs := o.sigs) z1
        have HE := hide ((TE3.out (by rw [hC]; exact z1)).trans hC)
        have hq : (relE o.v o.u o.ts != 0) = true := by simpa using z1
        have ZN := hide z1
        clear HK HX HC HD HP HQ z1 hC TE3 TE4
        generalize relE o.v o.u o.ts = q at *
        go_wp2_with fail
        refine (tfail2_any q _).mono ?_
        rintro e w9 ⟨rfl, hb9⟩
        have tb9 := hide (tb.out.below hb9)
        have hw9 := hw0.trans (hb9.mono hw0.size)
        clear hb9
        have y0 := blk_cell tb9.out.b3 0 _ rfl
        have fy0 := blk_free tb9.out.b3 0
        have y1 := blk_cell tb9.out.b3 1 _ rfl
        have fy1 := blk_free tb9.out.b3 1
        have y2 := blk_cell tb9.out.b3 2 _ rfl
        have fy2 := blk_free tb9.out.b3 2
        have y3 := blk_cell tb9.out.b3 3 _ rfl
        have fy3 := blk_free tb9.out.b3 3
        go_wp2_with fail
        refine bodyPost_ret (v := .tuple #[.agg #[.int .i64 0, .slice none 0 0, .int .i64 0, .int .i64 0], .int .i64 q]) (by simp [results, Tryz.results93, go_sem, y0, y1, y2, y3]) rfl ?_
        exact ⟨tAns_e HE.out ZN.out (old_none _ _), ((((hw9).setCell (by simp; omega) _).setCell (by simp; omega) _).setCell (by simp; omega) _).setCell (by simp; omega) _⟩
      replace HX := hide (HX.out z1)
      have C2 := hide (crE_2 (ss := ss) (l := l) (r := tr.r) (sigs := o.sigs) z1)
      have C3 := hide (crE_3 (ss := ss) (l := l) (r := tr.r) (sigs := o.sigs) z1)
      rw [z1]
      clear z1
      have y0 := blk_cell tb.out.b0 0 _ rfl
      go_wp2_with fail
      refine (unhide HK _ hw0).mono ?_
      rintro e w3 ⟨rfl, hb⟩
      replace tb := hide (tb.out.below hb)
      replace hw0 := hw0.trans (hb.mono hw0.size)
      replace hi := hi.below hb
      clear hb HK y0
      by_cases z2 : bookE ss = 0
      rotate_left
      · have hC := C2.out z2
        have HE := hide ((TE3.out (by rw [hC]; exact z2)).trans hC)
        have hq : (bookE ss != 0) = true := by simpa using z2
        have ZN := hide z2
        clear HX HC HD HP HQ z2 hC C2 C3 TE3 TE4
        generalize bookE ss = q at *
        go_wp2_with fail
        refine (tfail2_any q _).mono ?_
        rintro e w9 ⟨rfl, hb9⟩
        have tb9 := hide (tb.out.below hb9)
        have hw9 := hw0.trans (hb9.mono hw0.size)
        clear hb9
        have y0 := blk_cell tb9.out.b3 0 _ rfl
        have fy0 := blk_free tb9.out.b3 0
        have y1 := blk_cell tb9.out.b3 1 _ rfl
        have fy1 := blk_free tb9.out.b3 1
        have y2 := blk_cell tb9.out.b3 2 _ rfl
        have fy2 := blk_free tb9.out.b3 2
        have y3 := blk_cell tb9.out.b3 3 _ rfl
        have fy3 := blk_free tb9.out.b3 3
        go_wp2_with fail
        refine bodyPost_ret (v := .tuple #[.agg #[.int .i64 0, .slice none 0 0, .int .i64 0, .int .i64 0], .int .i64 q]) (by simp [results, Tryz.results93, go_sem, y0, y1, y2, y3]) rfl ?_
        exact ⟨tAns_e HE.out ZN.out (old_none _ _), ((((hw9).setCell (by simp; omega) _).setCell (by simp; omega) _).setCell (by simp; omega) _).setCell (by simp; omega) _⟩
      have hC := C3.out z2
      have B0 := hide z2
      rw [hC] at TE3 TE4
      rw [z2]
      clear z2 hC C2 C3
      go_upto_region 21 with fail
      obtain ⟨sx, hsx⟩ : ∃ sx, sx = bs (relT o.v o.u o.ts) := ⟨_, rfl⟩
      rw [← hsx] at TE3 TE4 HX
      clear hsx
      have HXk := hide (fun W' (hW : Below w3.heap.size w3 W') => HX.out W' (hw0.trans (hW.mono hw0.size)))
      have HCk := hide (fun W' (hW : Below w3.heap.size w3 W') => HC.out W' sx (hw0.trans (hW.mono hw0.size)))
      obtain ⟨nm, hnm⟩ : ∃ nm : Int, nm = (nameN ss sx : Int) := ⟨_, rfl⟩
      rw [← hnm] at TE3 TE4 HCk
      clear hnm
      have HDk := hide (fun W' (hW : Below w3.heap.size w3 W') => HD.out W' tr.r a n c nm (hw0.trans (hW.mono hw0.size)) (hi.below hW))
      refine wp_region_held_drew (S := fun w' => w'.cell? ⟨w.heap.size, 0, none⟩ = some (.slice ab nb cb) ∧ w'.cell? ⟨w.heap.size + 1, 0, none⟩ = some (.int .i64 tr.r.v) ∧ w'.cell? ⟨w.heap.size + 1, 1, none⟩ = some (.slice a n c) ∧ w'.cell? ⟨w.heap.size + 1, 2, none⟩ = some (.int .i64 tr.r.t) ∧ w'.cell? ⟨w.heap.size + 1 + 1, 2, none⟩ = some (.int .i64 o.v) ∧ w'.cell? ⟨w.heap.size + 1 + 1, 3, none⟩ = some (.int .i64 o.u) ∧ w'.cell? ⟨w.heap.size + 1 + 1, 4, none⟩ = some (.slice m.a3 m.n3 m.c3) ∧ w'.cell? ⟨w.heap.size + 1 + 1, 5, none⟩ = some (.slice m.a4 m.n4 m.c4) ∧ Below w3.heap.size w3 w') (by kernel_rfl) (keepJ (Below.refl _ _).drew tb.out) ?_
      intro hHeld
      refine wpAnyH_take (i := 0) (v := ?_) (by simp only [List.getElem?_toArray, List.getElem?_cons_zero]; rfl) (by kernel_rfl) (by kernel_rfl) (by kernel_rfl) (by exact fun _ _ _ h => h) (Or.inl ⟨by rfl, ?_⟩) (by assumption) ?_
      rotate_left
      · intro w hSw
        try dsimp only at hSw
        go_simp
        try with_reducible rfl
      try simp only [Act.put, List.setIfInBounds_toArray, List.set_cons_zero, List.set_cons_succ]
      refine wpAnyH_take (i := 1) (v := ?_) (by simp only [List.getElem?_toArray, List.getElem?_cons_zero, List.getElem?_cons_succ]; rfl) (by kernel_rfl) (by kernel_rfl) (by kernel_rfl) (by exact fun _ _ _ h => h) (Or.inl ⟨by rfl, ?_⟩) (by assumption) ?_
      rotate_left
      · intro w hSw
        try dsimp only at hSw
        go_simp
        try with_reducible rfl
      try simp only [Act.put, List.setIfInBounds_toArray, List.set_cons_zero, List.set_cons_succ]
      refine wpAnyH_take (i := 2) (v := ?_) (by simp only [List.getElem?_toArray, List.getElem?_cons_zero, List.getElem?_cons_succ]; rfl) (by kernel_rfl) (by kernel_rfl) (by kernel_rfl) (by exact fun _ _ _ h => h) (Or.inl ⟨by rfl, ?_⟩) (by assumption) ?_
      rotate_left
      · intro w hSw
        try dsimp only at hSw
        go_simp
        try with_reducible rfl
      try simp only [Act.put, List.setIfInBounds_toArray, List.set_cons_zero, List.set_cons_succ]
      refine wpAnyH_take (i := 3) (v := ?_) (by simp only [List.getElem?_toArray, List.getElem?_cons_zero, List.getElem?_cons_succ]; rfl) (by kernel_rfl) (by kernel_rfl) (by kernel_rfl) (by exact fun _ _ _ h => h) (Or.inl ⟨by rfl, ?_⟩) (by assumption) ?_
      rotate_left
      · intro w hSw
        try dsimp only at hSw
        go_simp
        try with_reducible rfl
      try simp only [Act.put, List.setIfInBounds_toArray, List.set_cons_zero, List.set_cons_succ]
      refine wpAnyH_take (i := 4) (v := ?_) (by simp only [List.getElem?_toArray, List.getElem?_cons_zero, List.getElem?_cons_succ]; rfl) (by kernel_rfl) (by kernel_rfl) (by kernel_rfl) (by exact fun _ _ _ h => h) (Or.inl ⟨by rfl, ?_⟩) (by assumption) ?_
      rotate_left
      · intro w hSw
        try dsimp only at hSw
        go_simp
        try with_reducible rfl
      try simp only [Act.put, List.setIfInBounds_toArray, List.set_cons_zero, List.set_cons_succ]
      refine wpAnyH_take (i := 5) (v := ?_) (by simp only [List.getElem?_toArray, List.getElem?_cons_zero, List.getElem?_cons_succ]; rfl) (by kernel_rfl) (by kernel_rfl) (by kernel_rfl) (by exact fun _ _ _ h => h) (Or.inl ⟨by rfl, ?_⟩) (by assumption) ?_
      rotate_left
      · intro w hSw
        try dsimp only at hSw
        go_simp
        try with_reducible rfl
      try simp only [Act.put, List.setIfInBounds_toArray, List.set_cons_zero, List.set_cons_succ]
      refine wpAnyH_take (i := 6) (v := ?_) (by simp only [List.getElem?_toArray, List.getElem?_cons_zero, List.getElem?_cons_succ]; rfl) (by kernel_rfl) (by kernel_rfl) (by kernel_rfl) (by exact fun _ _ _ h => h) (Or.inl ⟨by rfl, ?_⟩) (by assumption) ?_
      rotate_left
      · intro w hSw
        try dsimp only at hSw
        go_simp
        try with_reducible rfl
      try simp only [Act.put, List.setIfInBounds_toArray, List.set_cons_zero, List.set_cons_succ]
      refine wpAnyH_take (i := 7) (v := ?_) (by simp only [List.getElem?_toArray, List.getElem?_cons_zero, List.getElem?_cons_succ]; rfl) (by kernel_rfl) (by kernel_rfl) (by kernel_rfl) (by exact fun _ _ _ h => h) (Or.inl ⟨by rfl, ?_⟩) (by assumption) ?_
      rotate_left
      · intro w hSw
        try dsimp only at hSw
        go_simp
        try with_reducible rfl
      try simp only [Act.put, List.setIfInBounds_toArray, List.set_cons_zero, List.set_cons_succ]
      refine wpAnyH_ready (rs := [8]) (by kernel_rfl) (by simp) ?_
      refine AllReadyH.cons (by simp only [List.getElem?_toArray, List.getElem?_cons_zero, List.getElem?_cons_succ]; rfl) (fun K hK => ?_) AllReadyH.nil
      go_simp
      have hB2 := hHeld.2.2.2.2.2.2.2.2
      refine (unhide HXk _ hB2).mono ?_
      rintro e w5 ⟨rfl, hb⟩
      have hk5 := hB2.trans (hb.mono hB2.size)
      go_wp2_with fail
      refine hK.out _ _ (keepJ hk5 tb.out) (fun hHeld => ?_)
      clear hK K
      try simp only [Act.put, List.setIfInBounds_toArray, List.set_cons_zero, List.set_cons_succ]
      refine wpAnyH_ready (rs := [9]) (by kernel_rfl) (by simp) ?_
      refine AllReadyH.cons (by simp only [List.getElem?_toArray, List.getElem?_cons_zero, List.getElem?_cons_succ]; rfl) (fun K hK => ?_) AllReadyH.nil
      go_simp
      refine (unhide HCk _ hk5).mono ?_
      rintro e w6 ⟨rfl, hb6⟩
      have hk6 := hk5.trans (hb6.mono hk5.size)
      go_wp2_with fail
      refine hK.out _ _ (keepJ hk6 tb.out) (fun hHeld => ?_)
      clear hK K
      try simp only [Act.put, List.setIfInBounds_toArray, List.set_cons_zero, List.set_cons_succ]
      refine wpAnyH_ready (rs := [10]) (by kernel_rfl) (by simp) ?_
      refine AllReadyH.cons (by simp only [List.getElem?_toArray, List.getElem?_cons_zero, List.getElem?_cons_succ]; rfl) (fun K hK => ?_) AllReadyH.nil
      go_simp
      refine (unhide HDk _ hk6).mono ?_
      rintro e w7 ⟨rfl, hb7⟩
      have hk7 := hk6.trans (hb7.mono hk6.size)
      go_wp2_with fail
      refine hK.out _ _ (keepJ hk7 tb.out) (fun hHeld => ?_)
      clear hK K
      try simp only [Act.put, List.setIfInBounds_toArray, List.set_cons_zero, List.set_cons_succ]
      refine wpAnyH_take (i := 11) (v := ?_) (by simp only [List.getElem?_toArray, List.getElem?_cons_zero, List.getElem?_cons_succ]; rfl) (by kernel_rfl) (by kernel_rfl) (by kernel_rfl) (by exact fun _ _ _ h => h) (Or.inl ⟨by rfl, ?_⟩) (by assumption) ?_
      rotate_left
      · intro w hSw
        try dsimp only at hSw
        go_simp
        try with_reducible rfl
      try simp only [Act.put, List.setIfInBounds_toArray, List.set_cons_zero, List.set_cons_succ]
      refine wpAnyH_take (i := 12) (v := ?_) (by simp only [List.getElem?_toArray, List.getElem?_cons_zero, List.getElem?_cons_succ]; rfl) (by kernel_rfl) (by kernel_rfl) (by kernel_rfl) (by exact fun _ _ _ h => h) (Or.inl ⟨by rfl, ?_⟩) (by assumption) ?_
      rotate_left
      · intro w hSw
        try dsimp only at hSw
        go_simp
        try with_reducible rfl
      try simp only [Act.put, List.setIfInBounds_toArray, List.set_cons_zero, List.set_cons_succ]
      refine wpAnyH_take (i := 13) (v := ?_) (by simp only [List.getElem?_toArray, List.getElem?_cons_zero, List.getElem?_cons_succ]; rfl) (by kernel_rfl) (by kernel_rfl) (by kernel_rfl) (by exact fun _ _ _ h => h) (Or.inl ⟨by rfl, ?_⟩) (by assumption) ?_
      rotate_left
      · intro w hSw
        try dsimp only at hSw
        go_simp
        try with_reducible rfl
      try simp only [Act.put, List.setIfInBounds_toArray, List.set_cons_zero, List.set_cons_succ]
      refine wpAnyH_take (i := 14) (v := ?_) (by simp only [List.getElem?_toArray, List.getElem?_cons_zero, List.getElem?_cons_succ]; rfl) (by kernel_rfl) (by kernel_rfl) (by kernel_rfl) (by exact fun _ _ _ h => h) (Or.inl ⟨by rfl, ?_⟩) (by assumption) ?_
      rotate_left
      · intro w hSw
        try dsimp only at hSw
        go_simp
        try with_reducible rfl
      try simp only [Act.put, List.setIfInBounds_toArray, List.set_cons_zero, List.set_cons_succ]
      refine wpAnyH_take (i := 15) (v := ?_) (by simp only [List.getElem?_toArray, List.getElem?_cons_zero, List.getElem?_cons_succ]; rfl) (by kernel_rfl) (by kernel_rfl) (by kernel_rfl) (by exact fun _ _ _ h => h) (Or.inl ⟨by rfl, ?_⟩) (by assumption) ?_
      rotate_left
      · intro w hSw
        try dsimp only at hSw
        go_simp
        try with_reducible rfl
      try simp only [Act.put, List.setIfInBounds_toArray, List.set_cons_zero, List.set_cons_succ]
      refine wpAnyH_done (by kernel_rfl) ?_ _
      replace tb := hide (tb.out.below hk7)
      replace hw0 := hw0.trans (hk7.mono hw0.size)
      replace hi := hi.below hk7
      clear hk7 hk6 hk5 hB2 hb hb6 hb7 HXk HCk HX HDk HD hHeld
      by_cases z3 : cntE l tr.r o.sigs = 0
      rotate_left
      · have hC := csE_1 (name := nm) z3
        have HE := hide ((TE3.out (by rw [hC]; exact z3)).trans hC)
        have hq : (cntE l tr.r o.sigs != 0) = true := by simpa using z3
        have ZN := hide z3
        clear HC HP HQ z3 hC TE3 TE4
        generalize cntV l tr.r o.sigs nm = q7 at *
        generalize cntE l tr.r o.sigs = q at *
        go_wp2_with fail
        refine (tfail2_any q _).mono ?_
        rintro e w9 ⟨rfl, hb9⟩
        have tb9 := hide (tb.out.below hb9)
        have hw9 := hw0.trans (hb9.mono hw0.size)
        clear hb9
        have y0 := blk_cell tb9.out.b3 0 _ rfl
        have fy0 := blk_free tb9.out.b3 0
        have y1 := blk_cell tb9.out.b3 1 _ rfl
        have fy1 := blk_free tb9.out.b3 1
        have y2 := blk_cell tb9.out.b3 2 _ rfl
        have fy2 := blk_free tb9.out.b3 2
        have y3 := blk_cell tb9.out.b3 3 _ rfl
        have fy3 := blk_free tb9.out.b3 3
        go_wp2_with fail
        refine bodyPost_ret (v := .tuple #[.agg #[.int .i64 0, .slice none 0 0, .int .i64 0, .int .i64 0], .int .i64 q]) (by simp [results, Tryz.results93, go_sem, y0, y1, y2, y3]) rfl ?_
        exact ⟨tAns_e HE.out ZN.out (old_none _ _), ((((hw9).setCell (by simp; omega) _).setCell (by simp; omega) _).setCell (by simp; omega) _).setCell (by simp; omega) _⟩
      have C2 := hide (csE_2 (name := nm) z3)
      have C0 := hide (csE_0 (name := nm) z3)
      rw [cntV_0 z3, z3]
      clear z3
      generalize (cntN l tr.r.ks o.sigs nm : Int) = cn at *
      have p2 := blk_cell tb.out.b1 2 _ rfl
      by_cases z4 : cn < tr.r.t
      · have HE := hide ((TE3.out (by rw [C2.out z4]; decide)).trans (C2.out z4))
        have ZN := hide (show (9 : Int) ≠ 0 by decide)
        clear HC HP HQ TE3 TE4 C2 C0
        go_wp2_with fail
        refine (tfail2_any 9 _).mono ?_
        rintro e w9 ⟨rfl, hb9⟩
        have tb9 := hide (tb.out.below hb9)
        have hw9 := hw0.trans (hb9.mono hw0.size)
        clear hb9
        have y0 := blk_cell tb9.out.b3 0 _ rfl
        have fy0 := blk_free tb9.out.b3 0
        have y1 := blk_cell tb9.out.b3 1 _ rfl
        have fy1 := blk_free tb9.out.b3 1
        have y2 := blk_cell tb9.out.b3 2 _ rfl
        have fy2 := blk_free tb9.out.b3 2
        have y3 := blk_cell tb9.out.b3 3 _ rfl
        have fy3 := blk_free tb9.out.b3 3
        go_wp2_with fail
        refine bodyPost_ret (v := .tuple #[.agg #[.int .i64 0, .slice none 0 0, .int .i64 0, .int .i64 0], .int .i64 9]) (by simp [results, Tryz.results93, go_sem, y0, y1, y2, y3]) rfl ?_
        exact ⟨tAns_e HE.out ZN.out (old_none _ _), ((((hw9).setCell (by simp; omega) _).setCell (by simp; omega) _).setCell (by simp; omega) _).setCell (by simp; omega) _⟩
      replace TE4 := hide (TE4.out (C0.out z4))
      rw [← hver.out] at TE4
      clear C2 C0 TE3
      have o2 := blk_cell tb.out.b2 2 _ rfl
      have p3 := blk_cell tb.out.b1 3 _ rfl
      by_cases z5 : o.v ≤ tr.ver
      · have HE := hide (TE4.out.trans (restE_1 z5))
        have ZN := hide (show (10 : Int) ≠ 0 by decide)
        clear HC HP HQ TE4
        go_wp2_with fail
        refine (tfail2_any 10 _).mono ?_
        rintro e w9 ⟨rfl, hb9⟩
        have tb9 := hide (tb.out.below hb9)
        have hw9 := hw0.trans (hb9.mono hw0.size)
        clear hb9
        have y0 := blk_cell tb9.out.b3 0 _ rfl
        have fy0 := blk_free tb9.out.b3 0
        have y1 := blk_cell tb9.out.b3 1 _ rfl
        have fy1 := blk_free tb9.out.b3 1
        have y2 := blk_cell tb9.out.b3 2 _ rfl
        have fy2 := blk_free tb9.out.b3 2
        have y3 := blk_cell tb9.out.b3 3 _ rfl
        have fy3 := blk_free tb9.out.b3 3
        go_wp2_with fail
        refine bodyPost_ret (v := .tuple #[.agg #[.int .i64 0, .slice none 0 0, .int .i64 0, .int .i64 0], .int .i64 10]) (by simp [results, Tryz.results93, go_sem, y0, y1, y2, y3]) rfl ?_
        exact ⟨tAns_e HE.out ZN.out (old_none _ _), ((((hw9).setCell (by simp; omega) _).setCell (by simp; omega) _).setCell (by simp; omega) _).setCell (by simp; omega) _⟩
      have o3 := blk_cell tb.out.b2 3 _ rfl
      by_cases z6 : o.u < now
      · have HE := hide (TE4.out.trans (restE_2 z5 z6))
        have ZN := hide (show (11 : Int) ≠ 0 by decide)
        clear HC HP HQ TE4
        go_wp2_with fail
        refine (tfail2_any 11 _).mono ?_
        rintro e w9 ⟨rfl, hb9⟩
        have tb9 := hide (tb.out.below hb9)
        have hw9 := hw0.trans (hb9.mono hw0.size)
        clear hb9
        have y0 := blk_cell tb9.out.b3 0 _ rfl
        have fy0 := blk_free tb9.out.b3 0
        have y1 := blk_cell tb9.out.b3 1 _ rfl
        have fy1 := blk_free tb9.out.b3 1
        have y2 := blk_cell tb9.out.b3 2 _ rfl
        have fy2 := blk_free tb9.out.b3 2
        have y3 := blk_cell tb9.out.b3 3 _ rfl
        have fy3 := blk_free tb9.out.b3 3
        go_wp2_with fail
        refine bodyPost_ret (v := .tuple #[.agg #[.int .i64 0, .slice none 0 0, .int .i64 0, .int .i64 0], .int .i64 11]) (by simp [results, Tryz.results93, go_sem, y0, y1, y2, y3]) rfl ?_
        exact ⟨tAns_e HE.out ZN.out (old_none _ _), ((((hw9).setCell (by simp; omega) _).setCell (by simp; omega) _).setCell (by simp; omega) _).setCell (by simp; omega) _⟩
      have o4 := blk_cell tb.out.b2 4 _ rfl
      have o6 := blk_cell tb.out.b2 6 _ rfl
      by_cases z7 : (m.n3 : Int) = units
      rotate_left
      · have HE := hide (TE4.out.trans (restE_3 z5 z6 (by rw [L3.out]; exact z7)))
        have d7 : ((m.n3 : Int) != units) = true := by simpa using z7
        have ZN := hide (show (4 : Int) ≠ 0 by decide)
        clear HC HP HQ TE4 z7
        go_wp2_with fail
        refine (tfail2_any 4 _).mono ?_
        rintro e w9 ⟨rfl, hb9⟩
        have tb9 := hide (tb.out.below hb9)
        have hw9 := hw0.trans (hb9.mono hw0.size)
        clear hb9
        have y0 := blk_cell tb9.out.b3 0 _ rfl
        have fy0 := blk_free tb9.out.b3 0
        have y1 := blk_cell tb9.out.b3 1 _ rfl
        have fy1 := blk_free tb9.out.b3 1
        have y2 := blk_cell tb9.out.b3 2 _ rfl
        have fy2 := blk_free tb9.out.b3 2
        have y3 := blk_cell tb9.out.b3 3 _ rfl
        have fy3 := blk_free tb9.out.b3 3
        go_wp2_with fail
        refine bodyPost_ret (v := .tuple #[.agg #[.int .i64 0, .slice none 0 0, .int .i64 0, .int .i64 0], .int .i64 4]) (by simp [results, Tryz.results93, go_sem, y0, y1, y2, y3]) rfl ?_
        exact ⟨tAns_e HE.out ZN.out (old_none _ _), ((((hw9).setCell (by simp; omega) _).setCell (by simp; omega) _).setCell (by simp; omega) _).setCell (by simp; omega) _⟩
      have d7 : ((m.n3 : Int) != units) = false := by simpa using z7
      have Z7 := hide z7
      by_cases z8 : (m.n5 : Int) = units
      rotate_left
      · have HE := hide (TE4.out.trans (restE_4 z5 z6 (by rw [L3.out]; exact z7) (by rw [L5.out]; exact z8)))
        have d8 : ((m.n5 : Int) != units) = true := by simpa using z8
        have ZN := hide (show (4 : Int) ≠ 0 by decide)
        clear HC HP HQ TE4 z7 z8
        go_wp2_with fail
        refine (tfail2_any 4 _).mono ?_
        rintro e w9 ⟨rfl, hb9⟩
        have tb9 := hide (tb.out.below hb9)
        have hw9 := hw0.trans (hb9.mono hw0.size)
        clear hb9
        have y0 := blk_cell tb9.out.b3 0 _ rfl
        have fy0 := blk_free tb9.out.b3 0
        have y1 := blk_cell tb9.out.b3 1 _ rfl
        have fy1 := blk_free tb9.out.b3 1
        have y2 := blk_cell tb9.out.b3 2 _ rfl
        have fy2 := blk_free tb9.out.b3 2
        have y3 := blk_cell tb9.out.b3 3 _ rfl
        have fy3 := blk_free tb9.out.b3 3
        go_wp2_with fail
        refine bodyPost_ret (v := .tuple #[.agg #[.int .i64 0, .slice none 0 0, .int .i64 0, .int .i64 0], .int .i64 4]) (by simp [results, Tryz.results93, go_sem, y0, y1, y2, y3]) rfl ?_
        exact ⟨tAns_e HE.out ZN.out (old_none _ _), ((((hw9).setCell (by simp; omega) _).setCell (by simp; omega) _).setCell (by simp; omega) _).setCell (by simp; omega) _⟩
      have d8 : ((m.n5 : Int) != units) = false := by simpa using z8
      have HM5 := hide (fun h => TE4.out.trans (restE_5 (ss := ss) z5 z6 (by rw [L3.out]; exact z7) (by rw [L5.out]; exact z8) h))
      have HM0 := hide (fun h => TE4.out.trans (restE_0 (ss := ss) z5 z6 (by rw [L3.out]; exact z7) (by rw [L5.out]; exact z8) h))
      have n35 : m.n3 = m.n5 := by omega
      have N35 := hide n35
      clear TE4 z7 z8 n35
      go_wp2_with fail
      clear o2 o3 o4 o6 p2 p3 d7 d8
      go_loopw [173] (fun i wr => ∃ k : Nat, k ≤ m.n3 ∧ i = .int .i64 k ∧ Below w.heap.size w wr ∧ Hid (TB wr w.heap.size (bkO ab nb cb) (trO tr a n c) (ofO o.v o.u m) tzO) ∧ BI wr a n tr.r.ks ∧ Hid (meantB ss (o.ts.drop k) (o.imgs.drop k) = meantB ss o.ts o.imgs)) (fun i _ => m.n3 - (intOf i).toNat)
      case atStart => exact ⟨0, Nat.zero_le _, rfl, hw0, tb, hi, rfl⟩
      case round =>
        clear tb hw0 hi
        obtain ⟨wz, rfl⟩ : ∃ wz : World, wz = wr := ⟨_, rfl⟩
        obtain ⟨j, hj, rfl, hw0, tb, hi, hts⟩ := hrel
        by_cases hlt2 : j < m.n3
        · have hk1 : j < o.ts.length := by rw [L3.out]; exact hlt2
          have hk2 : j < o.imgs.length := by rw [L5.out, ← N35.out]; exact hlt2
          have hlt5 : j < m.n5 := by rw [← N35.out]; exact hlt2
          rcases H3.out.tgts.at_ with e | ⟨b3, o3, e3, hc3⟩
          · rw [e] at hk1; simp at hk1
          rcases H3.out.imgs.at_ with e | ⟨b4, o4, e4, hc4⟩
          · rw [e] at hk2; simp at hk2
          obtain ⟨e0, e1, e2⟩ := hc3 j o.ts[j] (List.getElem?_eq_getElem hk1)
          obtain ⟨ag, cg, g0, hig, hlg, hcg⟩ := hc4 j o.imgs[j] (List.getElem?_eq_getElem hk2)
          have big := BI.below (⟨hig, rfl, by omega⟩ : BI w ag o.imgs[j].length o.imgs[j]) hw0
          have HMb := hide (meant_bad (ss := ss) hk1 hk2)
          have HMn := hide (meant_next (ss := ss) hk1 hk2)
          rw [← hw0.cell (cell_lt e0)] at e0
          rw [← hw0.cell (cell_lt e1)] at e1
          rw [← hw0.cell (cell_lt e2)] at e2
          rw [← hw0.cell (cell_lt g0)] at g0
          clear hc3 hc4 hig hlg hcg
          generalize o.ts[j] = tk at *
          generalize o.imgs[j] = wk at *
          obtain ⟨ng, hng⟩ : ∃ ng, ng = wk.length := ⟨_, rfl⟩
          rw [← hng] at g0 big
          have hbP : Below wz.heap.size wz (wz.alloc (.cells #[.int .i64 tk.1, .int .i64 tk.2.1, .int .i64 tk.2.2] 104)) := (Below.refl _ _).alloc (Nat.le_refl _) _
          have bV := hide (heap_alloc_last wz (.cells #[.int .i64 tk.1, .int .i64 tk.2.1, .int .i64 tk.2.2] 104))
          have tbP := hide (tb.out.below hbP)
          have hwP := hw0.trans (hbP.mono hw0.size)
          have biP := hi.below hbP
          have bgP := big.below hbP
          have gP : (wz.alloc (.cells #[.int .i64 tk.1, .int .i64 tk.2.1, .int .i64 tk.2.2] 104)).cell? ⟨b4, o4 + j, none⟩ = some (.slice ag ng cg) := by rw [hbP.cell (cell_lt g0)]; exact g0
          replace hng := hide hng
          unfold bkO trO ofO tzO at tbP
          have o6 := blk_cell tbP.out.b2 6 _ rfl
          go_upto_region 36 with fail
          generalize wz.alloc (.cells #[.int .i64 tk.1, .int .i64 tk.2.1, .int .i64 tk.2.2] 104) = wP at *
          obtain ⟨V, hV⟩ : ∃ V, V = wz.heap.size := ⟨_, rfl⟩
          rw [← hV] at bV ⊢
          clear e0 e1 e2 g0 gP hbP big tb hw0 hi hV o6 e3 e4
          have Q1 := hide (meant1_1 (ss := ss) (t := tk) (w := wk))
          have Q2 := hide (meant1_2 (ss := ss) (t := tk) (w := wk))
          have Q3 := hide (meant1_3 (ss := ss) (t := tk) (w := wk))
          have Q0 := hide (meant1_0 (ss := ss) (t := tk) (w := wk))
          have hInE := hide (inE_img (w := wk) B0.out)
          rw [← hng.out] at Q3 Q0
          rw [hInE.out] at Q1 Q0
          have HPk := hide (fun W' (hW : Below wP.heap.size wP W') => HP.out W' ag ng cg wk (bgP.below hW))
          have HQk := hide (fun he W' (hW : Below wP.heap.size wP W') => HQ.out W' ag ng cg wk he (hwP.trans (hW.mono hwP.size)) (bgP.below hW))
          by_cases z9 : imgE wk = 0
          rotate_left
          · have HE := hide (HM5.out (hts.out.symm.trans (HMb.out (Q1.out z9))))
            have ZN := hide (show (5 : Int) ≠ 0 by decide)
            have hq9 : (imgE wk != 0) = true := by simpa using z9
            clear z9 HQk Q1 Q2 Q3 Q0 hInE
            generalize imgE wk = qe at *
            refine wp_region_held_drew (S := fun w' => w'.cell? ⟨w.heap.size, 0, none⟩ = some (.slice ab nb cb) ∧ w'.cell? ⟨V, 1, none⟩ = some (.int .i64 tk.2.1) ∧ w'.cell? ⟨V, 2, none⟩ = some (.int .i64 tk.2.2) ∧ Below wP.heap.size wP w') (by kernel_rfl) (keepP (Below.refl _ _).drew tbP.out.b0 bV.out) ?_
            intro hHeld
            refine wpAnyH_take (i := 0) (v := ?_) (by simp only [List.getElem?_toArray, List.getElem?_cons_zero]; rfl) (by kernel_rfl) (by kernel_rfl) (by kernel_rfl) (by exact fun _ _ _ h => h) (Or.inl ⟨by rfl, ?_⟩) (by assumption) ?_
            rotate_left
            · intro w hSw
              try dsimp only at hSw
              go_simp
              try with_reducible rfl
            try simp only [Act.put, List.setIfInBounds_toArray, List.set_cons_zero, List.set_cons_succ]
            refine wpAnyH_ready (rs := [1]) (by kernel_rfl) (by simp) ?_
            refine AllReadyH.cons (by simp only [List.getElem?_toArray, List.getElem?_cons_zero, List.getElem?_cons_succ]; rfl) (fun K hK => ?_) AllReadyH.nil
            go_simp
            refine (unhide HPk _ hHeld.2.2.2).mono ?_
            rintro e w5 ⟨rfl, rfl⟩
            go_wp2_with fail
            refine hK.out _ _ (hHeld) (fun hHeld => ?_)
            clear hK K
            try simp only [Act.put, List.setIfInBounds_toArray, List.set_cons_zero, List.set_cons_succ]
            refine wpAnyH_take (i := 2) (v := ?_) (by simp only [List.getElem?_toArray, List.getElem?_cons_zero, List.getElem?_cons_succ]; rfl) (by kernel_rfl) (by kernel_rfl) (by kernel_rfl) (by exact fun _ _ _ h => h) (Or.inl ⟨by rfl, ?_⟩) (by assumption) ?_
            rotate_left
            · intro w hSw
              try dsimp only at hSw
              go_simp
              try with_reducible rfl
            try simp only [Act.put, List.setIfInBounds_toArray, List.set_cons_zero, List.set_cons_succ]
            refine wpAnyH_take (i := 3) (v := ?_) (by simp only [List.getElem?_toArray, List.getElem?_cons_zero, List.getElem?_cons_succ]; rfl) (by kernel_rfl) (by kernel_rfl) (by kernel_rfl) (by exact fun _ _ _ h => h) (Or.inl ⟨by rfl, ?_⟩) (by assumption) ?_
            rotate_left
            · intro w hSw
              try dsimp only at hSw
              go_simp
              try with_reducible rfl
            try simp only [Act.put, List.setIfInBounds_toArray, List.set_cons_zero, List.set_cons_succ]
            refine wpAnyH_take (i := 4) (v := undef) (by simp only [List.getElem?_toArray, List.getElem?_cons_zero, List.getElem?_cons_succ]; rfl) (by kernel_rfl) (by kernel_rfl) (by kernel_rfl) (by exact fun _ _ _ h => h) (Or.inr ⟨by rfl, rfl⟩) (by assumption) ?_
            try simp only [Act.put, List.setIfInBounds_toArray, List.set_cons_zero, List.set_cons_succ]
            refine wpAnyH_take (i := 5) (v := undef) (by simp only [List.getElem?_toArray, List.getElem?_cons_zero, List.getElem?_cons_succ]; rfl) (by kernel_rfl) (by kernel_rfl) (by kernel_rfl) (by exact fun _ _ _ h => h) (Or.inr ⟨by rfl, rfl⟩) (by assumption) ?_
            try simp only [Act.put, List.setIfInBounds_toArray, List.set_cons_zero, List.set_cons_succ]
            refine wpAnyH_take (i := 6) (v := undef) (by simp only [List.getElem?_toArray, List.getElem?_cons_zero, List.getElem?_cons_succ]; rfl) (by kernel_rfl) (by kernel_rfl) (by kernel_rfl) (by exact fun _ _ _ h => h) (Or.inr ⟨by rfl, rfl⟩) (by assumption) ?_
            try simp only [Act.put, List.setIfInBounds_toArray, List.set_cons_zero, List.set_cons_succ]
            refine wpAnyH_take (i := 7) (v := undef) (by simp only [List.getElem?_toArray, List.getElem?_cons_zero, List.getElem?_cons_succ]; rfl) (by kernel_rfl) (by kernel_rfl) (by kernel_rfl) (by exact fun _ _ _ h => h) (Or.inr ⟨by rfl, rfl⟩) (by assumption) ?_
            try simp only [Act.put, List.setIfInBounds_toArray, List.set_cons_zero, List.set_cons_succ]
            refine wpAnyH_take (i := 8) (v := undef) (by simp only [List.getElem?_toArray, List.getElem?_cons_zero, List.getElem?_cons_succ]; rfl) (by kernel_rfl) (by kernel_rfl) (by kernel_rfl) (by exact fun _ _ _ h => h) (Or.inr ⟨by rfl, rfl⟩) (by assumption) ?_
            try simp only [Act.put, List.setIfInBounds_toArray, List.set_cons_zero, List.set_cons_succ]
            refine wpAnyH_take (i := 9) (v := ?_) (by simp only [List.getElem?_toArray, List.getElem?_cons_zero, List.getElem?_cons_succ]; rfl) (by kernel_rfl) (by kernel_rfl) (by kernel_rfl) (by exact fun _ _ _ h => h) (Or.inl ⟨by rfl, ?_⟩) (by assumption) ?_
            rotate_left
            · intro w hSw
              try dsimp only at hSw
              go_simp
              try with_reducible rfl
            try simp only [Act.put, List.setIfInBounds_toArray, List.set_cons_zero, List.set_cons_succ]
            refine wpAnyH_take (i := 10) (v := ?_) (by simp only [List.getElem?_toArray, List.getElem?_cons_zero, List.getElem?_cons_succ]; rfl) (by kernel_rfl) (by kernel_rfl) (by kernel_rfl) (by exact fun _ _ _ h => h) (Or.inl ⟨by rfl, ?_⟩) (by assumption) ?_
            rotate_left
            · intro w hSw
              try dsimp only at hSw
              go_simp
              try with_reducible rfl
            try simp only [Act.put, List.setIfInBounds_toArray, List.set_cons_zero, List.set_cons_succ]
            refine wpAnyH_take (i := 11) (v := undef) (by simp only [List.getElem?_toArray, List.getElem?_cons_zero, List.getElem?_cons_succ]; rfl) (by kernel_rfl) (by kernel_rfl) (by kernel_rfl) (by exact fun _ _ _ h => h) (Or.inr ⟨by rfl, rfl⟩) (by assumption) ?_
            try simp only [Act.put, List.setIfInBounds_toArray, List.set_cons_zero, List.set_cons_succ]
            refine wpAnyH_take (i := 12) (v := undef) (by simp only [List.getElem?_toArray, List.getElem?_cons_zero, List.getElem?_cons_succ]; rfl) (by kernel_rfl) (by kernel_rfl) (by kernel_rfl) (by exact fun _ _ _ h => h) (Or.inr ⟨by rfl, rfl⟩) (by assumption) ?_
            try simp only [Act.put, List.setIfInBounds_toArray, List.set_cons_zero, List.set_cons_succ]
            refine wpAnyH_take (i := 13) (v := undef) (by simp only [List.getElem?_toArray, List.getElem?_cons_zero, List.getElem?_cons_succ]; rfl) (by kernel_rfl) (by kernel_rfl) (by kernel_rfl) (by exact fun _ _ _ h => h) (Or.inr ⟨by rfl, rfl⟩) (by assumption) ?_
            try simp only [Act.put, List.setIfInBounds_toArray, List.set_cons_zero, List.set_cons_succ]
            refine wpAnyH_take (i := 14) (v := undef) (by simp only [List.getElem?_toArray, List.getElem?_cons_zero, List.getElem?_cons_succ]; rfl) (by kernel_rfl) (by kernel_rfl) (by kernel_rfl) (by exact fun _ _ _ h => h) (Or.inr ⟨by rfl, rfl⟩) (by assumption) ?_
            try simp only [Act.put, List.setIfInBounds_toArray, List.set_cons_zero, List.set_cons_succ]
            refine wpAnyH_take (i := 15) (v := undef) (by simp only [List.getElem?_toArray, List.getElem?_cons_zero, List.getElem?_cons_succ]; rfl) (by kernel_rfl) (by kernel_rfl) (by kernel_rfl) (by exact fun _ _ _ h => h) (Or.inr ⟨by rfl, rfl⟩) (by assumption) ?_
            try simp only [Act.put, List.setIfInBounds_toArray, List.set_cons_zero, List.set_cons_succ]
            refine wpAnyH_take (i := 16) (v := undef) (by simp only [List.getElem?_toArray, List.getElem?_cons_zero, List.getElem?_cons_succ]; rfl) (by kernel_rfl) (by kernel_rfl) (by kernel_rfl) (by exact fun _ _ _ h => h) (Or.inr ⟨by rfl, rfl⟩) (by assumption) ?_
            try simp only [Act.put, List.setIfInBounds_toArray, List.set_cons_zero, List.set_cons_succ]
            refine wpAnyH_take (i := 17) (v := undef) (by simp only [List.getElem?_toArray, List.getElem?_cons_zero, List.getElem?_cons_succ]; rfl) (by kernel_rfl) (by kernel_rfl) (by kernel_rfl) (by exact fun _ _ _ h => h) (Or.inr ⟨by rfl, rfl⟩) (by assumption) ?_
            try simp only [Act.put, List.setIfInBounds_toArray, List.set_cons_zero, List.set_cons_succ]
            refine wpAnyH_take (i := 18) (v := ?_) (by simp only [List.getElem?_toArray, List.getElem?_cons_zero, List.getElem?_cons_succ]; rfl) (by kernel_rfl) (by kernel_rfl) (by kernel_rfl) (by exact fun _ _ _ h => h) (Or.inl ⟨by rfl, ?_⟩) (by assumption) ?_
            rotate_left
            · intro w hSw
              try dsimp only at hSw
              go_simp
              try with_reducible rfl
            try simp only [Act.put, List.setIfInBounds_toArray, List.set_cons_zero, List.set_cons_succ]
            refine wpAnyH_done (by kernel_rfl) ?_ _
            have hk5 : Below wP.heap.size wP wP.drew := (Below.refl _ _).drew
            replace tbP := hide (tbP.out.below hk5)
            replace hwP := hwP.trans (hk5.mono hwP.size)
            clear hHeld HPk
            go_wp2_with fail
            refine (tfail2_any 5 _).mono ?_
            rintro e w9 ⟨rfl, hb9⟩
            have tb9 := hide (tbP.out.below hb9)
            have hw9 := hwP.trans (hb9.mono hwP.size)
            clear hb9
            have y0 := blk_cell tb9.out.b3 0 _ rfl
            have fy0 := blk_free tb9.out.b3 0
            have y1 := blk_cell tb9.out.b3 1 _ rfl
            have fy1 := blk_free tb9.out.b3 1
            have y2 := blk_cell tb9.out.b3 2 _ rfl
            have fy2 := blk_free tb9.out.b3 2
            have y3 := blk_cell tb9.out.b3 3 _ rfl
            have fy3 := blk_free tb9.out.b3 3
            go_wp2_with fail
            refine bodyPost_ret (v := .tuple #[.agg #[.int .i64 0, .slice none 0 0, .int .i64 0, .int .i64 0], .int .i64 5]) (by simp [results, Tryz.results93, go_sem, y0, y1, y2, y3]) rfl ?_
            exact ⟨tAns_e HE.out ZN.out (old_none _ _), ((((hw9).setCell (by simp; omega) _).setCell (by simp; omega) _).setCell (by simp; omega) _).setCell (by simp; omega) _⟩
          by_cases z10 : (ng : Int) = tk.2.2
          rotate_left
          · have HE := hide (HM5.out (hts.out.symm.trans (HMb.out (Q3.out z10))))
            have ZN := hide (show (5 : Int) ≠ 0 by decide)
            have hq9 : ((ng : Int) != tk.2.2) = true := by simpa using z10
            rw [z9] at HPk
            clear z9 z10 HQk Q1 Q2 Q3 Q0 hInE
            refine wp_region_held_drew (S := fun w' => w'.cell? ⟨w.heap.size, 0, none⟩ = some (.slice ab nb cb) ∧ w'.cell? ⟨V, 1, none⟩ = some (.int .i64 tk.2.1) ∧ w'.cell? ⟨V, 2, none⟩ = some (.int .i64 tk.2.2) ∧ Below wP.heap.size wP w') (by kernel_rfl) (keepP (Below.refl _ _).drew tbP.out.b0 bV.out) ?_
            intro hHeld
            refine wpAnyH_take (i := 0) (v := ?_) (by simp only [List.getElem?_toArray, List.getElem?_cons_zero]; rfl) (by kernel_rfl) (by kernel_rfl) (by kernel_rfl) (by exact fun _ _ _ h => h) (Or.inl ⟨by rfl, ?_⟩) (by assumption) ?_
            rotate_left
            · intro w hSw
              try dsimp only at hSw
              go_simp
              try with_reducible rfl
            try simp only [Act.put, List.setIfInBounds_toArray, List.set_cons_zero, List.set_cons_succ]
            refine wpAnyH_ready (rs := [1]) (by kernel_rfl) (by simp) ?_
            refine AllReadyH.cons (by simp only [List.getElem?_toArray, List.getElem?_cons_zero, List.getElem?_cons_succ]; rfl) (fun K hK => ?_) AllReadyH.nil
            go_simp
            refine (unhide HPk _ hHeld.2.2.2).mono ?_
            rintro e w5 ⟨rfl, rfl⟩
            go_wp2_with fail
            refine hK.out _ _ (hHeld) (fun hHeld => ?_)
            clear hK K
            try simp only [Act.put, List.setIfInBounds_toArray, List.set_cons_zero, List.set_cons_succ]
            refine wpAnyH_take (i := 2) (v := ?_) (by simp only [List.getElem?_toArray, List.getElem?_cons_zero, List.getElem?_cons_succ]; rfl) (by kernel_rfl) (by kernel_rfl) (by kernel_rfl) (by exact fun _ _ _ h => h) (Or.inl ⟨by rfl, ?_⟩) (by assumption) ?_
            rotate_left
            · intro w hSw
              try dsimp only at hSw
              go_simp
              try with_reducible rfl
            try simp only [Act.put, List.setIfInBounds_toArray, List.set_cons_zero, List.set_cons_succ]
            refine wpAnyH_take (i := 3) (v := ?_) (by simp only [List.getElem?_toArray, List.getElem?_cons_zero, List.getElem?_cons_succ]; rfl) (by kernel_rfl) (by kernel_rfl) (by kernel_rfl) (by exact fun _ _ _ h => h) (Or.inl ⟨by rfl, ?_⟩) (by assumption) ?_
            rotate_left
            · intro w hSw
              try dsimp only at hSw
              go_simp
              try with_reducible rfl
            try simp only [Act.put, List.setIfInBounds_toArray, List.set_cons_zero, List.set_cons_succ]
            refine wpAnyH_take (i := 4) (v := ?_) (by simp only [List.getElem?_toArray, List.getElem?_cons_zero, List.getElem?_cons_succ]; rfl) (by kernel_rfl) (by kernel_rfl) (by kernel_rfl) (by exact fun _ _ _ h => h) (Or.inl ⟨by rfl, ?_⟩) (by assumption) ?_
            rotate_left
            · intro w hSw
              try dsimp only at hSw
              go_simp
              try with_reducible rfl
            try simp only [Act.put, List.setIfInBounds_toArray, List.set_cons_zero, List.set_cons_succ]
            refine wpAnyH_take (i := 5) (v := ?_) (by simp only [List.getElem?_toArray, List.getElem?_cons_zero, List.getElem?_cons_succ]; rfl) (by kernel_rfl) (by kernel_rfl) (by kernel_rfl) (by exact fun _ _ _ h => h) (Or.inl ⟨by rfl, ?_⟩) (by assumption) ?_
            rotate_left
            · intro w hSw
              try dsimp only at hSw
              go_simp
              try with_reducible rfl
            try simp only [Act.put, List.setIfInBounds_toArray, List.set_cons_zero, List.set_cons_succ]
            refine wpAnyH_take (i := 6) (v := ?_) (by simp only [List.getElem?_toArray, List.getElem?_cons_zero, List.getElem?_cons_succ]; rfl) (by kernel_rfl) (by kernel_rfl) (by kernel_rfl) (by exact fun _ _ _ h => h) (Or.inl ⟨by rfl, ?_⟩) (by assumption) ?_
            rotate_left
            · intro w hSw
              try dsimp only at hSw
              go_simp
              try with_reducible rfl
            try simp only [Act.put, List.setIfInBounds_toArray, List.set_cons_zero, List.set_cons_succ]
            refine wpAnyH_take (i := 7) (v := ?_) (by simp only [List.getElem?_toArray, List.getElem?_cons_zero, List.getElem?_cons_succ]; rfl) (by kernel_rfl) (by kernel_rfl) (by kernel_rfl) (by exact fun _ _ _ h => h) (Or.inl ⟨by rfl, ?_⟩) (by assumption) ?_
            rotate_left
            · intro w hSw
              try dsimp only at hSw
              go_simp
              try with_reducible rfl
            try simp only [Act.put, List.setIfInBounds_toArray, List.set_cons_zero, List.set_cons_succ]
            refine wpAnyH_take (i := 8) (v := ?_) (by simp only [List.getElem?_toArray, List.getElem?_cons_zero, List.getElem?_cons_succ]; rfl) (by kernel_rfl) (by kernel_rfl) (by kernel_rfl) (by exact fun _ _ _ h => h) (Or.inl ⟨by rfl, ?_⟩) (by assumption) ?_
            rotate_left
            · intro w hSw
              try dsimp only at hSw
              go_simp
              try with_reducible rfl
            try simp only [Act.put, List.setIfInBounds_toArray, List.set_cons_zero, List.set_cons_succ]
            refine wpAnyH_take (i := 9) (v := ?_) (by simp only [List.getElem?_toArray, List.getElem?_cons_zero, List.getElem?_cons_succ]; rfl) (by kernel_rfl) (by kernel_rfl) (by kernel_rfl) (by exact fun _ _ _ h => h) (Or.inl ⟨by rfl, ?_⟩) (by assumption) ?_
            rotate_left
            · intro w hSw
              try dsimp only at hSw
              go_simp
              try with_reducible rfl
            try simp only [Act.put, List.setIfInBounds_toArray, List.set_cons_zero, List.set_cons_succ]
            refine wpAnyH_take (i := 10) (v := ?_) (by simp only [List.getElem?_toArray, List.getElem?_cons_zero, List.getElem?_cons_succ]; rfl) (by kernel_rfl) (by kernel_rfl) (by kernel_rfl) (by exact fun _ _ _ h => h) (Or.inl ⟨by rfl, ?_⟩) (by assumption) ?_
            rotate_left
            · intro w hSw
              try dsimp only at hSw
              go_simp
              try with_reducible rfl
            try simp only [Act.put, List.setIfInBounds_toArray, List.set_cons_zero, List.set_cons_succ]
            refine wpAnyH_take (i := 11) (v := undef) (by simp only [List.getElem?_toArray, List.getElem?_cons_zero, List.getElem?_cons_succ]; rfl) (by kernel_rfl) (by kernel_rfl) (by kernel_rfl) (by exact fun _ _ _ h => h) (Or.inr ⟨by rfl, rfl⟩) (by assumption) ?_
            try simp only [Act.put, List.setIfInBounds_toArray, List.set_cons_zero, List.set_cons_succ]
            refine wpAnyH_take (i := 12) (v := undef) (by simp only [List.getElem?_toArray, List.getElem?_cons_zero, List.getElem?_cons_succ]; rfl) (by kernel_rfl) (by kernel_rfl) (by kernel_rfl) (by exact fun _ _ _ h => h) (Or.inr ⟨by rfl, rfl⟩) (by assumption) ?_
            try simp only [Act.put, List.setIfInBounds_toArray, List.set_cons_zero, List.set_cons_succ]
            refine wpAnyH_take (i := 13) (v := undef) (by simp only [List.getElem?_toArray, List.getElem?_cons_zero, List.getElem?_cons_succ]; rfl) (by kernel_rfl) (by kernel_rfl) (by kernel_rfl) (by exact fun _ _ _ h => h) (Or.inr ⟨by rfl, rfl⟩) (by assumption) ?_
            try simp only [Act.put, List.setIfInBounds_toArray, List.set_cons_zero, List.set_cons_succ]
            refine wpAnyH_take (i := 14) (v := undef) (by simp only [List.getElem?_toArray, List.getElem?_cons_zero, List.getElem?_cons_succ]; rfl) (by kernel_rfl) (by kernel_rfl) (by kernel_rfl) (by exact fun _ _ _ h => h) (Or.inr ⟨by rfl, rfl⟩) (by assumption) ?_
            try simp only [Act.put, List.setIfInBounds_toArray, List.set_cons_zero, List.set_cons_succ]
            refine wpAnyH_take (i := 15) (v := undef) (by simp only [List.getElem?_toArray, List.getElem?_cons_zero, List.getElem?_cons_succ]; rfl) (by kernel_rfl) (by kernel_rfl) (by kernel_rfl) (by exact fun _ _ _ h => h) (Or.inr ⟨by rfl, rfl⟩) (by assumption) ?_
            try simp only [Act.put, List.setIfInBounds_toArray, List.set_cons_zero, List.set_cons_succ]
            refine wpAnyH_take (i := 16) (v := undef) (by simp only [List.getElem?_toArray, List.getElem?_cons_zero, List.getElem?_cons_succ]; rfl) (by kernel_rfl) (by kernel_rfl) (by kernel_rfl) (by exact fun _ _ _ h => h) (Or.inr ⟨by rfl, rfl⟩) (by assumption) ?_
            try simp only [Act.put, List.setIfInBounds_toArray, List.set_cons_zero, List.set_cons_succ]
            refine wpAnyH_take (i := 17) (v := undef) (by simp only [List.getElem?_toArray, List.getElem?_cons_zero, List.getElem?_cons_succ]; rfl) (by kernel_rfl) (by kernel_rfl) (by kernel_rfl) (by exact fun _ _ _ h => h) (Or.inr ⟨by rfl, rfl⟩) (by assumption) ?_
            try simp only [Act.put, List.setIfInBounds_toArray, List.set_cons_zero, List.set_cons_succ]
            refine wpAnyH_take (i := 18) (v := ?_) (by simp only [List.getElem?_toArray, List.getElem?_cons_zero, List.getElem?_cons_succ]; rfl) (by kernel_rfl) (by kernel_rfl) (by kernel_rfl) (by exact fun _ _ _ h => h) (Or.inl ⟨by rfl, ?_⟩) (by assumption) ?_
            rotate_left
            · intro w hSw
              try dsimp only at hSw
              go_simp
              try with_reducible rfl
            try simp only [Act.put, List.setIfInBounds_toArray, List.set_cons_zero, List.set_cons_succ]
            refine wpAnyH_done (by kernel_rfl) ?_ _
            have hk5 : Below wP.heap.size wP wP.drew := (Below.refl _ _).drew
            replace tbP := hide (tbP.out.below hk5)
            replace hwP := hwP.trans (hk5.mono hwP.size)
            clear hHeld HPk
            go_wp2_with fail
            refine (tfail2_any 5 _).mono ?_
            rintro e w9 ⟨rfl, hb9⟩
            have tb9 := hide (tbP.out.below hb9)
            have hw9 := hwP.trans (hb9.mono hwP.size)
            clear hb9
            have y0 := blk_cell tb9.out.b3 0 _ rfl
            have fy0 := blk_free tb9.out.b3 0
            have y1 := blk_cell tb9.out.b3 1 _ rfl
            have fy1 := blk_free tb9.out.b3 1
            have y2 := blk_cell tb9.out.b3 2 _ rfl
            have fy2 := blk_free tb9.out.b3 2
            have y3 := blk_cell tb9.out.b3 3 _ rfl
            have fy3 := blk_free tb9.out.b3 3
            go_wp2_with fail
            refine bodyPost_ret (v := .tuple #[.agg #[.int .i64 0, .slice none 0 0, .int .i64 0, .int .i64 0], .int .i64 5]) (by simp [results, Tryz.results93, go_sem, y0, y1, y2, y3]) rfl ?_
            exact ⟨tAns_e HE.out ZN.out (old_none _ _), ((((hw9).setCell (by simp; omega) _).setCell (by simp; omega) _).setCell (by simp; omega) _).setCell (by simp; omega) _⟩
          have hNN : inN ss wk = (nameN ss (bs (imgT wk)) : Int) := by unfold inN; rw [if_pos z9]; unfold nameE; rw [if_pos B0.out]
          have hq9 : ((ng : Int) != tk.2.2) = false := by simpa using z10
          rw [hNN] at Q2 Q0
          replace HQk := hide (HQk.out z9)
          obtain ⟨sw, hsw⟩ : ∃ sw, sw = bs (imgT wk) := ⟨_, rfl⟩
          rw [← hsw] at Q2 Q0 HQk
          have HCk := hide (fun W' (hW : Below wP.heap.size wP W') => HC.out W' sw (hwP.trans (hW.mono hwP.size)))
          obtain ⟨nw, hnw⟩ : ∃ nw : Int, nw = (nameN ss sw : Int) := ⟨_, rfl⟩
          rw [← hnw] at Q2 Q0 HCk
          replace Q0 := hide (fun h => Q0.out z9 h z10)
          rw [z9] at HPk
          clear hNN hsw hnw z9 z10 Q1 Q3 hInE
          refine wp_region_held_drew (S := fun w' => w'.cell? ⟨w.heap.size, 0, none⟩ = some (.slice ab nb cb) ∧ w'.cell? ⟨V, 1, none⟩ = some (.int .i64 tk.2.1) ∧ w'.cell? ⟨V, 2, none⟩ = some (.int .i64 tk.2.2) ∧ Below wP.heap.size wP w') (by kernel_rfl) (keepP (Below.refl _ _).drew tbP.out.b0 bV.out) ?_
          intro hHeld
          refine wpAnyH_take (i := 0) (v := ?_) (by simp only [List.getElem?_toArray, List.getElem?_cons_zero]; rfl) (by kernel_rfl) (by kernel_rfl) (by kernel_rfl) (by exact fun _ _ _ h => h) (Or.inl ⟨by rfl, ?_⟩) (by assumption) ?_
          rotate_left
          · intro w hSw
            try dsimp only at hSw
            go_simp
            try with_reducible rfl
          try simp only [Act.put, List.setIfInBounds_toArray, List.set_cons_zero, List.set_cons_succ]
          refine wpAnyH_ready (rs := [1]) (by kernel_rfl) (by simp) ?_
          refine AllReadyH.cons (by simp only [List.getElem?_toArray, List.getElem?_cons_zero, List.getElem?_cons_succ]; rfl) (fun K hK => ?_) AllReadyH.nil
          go_simp
          refine (unhide HPk _ hHeld.2.2.2).mono ?_
          rintro e w5 ⟨rfl, rfl⟩
          go_wp2_with fail
          refine hK.out _ _ (hHeld) (fun hHeld => ?_)
          clear hK K
          try simp only [Act.put, List.setIfInBounds_toArray, List.set_cons_zero, List.set_cons_succ]
          refine wpAnyH_take (i := 2) (v := ?_) (by simp only [List.getElem?_toArray, List.getElem?_cons_zero, List.getElem?_cons_succ]; rfl) (by kernel_rfl) (by kernel_rfl) (by kernel_rfl) (by exact fun _ _ _ h => h) (Or.inl ⟨by rfl, ?_⟩) (by assumption) ?_
          rotate_left
          · intro w hSw
            try dsimp only at hSw
            go_simp
            try with_reducible rfl
          try simp only [Act.put, List.setIfInBounds_toArray, List.set_cons_zero, List.set_cons_succ]
          refine wpAnyH_take (i := 3) (v := ?_) (by simp only [List.getElem?_toArray, List.getElem?_cons_zero, List.getElem?_cons_succ]; rfl) (by kernel_rfl) (by kernel_rfl) (by kernel_rfl) (by exact fun _ _ _ h => h) (Or.inl ⟨by rfl, ?_⟩) (by assumption) ?_
          rotate_left
          · intro w hSw
            try dsimp only at hSw
            go_simp
            try with_reducible rfl
          try simp only [Act.put, List.setIfInBounds_toArray, List.set_cons_zero, List.set_cons_succ]
          refine wpAnyH_take (i := 4) (v := ?_) (by simp only [List.getElem?_toArray, List.getElem?_cons_zero, List.getElem?_cons_succ]; rfl) (by kernel_rfl) (by kernel_rfl) (by kernel_rfl) (by exact fun _ _ _ h => h) (Or.inl ⟨by rfl, ?_⟩) (by assumption) ?_
          rotate_left
          · intro w hSw
            try dsimp only at hSw
            go_simp
            try with_reducible rfl
          try simp only [Act.put, List.setIfInBounds_toArray, List.set_cons_zero, List.set_cons_succ]
          refine wpAnyH_take (i := 5) (v := ?_) (by simp only [List.getElem?_toArray, List.getElem?_cons_zero, List.getElem?_cons_succ]; rfl) (by kernel_rfl) (by kernel_rfl) (by kernel_rfl) (by exact fun _ _ _ h => h) (Or.inl ⟨by rfl, ?_⟩) (by assumption) ?_
          rotate_left
          · intro w hSw
            try dsimp only at hSw
            go_simp
            try with_reducible rfl
          try simp only [Act.put, List.setIfInBounds_toArray, List.set_cons_zero, List.set_cons_succ]
          refine wpAnyH_take (i := 6) (v := ?_) (by simp only [List.getElem?_toArray, List.getElem?_cons_zero, List.getElem?_cons_succ]; rfl) (by kernel_rfl) (by kernel_rfl) (by kernel_rfl) (by exact fun _ _ _ h => h) (Or.inl ⟨by rfl, ?_⟩) (by assumption) ?_
          rotate_left
          · intro w hSw
            try dsimp only at hSw
            go_simp
            try with_reducible rfl
          try simp only [Act.put, List.setIfInBounds_toArray, List.set_cons_zero, List.set_cons_succ]
          refine wpAnyH_take (i := 7) (v := ?_) (by simp only [List.getElem?_toArray, List.getElem?_cons_zero, List.getElem?_cons_succ]; rfl) (by kernel_rfl) (by kernel_rfl) (by kernel_rfl) (by exact fun _ _ _ h => h) (Or.inl ⟨by rfl, ?_⟩) (by assumption) ?_
          rotate_left
          · intro w hSw
            try dsimp only at hSw
            go_simp
            try with_reducible rfl
          try simp only [Act.put, List.setIfInBounds_toArray, List.set_cons_zero, List.set_cons_succ]
          refine wpAnyH_take (i := 8) (v := ?_) (by simp only [List.getElem?_toArray, List.getElem?_cons_zero, List.getElem?_cons_succ]; rfl) (by kernel_rfl) (by kernel_rfl) (by kernel_rfl) (by exact fun _ _ _ h => h) (Or.inl ⟨by rfl, ?_⟩) (by assumption) ?_
          rotate_left
          · intro w hSw
            try dsimp only at hSw
            go_simp
            try with_reducible rfl
          try simp only [Act.put, List.setIfInBounds_toArray, List.set_cons_zero, List.set_cons_succ]
          refine wpAnyH_take (i := 9) (v := ?_) (by simp only [List.getElem?_toArray, List.getElem?_cons_zero, List.getElem?_cons_succ]; rfl) (by kernel_rfl) (by kernel_rfl) (by kernel_rfl) (by exact fun _ _ _ h => h) (Or.inl ⟨by rfl, ?_⟩) (by assumption) ?_
          rotate_left
          · intro w hSw
            try dsimp only at hSw
            go_simp
            try with_reducible rfl
          try simp only [Act.put, List.setIfInBounds_toArray, List.set_cons_zero, List.set_cons_succ]
          refine wpAnyH_take (i := 10) (v := ?_) (by simp only [List.getElem?_toArray, List.getElem?_cons_zero, List.getElem?_cons_succ]; rfl) (by kernel_rfl) (by kernel_rfl) (by kernel_rfl) (by exact fun _ _ _ h => h) (Or.inl ⟨by rfl, ?_⟩) (by assumption) ?_
          rotate_left
          · intro w hSw
            try dsimp only at hSw
            go_simp
            try with_reducible rfl
          try simp only [Act.put, List.setIfInBounds_toArray, List.set_cons_zero, List.set_cons_succ]
          refine wpAnyH_take (i := 11) (v := ?_) (by simp only [List.getElem?_toArray, List.getElem?_cons_zero, List.getElem?_cons_succ]; rfl) (by kernel_rfl) (by kernel_rfl) (by kernel_rfl) (by exact fun _ _ _ h => h) (Or.inl ⟨by rfl, ?_⟩) (by assumption) ?_
          rotate_left
          · intro w hSw
            try dsimp only at hSw
            go_simp
            try with_reducible rfl
          try simp only [Act.put, List.setIfInBounds_toArray, List.set_cons_zero, List.set_cons_succ]
          refine wpAnyH_take (i := 12) (v := ?_) (by simp only [List.getElem?_toArray, List.getElem?_cons_zero, List.getElem?_cons_succ]; rfl) (by kernel_rfl) (by kernel_rfl) (by kernel_rfl) (by exact fun _ _ _ h => h) (Or.inl ⟨by rfl, ?_⟩) (by assumption) ?_
          rotate_left
          · intro w hSw
            try dsimp only at hSw
            go_simp
            try with_reducible rfl
          try simp only [Act.put, List.setIfInBounds_toArray, List.set_cons_zero, List.set_cons_succ]
          refine wpAnyH_take (i := 15) (v := ?_) (by simp only [List.getElem?_toArray, List.getElem?_cons_zero, List.getElem?_cons_succ]; rfl) (by kernel_rfl) (by kernel_rfl) (by kernel_rfl) (by exact fun _ _ _ h => h) (Or.inl ⟨by rfl, ?_⟩) (by assumption) ?_
          rotate_left
          · intro w hSw
            try dsimp only at hSw
            go_simp
            try with_reducible rfl
          try simp only [Act.put, List.setIfInBounds_toArray, List.set_cons_zero, List.set_cons_succ]
          refine wpAnyH_take (i := 16) (v := ?_) (by simp only [List.getElem?_toArray, List.getElem?_cons_zero, List.getElem?_cons_succ]; rfl) (by kernel_rfl) (by kernel_rfl) (by kernel_rfl) (by exact fun _ _ _ h => h) (Or.inl ⟨by rfl, ?_⟩) (by assumption) ?_
          rotate_left
          · intro w hSw
            try dsimp only at hSw
            go_simp
            try with_reducible rfl
          try simp only [Act.put, List.setIfInBounds_toArray, List.set_cons_zero, List.set_cons_succ]
          refine wpAnyH_ready (rs := [13]) (by kernel_rfl) (by simp) ?_
          refine AllReadyH.cons (by simp only [List.getElem?_toArray, List.getElem?_cons_zero, List.getElem?_cons_succ]; rfl) (fun K hK => ?_) AllReadyH.nil
          go_simp
          have hB2 := hHeld.2.2.2
          refine (unhide HQk _ hB2).mono ?_
          rintro e w6 ⟨rfl, hb6⟩
          have hk6 := hB2.trans (hb6.mono hB2.size)
          go_wp2_with fail
          refine hK.out _ _ (keepP hk6 tbP.out.b0 bV.out) (fun hHeld => ?_)
          clear hK K
          try simp only [Act.put, List.setIfInBounds_toArray, List.set_cons_zero, List.set_cons_succ]
          refine wpAnyH_ready (rs := [14]) (by kernel_rfl) (by simp) ?_
          refine AllReadyH.cons (by simp only [List.getElem?_toArray, List.getElem?_cons_zero, List.getElem?_cons_succ]; rfl) (fun K hK => ?_) AllReadyH.nil
          go_simp
          refine (unhide HCk _ hk6).mono ?_
          rintro e w7 ⟨rfl, hb7⟩
          have hk7 := hk6.trans (hb7.mono hk6.size)
          go_wp2_with fail
          refine hK.out _ _ (keepP hk7 tbP.out.b0 bV.out) (fun hHeld => ?_)
          clear hK K
          try simp only [Act.put, List.setIfInBounds_toArray, List.set_cons_zero, List.set_cons_succ]
          refine wpAnyH_take (i := 17) (v := ?_) (by simp only [List.getElem?_toArray, List.getElem?_cons_zero, List.getElem?_cons_succ]; rfl) (by kernel_rfl) (by kernel_rfl) (by kernel_rfl) (by exact fun _ _ _ h => h) (Or.inl ⟨by rfl, ?_⟩) (by assumption) ?_
          rotate_left
          · intro w hSw
            try dsimp only at hSw
            go_simp
            try with_reducible rfl
          try simp only [Act.put, List.setIfInBounds_toArray, List.set_cons_zero, List.set_cons_succ]
          refine wpAnyH_take (i := 18) (v := ?_) (by simp only [List.getElem?_toArray, List.getElem?_cons_zero, List.getElem?_cons_succ]; rfl) (by kernel_rfl) (by kernel_rfl) (by kernel_rfl) (by exact fun _ _ _ h => h) (Or.inl ⟨by rfl, ?_⟩) (by assumption) ?_
          rotate_left
          · intro w hSw
            try dsimp only at hSw
            go_simp
            try with_reducible rfl
          try simp only [Act.put, List.setIfInBounds_toArray, List.set_cons_zero, List.set_cons_succ]
          refine wpAnyH_done (by kernel_rfl) ?_ _
          replace tbP := hide (tbP.out.below hk7)
          replace hwP := hwP.trans (hk7.mono hwP.size)
          replace biP := biP.below hk7
          clear hk7 hk6 hB2 hb6 hb7 hHeld HPk HQk HCk
          by_cases z11 : nw = tk.2.1
          rotate_left
          · have HE := hide (HM5.out (hts.out.symm.trans (HMb.out (Q2.out z11))))
            have ZN := hide (show (5 : Int) ≠ 0 by decide)
            have hq11 : (nw != tk.2.1) = true := by simpa using z11
            clear z11 Q2 Q0
            go_wp2_with fail
            refine (tfail2_any 5 _).mono ?_
            rintro e w9 ⟨rfl, hb9⟩
            have tb9 := hide (tbP.out.below hb9)
            have hw9 := hwP.trans (hb9.mono hwP.size)
            clear hb9
            have y0 := blk_cell tb9.out.b3 0 _ rfl
            have fy0 := blk_free tb9.out.b3 0
            have y1 := blk_cell tb9.out.b3 1 _ rfl
            have fy1 := blk_free tb9.out.b3 1
            have y2 := blk_cell tb9.out.b3 2 _ rfl
            have fy2 := blk_free tb9.out.b3 2
            have y3 := blk_cell tb9.out.b3 3 _ rfl
            have fy3 := blk_free tb9.out.b3 3
            go_wp2_with fail
            refine bodyPost_ret (v := .tuple #[.agg #[.int .i64 0, .slice none 0 0, .int .i64 0, .int .i64 0], .int .i64 5]) (by simp [results, Tryz.results93, go_sem, y0, y1, y2, y3]) rfl ?_
            exact ⟨tAns_e HE.out ZN.out (old_none _ _), ((((hw9).setCell (by simp; omega) _).setCell (by simp; omega) _).setCell (by simp; omega) _).setCell (by simp; omega) _⟩
          have HX5 := hide ((HMn.out (Q0.out z11)).symm.trans hts.out)
          have hq11 : (nw != tk.2.1) = false := by simpa using z11
          clear z11 Q2 Q0
          go_wp2_with fail
          go_roundw
          case rel => exact ⟨j + 1, by omega, by go_num, hwP, tbP.out, biP, HX5.out⟩
          case measure => simp [intOf]; omega
        · have hall : meantB ss o.ts o.imgs = true := by
            rw [← hts.out, List.drop_eq_nil_of_le (by rw [L3.out]; omega)]
            simp [meantB]
          have HE := hide (HM0.out hall)
          unfold bkO trO ofO tzO at tb
          have o2 := blk_cell tb.out.b2 2 _ rfl
          have q0 := blk_cell tb.out.b1 0 _ rfl
          have q1 := blk_cell tb.out.b1 1 _ rfl
          have q2 := blk_cell tb.out.b1 2 _ rfl
          have q3 := blk_cell tb.out.b1 3 _ rfl
          have fq3 := blk_free tb.out.b1 3
          have y0 := blk_cell tb.out.b3 0 _ rfl
          have fy0 := blk_free tb.out.b3 0
          have y1 := blk_cell tb.out.b3 1 _ rfl
          have fy1 := blk_free tb.out.b3 1
          have y2 := blk_cell tb.out.b3 2 _ rfl
          have fy2 := blk_free tb.out.b3 2
          have y3 := blk_cell tb.out.b3 3 _ rfl
          have fy3 := blk_free tb.out.b3 3
          clear hall
          go_wp2_with fail
          refine bodyPost_ret (v := .tuple #[.agg #[.int .i64 tr.r.v, .slice a n c, .int .i64 tr.r.t, .int .i64 o.v], .int .i64 0]) (by simp [results, Tryz.results93, go_sem, y0, y1, y2, y3]) rfl ?_
          rw [HE.out, show takeT 0 t o = ⟨tr.r, o.v⟩ by unfold takeT turnT; rw [if_pos rfl, ← LR.out]]
          have hfar1 : tr.r.ks = [] ∨ ∀ ad, a = some ad → ad.block ≠ w.heap.size + 1 := hold.out.imp id (fun h ad e => by have := h ad e; omega)
          have hfar : tr.r.ks = [] ∨ ∀ ad, a = some ad → ad.block ≠ w.heap.size + 1 + 1 + 1 := hold.out.imp id (fun h ad e => by have := h ad e; omega)
          exact ⟨⟨a, n, c, rfl, ((((hi.set2 _ 3 _ hfar1).set2 _ 0 _ hfar).set2 _ 1 _ hfar).set2 _ 2 _ hfar).set2 _ 3 _ hfar, hold.out⟩, ((((hw0.setCell (by show w.heap.size ≤ w.heap.size + 1; omega) _).setCell (by simp; omega) _).setCell (by simp; omega) _).setCell (by simp; omega) _).setCell (by simp; omega) _⟩

end Go.Proofs.YtgngpmgjoifepaaGreatDoor
