/- The contract of trust.Take. Plain facts: what is taken is newer, and signed; without signatures it isn't taken, nor twice. What package unit leaves is as long as what it is given, or nothing. No program in this text. The contracts of unit.checkHeard, Hear. Plain facts on gateways: what their records may say; what noting one leaves; what is heard twice. No program in this text. -/
import Derived.Test.YtgngpmgjoifepaaGreatDoorPt20
import Derived.Test.YtgngpmgjoifepaaGreatDoorPt21
import Derived.Test.YtgngpmgjoifepaaGreatDoorPt13
import Derived.Test.YtgngpmgjoifepaaGreatDoorPt14
import Derived.Test.YtgngpmgjoifepaaGreatDoorPt10
import Derived.Test.YtgngpmgjoifepaaGreatDoorPt8
import Derived.BigQuiet
import Derived.Test.YtgngpmgjoifepaaGreatDoorPt12
import Derived.Test.YtgngpmgjoifepaaGreatDoorPt2
namespace Go.Proofs.YtgngpmgjoifepaaGreatDoor
open Go.RowKit

structure OA where
  a1 : Option Addr
  n1 : Nat
  c1 : Nat
  a2 : Option Addr
  n2 : Nat
  c2 : Nat
  a3 : Option Addr
  n3 : Nat
  c3 : Nat
  a4 : Option Addr
  n4 : Nat
  c4 : Nat
  a5 : Option Addr
  n5 : Nat
  c5 : Nat
def offv (v u : Int) (m : OA) : Value := .agg #[.slice m.a1 m.n1 m.c1, .slice m.a2 m.n2 m.c2, .int .i64 v, .int .i64 u, .slice m.a3 m.n3 m.c3, .slice m.a4 m.n4 m.c4, .slice m.a5 m.n5 m.c5]
def ofO (v u : Int) (m : OA) : Obj := .cells #[.slice m.a1 m.n1 m.c1, .slice m.a2 m.n2 m.c2, .int .i64 v, .int .i64 u, .slice m.a3 m.n3 m.c3, .slice m.a4 m.n4 m.c4, .slice m.a5 m.n5 m.c5] 75 (0, 0)
structure BO (w : World) (m : OA) (o : Of) : Prop where
  roots : BR w m.a1 m.n1 o.roots
  rsigs : BL w m.a2 m.n2 o.rsigs
  tgts : BT w m.a3 m.n3 o.ts
  sigs : BI w m.a4 m.n4 o.sigs
  imgs : BL w m.a5 m.n5 o.imgs
theorem BO.below {w w' : World} {m : OA} {o : Of} (h : BO w m o) (hb : Below w.heap.size w w') : BO w' m o := ⟨h.roots.below hb, h.rsigs.below hb, h.tgts.below hb, h.sigs.below hb, h.imgs.below hb⟩

theorem restE_1 {ss : List ByteArray} {ver : Int} {o : Of} {now units : Int} (h : o.v ≤ ver) : restE ss ver o now units = 10 := by unfold restE; rw [if_pos h]
theorem restE_2 {ss : List ByteArray} {ver : Int} {o : Of} {now units : Int} (h : ¬ o.v ≤ ver) (h2 : o.u < now) : restE ss ver o now units = 11 := by unfold restE; rw [if_neg h, if_pos h2]
theorem restE_3 {ss : List ByteArray} {ver : Int} {o : Of} {now units : Int} (h : ¬ o.v ≤ ver) (h2 : ¬ o.u < now) (h3 : ¬ (o.ts.length : Int) = units) : restE ss ver o now units = 4 := by unfold restE; rw [if_neg h, if_neg h2, if_pos h3]
theorem restE_4 {ss : List ByteArray} {ver : Int} {o : Of} {now units : Int} (h : ¬ o.v ≤ ver) (h2 : ¬ o.u < now) (h3 : (o.ts.length : Int) = units) (h4 : ¬ (o.imgs.length : Int) = units) : restE ss ver o now units = 4 := by unfold restE; rw [if_neg h, if_neg h2, if_neg (by simpa using h3), if_pos h4]
theorem restE_5 {ss : List ByteArray} {ver : Int} {o : Of} {now units : Int} (h : ¬ o.v ≤ ver) (h2 : ¬ o.u < now) (h3 : (o.ts.length : Int) = units) (h4 : (o.imgs.length : Int) = units) (h5 : meantB ss o.ts o.imgs = false) : restE ss ver o now units = 5 := by unfold restE; rw [if_neg h, if_neg h2, if_neg (by simpa using h3), if_neg (by simpa using h4), h5]; rfl
theorem restE_0 {ss : List ByteArray} {ver : Int} {o : Of} {now units : Int} (h : ¬ o.v ≤ ver) (h2 : ¬ o.u < now) (h3 : (o.ts.length : Int) = units) (h4 : (o.imgs.length : Int) = units) (h5 : meantB ss o.ts o.imgs = true) : restE ss ver o now units = 0 := by unfold restE; rw [if_neg h, if_neg h2, if_neg (by simpa using h3), if_neg (by simpa using h4), h5]; rfl

theorem takeE_1 {ss : List ByteArray} {l : List S2} {t : Tr} {o : Of} {now units : Int} (h1 : trE t ≠ 0) : takeE ss l t o now units = trE t := by unfold takeE; rw [if_neg h1]
theorem takeE_2 {ss : List ByteArray} {l : List S2} {t : Tr} {o : Of} {now units : Int} (h1 : trE t = 0) (h2 : allE ss l t o.roots o.rsigs ≠ 0) : takeE ss l t o now units = allE ss l t o.roots o.rsigs := by unfold takeE; rw [if_pos h1, if_neg h2]
theorem takeE_3 {ss : List ByteArray} {l : List S2} {t : Tr} {o : Of} {now units : Int} (h1 : trE t = 0) (h2 : allE ss l t o.roots o.rsigs = 0) (h3 : crE ss l (lastR t.r o.roots) o.v o.u o.ts o.sigs ≠ 0) : takeE ss l t o now units = crE ss l (lastR t.r o.roots) o.v o.u o.ts o.sigs := by unfold takeE; rw [if_pos h1, if_pos h2, if_neg h3]
theorem takeE_4 {ss : List ByteArray} {l : List S2} {t : Tr} {o : Of} {now units : Int} (h1 : trE t = 0) (h2 : allE ss l t o.roots o.rsigs = 0) (h3 : crE ss l (lastR t.r o.roots) o.v o.u o.ts o.sigs = 0) : takeE ss l t o now units = restE ss t.ver o now units := by unfold takeE; rw [if_pos h1, if_pos h2, if_pos h3]

theorem csE_ok {l : List S2} {r : Rt} {sigs : List Int} {name : Int} (h : csE l r sigs name = 0) : cntE l r sigs = 0 ∧ r.t ≤ (cntN l r.ks sigs name : Int) := by
  unfold csE at h
  split at h
  {
  rename_i h1
  split at h
  { cases h }
  { exact ⟨h1, by omega⟩ }
  }
  {
  rename_i h1
  exact absurd h h1
  }
theorem cntE_ok {l : List S2} {r : Rt} {sigs : List Int} (h : cntE l r sigs = 0) : sigE l = 0 ∧ r.e = 0 ∧ sigs.length ≤ 50 := by
  unfold cntE at h
  split at h
  {
  rename_i h1
  split at h
  {
  rename_i h2
  split at h
  { cases h }
  { exact ⟨h1, h2, by omega⟩ }
  }
  {
  rename_i h2
  exact absurd h h2
  }
  }
  {
  rename_i h1
  exact absurd h h1
  }
theorem crE_ok {ss : List ByteArray} {l : List S2} {r : Rt} {v u : Int} {ts : List T3} {sigs : List Int} (h : crE ss l r v u ts sigs = 0) : relE v u ts = 0 ∧ bookE ss = 0 ∧ csE l r sigs (nameN ss (bs (relT v u ts))) = 0 := by
  unfold crE at h
  split at h
  {
  rename_i h1
  split at h
  {
  rename_i h2
  exact ⟨h1, h2, h⟩
  }
  {
  rename_i h2
  exact absurd h h2
  }
  }
  {
  rename_i h1
  exact absurd h h1

  }
def takeT (q : Int) (t : Tr) (o : Of) : Tr := turnT q ⟨t.r, o.v⟩ (lastR t.r o.roots)

set_option maxHeartbeats 6400000 in
set_option maxRecDepth 100000 in
theorem take_any (ab : Option Addr) (nb cb : Nat) (ss : List ByteArray) (a1 : Option Addr) (n1 c1 : Nat) (l : List S2) (t : Tr) (a2 : Option Addr) (n2 c2 : Nat) (o : Of) (m : OA) (now units : Int) (w : World)
    (h0 : BB w ab nb cb ss) (h1 : BG w a1 n1 l) (h2 : BI w a2 n2 t.r.ks) (h3 : BO w m o) (hT : Tab w) :
    Calls Tryz.prog 83 #[bookv ab nb cb, .slice a1 n1 c1, trv t.r.v a2 n2 c2 t.r.t t.ver, offv o.v o.u m, .int .i64 now, .int .i64 units] w fun e w' => TAns w' e (takeT (takeE ss l t o now units) t o) (takeE ss l t o now units) (Frsh w.heap.size) ∧ Below w.heap.size w w' := by
  have hw0 : Below w.heap.size w ((((w.alloc (bkO ab nb cb)).alloc (trO t a2 n2 c2)).alloc (ofO o.v o.u m)).alloc tzO) := ((((Below.refl _ _).alloc (Nat.le_refl _) _).alloc (by simp) _).alloc (by simp; omega) _).alloc (by simp; omega) _
  have tb : Hid (TB ((((w.alloc (bkO ab nb cb)).alloc (trO t a2 n2 c2)).alloc (ofO o.v o.u m)).alloc tzO) w.heap.size (bkO ab nb cb) (trO t a2 n2 c2) (ofO o.v o.u m) tzO) :=
    ⟨blk_alloc (blk_alloc (blk_alloc (heap_alloc_last _ _) _) _) _, blk_alloc (blk_alloc (last1 _ _ _) _) _, blk_alloc (last2 _ _ _ _) _, last3 _ _ _ _ _⟩
  have HA := hide (fun W (hW : Below w.heap.size w W) => checkTrust_any t a2 n2 c2 W (h2.below hW))
  have HB := hide (fun W (hW : Below w.heap.size w W) => turnAll_any ab nb cb ss a1 n1 c1 l t a2 n2 c2 m.a1 m.n1 m.c1 o.roots m.a2 m.n2 m.c2 o.rsigs W (h0.below hW) (h1.below hW) (h2.below hW) (h3.below hW).roots (h3.below hW).rsigs (hT.below hW))
  have HC := hide (fun W (r : Rt) a n c (hW : Below w.heap.size w W) (hr : BI W a n r.ks) => tCheckRelease_any ab nb cb ss a1 n1 c1 l r a n c o.v o.u m.a3 m.n3 m.c3 o.ts m.a4 m.n4 m.c4 o.sigs W (h0.below hW) (h1.below hW) hr (h3.below hW).tgts (h3.below hW).sigs (hT.below hW))
  have HD := hide (fun W (hW : Below w.heap.size w W) (hn : m.n3 = m.n5) => allMeant_any ab nb cb ss m.a3 m.n3 m.c3 o.ts m.a5 m.n5 m.c5 o.imgs W (h0.below hW) (h3.below hW).tgts (h3.below hW).imgs hn (hT.below hW))
  have H2o := hide h2.old
  have L3 := hide h3.tgts.len
  have L5 := hide h3.imgs.len
  unfold trv rv relv bookv at *
  unfold offv
  clear h0 h1 h2 h3 hT
  unfold bkO trO ofO tzO at hw0 tb
  unfold TAns trv at HB
  go_enter Tryz.func83, Tryz.ntmps83
  go_wp2_with fail
  generalize (((w.alloc (.cells #[.slice ab nb cb] 24)).alloc (.cells #[.int .i64 t.r.v, .slice a2 n2 c2, .int .i64 t.r.t, .int .i64 t.ver] 65)).alloc (.cells #[.slice m.a1 m.n1 m.c1, .slice m.a2 m.n2 m.c2, .int .i64 o.v, .int .i64 o.u, .slice m.a3 m.n3 m.c3, .slice m.a4 m.n4 m.c4, .slice m.a5 m.n5 m.c5] 75)).alloc (.cells #[.int .i64 0, .slice none 0 0, .int .i64 0, .int .i64 0] 65) = W at *
  refine (unhide HA _ hw0).mono ?_
  rintro e w1 ⟨rfl, hb⟩
  replace tb := hide (tb.out.below hb)
  replace hw0 := hw0.trans (hb.mono hw0.size)
  clear hb HA
  by_cases z1 : trE t = 0
  rotate_left
  {
  have HE := hide (takeE_1 (ss := ss) (l := l) (o := o) (now := now) (units := units) z1)
  have ZN := hide z1
  have hq : (trE t != 0) = true := by simpa using z1
  clear HB HC HD z1
  generalize trE t = q at *
  have y0 := blk_cell tb.out.b3 0 _ rfl
  have fy0 := blk_free tb.out.b3 0
  have y1 := blk_cell tb.out.b3 1 _ rfl
  have fy1 := blk_free tb.out.b3 1
  have y2 := blk_cell tb.out.b3 2 _ rfl
  have fy2 := blk_free tb.out.b3 2
  have y3 := blk_cell tb.out.b3 3 _ rfl
  have fy3 := blk_free tb.out.b3 3
  go_wp2_with fail
  refine bodyPost_ret (v := .tuple #[.agg #[.int .i64 0, .slice none 0 0, .int .i64 0, .int .i64 0], .int .i64 q]) (by simp [results, Tryz.results83, go_sem, y0, y1, y2, y3]) rfl ?_
  exact ⟨tAns_e HE.out ZN.out (frsh_none _), ((((hw0).setCell (by show w.heap.size ≤ w.heap.size + 1 + 1 + 1; omega) _).setCell (by show w.heap.size ≤ w.heap.size + 1 + 1 + 1; omega) _).setCell (by show w.heap.size ≤ w.heap.size + 1 + 1 + 1; omega) _).setCell (by show w.heap.size ≤ w.heap.size + 1 + 1 + 1; omega) _⟩
  }
  have Z1 := hide z1
  rw [z1]
  clear z1
  have k0 := blk_cell tb.out.b0 0 _ rfl
  have p0 := blk_cell tb.out.b1 0 _ rfl
  have p1 := blk_cell tb.out.b1 1 _ rfl
  have p2 := blk_cell tb.out.b1 2 _ rfl
  have p3 := blk_cell tb.out.b1 3 _ rfl
  have o0 := blk_cell tb.out.b2 0 _ rfl
  have o1 := blk_cell tb.out.b2 1 _ rfl
  have hsz := blk_lt tb.out.b3
  have HE2 := hide (takeE_2 (ss := ss) (l := l) (o := o) (now := now) (units := units) Z1.out)
  have HE3 := hide (takeE_3 (ss := ss) (l := l) (o := o) (now := now) (units := units) Z1.out)
  have HE4 := hide (takeE_4 (ss := ss) (l := l) (o := o) (now := now) (units := units) Z1.out)
  generalize allE ss l t o.roots o.rsigs = A at *
  obtain ⟨T, hTT⟩ : ∃ T, T = turnT A t (lastR t.r o.roots) := ⟨_, rfl⟩
  rw [← hTT] at HB
  replace hTT := hide hTT
  go_wp2_with fail
  refine (unhide HB _ hw0).mono ?_
  rintro e w2 ⟨⟨a5, n5, c5, rfl, hi5, hf5⟩, hb⟩
  replace tb := hide (tb.out.below hb)
  replace hw0 := hw0.trans (hb.mono hw0.size)
  have hfar : T.r.ks = [] ∨ ∀ ad, a5 = some ad → ad.block ≠ w.heap.size + 1 := by
    rcases hf5 with ⟨rfl, hr⟩ | hf5
    {
    by_cases hA : A = 0
    {
    have : T.r.ks = t.r.ks := by rw [hTT.out, hA, hr]; rfl
    rw [this]
    exact H2o.out.imp id (fun h ad e => by have := h ad e; omega)
    }
    {
    left
    rw [hTT.out, turnT_no hA]
    rfl
    }
    }
    { exact .inr (fun ad e => by have := hf5 ad e; omega) }
  clear hb HB hf5 hsz H2o k0 o0 o1 p0 p1 p2 p3
  have y0 := blk_cell tb.out.b1 0 _ rfl
  have fy0 := blk_free tb.out.b1 0
  have y1 := blk_cell tb.out.b1 1 _ rfl
  have fy1 := blk_free tb.out.b1 1
  have y2 := blk_cell tb.out.b1 2 _ rfl
  have fy2 := blk_free tb.out.b1 2
  have y3 := blk_cell tb.out.b1 3 _ rfl
  have fy3 := blk_free tb.out.b1 3
  have hiS := (((hi5.set2 _ 0 (.int .i64 T.r.v) hfar).set2 _ 1 (.slice a5 n5 c5) hfar).set2 _ 2 (.int .i64 T.r.t) hfar).set2 _ 3 (.int .i64 T.ver) hfar
  have hwS : Below w.heap.size w ((((w2.setCell ⟨w.heap.size + 1, 0, none⟩ (.int .i64 T.r.v)).setCell ⟨w.heap.size + 1, 1, none⟩ (.slice a5 n5 c5)).setCell ⟨w.heap.size + 1, 2, none⟩ (.int .i64 T.r.t)).setCell ⟨w.heap.size + 1, 3, none⟩ (.int .i64 T.ver)) := ((((hw0).setCell (by show w.heap.size ≤ w.heap.size + 1; omega) _).setCell (by show w.heap.size ≤ w.heap.size + 1; omega) _).setCell (by show w.heap.size ≤ w.heap.size + 1; omega) _).setCell (by show w.heap.size ≤ w.heap.size + 1; omega) _
  have tbS : Hid (TB ((((w2.setCell ⟨w.heap.size + 1, 0, none⟩ (.int .i64 T.r.v)).setCell ⟨w.heap.size + 1, 1, none⟩ (.slice a5 n5 c5)).setCell ⟨w.heap.size + 1, 2, none⟩ (.int .i64 T.r.t)).setCell ⟨w.heap.size + 1, 3, none⟩ (.int .i64 T.ver)) w.heap.size (bkO ab nb cb) (trO T a5 n5 c5) (ofO o.v o.u m) tzO) := ⟨blk_far4 tb.out.b0 (by omega), blk_set4 tb.out.b1, blk_far4 tb.out.b2 (by omega), blk_far4 tb.out.b3 (by omega)⟩
  unfold bkO trO ofO tzO at tbS
  have hk1 := Nat.le_refl 0
  go_upto_region 5 with fail
  generalize (((w2.setCell ⟨w.heap.size + 1, 0, none⟩ (.int .i64 T.r.v)).setCell ⟨w.heap.size + 1, 1, none⟩ (.slice a5 n5 c5)).setCell ⟨w.heap.size + 1, 2, none⟩ (.int .i64 T.r.t)).setCell ⟨w.heap.size + 1, 3, none⟩ (.int .i64 T.ver) = wS at *
  clear tb hw0 hi5 hfar y0 y1 y2 y3 fy0 fy1 fy2 fy3 hk1
  have tb := tbS
  have hw0 := hwS
  clear tbS hwS
  by_cases z2 : A = 0
  rotate_left
  {
  have HE := hide (HE2.out z2)
  have ZN := hide z2
  have hq : (A != 0) = true := by simpa using z2
  clear HC HD z2
  have y0 := blk_cell tb.out.b3 0 _ rfl
  have fy0 := blk_free tb.out.b3 0
  have y1 := blk_cell tb.out.b3 1 _ rfl
  have fy1 := blk_free tb.out.b3 1
  have y2 := blk_cell tb.out.b3 2 _ rfl
  have fy2 := blk_free tb.out.b3 2
  have y3 := blk_cell tb.out.b3 3 _ rfl
  have fy3 := blk_free tb.out.b3 3
  go_wp2_with fail
  refine bodyPost_ret (v := .tuple #[.agg #[.int .i64 0, .slice none 0 0, .int .i64 0, .int .i64 0], .int .i64 A]) (by simp [results, Tryz.results83, go_sem, y0, y1, y2, y3]) rfl ?_
  exact ⟨tAns_e HE.out ZN.out (frsh_none _), ((((hw0).setCell (by show w.heap.size ≤ w.heap.size + 1 + 1 + 1; omega) _).setCell (by show w.heap.size ≤ w.heap.size + 1 + 1 + 1; omega) _).setCell (by show w.heap.size ≤ w.heap.size + 1 + 1 + 1; omega) _).setCell (by show w.heap.size ≤ w.heap.size + 1 + 1 + 1; omega) _⟩
  }
  have hT' : T = ⟨lastR t.r o.roots, t.ver⟩ := by rw [hTT.out, z2]; rfl
  replace HE3 := hide (HE3.out z2)
  replace HE4 := hide (HE4.out z2)
  subst hT'
  rw [z2]
  clear z2 hTT HE2
  generalize hL : lastR t.r o.roots = L at *
  replace hL := hide hL
  have k0 := blk_cell tb.out.b0 0 _ rfl
  have p0 := blk_cell tb.out.b1 0 _ rfl
  have p1 := blk_cell tb.out.b1 1 _ rfl
  have p2 := blk_cell tb.out.b1 2 _ rfl
  have o2 := blk_cell tb.out.b2 2 _ rfl
  have o3 := blk_cell tb.out.b2 3 _ rfl
  have o4 := blk_cell tb.out.b2 4 _ rfl
  have o5 := blk_cell tb.out.b2 5 _ rfl
  go_wp2_with fail
  refine (unhide HC _ L a5 n5 c5 hw0 hiS).mono ?_
  rintro e w3 ⟨rfl, hb⟩
  replace tb := hide (tb.out.below hb)
  replace hw0 := hw0.trans (hb.mono hw0.size)
  replace hiS := hiS.below hb
  clear hb HC k0 p0 p1 p2 o2 o3 o4 o5
  have HK := hide (crE_ok (ss := ss) (l := l) (r := L) (v := o.v) (u := o.u) (ts := o.ts) (sigs := o.sigs))
  generalize crE ss l L o.v o.u o.ts o.sigs = C at *
  by_cases z3 : C = 0
  rotate_left
  {
  have HE := hide (HE3.out z3)
  have ZN := hide z3
  have hq : (C != 0) = true := by simpa using z3
  clear HD z3 HK
  have y0 := blk_cell tb.out.b3 0 _ rfl
  have fy0 := blk_free tb.out.b3 0
  have y1 := blk_cell tb.out.b3 1 _ rfl
  have fy1 := blk_free tb.out.b3 1
  have y2 := blk_cell tb.out.b3 2 _ rfl
  have fy2 := blk_free tb.out.b3 2
  have y3 := blk_cell tb.out.b3 3 _ rfl
  have fy3 := blk_free tb.out.b3 3
  go_wp2_with fail
  refine bodyPost_ret (v := .tuple #[.agg #[.int .i64 0, .slice none 0 0, .int .i64 0, .int .i64 0], .int .i64 C]) (by simp [results, Tryz.results83, go_sem, y0, y1, y2, y3]) rfl ?_
  exact ⟨tAns_e HE.out ZN.out (frsh_none _), ((((hw0).setCell (by show w.heap.size ≤ w.heap.size + 1 + 1 + 1; omega) _).setCell (by show w.heap.size ≤ w.heap.size + 1 + 1 + 1; omega) _).setCell (by show w.heap.size ≤ w.heap.size + 1 + 1 + 1; omega) _).setCell (by show w.heap.size ≤ w.heap.size + 1 + 1 + 1; omega) _⟩
  }
  have hn5 : n5 ≤ 1000 := by
    have h := (rootE_ok (cntE_ok (csE_ok (HK.out z3).2.2).1).2.1).2.1
    have := hiS.len
    omega
  replace HE4 := hide (HE4.out z3)
  rw [z3]
  clear z3 HK HE3
  have p3 := blk_cell tb.out.b1 3 _ rfl
  have o2 := blk_cell tb.out.b2 2 _ rfl
  by_cases z4 : o.v ≤ t.ver
  {
  have HE := hide (HE4.out.trans (restE_1 z4))
  have d4 : decide (o.v ≤ t.ver) = true := by simpa using z4
  clear z4
  have y0 := blk_cell tb.out.b3 0 _ rfl
  have fy0 := blk_free tb.out.b3 0
  have y1 := blk_cell tb.out.b3 1 _ rfl
  have fy1 := blk_free tb.out.b3 1
  have y2 := blk_cell tb.out.b3 2 _ rfl
  have fy2 := blk_free tb.out.b3 2
  have y3 := blk_cell tb.out.b3 3 _ rfl
  have fy3 := blk_free tb.out.b3 3
  go_wp2_with fail
  refine bodyPost_ret (v := .tuple #[.agg #[.int .i64 0, .slice none 0 0, .int .i64 0, .int .i64 0], .int .i64 10]) (by simp [results, Tryz.results83, go_sem, y0, y1, y2, y3]) rfl ?_
  exact ⟨tAns_e HE.out (by decide) (frsh_none _), ((((hw0).setCell (by show w.heap.size ≤ w.heap.size + 1 + 1 + 1; omega) _).setCell (by show w.heap.size ≤ w.heap.size + 1 + 1 + 1; omega) _).setCell (by show w.heap.size ≤ w.heap.size + 1 + 1 + 1; omega) _).setCell (by show w.heap.size ≤ w.heap.size + 1 + 1 + 1; omega) _⟩
  }
  have d4 : decide (o.v ≤ t.ver) = false := by simpa using z4
  have Z4 := hide z4
  clear z4
  have o3 := blk_cell tb.out.b2 3 _ rfl
  by_cases z5 : o.u < now
  {
  have HE := hide (HE4.out.trans (restE_2 Z4.out z5))
  have d5 : decide (o.u < now) = true := by simpa using z5
  clear z5
  have y0 := blk_cell tb.out.b3 0 _ rfl
  have fy0 := blk_free tb.out.b3 0
  have y1 := blk_cell tb.out.b3 1 _ rfl
  have fy1 := blk_free tb.out.b3 1
  have y2 := blk_cell tb.out.b3 2 _ rfl
  have fy2 := blk_free tb.out.b3 2
  have y3 := blk_cell tb.out.b3 3 _ rfl
  have fy3 := blk_free tb.out.b3 3
  go_wp2_with fail
  refine bodyPost_ret (v := .tuple #[.agg #[.int .i64 0, .slice none 0 0, .int .i64 0, .int .i64 0], .int .i64 11]) (by simp [results, Tryz.results83, go_sem, y0, y1, y2, y3]) rfl ?_
  exact ⟨tAns_e HE.out (by decide) (frsh_none _), ((((hw0).setCell (by show w.heap.size ≤ w.heap.size + 1 + 1 + 1; omega) _).setCell (by show w.heap.size ≤ w.heap.size + 1 + 1 + 1; omega) _).setCell (by show w.heap.size ≤ w.heap.size + 1 + 1 + 1; omega) _).setCell (by show w.heap.size ≤ w.heap.size + 1 + 1 + 1; omega) _⟩
  }
  have d5 : decide (o.u < now) = false := by simpa using z5
  have Z5 := hide z5
  clear z5
  have o4 := blk_cell tb.out.b2 4 _ rfl
  have o6 := blk_cell tb.out.b2 6 _ rfl
  by_cases z6 : (m.n3 : Int) = units
  rotate_left
  {
  have HE := hide (HE4.out.trans (restE_3 (by have := Z4.out; omega) (by have := Z5.out; omega) (by rw [L3.out]; exact z6)))
  have d6 : ((m.n3 : Int) != units) = true := by simpa using z6
  clear z6
  have y0 := blk_cell tb.out.b3 0 _ rfl
  have fy0 := blk_free tb.out.b3 0
  have y1 := blk_cell tb.out.b3 1 _ rfl
  have fy1 := blk_free tb.out.b3 1
  have y2 := blk_cell tb.out.b3 2 _ rfl
  have fy2 := blk_free tb.out.b3 2
  have y3 := blk_cell tb.out.b3 3 _ rfl
  have fy3 := blk_free tb.out.b3 3
  go_wp2_with fail
  refine bodyPost_ret (v := .tuple #[.agg #[.int .i64 0, .slice none 0 0, .int .i64 0, .int .i64 0], .int .i64 4]) (by simp [results, Tryz.results83, go_sem, y0, y1, y2, y3]) rfl ?_
  exact ⟨tAns_e HE.out (by decide) (frsh_none _), ((((hw0).setCell (by show w.heap.size ≤ w.heap.size + 1 + 1 + 1; omega) _).setCell (by show w.heap.size ≤ w.heap.size + 1 + 1 + 1; omega) _).setCell (by show w.heap.size ≤ w.heap.size + 1 + 1 + 1; omega) _).setCell (by show w.heap.size ≤ w.heap.size + 1 + 1 + 1; omega) _⟩
  }
  have d6 : ((m.n3 : Int) != units) = false := by simpa using z6
  have Z6 := hide z6
  clear z6
  by_cases z7 : (m.n5 : Int) = units
  rotate_left
  {
  have HE := hide (HE4.out.trans (restE_4 (by have := Z4.out; omega) (by have := Z5.out; omega) (by rw [L3.out]; exact Z6.out) (by rw [L5.out]; exact z7)))
  have d7 : ((m.n5 : Int) != units) = true := by simpa using z7
  clear z7
  have y0 := blk_cell tb.out.b3 0 _ rfl
  have fy0 := blk_free tb.out.b3 0
  have y1 := blk_cell tb.out.b3 1 _ rfl
  have fy1 := blk_free tb.out.b3 1
  have y2 := blk_cell tb.out.b3 2 _ rfl
  have fy2 := blk_free tb.out.b3 2
  have y3 := blk_cell tb.out.b3 3 _ rfl
  have fy3 := blk_free tb.out.b3 3
  go_wp2_with fail
  refine bodyPost_ret (v := .tuple #[.agg #[.int .i64 0, .slice none 0 0, .int .i64 0, .int .i64 0], .int .i64 4]) (by simp [results, Tryz.results83, go_sem, y0, y1, y2, y3]) rfl ?_
  exact ⟨tAns_e HE.out (by decide) (frsh_none _), ((((hw0).setCell (by show w.heap.size ≤ w.heap.size + 1 + 1 + 1; omega) _).setCell (by show w.heap.size ≤ w.heap.size + 1 + 1 + 1; omega) _).setCell (by show w.heap.size ≤ w.heap.size + 1 + 1 + 1; omega) _).setCell (by show w.heap.size ≤ w.heap.size + 1 + 1 + 1; omega) _⟩
  }
  have d7 : ((m.n5 : Int) != units) = false := by simpa using z7
  have Z7 := hide z7
  clear z7
  have k0 := blk_cell tb.out.b0 0 _ rfl
  go_wp2_with fail
  refine (unhide HD _ hw0 (by have := Z6.out; have := Z7.out; omega)).mono ?_
  rintro e w4 ⟨rfl, hb⟩
  replace tb := hide (tb.out.below hb)
  replace hw0 := hw0.trans (hb.mono hw0.size)
  replace hiS := hiS.below hb
  clear hb HD k0 p3 o2 o3 o4 o6
  cases z8 : meantB ss o.ts o.imgs
  {
  have HE := hide (HE4.out.trans (restE_5 (by have := Z4.out; omega) (by have := Z5.out; omega) (by rw [L3.out]; exact Z6.out) (by rw [L5.out]; exact Z7.out) z8))
  clear z8
  have y0 := blk_cell tb.out.b3 0 _ rfl
  have fy0 := blk_free tb.out.b3 0
  have y1 := blk_cell tb.out.b3 1 _ rfl
  have fy1 := blk_free tb.out.b3 1
  have y2 := blk_cell tb.out.b3 2 _ rfl
  have fy2 := blk_free tb.out.b3 2
  have y3 := blk_cell tb.out.b3 3 _ rfl
  have fy3 := blk_free tb.out.b3 3
  go_wp2_with fail
  refine bodyPost_ret (v := .tuple #[.agg #[.int .i64 0, .slice none 0 0, .int .i64 0, .int .i64 0], .int .i64 5]) (by simp [results, Tryz.results83, go_sem, y0, y1, y2, y3]) rfl ?_
  exact ⟨tAns_e HE.out (by decide) (frsh_none _), ((((hw0).setCell (by show w.heap.size ≤ w.heap.size + 1 + 1 + 1; omega) _).setCell (by show w.heap.size ≤ w.heap.size + 1 + 1 + 1; omega) _).setCell (by show w.heap.size ≤ w.heap.size + 1 + 1 + 1; omega) _).setCell (by show w.heap.size ≤ w.heap.size + 1 + 1 + 1; omega) _⟩
  }
  have HE := hide (HE4.out.trans (restE_0 (by have := Z4.out; omega) (by have := Z5.out; omega) (by rw [L3.out]; exact Z6.out) (by rw [L5.out]; exact Z7.out) z8))
  clear z8 HE4
  have p0 := blk_cell tb.out.b1 0 _ rfl
  have p1 := blk_cell tb.out.b1 1 _ rfl
  have p2 := blk_cell tb.out.b1 2 _ rfl
  have o2 := blk_cell tb.out.b2 2 _ rfl
  have hsz := blk_lt tb.out.b3
  have HT := hide (tTrusted_any L a5 n5 c5 o.v w4 hiS hn5)
  unfold rv trv at HT
  go_wp2_with fail
  refine (unhide HT).mono ?_
  rintro e w5 ⟨rfl, hbi, hb⟩
  replace tb := hide (tb.out.below hb)
  have hwE := hw0.trans (hb.mono hw0.size)
  clear hb HT p0 p1 p2 o2
  have y0 := blk_cell tb.out.b3 0 _ rfl
  have fy0 := blk_free tb.out.b3 0
  have y1 := blk_cell tb.out.b3 1 _ rfl
  have fy1 := blk_free tb.out.b3 1
  have y2 := blk_cell tb.out.b3 2 _ rfl
  have fy2 := blk_free tb.out.b3 2
  have y3 := blk_cell tb.out.b3 3 _ rfl
  have fy3 := blk_free tb.out.b3 3
  go_wp2_with fail
  refine bodyPost_ret (v := .tuple #[.agg #[.int .i64 L.v, .slice (some ⟨w4.heap.size + 2, 0, none⟩) n5 n5, .int .i64 L.t, .int .i64 o.v], .int .i64 0]) (by simp [results, Tryz.results83, go_sem, y0, y1, y2, y3]) rfl ?_
  rw [HE.out, show takeT 0 t o = ⟨L, o.v⟩ by rw [← hL.out]; rfl]
  refine ⟨⟨some ⟨w4.heap.size + 2, 0, none⟩, n5, n5, rfl, ?_, fun ad e => by cases e; exact Nat.le_trans hw0.size (by simp)⟩, ((((hwE).setCell (by show w.heap.size ≤ w.heap.size + 1 + 1 + 1; omega) _).setCell (by show w.heap.size ≤ w.heap.size + 1 + 1 + 1; omega) _).setCell (by show w.heap.size ≤ w.heap.size + 1 + 1 + 1; omega) _).setCell (by show w.heap.size ≤ w.heap.size + 1 + 1 + 1; omega) _⟩
  exact (((hbi.set _ 0 _ (by omega)).set _ 1 _ (by omega)).set _ 2 _ (by omega)).set _ 3 _ (by omega)

end Go.Proofs.YtgngpmgjoifepaaGreatDoor

namespace Go.Proofs.YtgngpmgjoifepaaGreatDoor
open Go.RowKit

theorem takeE_ok {ss : List ByteArray} {l : List S2} {t : Tr} {o : Of} {now units : Int} (h : takeE ss l t o now units = 0) :
    trE t = 0 ∧ allE ss l t o.roots o.rsigs = 0 ∧ crE ss l (lastR t.r o.roots) o.v o.u o.ts o.sigs = 0 ∧ restE ss t.ver o now units = 0 := by
  unfold takeE at h
  split at h
  {
  rename_i h1
  split at h
  {
  rename_i h2
  split at h
  {
  rename_i h3
  exact ⟨h1, h2, h3, h⟩
  }
  {
  rename_i h3
  exact absurd h h3
  }
  }
  {
  rename_i h2
  exact absurd h h2
  }
  }
  {
  rename_i h1
  exact absurd h h1

  }
theorem last_ok {ss : List ByteArray} {l : List S2} {t : Tr} {o : Of} {now units : Int} (h : takeE ss l t o now units = 0) {ver : Int} (hv : 0 ≤ ver ∧ ver ≤ 1000) : trE ⟨lastR t.r o.roots, ver⟩ = 0 := by
  have h3 := (crE_ok (takeE_ok h).2.2.1).2.2
  have h4 := (cntE_ok (csE_ok h3).1).2.1
  rw [trE_go (inR_t hv.1 hv.2)]
  exact h4

def sameT (x y : Tr) : Bool := decide (x.ver = y.ver) && (decide (x.r.v = y.r.v) && (decide (x.r.t = y.r.t) && eqL x.r.ks y.r.ks))

end Go.Proofs.YtgngpmgjoifepaaGreatDoor

namespace Go.Proofs.YtgngpmgjoifepaaGreatDoor
open Go.RowKit

def Lk (xs ys : List Int) : Prop := ys.length = xs.length ∨ ys = []
theorem Lk.refl (xs : List Int) : Lk xs xs := .inl rfl
theorem Lk.nil (xs : List Int) : Lk xs [] := .inr rfl
theorem Lk.trans {xs ys zs : List Int} (h : Lk xs ys) (h2 : Lk ys zs) : Lk xs zs := by
  rcases h2 with h2 | h2
  {
  rcases h with h | h
  { exact .inl (h2.trans h) }
  { subst h; exact .inr (List.eq_nil_of_length_eq_zero h2) }
  }
  { exact .inr h2 }
end Go.Proofs.YtgngpmgjoifepaaGreatDoor

namespace Go.Proofs.YtgngpmgjoifepaaGreatDoor
open Go.RowKit
attribute [local go_sem ↓] Go.wp_at_zero Go.wp_at_succ

theorem IsMsgs.ne {w : World} {a : Option Addr} {l : List Ms} (h : IsMsgs w a l) {b : Nat} (ho : l = [] ∨ Off b a) (i : Nat) (v : Value) : IsMsgs (w.setCell ⟨b, i, none⟩ v) a l := by
  rcases ho with e | ho
  { exact .inl e }
  {
  rcases h with h | ⟨g, rfl, hc⟩
  { exact .inl h }
  {
  have hne : g ≠ b := ho _ rfl
  refine .inr ⟨g, rfl, fun j m hj => ?_⟩
  obtain ⟨h0, h1, h2, h3, h4, h5, h6, h7⟩ := hc j m hj
  have hg : w.grownBy (w.setCell ⟨b, i, none⟩ v) (some b) := turns_set1 w b i v
  have hx : ∀ k u, w.cell? ⟨g, k, none⟩ = some u → (w.setCell ⟨b, i, none⟩ v).cell? ⟨g, k, none⟩ = some u := fun k u h => hg.cell h (fun e => hne (by cases e; rfl))
  exact ⟨h0, hx _ _ h1, hx _ _ h2, hx _ _ h3, hx _ _ h4, hx _ _ h5, hx _ _ h6, hx _ _ h7⟩
  }
  }
theorem BW.ne {w : World} {a : Option Addr} {n c : Nat} {xs : List Int} (h : BW w a n c xs) {b : Nat} (ho : xs = [] ∨ Off b a) (i : Nat) (v : Value) : BW (w.setCell ⟨b, i, none⟩ v) a n c xs := by
  refine ⟨?_, h.len, h.cap, h.max⟩
  rcases ho with e | ho
  { exact .inl e }
  {
  exact ints_turns h.at_ (turns_set1 w b i v) ho

  }
end Go.Proofs.YtgngpmgjoifepaaGreatDoor

namespace Go.Proofs.YtgngpmgjoifepaaGreatDoor
open Go.RowKit

/-! ### What records say -/
structure GsOk (s : Gs) : Prop where
  n : 0 ≤ s.n ∧ s.n ≤ 8
  none : s.n = 0 → s = gs0
  one : s.co = true → s.ab = false
  en : s.en = true → decG s = true
theorem gsOk0 : GsOk gs0 := ⟨by decide, fun _ => rfl, fun h => (by cases h), fun h => (by cases h)⟩
theorem gsOk_trn {s : Gs} (h : GsOk s) (hn : s.n ≠ 0) (k : Int) : GsOk (trnG s k) := by
  obtain ⟨h1, h2, h3, h4⟩ := h
  cases s with
  | mk n v co ab en =>
    unfold trnG decG at *
    simp only at *
    split
    { refine ⟨h1, fun e => absurd e hn, ?_, ?_⟩ <;> cases co <;> cases ab <;> cases en <;> simp_all [decG] }
    {
    split
    { refine ⟨h1, fun e => absurd e hn, ?_, ?_⟩ <;> cases co <;> cases ab <;> cases en <;> simp_all [decG] }
    {
    split
    { refine ⟨h1, fun e => absurd e hn, ?_, ?_⟩ <;> cases co <;> cases ab <;> cases en <;> simp_all [decG] }
    { exact ⟨h1, h2, h3, h4⟩ }
    }
    }
theorem isBeg_n {r : List Int} (h : isBeg r = true) : 1 ≤ r.getD 1 0 ∧ r.getD 1 0 ≤ 8 := by
  unfold isBeg inB at h
  simp at h
  simpa using h.2.2
theorem gsOk_next {s : Gs} (h : GsOk s) (r : List Int) : GsOk (gNext s r) := by
  unfold gNext
  split
  {
  rename_i hb
  have := isBeg_n hb
  exact ⟨⟨by show (0 : Int) ≤ r.getD 1 0; omega, this.2⟩, fun e => by have e : r.getD 1 0 = 0 := e; omega, fun h => (by cases h), fun h => (by cases h)⟩
  }
  {
  split
  {
  rename_i _ ho
  refine gsOk_trn h ?_ _
  unfold isOf at ho
  simp at ho
  exact ho.2.1
  }
  { exact h }
  }
theorem gsOk_R (rs : List (List Int)) : GsOk (gR rs) := by
  unfold gR
  have key : ∀ (rs : List (List Int)) (s : Gs), GsOk s → GsOk (rs.foldl gNext s) := by
    intro rs
    induction rs with
    | nil => exact fun s h => h
    | cons r rs ih => exact fun s h => ih _ (gsOk_next h r)
  exact key rs gs0 gsOk0
theorem gsOk_of (ws : List Int) : GsOk (gOf ws) := gsOk_R _
end Go.Proofs.YtgngpmgjoifepaaGreatDoor
