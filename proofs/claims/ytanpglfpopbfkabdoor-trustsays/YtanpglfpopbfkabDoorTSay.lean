/- The law TrustSays, walked. -/
import Derived.Test.YtanpglfpopbfkabDoorTRfK
import Derived.Test.YtanpglfpopbfkabDoorTSam
import Derived.Test.YtanpglfpopbfkabDoorTFct
namespace Go.Proofs.YtanpglfpopbfkabDoor
open Go.RowKit

theorem keepX {w1 W : World} {B X Y : Nat} {o0 o2 : Obj} {t tx ty : Tr} {a2 : Option Addr} {n2 c2 : Nat} {xa : Option Addr} {xn xc : Nat} {ya : Option Addr} {yn yc : Nat} (hb : Below w1.heap.size w1 W) (h : TB3 w1 B o0 (trO t a2 n2 c2) o2) (hX : w1.heap[X]? = some (trO tx xa xn xc)) (hY : w1.heap[Y]? = some (trO ty ya yn yc)) :
    W.cell? ⟨B + 1, 0, none⟩ = some (.int .i64 t.r.v) ∧ W.cell? ⟨B + 1, 1, none⟩ = some (.slice a2 n2 c2) ∧ W.cell? ⟨B + 1, 2, none⟩ = some (.int .i64 t.r.t) ∧ W.cell? ⟨B + 1, 3, none⟩ = some (.int .i64 t.ver) ∧
    W.cell? ⟨X, 0, none⟩ = some (.int .i64 tx.r.v) ∧ W.cell? ⟨X, 1, none⟩ = some (.slice xa xn xc) ∧ W.cell? ⟨X, 2, none⟩ = some (.int .i64 tx.r.t) ∧ W.cell? ⟨X, 3, none⟩ = some (.int .i64 tx.ver) ∧
    W.cell? ⟨Y, 0, none⟩ = some (.int .i64 ty.r.v) ∧ W.cell? ⟨Y, 1, none⟩ = some (.slice ya yn yc) ∧ W.cell? ⟨Y, 2, none⟩ = some (.int .i64 ty.r.t) ∧ W.cell? ⟨Y, 3, none⟩ = some (.int .i64 ty.ver) ∧ Below w1.heap.size w1 W := by
  have h' := h.below hb
  have hX' := blk_below hX hb
  have hY' := blk_below hY hb
  exact ⟨blk_cell h'.b1 0 _ rfl, blk_cell h'.b1 1 _ rfl, blk_cell h'.b1 2 _ rfl, blk_cell h'.b1 3 _ rfl, blk_cell hX' 0 _ rfl, blk_cell hX' 1 _ rfl, blk_cell hX' 2 _ rfl, blk_cell hX' 3 _ rfl, blk_cell hY' 0 _ rfl, blk_cell hY' 1 _ rfl, blk_cell hY' 2 _ rfl, blk_cell hY' 3 _ rfl, hb⟩

theorem keepY {w1 W : World} {B b3 o3 : Nat} {ab : Option Addr} {nb cb : Nat} {t : Tr} {a2 : Option Addr} {n2 c2 : Nat} {v u : Int} {m : OA} {x : Rt} {ax : Option Addr} {nx cx : Nat} (hb : Below w1.heap.size w1 W) (h : TB3 w1 B (bkO ab nb cb) (trO t a2 n2 c2) (ofO v u m))
    (e0 : w1.cell? ⟨b3, o3, none⟩ = some (.int .i64 x.v)) (e1 : w1.cell? ⟨b3, o3 + 1, none⟩ = some (.slice ax nx cx)) (e2 : w1.cell? ⟨b3, o3 + 2, none⟩ = some (.int .i64 x.t)) (hm1 : m.a1 = some ⟨b3, o3, none⟩) :
    W.cell? ⟨B, 0, none⟩ = some (.slice ab nb cb) ∧ W.cell? ⟨B + 1, 0, none⟩ = some (.int .i64 t.r.v) ∧ W.cell? ⟨B + 1, 1, none⟩ = some (.slice a2 n2 c2) ∧ W.cell? ⟨B + 1, 2, none⟩ = some (.int .i64 t.r.t) ∧ W.cell? ⟨B + 1, 3, none⟩ = some (.int .i64 t.ver) ∧
    W.cell? ⟨B + 1 + 1, 0, none⟩ = some (.slice (some ⟨b3, o3, none⟩) m.n1 m.c1) ∧ W.cell? ⟨B + 1 + 1, 5, none⟩ = some (.slice m.a4 m.n4 m.c4) ∧
    W.cell? ⟨b3, o3, none⟩ = some (.int .i64 x.v) ∧ W.cell? ⟨b3, o3 + 1, none⟩ = some (.slice ax nx cx) ∧ W.cell? ⟨b3, o3 + 2, none⟩ = some (.int .i64 x.t) ∧ Below w1.heap.size w1 W := by
  have h' := h.below hb
  rw [← hm1]
  exact ⟨blk_cell h'.b0 0 _ rfl, blk_cell h'.b1 0 _ rfl, blk_cell h'.b1 1 _ rfl, blk_cell h'.b1 2 _ rfl, blk_cell h'.b1 3 _ rfl, blk_cell h'.b2 0 _ rfl, blk_cell h'.b2 5 _ rfl, by rw [hb.cell (cell_lt e0)]; exact e0, by rw [hb.cell (cell_lt e1)]; exact e1, by rw [hb.cell (cell_lt e2)]; exact e2, hb⟩

set_option maxHeartbeats 12800000 in
set_option maxRecDepth 100000 in
theorem trustSays_walk (ab : Option Addr) (nb cb : Nat) (ss : List ByteArray) (a1 : Option Addr) (n1 c1 : Nat) (l : List S2) (t : Tr) (a2 : Option Addr) (n2 c2 : Nat) (o : Of) (m : OA) (now units name : Int) (w : World)
    (h0 : BB w ab nb cb ss) (h1 : BG w a1 n1 l) (h2 : BI w a2 n2 t.r.ks) (h3 : BO w m o) (hwf : ∀ k ∈ o.sigs, WfI k) (hwr : ∀ s ∈ o.rsigs, ∀ k ∈ s, WfI k) (hT : Tab w) :
    Calls Tryd.prog 6 #[bookv ab nb cb, .slice a1 n1 c1, trv t.r.v a2 n2 c2 t.r.t t.ver, offv o.v o.u m, .int .i64 now, .int .i64 units, .int .i64 name] w fun e w' => e = .returned (.bool true) ∧ Below w.heap.size w w' := by
  have hw0 : Below w.heap.size w (((w.alloc (bkO ab nb cb)).alloc (trO t a2 n2 c2)).alloc (ofO o.v o.u m)) := (((Below.refl _ _).alloc (Nat.le_refl _) _).alloc (by simp) _).alloc (by simp; omega) _
  have tb : Hid (TB3 (((w.alloc (bkO ab nb cb)).alloc (trO t a2 n2 c2)).alloc (ofO o.v o.u m)) w.heap.size (bkO ab nb cb) (trO t a2 n2 c2) (ofO o.v o.u m)) :=
    ⟨blk_alloc (blk_alloc (heap_alloc_last _ _) _) _, blk_alloc (last1 _ _ _) _, last2 _ _ _ _⟩
  have HA := hide (fun W (hW : Below w.heap.size w W) => take_any ab nb cb ss a1 n1 c1 l t a2 n2 c2 o m now units W (h0.below hW) (h1.below hW) (h2.below hW) (h3.below hW) (hT.below hW))
  have HB := hide (fun W (hW : Below w.heap.size w W) => refTaken_any ab nb cb ss a1 n1 c1 l t a2 n2 c2 o m now units W (h0.below hW) (h1.below hW) (h2.below hW) (h3.below hW) hwf hwr (hT.below hW))
  have HF := hide (fun W (hW : Below w.heap.size w W) => lawTrusted_any W (hT.below hW))
  have HC := hide (fun W (hW : Below w.heap.size w W) => count_any a1 n1 c1 l t.r a2 n2 c2 m.a4 m.n4 m.c4 o.sigs name W (h1.below hW) (h2.below hW) (h3.below hW).sigs)
  have HD := hide (fun W (hW : Below w.heap.size w W) => refCounted_any a1 n1 c1 l t.r a2 n2 c2 m.a4 m.n4 m.c4 o.sigs name W (h1.below hW) (h2.below hW) (h3.below hW).sigs hwf)
  have HS1 := hide (fun W (hW : Below w.heap.size w W) => checkSigned_any a1 n1 c1 l W (h1.below hW))
  have HS2 := hide (fun W (hW : Below w.heap.size w W) => refCheckSigned_any a1 n1 c1 l W (h1.below hW))
  have HT1 := hide (fun W (hW : Below w.heap.size w W) => checkTrust_any t a2 n2 c2 W (h2.below hW))
  have HT2 := hide (fun W (hW : Below w.heap.size w W) => refCheckTrust_any t a2 n2 c2 W (h2.below hW))
  have HU1 := hide (fun W x ax nx cx (hW : Below w.heap.size w W) (hx : BI W ax nx x.ks) => turn_any ab nb cb ss a1 n1 c1 l t a2 n2 c2 x ax nx cx m.a4 m.n4 m.c4 o.sigs W (h0.below hW) (h1.below hW) (h2.below hW) hx (h3.below hW).sigs (hT.below hW))
  have HU2 := hide (fun W x ax nx cx (hW : Below w.heap.size w W) (hx : BI W ax nx x.ks) => refTurned_any ab nb cb ss a1 n1 c1 l t a2 n2 c2 x ax nx cx m.a4 m.n4 m.c4 o.sigs W (h0.below hW) (h1.below hW) (h2.below hW) hx (h3.below hW).sigs hwf (hT.below hW))
  have H3 := hide h3
  have L1 := hide h3.roots.len
  have m1 := h3.roots.max
  unfold maxLen at m1
  unfold trv rv bookv offv TAns at *
  unfold trv at HA HB HU1 HU2
  clear h0 h1 h2 h3 hT hwf hwr
  unfold bkO trO ofO at hw0 tb
  go_enter Tryd.func6, Tryd.ntmps6
  have p0 := blk_cell tb.out.b1 0 _ rfl
  have p1 := blk_cell tb.out.b1 1 _ rfl
  have p2 := blk_cell tb.out.b1 2 _ rfl
  have o5 := blk_cell tb.out.b2 5 _ rfl
  go_wp2_with fail
  generalize ((w.alloc (.cells #[.slice ab nb cb] 24)).alloc (.cells #[.int .i64 t.r.v, .slice a2 n2 c2, .int .i64 t.r.t, .int .i64 t.ver] 53)).alloc (.cells #[.slice m.a1 m.n1 m.c1, .slice m.a2 m.n2 m.c2, .int .i64 o.v, .int .i64 o.u, .slice m.a3 m.n3 m.c3, .slice m.a4 m.n4 m.c4, .slice m.a5 m.n5 m.c5] 57) = W at *
  refine (unhide HC _ hw0).mono ?_
  rintro e w1 ⟨rfl, hb⟩
  replace tb := hide (tb.out.below hb)
  replace hw0 := hw0.trans (hb.mono hw0.size)
  clear hb HC p0 p1 p2 o5
  generalize cntV l t.r o.sigs name = cv at *
  generalize cntE l t.r o.sigs = ce at *
  have k0 := blk_cell tb.out.b0 0 _ rfl
  have p0 := blk_cell tb.out.b1 0 _ rfl
  have p1 := blk_cell tb.out.b1 1 _ rfl
  have p2 := blk_cell tb.out.b1 2 _ rfl
  have p3 := blk_cell tb.out.b1 3 _ rfl
  have o0 := blk_cell tb.out.b2 0 _ rfl
  have o1 := blk_cell tb.out.b2 1 _ rfl
  have o2 := blk_cell tb.out.b2 2 _ rfl
  have o3 := blk_cell tb.out.b2 3 _ rfl
  have o4 := blk_cell tb.out.b2 4 _ rfl
  have o5 := blk_cell tb.out.b2 5 _ rfl
  have o6 := blk_cell tb.out.b2 6 _ rfl
  go_wp2_with fail
  refine (unhide HA _ hw0).mono ?_
  clear HA k0 p0 p1 p2 p3 o0 o1 o2 o3 o4 o5 o6
  rintro e w2 ⟨⟨xa, xn, xc, rfl, hxi, _⟩, hb⟩
  generalize takeE ss l t o now units = te at *
  generalize takeT te t o = X at *
  have hbA := below_new hb (.cells #[.int .i64 X.r.v, .slice xa xn xc, .int .i64 X.r.t, .int .i64 X.ver] 53)
  replace tb := hide (tb.out.below hbA)
  replace hw0 := hw0.trans (hbA.mono hw0.size)
  have bX : Hid ((w2.alloc (.cells #[.int .i64 X.r.v, .slice xa xn xc, .int .i64 X.r.t, .int .i64 X.ver] 53)).heap[w2.heap.size]? = some (trO X xa xn xc)) := heap_alloc_last w2 (trO X xa xn xc)
  replace hxi := hxi.below ((Below.refl _ _).alloc (Nat.le_refl _) (.cells #[.int .i64 X.r.v, .slice xa xn xc, .int .i64 X.r.t, .int .i64 X.ver] 53))
  clear hb hbA
  have p0 := blk_cell tb.out.b1 0 _ rfl
  have p1 := blk_cell tb.out.b1 1 _ rfl
  have p2 := blk_cell tb.out.b1 2 _ rfl
  have o5 := blk_cell tb.out.b2 5 _ rfl
  go_wp2_with fail
  generalize w2.alloc (.cells #[.int .i64 X.r.v, .slice xa xn xc, .int .i64 X.r.t, .int .i64 X.ver] 53) = WA at *
  obtain ⟨xb, hxb⟩ : ∃ xb, xb = w2.heap.size := ⟨_, rfl⟩
  rw [← hxb] at bX ⊢
  clear hxb
  refine (unhide HD _ hw0).mono ?_
  rintro e w3 ⟨rfl, hb⟩
  replace tb := hide (tb.out.below hb)
  replace bX := hide (blk_below bX.out hb)
  replace hxi := hxi.below hb
  replace hw0 := hw0.trans (hb.mono hw0.size)
  clear hb HD p0 p1 p2 o5
  have k0 := blk_cell tb.out.b0 0 _ rfl
  have p0 := blk_cell tb.out.b1 0 _ rfl
  have p1 := blk_cell tb.out.b1 1 _ rfl
  have p2 := blk_cell tb.out.b1 2 _ rfl
  have p3 := blk_cell tb.out.b1 3 _ rfl
  have o0 := blk_cell tb.out.b2 0 _ rfl
  have o1 := blk_cell tb.out.b2 1 _ rfl
  have o2 := blk_cell tb.out.b2 2 _ rfl
  have o3 := blk_cell tb.out.b2 3 _ rfl
  have o4 := blk_cell tb.out.b2 4 _ rfl
  have o5 := blk_cell tb.out.b2 5 _ rfl
  have o6 := blk_cell tb.out.b2 6 _ rfl
  go_wp2_with fail
  refine (unhide HB _ hw0).mono ?_
  clear HB k0 p0 p1 p2 p3 o0 o1 o2 o3 o4 o5 o6
  rintro e w4 ⟨⟨ya, yn, yc, rfl, hyi, _⟩, hb⟩
  have hbA := below_new hb (.cells #[.int .i64 X.r.v, .slice ya yn yc, .int .i64 X.r.t, .int .i64 X.ver] 53)
  replace tb := hide (tb.out.below hbA)
  replace bX := hide (blk_below bX.out hbA)
  replace hxi := hxi.below hbA
  replace hw0 := hw0.trans (hbA.mono hw0.size)
  have bY : Hid ((w4.alloc (.cells #[.int .i64 X.r.v, .slice ya yn yc, .int .i64 X.r.t, .int .i64 X.ver] 53)).heap[w4.heap.size]? = some (trO X ya yn yc)) := heap_alloc_last w4 (trO X ya yn yc)
  replace hyi := hyi.below ((Below.refl _ _).alloc (Nat.le_refl _) (.cells #[.int .i64 X.r.v, .slice ya yn yc, .int .i64 X.r.t, .int .i64 X.ver] 53))
  clear hb hbA
  go_upto_region 5 with fail
  generalize w4.alloc (.cells #[.int .i64 X.r.v, .slice ya yn yc, .int .i64 X.r.t, .int .i64 X.ver] 53) = wP at *
  obtain ⟨yb, hyb⟩ : ∃ yb, yb = w4.heap.size := ⟨_, rfl⟩
  rw [← hyb] at bY ⊢
  clear hyb
  have HSm := hide (fun W' (hW : Below wP.heap.size wP W') => sameTrust_any X X xa xn xc ya yn yc W' (hxi.below hW) (hyi.below hW))
  rw [sameT_refl] at HSm
  unfold trv at HSm
  generalize sigE l = se at *
  generalize trE t = re at *
  have q1 : (se != se) = false := by simp
  have q2 : (re != re) = false := by simp
  have q3 : (cv != cv) = false := by simp
  have q4 : (ce != ce) = false := by simp
  have q5 : (te != te) = false := by simp
  refine wp_region_held_drew (S := fun w' => w'.cell? ⟨w.heap.size + 1, 0, none⟩ = some (.int .i64 t.r.v) ∧ w'.cell? ⟨w.heap.size + 1, 1, none⟩ = some (.slice a2 n2 c2) ∧ w'.cell? ⟨w.heap.size + 1, 2, none⟩ = some (.int .i64 t.r.t) ∧ w'.cell? ⟨w.heap.size + 1, 3, none⟩ = some (.int .i64 t.ver) ∧ w'.cell? ⟨xb, 0, none⟩ = some (.int .i64 X.r.v) ∧ w'.cell? ⟨xb, 1, none⟩ = some (.slice xa xn xc) ∧ w'.cell? ⟨xb, 2, none⟩ = some (.int .i64 X.r.t) ∧ w'.cell? ⟨xb, 3, none⟩ = some (.int .i64 X.ver) ∧ w'.cell? ⟨yb, 0, none⟩ = some (.int .i64 X.r.v) ∧ w'.cell? ⟨yb, 1, none⟩ = some (.slice ya yn yc) ∧ w'.cell? ⟨yb, 2, none⟩ = some (.int .i64 X.r.t) ∧ w'.cell? ⟨yb, 3, none⟩ = some (.int .i64 X.ver) ∧ Below wP.heap.size wP w') (by kernel_rfl) (keepX (Below.refl _ _).drew tb.out bX.out bY.out) ?_
  intro hHeld
  refine wpAnyH_ready (rs := [0]) (by kernel_rfl) (by simp) ?_
  refine AllReadyH.cons (by simp only [List.getElem?_toArray, List.getElem?_cons_zero]; rfl) (fun K hK => ?_) AllReadyH.nil
  go_simp
  have hk := hHeld.2.2.2.2.2.2.2.2.2.2.2.2
  refine (unhide HF _ (hw0.trans (hk.mono hw0.size))).mono ?_
  rintro e w5 ⟨rfl, hb⟩
  replace hk := hk.trans (hb.mono hk.size)
  clear hb
  go_wp2_with fail
  refine hK.out _ _ (keepX hk tb.out bX.out bY.out) (fun hHeld => ?_)
  clear hK K
  try simp only [Act.put, List.setIfInBounds_toArray, List.set_cons_zero, List.set_cons_succ]
  refine wpAnyH_take (i := 1) (v := ?_) (by simp only [List.getElem?_toArray, List.getElem?_cons_zero, List.getElem?_cons_succ]; rfl) (by kernel_rfl) (by kernel_rfl) (by kernel_rfl) (by exact fun _ _ _ h => h) (Or.inl ⟨by rfl, ?_⟩) (by assumption) ?_
  rotate_left
  · intro w hSw
    try dsimp only at hSw
    go_simp
    try with_reducible rfl
  try simp only [Act.put, List.setIfInBounds_toArray, List.set_cons_zero, List.set_cons_succ]
  refine wpAnyH_take (i := 2) (v := ?_) (by simp only [List.getElem?_toArray, List.getElem?_cons_zero, List.getElem?_cons_succ]; rfl) (by kernel_rfl) (by kernel_rfl) (by kernel_rfl) (by exact fun _ _ _ h => h) (Or.inl ⟨by rfl, ?_⟩) (by assumption) ?_
  rotate_left
  · intro w hSw
    try dsimp only at hSw
    go_simp
    try with_reducible rfl
  try simp only [Act.put, List.setIfInBounds_toArray, List.set_cons_zero, List.set_cons_succ]
  refine wpAnyH_take (i := 3) (v := ?_) (by simp only [List.getElem?_toArray, List.getElem?_cons_zero, List.getElem?_cons_succ]; rfl) (by kernel_rfl) (by kernel_rfl) (by kernel_rfl) (by exact fun _ _ _ h => h) (Or.inl ⟨by rfl, ?_⟩) (by assumption) ?_
  rotate_left
  · intro w hSw
    try dsimp only at hSw
    go_simp
    try with_reducible rfl
  try simp only [Act.put, List.setIfInBounds_toArray, List.set_cons_zero, List.set_cons_succ]
  refine wpAnyH_take (i := 5) (v := ?_) (by simp only [List.getElem?_toArray, List.getElem?_cons_zero, List.getElem?_cons_succ]; rfl) (by kernel_rfl) (by kernel_rfl) (by kernel_rfl) (by exact fun _ _ _ h => h) (Or.inl ⟨by rfl, ?_⟩) (by assumption) ?_
  rotate_left
  · intro w hSw
    try dsimp only at hSw
    go_simp
    try with_reducible rfl
  try simp only [Act.put, List.setIfInBounds_toArray, List.set_cons_zero, List.set_cons_succ]
  refine wpAnyH_ready (rs := [4]) (by kernel_rfl) (by simp) ?_
  refine AllReadyH.cons (by simp only [List.getElem?_toArray, List.getElem?_cons_zero, List.getElem?_cons_succ]; rfl) (fun K hK => ?_) AllReadyH.nil
  go_simp
  refine (unhide HS1 _ (hw0.trans (hk.mono hw0.size))).mono ?_
  rintro e w6 ⟨rfl, hb⟩
  replace hk := hk.trans (hb.mono hk.size)
  clear hb
  go_wp2_with fail
  refine hK.out _ _ (keepX hk tb.out bX.out bY.out) (fun hHeld => ?_)
  clear hK K
  try simp only [Act.put, List.setIfInBounds_toArray, List.set_cons_zero, List.set_cons_succ]
  refine wpAnyH_ready (rs := [6]) (by kernel_rfl) (by simp) ?_
  refine AllReadyH.cons (by simp only [List.getElem?_toArray, List.getElem?_cons_zero, List.getElem?_cons_succ]; rfl) (fun K hK => ?_) AllReadyH.nil
  go_simp
  refine (unhide HS2 _ (hw0.trans (hk.mono hw0.size))).mono ?_
  rintro e w7 ⟨rfl, hb⟩
  replace hk := hk.trans (hb.mono hk.size)
  clear hb
  go_wp2_with fail
  refine hK.out _ _ (keepX hk tb.out bX.out bY.out) (fun hHeld => ?_)
  clear hK K
  try simp only [Act.put, List.setIfInBounds_toArray, List.set_cons_zero, List.set_cons_succ]
  refine wpAnyH_take (i := 7) (v := ?_) (by simp only [List.getElem?_toArray, List.getElem?_cons_zero, List.getElem?_cons_succ]; rfl) (by kernel_rfl) (by kernel_rfl) (by kernel_rfl) (by exact fun _ _ _ h => h) (Or.inl ⟨by rfl, ?_⟩) (by assumption) ?_
  rotate_left
  · intro w hSw
    try dsimp only at hSw
    go_simp
    try with_reducible rfl
  try simp only [Act.put, List.setIfInBounds_toArray, List.set_cons_zero, List.set_cons_succ]
  refine wpAnyH_take (i := 8) (v := ?_) (by simp only [List.getElem?_toArray, List.getElem?_cons_zero, List.getElem?_cons_succ]; rfl) (by kernel_rfl) (by kernel_rfl) (by kernel_rfl) (by exact fun _ _ _ h => h) (Or.inl ⟨by rfl, ?_⟩) (by assumption) ?_
  rotate_left
  · intro w hSw
    try dsimp only at hSw
    go_simp
    try with_reducible rfl
  try simp only [Act.put, List.setIfInBounds_toArray, List.set_cons_zero, List.set_cons_succ]
  refine wpAnyH_take (i := 9) (v := ?_) (by simp only [List.getElem?_toArray, List.getElem?_cons_zero, List.getElem?_cons_succ]; rfl) (by kernel_rfl) (by kernel_rfl) (by kernel_rfl) (by exact fun _ _ _ h => h) (Or.inl ⟨by rfl, ?_⟩) (by assumption) ?_
  rotate_left
  · intro w hSw
    try dsimp only at hSw
    go_simp
    try with_reducible rfl
  try simp only [Act.put, List.setIfInBounds_toArray, List.set_cons_zero, List.set_cons_succ]
  refine wpAnyH_take (i := 10) (v := ?_) (by simp only [List.getElem?_toArray, List.getElem?_cons_zero, List.getElem?_cons_succ]; rfl) (by kernel_rfl) (by kernel_rfl) (by kernel_rfl) (by exact fun _ _ _ h => h) (Or.inl ⟨by rfl, ?_⟩) (by assumption) ?_
  rotate_left
  · intro w hSw
    try dsimp only at hSw
    go_simp
    try with_reducible rfl
  try simp only [Act.put, List.setIfInBounds_toArray, List.set_cons_zero, List.set_cons_succ]
  refine wpAnyH_take (i := 12) (v := ?_) (by simp only [List.getElem?_toArray, List.getElem?_cons_zero, List.getElem?_cons_succ]; rfl) (by kernel_rfl) (by kernel_rfl) (by kernel_rfl) (by exact fun _ _ _ h => h) (Or.inl ⟨by rfl, ?_⟩) (by assumption) ?_
  rotate_left
  · intro w hSw
    try dsimp only at hSw
    go_simp
    try with_reducible rfl
  try simp only [Act.put, List.setIfInBounds_toArray, List.set_cons_zero, List.set_cons_succ]
  refine wpAnyH_ready (rs := [11]) (by kernel_rfl) (by simp) ?_
  refine AllReadyH.cons (by simp only [List.getElem?_toArray, List.getElem?_cons_zero, List.getElem?_cons_succ]; rfl) (fun K hK => ?_) AllReadyH.nil
  go_simp
  refine (unhide HT1 _ (hw0.trans (hk.mono hw0.size))).mono ?_
  rintro e w8 ⟨rfl, hb⟩
  replace hk := hk.trans (hb.mono hk.size)
  clear hb
  go_wp2_with fail
  refine hK.out _ _ (keepX hk tb.out bX.out bY.out) (fun hHeld => ?_)
  clear hK K
  try simp only [Act.put, List.setIfInBounds_toArray, List.set_cons_zero, List.set_cons_succ]
  refine wpAnyH_ready (rs := [13]) (by kernel_rfl) (by simp) ?_
  refine AllReadyH.cons (by simp only [List.getElem?_toArray, List.getElem?_cons_zero, List.getElem?_cons_succ]; rfl) (fun K hK => ?_) AllReadyH.nil
  go_simp
  refine (unhide HT2 _ (hw0.trans (hk.mono hw0.size))).mono ?_
  rintro e w9 ⟨rfl, hb⟩
  replace hk := hk.trans (hb.mono hk.size)
  clear hb
  go_wp2_with fail
  refine hK.out _ _ (keepX hk tb.out bX.out bY.out) (fun hHeld => ?_)
  clear hK K
  try simp only [Act.put, List.setIfInBounds_toArray, List.set_cons_zero, List.set_cons_succ]
  refine wpAnyH_take (i := 14) (v := ?_) (by simp only [List.getElem?_toArray, List.getElem?_cons_zero, List.getElem?_cons_succ]; rfl) (by kernel_rfl) (by kernel_rfl) (by kernel_rfl) (by exact fun _ _ _ h => h) (Or.inl ⟨by rfl, ?_⟩) (by assumption) ?_
  rotate_left
  · intro w hSw
    try dsimp only at hSw
    go_simp
    try with_reducible rfl
  try simp only [Act.put, List.setIfInBounds_toArray, List.set_cons_zero, List.set_cons_succ]
  refine wpAnyH_take (i := 15) (v := ?_) (by simp only [List.getElem?_toArray, List.getElem?_cons_zero, List.getElem?_cons_succ]; rfl) (by kernel_rfl) (by kernel_rfl) (by kernel_rfl) (by exact fun _ _ _ h => h) (Or.inl ⟨by rfl, ?_⟩) (by assumption) ?_
  rotate_left
  · intro w hSw
    try dsimp only at hSw
    go_simp
    try with_reducible rfl
  try simp only [Act.put, List.setIfInBounds_toArray, List.set_cons_zero, List.set_cons_succ]
  refine wpAnyH_take (i := 16) (v := ?_) (by simp only [List.getElem?_toArray, List.getElem?_cons_zero, List.getElem?_cons_succ]; rfl) (by kernel_rfl) (by kernel_rfl) (by kernel_rfl) (by exact fun _ _ _ h => h) (Or.inl ⟨by rfl, ?_⟩) (by assumption) ?_
  rotate_left
  · intro w hSw
    try dsimp only at hSw
    go_simp
    try with_reducible rfl
  try simp only [Act.put, List.setIfInBounds_toArray, List.set_cons_zero, List.set_cons_succ]
  refine wpAnyH_take (i := 17) (v := ?_) (by simp only [List.getElem?_toArray, List.getElem?_cons_zero, List.getElem?_cons_succ]; rfl) (by kernel_rfl) (by kernel_rfl) (by kernel_rfl) (by exact fun _ _ _ h => h) (Or.inl ⟨by rfl, ?_⟩) (by assumption) ?_
  rotate_left
  · intro w hSw
    try dsimp only at hSw
    go_simp
    try with_reducible rfl
  try simp only [Act.put, List.setIfInBounds_toArray, List.set_cons_zero, List.set_cons_succ]
  refine wpAnyH_take (i := 18) (v := ?_) (by simp only [List.getElem?_toArray, List.getElem?_cons_zero, List.getElem?_cons_succ]; rfl) (by kernel_rfl) (by kernel_rfl) (by kernel_rfl) (by exact fun _ _ _ h => h) (Or.inl ⟨by rfl, ?_⟩) (by assumption) ?_
  rotate_left
  · intro w hSw
    try dsimp only at hSw
    go_simp
    try with_reducible rfl
  try simp only [Act.put, List.setIfInBounds_toArray, List.set_cons_zero, List.set_cons_succ]
  refine wpAnyH_take (i := 19) (v := ?_) (by simp only [List.getElem?_toArray, List.getElem?_cons_zero, List.getElem?_cons_succ]; rfl) (by kernel_rfl) (by kernel_rfl) (by kernel_rfl) (by exact fun _ _ _ h => h) (Or.inl ⟨by rfl, ?_⟩) (by assumption) ?_
  rotate_left
  · intro w hSw
    try dsimp only at hSw
    go_simp
    try with_reducible rfl
  try simp only [Act.put, List.setIfInBounds_toArray, List.set_cons_zero, List.set_cons_succ]
  refine wpAnyH_take (i := 20) (v := ?_) (by simp only [List.getElem?_toArray, List.getElem?_cons_zero, List.getElem?_cons_succ]; rfl) (by kernel_rfl) (by kernel_rfl) (by kernel_rfl) (by exact fun _ _ _ h => h) (Or.inl ⟨by rfl, ?_⟩) (by assumption) ?_
  rotate_left
  · intro w hSw
    try dsimp only at hSw
    go_simp
    try with_reducible rfl
  try simp only [Act.put, List.setIfInBounds_toArray, List.set_cons_zero, List.set_cons_succ]
  refine wpAnyH_take (i := 21) (v := ?_) (by simp only [List.getElem?_toArray, List.getElem?_cons_zero, List.getElem?_cons_succ]; rfl) (by kernel_rfl) (by kernel_rfl) (by kernel_rfl) (by exact fun _ _ _ h => h) (Or.inl ⟨by rfl, ?_⟩) (by assumption) ?_
  rotate_left
  · intro w hSw
    try dsimp only at hSw
    go_simp
    try with_reducible rfl
  try simp only [Act.put, List.setIfInBounds_toArray, List.set_cons_zero, List.set_cons_succ]
  refine wpAnyH_take (i := 22) (v := ?_) (by simp only [List.getElem?_toArray, List.getElem?_cons_zero, List.getElem?_cons_succ]; rfl) (by kernel_rfl) (by kernel_rfl) (by kernel_rfl) (by exact fun _ _ _ h => h) (Or.inl ⟨by rfl, ?_⟩) (by assumption) ?_
  rotate_left
  · intro w hSw
    try dsimp only at hSw
    go_simp
    try with_reducible rfl
  try simp only [Act.put, List.setIfInBounds_toArray, List.set_cons_zero, List.set_cons_succ]
  refine wpAnyH_take (i := 23) (v := ?_) (by simp only [List.getElem?_toArray, List.getElem?_cons_zero, List.getElem?_cons_succ]; rfl) (by kernel_rfl) (by kernel_rfl) (by kernel_rfl) (by exact fun _ _ _ h => h) (Or.inl ⟨by rfl, ?_⟩) (by assumption) ?_
  rotate_left
  · intro w hSw
    try dsimp only at hSw
    go_simp
    try with_reducible rfl
  try simp only [Act.put, List.setIfInBounds_toArray, List.set_cons_zero, List.set_cons_succ]
  refine wpAnyH_take (i := 24) (v := ?_) (by simp only [List.getElem?_toArray, List.getElem?_cons_zero, List.getElem?_cons_succ]; rfl) (by kernel_rfl) (by kernel_rfl) (by kernel_rfl) (by exact fun _ _ _ h => h) (Or.inl ⟨by rfl, ?_⟩) (by assumption) ?_
  rotate_left
  · intro w hSw
    try dsimp only at hSw
    go_simp
    try with_reducible rfl
  try simp only [Act.put, List.setIfInBounds_toArray, List.set_cons_zero, List.set_cons_succ]
  refine wpAnyH_take (i := 25) (v := ?_) (by simp only [List.getElem?_toArray, List.getElem?_cons_zero, List.getElem?_cons_succ]; rfl) (by kernel_rfl) (by kernel_rfl) (by kernel_rfl) (by exact fun _ _ _ h => h) (Or.inl ⟨by rfl, ?_⟩) (by assumption) ?_
  rotate_left
  · intro w hSw
    try dsimp only at hSw
    go_simp
    try with_reducible rfl
  try simp only [Act.put, List.setIfInBounds_toArray, List.set_cons_zero, List.set_cons_succ]
  refine wpAnyH_take (i := 26) (v := ?_) (by simp only [List.getElem?_toArray, List.getElem?_cons_zero, List.getElem?_cons_succ]; rfl) (by kernel_rfl) (by kernel_rfl) (by kernel_rfl) (by exact fun _ _ _ h => h) (Or.inl ⟨by rfl, ?_⟩) (by assumption) ?_
  rotate_left
  · intro w hSw
    try dsimp only at hSw
    go_simp
    try with_reducible rfl
  try simp only [Act.put, List.setIfInBounds_toArray, List.set_cons_zero, List.set_cons_succ]
  refine wpAnyH_take (i := 27) (v := ?_) (by simp only [List.getElem?_toArray, List.getElem?_cons_zero, List.getElem?_cons_succ]; rfl) (by kernel_rfl) (by kernel_rfl) (by kernel_rfl) (by exact fun _ _ _ h => h) (Or.inl ⟨by rfl, ?_⟩) (by assumption) ?_
  rotate_left
  · intro w hSw
    try dsimp only at hSw
    go_simp
    try with_reducible rfl
  try simp only [Act.put, List.setIfInBounds_toArray, List.set_cons_zero, List.set_cons_succ]
  refine wpAnyH_take (i := 28) (v := ?_) (by simp only [List.getElem?_toArray, List.getElem?_cons_zero, List.getElem?_cons_succ]; rfl) (by kernel_rfl) (by kernel_rfl) (by kernel_rfl) (by exact fun _ _ _ h => h) (Or.inl ⟨by rfl, ?_⟩) (by assumption) ?_
  rotate_left
  · intro w hSw
    try dsimp only at hSw
    go_simp
    try with_reducible rfl
  try simp only [Act.put, List.setIfInBounds_toArray, List.set_cons_zero, List.set_cons_succ]
  refine wpAnyH_take (i := 29) (v := ?_) (by simp only [List.getElem?_toArray, List.getElem?_cons_zero, List.getElem?_cons_succ]; rfl) (by kernel_rfl) (by kernel_rfl) (by kernel_rfl) (by exact fun _ _ _ h => h) (Or.inl ⟨by rfl, ?_⟩) (by assumption) ?_
  rotate_left
  · intro w hSw
    try dsimp only at hSw
    go_simp
    try with_reducible rfl
  try simp only [Act.put, List.setIfInBounds_toArray, List.set_cons_zero, List.set_cons_succ]
  refine wpAnyH_take (i := 30) (v := ?_) (by simp only [List.getElem?_toArray, List.getElem?_cons_zero, List.getElem?_cons_succ]; rfl) (by kernel_rfl) (by kernel_rfl) (by kernel_rfl) (by exact fun _ _ _ h => h) (Or.inl ⟨by rfl, ?_⟩) (by assumption) ?_
  rotate_left
  · intro w hSw
    try dsimp only at hSw
    go_simp
    try with_reducible rfl
  try simp only [Act.put, List.setIfInBounds_toArray, List.set_cons_zero, List.set_cons_succ]
  refine wpAnyH_take (i := 31) (v := ?_) (by simp only [List.getElem?_toArray, List.getElem?_cons_zero, List.getElem?_cons_succ]; rfl) (by kernel_rfl) (by kernel_rfl) (by kernel_rfl) (by exact fun _ _ _ h => h) (Or.inl ⟨by rfl, ?_⟩) (by assumption) ?_
  rotate_left
  · intro w hSw
    try dsimp only at hSw
    go_simp
    try with_reducible rfl
  try simp only [Act.put, List.setIfInBounds_toArray, List.set_cons_zero, List.set_cons_succ]
  refine wpAnyH_take (i := 32) (v := ?_) (by simp only [List.getElem?_toArray, List.getElem?_cons_zero, List.getElem?_cons_succ]; rfl) (by kernel_rfl) (by kernel_rfl) (by kernel_rfl) (by exact fun _ _ _ h => h) (Or.inl ⟨by rfl, ?_⟩) (by assumption) ?_
  rotate_left
  · intro w hSw
    try dsimp only at hSw
    go_simp
    try with_reducible rfl
  try simp only [Act.put, List.setIfInBounds_toArray, List.set_cons_zero, List.set_cons_succ]
  refine wpAnyH_take (i := 33) (v := ?_) (by simp only [List.getElem?_toArray, List.getElem?_cons_zero, List.getElem?_cons_succ]; rfl) (by kernel_rfl) (by kernel_rfl) (by kernel_rfl) (by exact fun _ _ _ h => h) (Or.inl ⟨by rfl, ?_⟩) (by assumption) ?_
  rotate_left
  · intro w hSw
    try dsimp only at hSw
    go_simp
    try with_reducible rfl
  try simp only [Act.put, List.setIfInBounds_toArray, List.set_cons_zero, List.set_cons_succ]
  refine wpAnyH_ready (rs := [34]) (by kernel_rfl) (by simp) ?_
  refine AllReadyH.cons (by simp only [List.getElem?_toArray, List.getElem?_cons_zero, List.getElem?_cons_succ]; rfl) (fun K hK => ?_) AllReadyH.nil
  go_simp
  refine (unhide HSm _ hk).mono ?_
  rintro e wA ⟨rfl, hb⟩
  replace hk := hk.trans (hb.mono hk.size)
  clear hb
  go_wp2_with fail
  refine hK.out _ _ (keepX hk tb.out bX.out bY.out) (fun hHeld => ?_)
  clear hK K
  try simp only [Act.put, List.setIfInBounds_toArray, List.set_cons_zero, List.set_cons_succ]
  refine wpAnyH_take (i := 35) (v := ?_) (by simp only [List.getElem?_toArray, List.getElem?_cons_zero, List.getElem?_cons_succ]; rfl) (by kernel_rfl) (by kernel_rfl) (by kernel_rfl) (by exact fun _ _ _ h => h) (Or.inl ⟨by rfl, ?_⟩) (by assumption) ?_
  rotate_left
  · intro w hSw
    try dsimp only at hSw
    go_simp
    try with_reducible rfl
  try simp only [Act.put, List.setIfInBounds_toArray, List.set_cons_zero, List.set_cons_succ]
  refine wpAnyH_take (i := 36) (v := ?_) (by simp only [List.getElem?_toArray, List.getElem?_cons_zero, List.getElem?_cons_succ]; rfl) (by kernel_rfl) (by kernel_rfl) (by kernel_rfl) (by exact fun _ _ _ h => h) (Or.inl ⟨by rfl, ?_⟩) (by assumption) ?_
  rotate_left
  · intro w hSw
    try dsimp only at hSw
    go_simp
    try with_reducible rfl
  try simp only [Act.put, List.setIfInBounds_toArray, List.set_cons_zero, List.set_cons_succ]
  refine wpAnyH_done (by kernel_rfl) ?_ _
  replace tb := hide (tb.out.below hk)
  replace hw0 := hw0.trans (hk.mono hw0.size)
  clear hk hHeld HSm HF HS1 HS2 HT1 HT2 bX bY hxi hyi q1 q2 q3 q4 q5
  have o0 := blk_cell tb.out.b2 0 _ rfl
  by_cases z1 : m.n1 = 0
  · have d1 : ((m.n1 : Int) == 0) = true := by simp; omega
    clear z1
    go_wp2_with fail
    go_ret
    exact ⟨rfl, hw0⟩
  have d1 : ((m.n1 : Int) == 0) = false := by simp; omega
  have hn0 : 0 < m.n1 := by omega
  have hk0 : 0 < o.roots.length := by rw [L1.out]; exact hn0
  rcases H3.out.roots.at_ with e | ⟨b3, o3, e3, hc3⟩
  · rw [e] at hk0; simp at hk0
  obtain ⟨ax, cx, e0, e1, e2, hix, hlx, hcx⟩ := hc3 0 o.roots[0] (List.getElem?_eq_getElem hk0)
  rw [Nat.zero_mul, Nat.add_zero] at e0 e1 e2
  have bix0 : BI w ax o.roots[0].ks.length o.roots[0].ks := ⟨hix, rfl, by omega⟩
  have hxo := hide bix0.old
  have bix := bix0.below hw0
  rw [← hw0.cell (cell_lt e0)] at e0
  rw [← hw0.cell (cell_lt e1)] at e1
  rw [← hw0.cell (cell_lt e2)] at e2
  generalize o.roots[0] = x at *
  obtain ⟨nx, hnx⟩ : ∃ nx, nx = x.ks.length := ⟨_, rfl⟩
  rw [← hnx] at e1 bix
  have E3 := hide e3
  clear hnx e3 hc3 hix hlx hcx bix0 z1
  go_upto_region 9 with fail
  clear o0
  have HUk := hide (fun W' (hW : Below wA.heap.size wA W') => HU1.out W' x ax nx cx (hw0.trans (hW.mono hw0.size)) (bix.below hW))
  have HVk := hide (fun W' (hW : Below wA.heap.size wA W') => HU2.out W' x ax nx cx (hw0.trans (hW.mono hw0.size)) (bix.below hW))
  generalize turnE ss l t x o.sigs = R at *
  obtain ⟨T5, hT5⟩ : ∃ T, T = turnT R t x := ⟨_, rfl⟩
  rw [← hT5] at HUk HVk
  replace hT5 := hide hT5
  clear HU1 HU2
  go_cut [23, 24] (fun v14 v15 wc => ∃ G a5 n5 c5, v14 = .pointer (some ⟨G, 0, none⟩) ∧ v15 = .int .i64 R ∧ Hid (wc.heap[G]? = some (trO T5 a5 n5 c5)) ∧ BI wc a5 n5 T5.r.ks ∧ Below wA.heap.size wA wc)
  case first =>
    refine wp_region_held_drew (S := fun w' => w'.cell? ⟨w.heap.size, 0, none⟩ = some (.slice ab nb cb) ∧ w'.cell? ⟨w.heap.size + 1, 0, none⟩ = some (.int .i64 t.r.v) ∧ w'.cell? ⟨w.heap.size + 1, 1, none⟩ = some (.slice a2 n2 c2) ∧ w'.cell? ⟨w.heap.size + 1, 2, none⟩ = some (.int .i64 t.r.t) ∧ w'.cell? ⟨w.heap.size + 1, 3, none⟩ = some (.int .i64 t.ver) ∧ w'.cell? ⟨w.heap.size + 1 + 1, 0, none⟩ = some (.slice (some ⟨b3, o3, none⟩) m.n1 m.c1) ∧ w'.cell? ⟨w.heap.size + 1 + 1, 5, none⟩ = some (.slice m.a4 m.n4 m.c4) ∧ w'.cell? ⟨b3, o3, none⟩ = some (.int .i64 x.v) ∧ w'.cell? ⟨b3, o3 + 1, none⟩ = some (.slice ax nx cx) ∧ w'.cell? ⟨b3, o3 + 2, none⟩ = some (.int .i64 x.t) ∧ Below wA.heap.size wA w') (by kernel_rfl) (keepY (Below.refl _ _).drew tb.out e0 e1 e2 E3.out) ?_
    intro hHeld
    refine wpAnyH_take (i := 0) (v := ?_) (by simp only [List.getElem?_toArray, List.getElem?_cons_zero]; rfl) (by kernel_rfl) (by kernel_rfl) (by kernel_rfl) (by exact fun _ _ _ h => h) (Or.inl ⟨by rfl, ?_⟩) (by assumption) ?_
    rotate_left
    · intro w hSw
      try dsimp only at hSw
      go_simp
      try with_reducible rfl
    try simp only [Act.put, List.setIfInBounds_toArray, List.set_cons_zero, List.set_cons_succ]
    refine wpAnyH_take (i := 1) (v := ?_) (by simp only [List.getElem?_toArray, List.getElem?_cons_zero, List.getElem?_cons_succ]; rfl) (by kernel_rfl) (by kernel_rfl) (by kernel_rfl) (by exact fun _ _ _ h => h) (Or.inl ⟨by rfl, ?_⟩) (by assumption) ?_
    rotate_left
    · intro w hSw
      try dsimp only at hSw
      go_simp
      try with_reducible rfl
    try simp only [Act.put, List.setIfInBounds_toArray, List.set_cons_zero, List.set_cons_succ]
    refine wpAnyH_take (i := 2) (v := ?_) (by simp only [List.getElem?_toArray, List.getElem?_cons_zero, List.getElem?_cons_succ]; rfl) (by kernel_rfl) (by kernel_rfl) (by kernel_rfl) (by exact fun _ _ _ h => h) (Or.inl ⟨by rfl, ?_⟩) (by assumption) ?_
    rotate_left
    · intro w hSw
      try dsimp only at hSw
      go_simp
      try with_reducible rfl
    try simp only [Act.put, List.setIfInBounds_toArray, List.set_cons_zero, List.set_cons_succ]
    refine wpAnyH_take (i := 3) (v := ?_) (by simp only [List.getElem?_toArray, List.getElem?_cons_zero, List.getElem?_cons_succ]; rfl) (by kernel_rfl) (by kernel_rfl) (by kernel_rfl) (by exact fun _ _ _ h => h) (Or.inl ⟨by rfl, ?_⟩) (by assumption) ?_
    rotate_left
    · intro w hSw
      try dsimp only at hSw
      go_simp
      try with_reducible rfl
    try simp only [Act.put, List.setIfInBounds_toArray, List.set_cons_zero, List.set_cons_succ]
    refine wpAnyH_take (i := 4) (v := ?_) (by simp only [List.getElem?_toArray, List.getElem?_cons_zero, List.getElem?_cons_succ]; rfl) (by kernel_rfl) (by kernel_rfl) (by kernel_rfl) (by exact fun _ _ _ h => h) (Or.inl ⟨by rfl, ?_⟩) (by assumption) ?_
    rotate_left
    · intro w hSw
      try dsimp only at hSw
      go_simp
      try with_reducible rfl
    try simp only [Act.put, List.setIfInBounds_toArray, List.set_cons_zero, List.set_cons_succ]
    refine wpAnyH_take (i := 5) (v := ?_) (by simp only [List.getElem?_toArray, List.getElem?_cons_zero, List.getElem?_cons_succ]; rfl) (by kernel_rfl) (by kernel_rfl) (by kernel_rfl) (by exact fun _ _ _ h => h) (Or.inl ⟨by rfl, ?_⟩) (by assumption) ?_
    rotate_left
    · intro w hSw
      try dsimp only at hSw
      go_simp
      try with_reducible rfl
    try simp only [Act.put, List.setIfInBounds_toArray, List.set_cons_zero, List.set_cons_succ]
    refine wpAnyH_take (i := 6) (v := ?_) (by simp only [List.getElem?_toArray, List.getElem?_cons_zero, List.getElem?_cons_succ]; rfl) (by kernel_rfl) (by kernel_rfl) (by kernel_rfl) (by exact fun _ _ _ h => h) (Or.inl ⟨by rfl, ?_⟩) (by assumption) ?_
    rotate_left
    · intro w hSw
      try dsimp only at hSw
      go_simp
      try with_reducible rfl
    try simp only [Act.put, List.setIfInBounds_toArray, List.set_cons_zero, List.set_cons_succ]
    refine wpAnyH_take (i := 7) (v := ?_) (by simp only [List.getElem?_toArray, List.getElem?_cons_zero, List.getElem?_cons_succ]; rfl) (by kernel_rfl) (by kernel_rfl) (by kernel_rfl) (by exact fun _ _ _ h => h) (Or.inl ⟨by rfl, ?_⟩) (by assumption) ?_
    rotate_left
    · intro w hSw
      try dsimp only at hSw
      go_simp
      try with_reducible rfl
    try simp only [Act.put, List.setIfInBounds_toArray, List.set_cons_zero, List.set_cons_succ]
    refine wpAnyH_take (i := 8) (v := ?_) (by simp only [List.getElem?_toArray, List.getElem?_cons_zero, List.getElem?_cons_succ]; rfl) (by kernel_rfl) (by kernel_rfl) (by kernel_rfl) (by exact fun _ _ _ h => h) (Or.inl ⟨by rfl, ?_⟩) (by assumption) ?_
    rotate_left
    · intro w hSw
      try dsimp only at hSw
      go_simp
      try with_reducible rfl
    try simp only [Act.put, List.setIfInBounds_toArray, List.set_cons_zero, List.set_cons_succ]
    refine wpAnyH_ready (rs := [9, 13]) (by kernel_rfl) (by simp) ?_
    refine AllReadyH.cons (by simp only [List.getElem?_toArray, List.getElem?_cons_zero, List.getElem?_cons_succ]; rfl) (fun K hK => ?_) (AllReadyH.cons (by simp only [List.getElem?_toArray, List.getElem?_cons_zero, List.getElem?_cons_succ]; rfl) (fun K hK => ?_) AllReadyH.nil)
    · go_simp
      have hB := hHeld.2.2.2.2.2.2.2.2.2.2
      refine (unhide HUk _ hB).mono ?_
      rintro e w5 ⟨⟨a5, n5, c5, rfl, hi5, hf5⟩, hb⟩
      have hk5 := hB.trans (hb.mono hB.size)
      go_wp2_with fail
      refine hK.out _ _ (keepY hk5 tb.out e0 e1 e2 E3.out) (fun hHeld => ?_)
      clear hK K
      try simp only [Act.put, List.setIfInBounds_toArray, List.set_cons_zero, List.set_cons_succ]
      refine wpAnyH_take (i := 10) (v := ?_) (by simp only [List.getElem?_toArray, List.getElem?_cons_zero, List.getElem?_cons_succ]; rfl) (by kernel_rfl) (by kernel_rfl) (by kernel_rfl) (by exact fun _ _ _ h => h) (Or.inl ⟨by rfl, ?_⟩) (by assumption) ?_
      rotate_left
      · intro w hSw
        try dsimp only at hSw
        go_simp
        try with_reducible rfl
      try simp only [Act.put, List.setIfInBounds_toArray, List.set_cons_zero, List.set_cons_succ]
      refine wpAnyH_take (i := 11) (v := ?_) (by simp only [List.getElem?_toArray, List.getElem?_cons_zero, List.getElem?_cons_succ]; rfl) (by kernel_rfl) (by kernel_rfl) (by kernel_rfl) (by exact fun _ _ _ h => h) (Or.inl ⟨by rfl, ?_⟩) (by assumption) ?_
      rotate_left
      · intro w hSw
        try dsimp only at hSw
        go_simp
        try with_reducible rfl
      try simp only [Act.put, List.setIfInBounds_toArray, List.set_cons_zero, List.set_cons_succ]
      refine wpAnyH_take (i := 12) (v := ?_) (by simp only [List.getElem?_toArray, List.getElem?_cons_zero, List.getElem?_cons_succ]; rfl) (by kernel_rfl) (by kernel_rfl) (by kernel_rfl) (by exact fun _ _ _ h => h) (Or.inl ⟨by rfl, ?_⟩) (by assumption) ?_
      rotate_left
      · intro w hSw
        try dsimp only at hSw
        go_simp
        try with_reducible rfl
      try simp only [Act.put, List.setIfInBounds_toArray, List.set_cons_zero, List.set_cons_succ]
      refine wpAnyH_ready (rs := [13]) (by kernel_rfl) (by simp) ?_
      refine AllReadyH.cons (by simp only [List.getElem?_toArray, List.getElem?_cons_zero, List.getElem?_cons_succ]; rfl) (fun K hK => ?_) AllReadyH.nil
      go_simp
      refine hK.out _ _ (keepY (hk5.alloc hk5.size _) tb.out e0 e1 e2 E3.out) (fun hHeld => ?_)
      clear hK K
      try simp only [Act.put, List.setIfInBounds_toArray, List.set_cons_zero, List.set_cons_succ]
      refine wpAnyH_ready (rs := [14]) (by kernel_rfl) (by simp) ?_
      refine AllReadyH.cons (by simp only [List.getElem?_toArray, List.getElem?_cons_zero, List.getElem?_cons_succ]; rfl) (fun K hK => ?_) AllReadyH.nil
      go_simp
      refine hK.out _ _ (keepY (hk5.alloc hk5.size _) tb.out e0 e1 e2 E3.out) (fun hHeld => ?_)
      clear hK K
      try simp only [Act.put, List.setIfInBounds_toArray, List.set_cons_zero, List.set_cons_succ]
      refine wpAnyH_take (i := 15) (v := ?_) (by simp only [List.getElem?_toArray, List.getElem?_cons_zero, List.getElem?_cons_succ]; rfl) (by kernel_rfl) (by kernel_rfl) (by kernel_rfl) (by exact fun _ _ _ h => h) (Or.inl ⟨by rfl, ?_⟩) (by assumption) ?_
      rotate_left
      · intro w hSw
        try dsimp only at hSw
        go_simp
        try with_reducible rfl
      try simp only [Act.put, List.setIfInBounds_toArray, List.set_cons_zero, List.set_cons_succ]
      refine wpAnyH_done (by kernel_rfl) ?_ _
      go_wp2_with fail
      go_meet
      case rel => exact ⟨w5.heap.size, a5, n5, c5, rfl, rfl, heap_alloc_last _ (trO T5 a5 n5 c5), hi5.below ((Below.refl _ _).alloc (Nat.le_refl _) _), hk5.alloc hk5.size _⟩
    · go_simp
      refine hK.out _ _ (keepY ((Below.refl _ _).drew.alloc (by simp) _) tb.out e0 e1 e2 E3.out) (fun hHeld => ?_)
      clear hK K
      try simp only [Act.put, List.setIfInBounds_toArray, List.set_cons_zero, List.set_cons_succ]
      refine wpAnyH_ready (rs := [9]) (by kernel_rfl) (by simp) ?_
      refine AllReadyH.cons (by simp only [List.getElem?_toArray, List.getElem?_cons_zero, List.getElem?_cons_succ]; rfl) (fun K hK => ?_) AllReadyH.nil
      go_simp
      have hB := hHeld.2.2.2.2.2.2.2.2.2.2
      refine (unhide HUk _ hB).mono ?_
      rintro e w5 ⟨⟨a5, n5, c5, rfl, hi5, hf5⟩, hb⟩
      have bG : Hid (w5.heap[wA.heap.size]? = some tzO) := blk_below (heap_alloc_last wA.drew tzO) hb
      have hk5 := hB.trans (hb.mono hB.size)
      unfold tzO at bG
      have y0 := blk_cell bG.out 0 _ rfl
      have y1 := blk_cell bG.out 1 _ rfl
      have y2 := blk_cell bG.out 2 _ rfl
      have y3 := blk_cell bG.out 3 _ rfl
      have f0 := blk_free bG.out 0
      have f1 := blk_free bG.out 1
      have f2 := blk_free bG.out 2
      have f3 := blk_free bG.out 3
      go_wp2_with fail
      refine hK.out _ _ (keepY hk5 tb.out e0 e1 e2 E3.out) (fun hHeld => ?_)
      clear hK K
      try simp only [Act.put, List.setIfInBounds_toArray, List.set_cons_zero, List.set_cons_succ]
      refine wpAnyH_take (i := 10) (v := ?_) (by simp only [List.getElem?_toArray, List.getElem?_cons_zero, List.getElem?_cons_succ]; rfl) (by kernel_rfl) (by kernel_rfl) (by kernel_rfl) (by exact fun _ _ _ h => h) (Or.inl ⟨by rfl, ?_⟩) (by assumption) ?_
      rotate_left
      · intro w hSw
        try dsimp only at hSw
        go_simp
        try with_reducible rfl
      try simp only [Act.put, List.setIfInBounds_toArray, List.set_cons_zero, List.set_cons_succ]
      refine wpAnyH_take (i := 11) (v := ?_) (by simp only [List.getElem?_toArray, List.getElem?_cons_zero, List.getElem?_cons_succ]; rfl) (by kernel_rfl) (by kernel_rfl) (by kernel_rfl) (by exact fun _ _ _ h => h) (Or.inl ⟨by rfl, ?_⟩) (by assumption) ?_
      rotate_left
      · intro w hSw
        try dsimp only at hSw
        go_simp
        try with_reducible rfl
      try simp only [Act.put, List.setIfInBounds_toArray, List.set_cons_zero, List.set_cons_succ]
      refine wpAnyH_take (i := 12) (v := ?_) (by simp only [List.getElem?_toArray, List.getElem?_cons_zero, List.getElem?_cons_succ]; rfl) (by kernel_rfl) (by kernel_rfl) (by kernel_rfl) (by exact fun _ _ _ h => h) (Or.inl ⟨by rfl, ?_⟩) (by assumption) ?_
      rotate_left
      · intro w hSw
        try dsimp only at hSw
        go_simp
        try with_reducible rfl
      try simp only [Act.put, List.setIfInBounds_toArray, List.set_cons_zero, List.set_cons_succ]
      refine wpAnyH_ready (rs := [14]) (by kernel_rfl) (by simp) ?_
      refine AllReadyH.cons (by simp only [List.getElem?_toArray, List.getElem?_cons_zero, List.getElem?_cons_succ]; rfl) (fun K hK => ?_) AllReadyH.nil
      go_simp
      refine hK.out _ _ (keepY ((((hk5.setCell (p := ⟨wA.heap.size, 0, none⟩) (Nat.le_refl _) _).setCell (p := ⟨wA.heap.size, 1, none⟩) (Nat.le_refl _) _).setCell (p := ⟨wA.heap.size, 2, none⟩) (Nat.le_refl _) _).setCell (p := ⟨wA.heap.size, 3, none⟩) (Nat.le_refl _) _) tb.out e0 e1 e2 E3.out) (fun hHeld => ?_)
      clear hK K
      try simp only [Act.put, List.setIfInBounds_toArray, List.set_cons_zero, List.set_cons_succ]
      refine wpAnyH_take (i := 15) (v := ?_) (by simp only [List.getElem?_toArray, List.getElem?_cons_zero, List.getElem?_cons_succ]; rfl) (by kernel_rfl) (by kernel_rfl) (by kernel_rfl) (by exact fun _ _ _ h => h) (Or.inl ⟨by rfl, ?_⟩) (by assumption) ?_
      rotate_left
      · intro w hSw
        try dsimp only at hSw
        go_simp
        try with_reducible rfl
      try simp only [Act.put, List.setIfInBounds_toArray, List.set_cons_zero, List.set_cons_succ]
      refine wpAnyH_done (by kernel_rfl) ?_ _
      go_wp2_with fail
      go_meet
      case rel =>
        have hfar : T5.r.ks = [] ∨ ∀ ad, a5 = some ad → ad.block ≠ wA.heap.size := by
          exact .inr fun ad e => by have h : (wA.alloc tzO).heap.size ≤ ad.block := hf5 ad e; rw [World.size_alloc] at h; omega
        exact ⟨wA.heap.size, a5, n5, c5, rfl, rfl, blk_set4 bG.out, (((hi5.set2 _ 0 _ hfar).set2 _ 1 _ hfar).set2 _ 2 _ hfar).set2 _ 3 _ hfar, (((hk5.setCell (p := ⟨wA.heap.size, 0, none⟩) (Nat.le_refl _) _).setCell (p := ⟨wA.heap.size, 1, none⟩) (Nat.le_refl _) _).setCell (p := ⟨wA.heap.size, 2, none⟩) (Nat.le_refl _) _).setCell (p := ⟨wA.heap.size, 3, none⟩) (Nat.le_refl _) _⟩
  case rest =>
  obtain ⟨G, a5, n5, c5, rfl, rfl, bG, hi5, hbc⟩ := hcut
  obtain ⟨wB, rfl⟩ : ∃ wB : World, wB = wc := ⟨_, rfl⟩
  replace tb := hide (tb.out.below hbc)
  replace hw0 := hw0.trans (hbc.mono hw0.size)
  rw [← hbc.cell (cell_lt e0)] at e0
  rw [← hbc.cell (cell_lt e1)] at e1
  rw [← hbc.cell (cell_lt e2)] at e2
  replace HVk := hide (fun W' (hW : Below wB.heap.size wB W') => HVk.out W' (hbc.trans (hW.mono hbc.size)))
  clear hbc HUk
  go_upto_region 10 with fail
  go_cut [25, 26] (fun v14 v15 wc => ∃ G a5 n5 c5, v14 = .pointer (some ⟨G, 0, none⟩) ∧ v15 = .int .i64 R ∧ Hid (wc.heap[G]? = some (trO T5 a5 n5 c5)) ∧ BI wc a5 n5 T5.r.ks ∧ Below wB.heap.size wB wc)
  case first =>
    refine wp_region_held_drew (S := fun w' => w'.cell? ⟨w.heap.size, 0, none⟩ = some (.slice ab nb cb) ∧ w'.cell? ⟨w.heap.size + 1, 0, none⟩ = some (.int .i64 t.r.v) ∧ w'.cell? ⟨w.heap.size + 1, 1, none⟩ = some (.slice a2 n2 c2) ∧ w'.cell? ⟨w.heap.size + 1, 2, none⟩ = some (.int .i64 t.r.t) ∧ w'.cell? ⟨w.heap.size + 1, 3, none⟩ = some (.int .i64 t.ver) ∧ w'.cell? ⟨w.heap.size + 1 + 1, 0, none⟩ = some (.slice (some ⟨b3, o3, none⟩) m.n1 m.c1) ∧ w'.cell? ⟨w.heap.size + 1 + 1, 5, none⟩ = some (.slice m.a4 m.n4 m.c4) ∧ w'.cell? ⟨b3, o3, none⟩ = some (.int .i64 x.v) ∧ w'.cell? ⟨b3, o3 + 1, none⟩ = some (.slice ax nx cx) ∧ w'.cell? ⟨b3, o3 + 2, none⟩ = some (.int .i64 x.t) ∧ Below wB.heap.size wB w') (by kernel_rfl) (keepY (Below.refl _ _).drew tb.out e0 e1 e2 E3.out) ?_
    intro hHeld
    refine wpAnyH_take (i := 0) (v := ?_) (by simp only [List.getElem?_toArray, List.getElem?_cons_zero]; rfl) (by kernel_rfl) (by kernel_rfl) (by kernel_rfl) (by exact fun _ _ _ h => h) (Or.inl ⟨by rfl, ?_⟩) (by assumption) ?_
    rotate_left
    · intro w hSw
      try dsimp only at hSw
      go_simp
      try with_reducible rfl
    try simp only [Act.put, List.setIfInBounds_toArray, List.set_cons_zero, List.set_cons_succ]
    refine wpAnyH_take (i := 1) (v := ?_) (by simp only [List.getElem?_toArray, List.getElem?_cons_zero, List.getElem?_cons_succ]; rfl) (by kernel_rfl) (by kernel_rfl) (by kernel_rfl) (by exact fun _ _ _ h => h) (Or.inl ⟨by rfl, ?_⟩) (by assumption) ?_
    rotate_left
    · intro w hSw
      try dsimp only at hSw
      go_simp
      try with_reducible rfl
    try simp only [Act.put, List.setIfInBounds_toArray, List.set_cons_zero, List.set_cons_succ]
    refine wpAnyH_take (i := 2) (v := ?_) (by simp only [List.getElem?_toArray, List.getElem?_cons_zero, List.getElem?_cons_succ]; rfl) (by kernel_rfl) (by kernel_rfl) (by kernel_rfl) (by exact fun _ _ _ h => h) (Or.inl ⟨by rfl, ?_⟩) (by assumption) ?_
    rotate_left
    · intro w hSw
      try dsimp only at hSw
      go_simp
      try with_reducible rfl
    try simp only [Act.put, List.setIfInBounds_toArray, List.set_cons_zero, List.set_cons_succ]
    refine wpAnyH_take (i := 3) (v := ?_) (by simp only [List.getElem?_toArray, List.getElem?_cons_zero, List.getElem?_cons_succ]; rfl) (by kernel_rfl) (by kernel_rfl) (by kernel_rfl) (by exact fun _ _ _ h => h) (Or.inl ⟨by rfl, ?_⟩) (by assumption) ?_
    rotate_left
    · intro w hSw
      try dsimp only at hSw
      go_simp
      try with_reducible rfl
    try simp only [Act.put, List.setIfInBounds_toArray, List.set_cons_zero, List.set_cons_succ]
    refine wpAnyH_take (i := 4) (v := ?_) (by simp only [List.getElem?_toArray, List.getElem?_cons_zero, List.getElem?_cons_succ]; rfl) (by kernel_rfl) (by kernel_rfl) (by kernel_rfl) (by exact fun _ _ _ h => h) (Or.inl ⟨by rfl, ?_⟩) (by assumption) ?_
    rotate_left
    · intro w hSw
      try dsimp only at hSw
      go_simp
      try with_reducible rfl
    try simp only [Act.put, List.setIfInBounds_toArray, List.set_cons_zero, List.set_cons_succ]
    refine wpAnyH_take (i := 5) (v := ?_) (by simp only [List.getElem?_toArray, List.getElem?_cons_zero, List.getElem?_cons_succ]; rfl) (by kernel_rfl) (by kernel_rfl) (by kernel_rfl) (by exact fun _ _ _ h => h) (Or.inl ⟨by rfl, ?_⟩) (by assumption) ?_
    rotate_left
    · intro w hSw
      try dsimp only at hSw
      go_simp
      try with_reducible rfl
    try simp only [Act.put, List.setIfInBounds_toArray, List.set_cons_zero, List.set_cons_succ]
    refine wpAnyH_take (i := 6) (v := ?_) (by simp only [List.getElem?_toArray, List.getElem?_cons_zero, List.getElem?_cons_succ]; rfl) (by kernel_rfl) (by kernel_rfl) (by kernel_rfl) (by exact fun _ _ _ h => h) (Or.inl ⟨by rfl, ?_⟩) (by assumption) ?_
    rotate_left
    · intro w hSw
      try dsimp only at hSw
      go_simp
      try with_reducible rfl
    try simp only [Act.put, List.setIfInBounds_toArray, List.set_cons_zero, List.set_cons_succ]
    refine wpAnyH_take (i := 7) (v := ?_) (by simp only [List.getElem?_toArray, List.getElem?_cons_zero, List.getElem?_cons_succ]; rfl) (by kernel_rfl) (by kernel_rfl) (by kernel_rfl) (by exact fun _ _ _ h => h) (Or.inl ⟨by rfl, ?_⟩) (by assumption) ?_
    rotate_left
    · intro w hSw
      try dsimp only at hSw
      go_simp
      try with_reducible rfl
    try simp only [Act.put, List.setIfInBounds_toArray, List.set_cons_zero, List.set_cons_succ]
    refine wpAnyH_take (i := 8) (v := ?_) (by simp only [List.getElem?_toArray, List.getElem?_cons_zero, List.getElem?_cons_succ]; rfl) (by kernel_rfl) (by kernel_rfl) (by kernel_rfl) (by exact fun _ _ _ h => h) (Or.inl ⟨by rfl, ?_⟩) (by assumption) ?_
    rotate_left
    · intro w hSw
      try dsimp only at hSw
      go_simp
      try with_reducible rfl
    try simp only [Act.put, List.setIfInBounds_toArray, List.set_cons_zero, List.set_cons_succ]
    refine wpAnyH_ready (rs := [9, 13]) (by kernel_rfl) (by simp) ?_
    refine AllReadyH.cons (by simp only [List.getElem?_toArray, List.getElem?_cons_zero, List.getElem?_cons_succ]; rfl) (fun K hK => ?_) (AllReadyH.cons (by simp only [List.getElem?_toArray, List.getElem?_cons_zero, List.getElem?_cons_succ]; rfl) (fun K hK => ?_) AllReadyH.nil)
    · go_simp
      have hB := hHeld.2.2.2.2.2.2.2.2.2.2
      refine (unhide HVk _ hB).mono ?_
      rintro e w5 ⟨⟨a5, n5, c5, rfl, hi5, hf5⟩, hb⟩
      have hk5 := hB.trans (hb.mono hB.size)
      go_wp2_with fail
      refine hK.out _ _ (keepY hk5 tb.out e0 e1 e2 E3.out) (fun hHeld => ?_)
      clear hK K
      try simp only [Act.put, List.setIfInBounds_toArray, List.set_cons_zero, List.set_cons_succ]
      refine wpAnyH_take (i := 10) (v := ?_) (by simp only [List.getElem?_toArray, List.getElem?_cons_zero, List.getElem?_cons_succ]; rfl) (by kernel_rfl) (by kernel_rfl) (by kernel_rfl) (by exact fun _ _ _ h => h) (Or.inl ⟨by rfl, ?_⟩) (by assumption) ?_
      rotate_left
      · intro w hSw
        try dsimp only at hSw
        go_simp
        try with_reducible rfl
      try simp only [Act.put, List.setIfInBounds_toArray, List.set_cons_zero, List.set_cons_succ]
      refine wpAnyH_take (i := 11) (v := ?_) (by simp only [List.getElem?_toArray, List.getElem?_cons_zero, List.getElem?_cons_succ]; rfl) (by kernel_rfl) (by kernel_rfl) (by kernel_rfl) (by exact fun _ _ _ h => h) (Or.inl ⟨by rfl, ?_⟩) (by assumption) ?_
      rotate_left
      · intro w hSw
        try dsimp only at hSw
        go_simp
        try with_reducible rfl
      try simp only [Act.put, List.setIfInBounds_toArray, List.set_cons_zero, List.set_cons_succ]
      refine wpAnyH_take (i := 12) (v := ?_) (by simp only [List.getElem?_toArray, List.getElem?_cons_zero, List.getElem?_cons_succ]; rfl) (by kernel_rfl) (by kernel_rfl) (by kernel_rfl) (by exact fun _ _ _ h => h) (Or.inl ⟨by rfl, ?_⟩) (by assumption) ?_
      rotate_left
      · intro w hSw
        try dsimp only at hSw
        go_simp
        try with_reducible rfl
      try simp only [Act.put, List.setIfInBounds_toArray, List.set_cons_zero, List.set_cons_succ]
      refine wpAnyH_ready (rs := [13]) (by kernel_rfl) (by simp) ?_
      refine AllReadyH.cons (by simp only [List.getElem?_toArray, List.getElem?_cons_zero, List.getElem?_cons_succ]; rfl) (fun K hK => ?_) AllReadyH.nil
      go_simp
      refine hK.out _ _ (keepY (hk5.alloc hk5.size _) tb.out e0 e1 e2 E3.out) (fun hHeld => ?_)
      clear hK K
      try simp only [Act.put, List.setIfInBounds_toArray, List.set_cons_zero, List.set_cons_succ]
      refine wpAnyH_ready (rs := [14]) (by kernel_rfl) (by simp) ?_
      refine AllReadyH.cons (by simp only [List.getElem?_toArray, List.getElem?_cons_zero, List.getElem?_cons_succ]; rfl) (fun K hK => ?_) AllReadyH.nil
      go_simp
      refine hK.out _ _ (keepY (hk5.alloc hk5.size _) tb.out e0 e1 e2 E3.out) (fun hHeld => ?_)
      clear hK K
      try simp only [Act.put, List.setIfInBounds_toArray, List.set_cons_zero, List.set_cons_succ]
      refine wpAnyH_take (i := 15) (v := ?_) (by simp only [List.getElem?_toArray, List.getElem?_cons_zero, List.getElem?_cons_succ]; rfl) (by kernel_rfl) (by kernel_rfl) (by kernel_rfl) (by exact fun _ _ _ h => h) (Or.inl ⟨by rfl, ?_⟩) (by assumption) ?_
      rotate_left
      · intro w hSw
        try dsimp only at hSw
        go_simp
        try with_reducible rfl
      try simp only [Act.put, List.setIfInBounds_toArray, List.set_cons_zero, List.set_cons_succ]
      refine wpAnyH_done (by kernel_rfl) ?_ _
      go_wp2_with fail
      go_meet
      case rel => exact ⟨w5.heap.size, a5, n5, c5, rfl, rfl, heap_alloc_last _ (trO T5 a5 n5 c5), hi5.below ((Below.refl _ _).alloc (Nat.le_refl _) _), hk5.alloc hk5.size _⟩
    · go_simp
      refine hK.out _ _ (keepY ((Below.refl _ _).drew.alloc (by simp) _) tb.out e0 e1 e2 E3.out) (fun hHeld => ?_)
      clear hK K
      try simp only [Act.put, List.setIfInBounds_toArray, List.set_cons_zero, List.set_cons_succ]
      refine wpAnyH_ready (rs := [9]) (by kernel_rfl) (by simp) ?_
      refine AllReadyH.cons (by simp only [List.getElem?_toArray, List.getElem?_cons_zero, List.getElem?_cons_succ]; rfl) (fun K hK => ?_) AllReadyH.nil
      go_simp
      have hB := hHeld.2.2.2.2.2.2.2.2.2.2
      refine (unhide HVk _ hB).mono ?_
      rintro e w5 ⟨⟨a5, n5, c5, rfl, hi5, hf5⟩, hb⟩
      have bG : Hid (w5.heap[wB.heap.size]? = some tzO) := blk_below (heap_alloc_last wB.drew tzO) hb
      have hk5 := hB.trans (hb.mono hB.size)
      unfold tzO at bG
      have y0 := blk_cell bG.out 0 _ rfl
      have y1 := blk_cell bG.out 1 _ rfl
      have y2 := blk_cell bG.out 2 _ rfl
      have y3 := blk_cell bG.out 3 _ rfl
      have f0 := blk_free bG.out 0
      have f1 := blk_free bG.out 1
      have f2 := blk_free bG.out 2
      have f3 := blk_free bG.out 3
      go_wp2_with fail
      refine hK.out _ _ (keepY hk5 tb.out e0 e1 e2 E3.out) (fun hHeld => ?_)
      clear hK K
      try simp only [Act.put, List.setIfInBounds_toArray, List.set_cons_zero, List.set_cons_succ]
      refine wpAnyH_take (i := 10) (v := ?_) (by simp only [List.getElem?_toArray, List.getElem?_cons_zero, List.getElem?_cons_succ]; rfl) (by kernel_rfl) (by kernel_rfl) (by kernel_rfl) (by exact fun _ _ _ h => h) (Or.inl ⟨by rfl, ?_⟩) (by assumption) ?_
      rotate_left
      · intro w hSw
        try dsimp only at hSw
        go_simp
        try with_reducible rfl
      try simp only [Act.put, List.setIfInBounds_toArray, List.set_cons_zero, List.set_cons_succ]
      refine wpAnyH_take (i := 11) (v := ?_) (by simp only [List.getElem?_toArray, List.getElem?_cons_zero, List.getElem?_cons_succ]; rfl) (by kernel_rfl) (by kernel_rfl) (by kernel_rfl) (by exact fun _ _ _ h => h) (Or.inl ⟨by rfl, ?_⟩) (by assumption) ?_
      rotate_left
      · intro w hSw
        try dsimp only at hSw
        go_simp
        try with_reducible rfl
      try simp only [Act.put, List.setIfInBounds_toArray, List.set_cons_zero, List.set_cons_succ]
      refine wpAnyH_take (i := 12) (v := ?_) (by simp only [List.getElem?_toArray, List.getElem?_cons_zero, List.getElem?_cons_succ]; rfl) (by kernel_rfl) (by kernel_rfl) (by kernel_rfl) (by exact fun _ _ _ h => h) (Or.inl ⟨by rfl, ?_⟩) (by assumption) ?_
      rotate_left
      · intro w hSw
        try dsimp only at hSw
        go_simp
        try with_reducible rfl
      try simp only [Act.put, List.setIfInBounds_toArray, List.set_cons_zero, List.set_cons_succ]
      refine wpAnyH_ready (rs := [14]) (by kernel_rfl) (by simp) ?_
      refine AllReadyH.cons (by simp only [List.getElem?_toArray, List.getElem?_cons_zero, List.getElem?_cons_succ]; rfl) (fun K hK => ?_) AllReadyH.nil
      go_simp
      refine hK.out _ _ (keepY ((((hk5.setCell (p := ⟨wB.heap.size, 0, none⟩) (Nat.le_refl _) _).setCell (p := ⟨wB.heap.size, 1, none⟩) (Nat.le_refl _) _).setCell (p := ⟨wB.heap.size, 2, none⟩) (Nat.le_refl _) _).setCell (p := ⟨wB.heap.size, 3, none⟩) (Nat.le_refl _) _) tb.out e0 e1 e2 E3.out) (fun hHeld => ?_)
      clear hK K
      try simp only [Act.put, List.setIfInBounds_toArray, List.set_cons_zero, List.set_cons_succ]
      refine wpAnyH_take (i := 15) (v := ?_) (by simp only [List.getElem?_toArray, List.getElem?_cons_zero, List.getElem?_cons_succ]; rfl) (by kernel_rfl) (by kernel_rfl) (by kernel_rfl) (by exact fun _ _ _ h => h) (Or.inl ⟨by rfl, ?_⟩) (by assumption) ?_
      rotate_left
      · intro w hSw
        try dsimp only at hSw
        go_simp
        try with_reducible rfl
      try simp only [Act.put, List.setIfInBounds_toArray, List.set_cons_zero, List.set_cons_succ]
      refine wpAnyH_done (by kernel_rfl) ?_ _
      go_wp2_with fail
      go_meet
      case rel =>
        have hfar : T5.r.ks = [] ∨ ∀ ad, a5 = some ad → ad.block ≠ wB.heap.size := by
          rcases hf5 with rfl | rfl
          · exact .inr fun ad e => by cases e
          · rcases hxo.out with h | h
            · refine .inl ?_
              rw [hT5.out]
              unfold turnT
              split
              · exact h
              · rfl
            · exact .inr fun ad e => by have := h ad e; have := hw0.size; omega
        exact ⟨wB.heap.size, a5, n5, c5, rfl, rfl, blk_set4 bG.out, (((hi5.set2 _ 0 _ hfar).set2 _ 1 _ hfar).set2 _ 2 _ hfar).set2 _ 3 _ hfar, (((hk5.setCell (p := ⟨wB.heap.size, 0, none⟩) (Nat.le_refl _) _).setCell (p := ⟨wB.heap.size, 1, none⟩) (Nat.le_refl _) _).setCell (p := ⟨wB.heap.size, 2, none⟩) (Nat.le_refl _) _).setCell (p := ⟨wB.heap.size, 3, none⟩) (Nat.le_refl _) _⟩
  case rest =>
  obtain ⟨G2, a6, n6, c6, rfl, rfl, bG2, hi6, hbc⟩ := hcut
  replace bG := hide (blk_below bG.out hbc)
  replace hi5 := hi5.below hbc
  replace hw0 := hw0.trans (hbc.mono hw0.size)
  have HSm := hide (sameTrust_any T5 T5 a5 n5 c5 a6 n6 c6 wc hi5 hi6)
  rw [sameT_refl] at HSm
  unfold trv at HSm
  unfold trO at bG bG2
  have x0 := blk_cell bG.out 0 _ rfl
  have x1 := blk_cell bG.out 1 _ rfl
  have x2 := blk_cell bG.out 2 _ rfl
  have x3 := blk_cell bG.out 3 _ rfl
  have z0 := blk_cell bG2.out 0 _ rfl
  have z1 := blk_cell bG2.out 1 _ rfl
  have z2 := blk_cell bG2.out 2 _ rfl
  have z3 := blk_cell bG2.out 3 _ rfl
  have q9 : (R == R) = true := by simp
  clear hbc HVk
  go_wp2_with fail
  refine (unhide HSm).mono ?_
  rintro e w9 ⟨rfl, hb⟩
  go_wp2_with fail
  go_ret
  exact ⟨rfl, hw0.trans (hb.mono hw0.size)⟩

end Go.Proofs.YtanpglfpopbfkabDoor
