/- The contract of trust.turnAll. The contract of meta.ReleaseText. -/
import Derived.Test.YtgngpmgjoifepaaGreatDoorPt19
import Derived.Deep.RegionHeld3
import Derived.Deep.DeepCutAuto
import Derived.Test.YtgngpmgjoifepaaGreatDoorPt9
import Derived.Test.YtgngpmgjoifepaaGreatDoorPt0
import Derived.Deep.AppendLies
namespace Go.Proofs.YtgngpmgjoifepaaGreatDoor
open Go.RowKit

theorem turnsE_bad {ss : List ByteArray} {l : List S2} {t : Tr} {rs : List Rt} {sgs : List (List Int)} {k : Nat} (hk : k < rs.length) (hk2 : k < sgs.length) (h : turnE ss l t rs[k] sgs[k] ≠ 0) : turnsE ss l t (rs.drop k) (sgs.drop k) = turnE ss l t rs[k] sgs[k] := by
  rw [List.drop_eq_getElem_cons hk, List.drop_eq_getElem_cons hk2, turnsE, if_neg h]
theorem turnsE_next {ss : List ByteArray} {l : List S2} {t : Tr} {rs : List Rt} {sgs : List (List Int)} {k : Nat} (hk : k < rs.length) (hk2 : k < sgs.length) (h : turnE ss l t rs[k] sgs[k] = 0) : turnsE ss l t (rs.drop k) (sgs.drop k) = turnsE ss l ⟨rs[k], t.ver⟩ (rs.drop (k + 1)) (sgs.drop (k + 1)) := by
  rw [List.drop_eq_getElem_cons hk, List.drop_eq_getElem_cons hk2, turnsE, if_pos h]
theorem lastR_next {r : Rt} {rs : List Rt} {k : Nat} (hk : k < rs.length) : lastR r (rs.drop k) = lastR rs[k] (rs.drop (k + 1)) := by
  rw [List.drop_eq_getElem_cons hk, lastR]

structure TB3 (W : World) (B : Nat) (o0 o1 o2 : Obj) : Prop where
  b0 : W.heap[B]? = some o0
  b1 : W.heap[B + 1]? = some o1
  b2 : W.heap[B + 1 + 1]? = some o2
theorem TB3.below {W W' : World} {B : Nat} {o0 o1 o2 : Obj} (h : TB3 W B o0 o1 o2) (hb : Below W.heap.size W W') : TB3 W' B o0 o1 o2 :=
  ⟨blk_below h.b0 hb, blk_below h.b1 hb, blk_below h.b2 hb⟩

def AInv (w : World) (ab : Option Addr) (nb cb : Nat) (ss : List ByteArray) (l : List S2) (t : Tr) (a2 : Option Addr) (rs : List Rt) (sgs : List (List Int)) (k : Nat) (wr : World) : Prop :=
  ∃ (tr : Tr) (a : Option Addr) (n c : Nat), Below w.heap.size w wr ∧ Hid (TB3 wr w.heap.size (bkO ab nb cb) (trO tr a n c) tzO) ∧ BI wr a n tr.r.ks ∧ ((a = a2 ∧ k = 0) ∨ Frsh (w.heap.size + 3) a) ∧ Hid (tr.r.ks = [] ∨ ∀ ad, a = some ad → ad.block ≠ w.heap.size + 1 ∧ ad.block ≠ w.heap.size + 1 + 1) ∧
    Hid (turnsE ss l tr (rs.drop k) (sgs.drop k) = turnsE ss l t rs sgs ∧ lastR tr.r (rs.drop k) = lastR t.r rs ∧ tr.ver = t.ver)

theorem blk_set4 {W : World} {b : Nat} {v0 v1 v2 v3 u0 u1 u2 u3 : Value} {ty : TypeId} (h : W.heap[b]? = some (.cells #[v0, v1, v2, v3] ty (0, 0))) :
    ((((W.setCell ⟨b, 0, none⟩ u0).setCell ⟨b, 1, none⟩ u1).setCell ⟨b, 2, none⟩ u2).setCell ⟨b, 3, none⟩ u3).heap[b]? = some (.cells #[u0, u1, u2, u3] ty (0, 0)) := by
  simp only [World.setCell, Array.getElem?_modify]
  simp [h]
theorem blk_far4 {W : World} {b g : Nat} {u0 u1 u2 u3 : Value} {o : Obj} (h : W.heap[g]? = some o) (hg : g ≠ b) :
    ((((W.setCell ⟨b, 0, none⟩ u0).setCell ⟨b, 1, none⟩ u1).setCell ⟨b, 2, none⟩ u2).setCell ⟨b, 3, none⟩ u3).heap[g]? = some o := by
  rw [Below.heap_setCell _ _ _ _ hg, Below.heap_setCell _ _ _ _ hg, Below.heap_setCell _ _ _ _ hg, Below.heap_setCell _ _ _ _ hg]
  exact h

theorem allE_1 {ss : List ByteArray} {l : List S2} {t : Tr} {rs : List Rt} {sgs : List (List Int)} (h : 6 < rs.length) : allE ss l t rs sgs = 2 := by unfold allE; rw [if_pos h]
theorem allE_2 {ss : List ByteArray} {l : List S2} {t : Tr} {rs : List Rt} {sgs : List (List Int)} (h : ¬ 6 < rs.length) (h2 : ¬ sgs.length = rs.length) : allE ss l t rs sgs = 2 := by unfold allE; rw [if_neg h, if_neg h2]
theorem allE_3 {ss : List ByteArray} {l : List S2} {t : Tr} {rs : List Rt} {sgs : List (List Int)} (h : ¬ 6 < rs.length) (h2 : sgs.length = rs.length) : allE ss l t rs sgs = turnsE ss l t rs sgs := by unfold allE; rw [if_neg h, if_pos h2]

theorem keepA {w1 W : World} {B V bs_ os_ : Nat} {ab : Option Addr} {nb cb : Nat} {tr : Tr} {a : Option Addr} {n c : Nat} {x : Rt} {ax : Option Addr} {nx cx : Nat} {sv_ : Value} (hb : Below w1.heap.size w1 W) (h : TB3 w1 B (bkO ab nb cb) (trO tr a n c) tzO) (hV : w1.heap[V]? = some (rtO x ax nx cx)) (hs : w1.cell? ⟨bs_, os_, none⟩ = some sv_) :
    W.cell? ⟨B, 0, none⟩ = some (.slice ab nb cb) ∧ W.cell? ⟨B + 1, 0, none⟩ = some (.int .i64 tr.r.v) ∧ W.cell? ⟨B + 1, 1, none⟩ = some (.slice a n c) ∧ W.cell? ⟨B + 1, 2, none⟩ = some (.int .i64 tr.r.t) ∧ W.cell? ⟨B + 1, 3, none⟩ = some (.int .i64 tr.ver) ∧
    W.cell? ⟨V, 0, none⟩ = some (.int .i64 x.v) ∧ W.cell? ⟨V, 1, none⟩ = some (.slice ax nx cx) ∧ W.cell? ⟨V, 2, none⟩ = some (.int .i64 x.t) ∧ W.cell? ⟨bs_, os_, none⟩ = some sv_ ∧ Below w1.heap.size w1 W := by
  have h' := h.below hb
  have hV' := blk_below hV hb
  exact ⟨blk_cell h'.b0 0 _ rfl, blk_cell h'.b1 0 _ rfl, blk_cell h'.b1 1 _ rfl, blk_cell h'.b1 2 _ rfl, blk_cell h'.b1 3 _ rfl, blk_cell hV' 0 _ rfl, blk_cell hV' 1 _ rfl, blk_cell hV' 2 _ rfl, by rw [hb.cell (cell_lt hs)]; exact hs, hb⟩

set_option maxHeartbeats 3200000 in
set_option maxRecDepth 100000 in
theorem turnAll_any (ab : Option Addr) (nb cb : Nat) (ss : List ByteArray) (a1 : Option Addr) (n1 c1 : Nat) (l : List S2) (t : Tr) (a2 : Option Addr) (n2 c2 : Nat) (a3 : Option Addr) (n3 c3 : Nat) (rs : List Rt) (a4 : Option Addr) (n4 c4 : Nat) (sgs : List (List Int)) (w : World)
    (h0 : BB w ab nb cb ss) (h1 : BG w a1 n1 l) (h2 : BI w a2 n2 t.r.ks) (h3 : BR w a3 n3 rs) (h4 : BL w a4 n4 sgs) (hT : Tab w) :
    Calls Tryz.prog 138 #[bookv ab nb cb, .slice a1 n1 c1, trv t.r.v a2 n2 c2 t.r.t t.ver, .slice a3 n3 c3, .slice a4 n4 c4] w fun e w' => TAns w' e (turnT (allE ss l t rs sgs) t (lastR t.r rs)) (allE ss l t rs sgs) (fun a => (a = a2 ∧ rs = []) ∨ Frsh w.heap.size a) ∧ Below w.heap.size w w' := by
  have hw0 : Below w.heap.size w (((w.alloc (bkO ab nb cb)).alloc (trO t a2 n2 c2)).alloc tzO) := (((Below.refl _ _).alloc (Nat.le_refl _) _).alloc (by simp) _).alloc (by simp; omega) _
  have tb : Hid (TB3 (((w.alloc (bkO ab nb cb)).alloc (trO t a2 n2 c2)).alloc tzO) w.heap.size (bkO ab nb cb) (trO t a2 n2 c2) tzO) :=
    ⟨blk_alloc (blk_alloc (heap_alloc_last _ _) _) _, blk_alloc (last1 _ _ _) _, last2 _ _ _ _⟩
  have HTn := hide (fun W (tr : Tr) a n c x ax nx cx ag ng cg sg (hW : Below w.heap.size w W) (hi : BI W a n tr.r.ks) (hx : BI W ax nx x.ks) (hg : BI W ag ng sg) => turn_any ab nb cb ss a1 n1 c1 l tr a n c x ax nx cx ag ng cg sg W (h0.below hW) (h1.below hW) hi hx hg (hT.below hW))
  have L3 := hide h3.len
  have L4 := hide h4.len
  have m3 := h3.max
  have m4 := h4.max
  have H2 := hide (h2.below hw0)
  have H2o := hide h2.old
  have H3 := hide h3.at_
  have H4 := hide h4.at_
  unfold trv rv bookv at HTn
  unfold trv bookv
  unfold maxLen at m3 m4
  clear h0 h1 h2 h3 h4 hT
  by_cases z1 : 6 < n3
  {
  have HE := hide (allE_1 (ss := ss) (l := l) (t := t) (sgs := sgs) (rs := rs) (by rw [L3.out]; exact z1))
  unfold bkO trO tzO at hw0 tb
  have ZN := hide (show (2 : Int) ≠ 0 by decide)
  clear HTn H2
  go_enter Tryz.func138, Tryz.ntmps138
  go_wp2_with fail
  refine bodyPost_ret (v := .tuple #[.agg #[.int .i64 0, .slice none 0 0, .int .i64 0, .int .i64 0], .int .i64 2]) (by simp [results, Tryz.results138, go_sem]) rfl ?_
  exact ⟨tAns_e HE.out ZN.out (.inr (frsh_none _)), hw0⟩
  }
  have d1 : decide (6 < (n3 : Int)) = false := by simp; omega
  by_cases z2 : n4 = n3
  rotate_left
  {
  have HE := hide (allE_2 (ss := ss) (l := l) (t := t) (sgs := sgs) (rs := rs) (by rw [L3.out]; exact z1) (by rw [L3.out, L4.out]; exact z2))
  have d2 : ((n4 : Int) != (n3 : Int)) = true := by simp; omega
  unfold bkO trO tzO at hw0 tb
  have ZN := hide (show (2 : Int) ≠ 0 by decide)
  clear HTn H2 z1 z2
  go_enter Tryz.func138, Tryz.ntmps138
  go_wp2_with fail
  refine bodyPost_ret (v := .tuple #[.agg #[.int .i64 0, .slice none 0 0, .int .i64 0, .int .i64 0], .int .i64 2]) (by simp [results, Tryz.results138, go_sem]) rfl ?_
  exact ⟨tAns_e HE.out ZN.out (.inr (frsh_none _)), hw0⟩
  }
  have HE := hide (allE_3 (ss := ss) (l := l) (t := t) (sgs := sgs) (rs := rs) (by rw [L3.out]; exact z1) (by rw [L3.out, L4.out]; exact z2))
  have d2 : ((n4 : Int) != (n3 : Int)) = false := by simp; omega
  have Z2 := hide z2
  clear z2
  have hsize : w.heap.size + 1 + 1 < (((w.alloc (bkO ab nb cb)).alloc (trO t a2 n2 c2)).alloc tzO).heap.size := by simp
  unfold bkO trO tzO at hw0 tb H2 hsize
  go_enter Tryz.func138, Tryz.ntmps138
  go_wp2_with fail
  generalize ((w.alloc (.cells #[.slice ab nb cb] 24)).alloc (.cells #[.int .i64 t.r.v, .slice a2 n2 c2, .int .i64 t.r.t, .int .i64 t.ver] 65)).alloc (.cells #[.int .i64 0, .slice none 0 0, .int .i64 0, .int .i64 0] 65) = W at *
  go_loopw [29] (fun i wr => ∃ k : Nat, k ≤ n3 ∧ i = .int .i64 k ∧ AInv w ab nb cb ss l t a2 rs sgs k wr) (fun i _ => n3 - (intOf i).toNat)
  case atStart => exact ⟨0, Nat.zero_le _, rfl, t, a2, n2, c2, hw0, tb, H2.out, .inl ⟨rfl, rfl⟩, H2o.out.imp id (fun h ad e => by have := h ad e; omega), ⟨rfl, rfl, rfl⟩⟩
  case round =>
    clear tb hw0 H2 hsize
    obtain ⟨wq, rfl⟩ : ∃ wq : World, wq = wr := ⟨_, rfl⟩
    obtain ⟨k, hk, rfl, tr, a, n, c, hw0, tb, hi, hfa, hne, hts⟩ := hrel
    by_cases hlt : k < n3
    {
    have hk3 : k < rs.length := by rw [L3.out]; exact hlt
    have hk4 : k < sgs.length := by rw [L4.out, Z2.out]; exact hlt
    have hlt4 : k < n4 := by rw [Z2.out]; exact hlt
    have i3 := H3.out.below hw0
    have i4 := H4.out.below hw0
    rcases i3 with e | ⟨b3, o3, rfl, hc3⟩
    { rw [e] at hk3; simp at hk3 }
    rcases i4 with e | ⟨b4, o4, rfl, hc4⟩
    { rw [e] at hk4; simp at hk4 }
    obtain ⟨ax, cx, e0, e1, e2, hix, hlx, hcx⟩ := hc3 k rs[k] (List.getElem?_eq_getElem hk3)
    obtain ⟨ag, cg, g0, hig, hlg, hcg⟩ := hc4 k sgs[k] (List.getElem?_eq_getElem hk4)
    have bix : BI wq ax rs[k].ks.length rs[k].ks := ⟨hix, rfl, by omega⟩
    have big : BI wq ag sgs[k].length sgs[k] := ⟨hig, rfl, by omega⟩
    have HEb := hide (turnsE_bad (ss := ss) (l := l) (t := tr) hk3 hk4)
    have HEn := hide (turnsE_next (ss := ss) (l := l) (t := tr) hk3 hk4)
    have HLn := hide (lastR_next (r := tr.r) hk3)
    clear hc3 hc4 hix hig hlx hcx hlg hcg
    generalize rs[k] = x at *
    generalize sgs[k] = sg at *
    obtain ⟨nx, hnx⟩ : ∃ nx, nx = x.ks.length := ⟨_, rfl⟩
    obtain ⟨ng, hng⟩ : ∃ ng, ng = sg.length := ⟨_, rfl⟩
    rw [← hnx] at e1 bix
    rw [← hng] at g0 big
    have lt0 := blk_lt tb.out.b2
    have hbP : Below wq.heap.size wq (wq.alloc (.cells #[.int .i64 x.v, .slice ax nx cx, .int .i64 x.t] 63)) := (Below.refl _ _).alloc (Nat.le_refl _) _
    have bV : Hid ((wq.alloc (.cells #[.int .i64 x.v, .slice ax nx cx, .int .i64 x.t] 63)).heap[wq.heap.size]? = some (rtO x ax nx cx)) := heap_alloc_last wq (rtO x ax nx cx)
    have tbP := hide (tb.out.below hbP)
    have hwP := hw0.trans (hbP.mono hw0.size)
    have hiP := hi.below hbP
    have bxP := bix.below hbP
    have bgP := big.below hbP
    have gP : (wq.alloc (.cells #[.int .i64 x.v, .slice ax nx cx, .int .i64 x.t] 63)).cell? ⟨b4, o4 + k, none⟩ = some (.slice ag ng cg) := by rw [hbP.cell (cell_lt g0)]; exact g0
    clear hnx hng
    go_upto_region 6 with fail
    generalize wq.alloc (.cells #[.int .i64 x.v, .slice ax nx cx, .int .i64 x.t] 63) = wP at *
    obtain ⟨V, hV⟩ : ∃ V, V = wq.heap.size := ⟨_, rfl⟩
    rw [← hV] at bV ⊢
    clear e0 e1 e2 g0 hbP hi bix big tb hw0 hV
    have HTk := hide (fun W' (hW : Below wP.heap.size wP W') => HTn.out W' tr a n c x ax nx cx ag ng cg sg (hwP.trans (hW.mono hwP.size)) (hiP.below hW) (bxP.below hW) (bgP.below hW))
    generalize turnE ss l tr x sg = R at *
    obtain ⟨T5, hT5⟩ : ∃ T, T = turnT R tr x := ⟨_, rfl⟩
    rw [← hT5] at HTk
    replace hT5 := hide hT5
    unfold TAns trv at HTk
    go_cut [14, 15] (fun v14 v15 wc => ∃ G a5 n5 c5, v14 = .pointer (some ⟨G, 0, none⟩) ∧ v15 = .int .i64 R ∧ Hid (wc.heap[G]? = some (trO T5 a5 n5 c5)) ∧ BI wc a5 n5 T5.r.ks ∧ Frsh wP.heap.size a5 ∧ Below wP.heap.size wP wc)
    case first =>
      refine wp_region_held_drew (S := fun w' => w'.cell? ⟨w.heap.size, 0, none⟩ = some (.slice ab nb cb) ∧ w'.cell? ⟨w.heap.size + 1, 0, none⟩ = some (.int .i64 tr.r.v) ∧ w'.cell? ⟨w.heap.size + 1, 1, none⟩ = some (.slice a n c) ∧ w'.cell? ⟨w.heap.size + 1, 2, none⟩ = some (.int .i64 tr.r.t) ∧ w'.cell? ⟨w.heap.size + 1, 3, none⟩ = some (.int .i64 tr.ver) ∧ w'.cell? ⟨V, 0, none⟩ = some (.int .i64 x.v) ∧ w'.cell? ⟨V, 1, none⟩ = some (.slice ax nx cx) ∧ w'.cell? ⟨V, 2, none⟩ = some (.int .i64 x.t) ∧ w'.cell? ⟨b4, o4 + k, none⟩ = some (.slice ag ng cg) ∧ Below wP.heap.size wP w') (by kernel_rfl) (keepA (Below.refl _ _).drew tbP.out bV.out gP) ?_
      intro hHeld
      refine Htake (i := 0) (v := ?_) (by rfl) (by kernel_rfl) (by exact fun _ _ _ h => h) (Or.inl ⟨by rfl, ?_⟩) (by assumption) ?_
      rotate_left
      {
      intro w hSw
      try dsimp only at hSw
      go_simp
      try with_reducible rfl
      }
      try simp only [sq]
      refine Htake (i := 1) (v := ?_) (by rfl) (by kernel_rfl) (by exact fun _ _ _ h => h) (Or.inl ⟨by rfl, ?_⟩) (by assumption) ?_
      rotate_left
      {
      intro w hSw
      try dsimp only at hSw
      go_simp
      try with_reducible rfl
      }
      try simp only [sq]
      refine Htake (i := 2) (v := ?_) (by rfl) (by kernel_rfl) (by exact fun _ _ _ h => h) (Or.inl ⟨by rfl, ?_⟩) (by assumption) ?_
      rotate_left
      {
      intro w hSw
      try dsimp only at hSw
      go_simp
      try with_reducible rfl
      }
      try simp only [sq]
      refine Htake (i := 3) (v := ?_) (by rfl) (by kernel_rfl) (by exact fun _ _ _ h => h) (Or.inl ⟨by rfl, ?_⟩) (by assumption) ?_
      rotate_left
      {
      intro w hSw
      try dsimp only at hSw
      go_simp
      try with_reducible rfl
      }
      try simp only [sq]
      refine Htake (i := 4) (v := ?_) (by rfl) (by kernel_rfl) (by exact fun _ _ _ h => h) (Or.inl ⟨by rfl, ?_⟩) (by assumption) ?_
      rotate_left
      {
      intro w hSw
      try dsimp only at hSw
      go_simp
      try with_reducible rfl
      }
      try simp only [sq]
      refine Htake (i := 5) (v := ?_) (by rfl) (by kernel_rfl) (by exact fun _ _ _ h => h) (Or.inl ⟨by rfl, ?_⟩) (by assumption) ?_
      rotate_left
      {
      intro w hSw
      try dsimp only at hSw
      go_simp
      try with_reducible rfl
      }
      try simp only [sq]
      refine Htake (i := 6) (v := ?_) (by rfl) (by kernel_rfl) (by exact fun _ _ _ h => h) (Or.inl ⟨by rfl, ?_⟩) (by assumption) ?_
      rotate_left
      {
      intro w hSw
      try dsimp only at hSw
      go_simp
      try with_reducible rfl
      }
      try simp only [sq]
      refine Htake (i := 7) (v := ?_) (by rfl) (by kernel_rfl) (by exact fun _ _ _ h => h) (Or.inl ⟨by rfl, ?_⟩) (by assumption) ?_
      rotate_left
      {
      intro w hSw
      try dsimp only at hSw
      go_simp
      try with_reducible rfl
      }
      try simp only [sq]
      refine wpAnyH_ready (rs := [8, 12]) (by kernel_rfl) (by simp) ?_
      refine AllReadyH.cons (by rfl) (fun K hK => ?_) (AllReadyH.cons (by rfl) (fun K hK => ?_) AllReadyH.nil)
      {
      go_simp
      have hB := hHeld.2.2.2.2.2.2.2.2.2
      refine (unhide HTk _ hB).mono ?_
      rintro e w5 ⟨⟨a5, n5, c5, rfl, hi5, hf5⟩, hb⟩
      have hk5 := hB.trans (hb.mono hB.size)
      go_wp2_with fail
      refine hK.out _ _ (keepA hk5 tbP.out bV.out gP) (fun hHeld => ?_)
      clear hK K
      try simp only [sq]
      refine Htake (i := 9) (v := ?_) (by rfl) (by kernel_rfl) (by exact fun _ _ _ h => h) (Or.inl ⟨by rfl, ?_⟩) (by assumption) ?_
      rotate_left
      {
      intro w hSw
      try dsimp only at hSw
      go_simp
      try with_reducible rfl
      }
      try simp only [sq]
      refine Htake (i := 10) (v := ?_) (by rfl) (by kernel_rfl) (by exact fun _ _ _ h => h) (Or.inl ⟨by rfl, ?_⟩) (by assumption) ?_
      rotate_left
      {
      intro w hSw
      try dsimp only at hSw
      go_simp
      try with_reducible rfl
      }
      try simp only [sq]
      refine Htake (i := 11) (v := ?_) (by rfl) (by kernel_rfl) (by exact fun _ _ _ h => h) (Or.inl ⟨by rfl, ?_⟩) (by assumption) ?_
      rotate_left
      {
      intro w hSw
      try dsimp only at hSw
      go_simp
      try with_reducible rfl
      }
      try simp only [sq]
      refine wpAnyH_ready (rs := [12]) (by kernel_rfl) (by simp) ?_
      refine AllReadyH.cons (by rfl) (fun K hK => ?_) AllReadyH.nil
      go_simp
      refine hK.out _ _ (keepA (hk5.alloc hk5.size _) tbP.out bV.out gP) (fun hHeld => ?_)
      clear hK K
      try simp only [sq]
      refine wpAnyH_ready (rs := [13]) (by kernel_rfl) (by simp) ?_
      refine AllReadyH.cons (by rfl) (fun K hK => ?_) AllReadyH.nil
      go_simp
      refine hK.out _ _ (keepA (hk5.alloc hk5.size _) tbP.out bV.out gP) (fun hHeld => ?_)
      clear hK K
      try simp only [sq]
      refine Htake (i := 14) (v := ?_) (by rfl) (by kernel_rfl) (by exact fun _ _ _ h => h) (Or.inl ⟨by rfl, ?_⟩) (by assumption) ?_
      rotate_left
      {
      intro w hSw
      try dsimp only at hSw
      go_simp
      try with_reducible rfl
      }
      try simp only [sq]
      refine wpAnyH_done (by kernel_rfl) ?_ _
      go_wp2_with fail
      go_meet
      case rel => exact ⟨w5.heap.size, a5, n5, c5, rfl, rfl, heap_alloc_last _ (trO T5 a5 n5 c5), hi5.below ((Below.refl _ _).alloc (Nat.le_refl _) _), hf5, hk5.alloc hk5.size _⟩
      }
      {
      go_simp
      refine hK.out _ _ (keepA ((Below.refl _ _).drew.alloc (by simp) _) tbP.out bV.out gP) (fun hHeld => ?_)
      clear hK K
      try simp only [sq]
      refine wpAnyH_ready (rs := [8]) (by kernel_rfl) (by simp) ?_
      refine AllReadyH.cons (by rfl) (fun K hK => ?_) AllReadyH.nil
      go_simp
      have hB := hHeld.2.2.2.2.2.2.2.2.2
      refine (unhide HTk _ hB).mono ?_
      rintro e w5 ⟨⟨a5, n5, c5, rfl, hi5, hf5⟩, hb⟩
      have bG : Hid (w5.heap[wP.heap.size]? = some tzO) := blk_below (heap_alloc_last wP.drew tzO) hb
      have hk5 := hB.trans (hb.mono hB.size)
      unfold tzO at bG
      have y0 := blk_cell bG.out 0 _ rfl
      have y1 := blk_cell bG.out 1 _ rfl
      have y2 := blk_cell bG.out 2 _ rfl
      have y3 := blk_cell bG.out 3 _ rfl
      have f0 := blk_free bG.out 0
      have f1 := blk_free bG.out 1
      have f2 := blk_free bG.out 2
      have f3 := blk_free bG.out 3
      go_wp2_with fail
      refine hK.out _ _ (keepA hk5 tbP.out bV.out gP) (fun hHeld => ?_)
      clear hK K
      try simp only [sq]
      refine Htake (i := 9) (v := ?_) (by rfl) (by kernel_rfl) (by exact fun _ _ _ h => h) (Or.inl ⟨by rfl, ?_⟩) (by assumption) ?_
      rotate_left
      {
      intro w hSw
      try dsimp only at hSw
      go_simp
      try with_reducible rfl
      }
      try simp only [sq]
      refine Htake (i := 10) (v := ?_) (by rfl) (by kernel_rfl) (by exact fun _ _ _ h => h) (Or.inl ⟨by rfl, ?_⟩) (by assumption) ?_
      rotate_left
      {
      intro w hSw
      try dsimp only at hSw
      go_simp
      try with_reducible rfl
      }
      try simp only [sq]
      refine Htake (i := 11) (v := ?_) (by rfl) (by kernel_rfl) (by exact fun _ _ _ h => h) (Or.inl ⟨by rfl, ?_⟩) (by assumption) ?_
      rotate_left
      {
      intro w hSw
      try dsimp only at hSw
      go_simp
      try with_reducible rfl
      }
      try simp only [sq]
      refine wpAnyH_ready (rs := [13]) (by kernel_rfl) (by simp) ?_
      refine AllReadyH.cons (by rfl) (fun K hK => ?_) AllReadyH.nil
      go_simp
      refine hK.out _ _ (keepA ((((hk5.setCell (p := ⟨wP.heap.size, 0, none⟩) (Nat.le_refl _) _).setCell (p := ⟨wP.heap.size, 1, none⟩) (Nat.le_refl _) _).setCell (p := ⟨wP.heap.size, 2, none⟩) (Nat.le_refl _) _).setCell (p := ⟨wP.heap.size, 3, none⟩) (Nat.le_refl _) _) tbP.out bV.out gP) (fun hHeld => ?_)
      clear hK K
      try simp only [sq]
      refine Htake (i := 14) (v := ?_) (by rfl) (by kernel_rfl) (by exact fun _ _ _ h => h) (Or.inl ⟨by rfl, ?_⟩) (by assumption) ?_
      rotate_left
      {
      intro w hSw
      try dsimp only at hSw
      go_simp
      try with_reducible rfl
      }
      try simp only [sq]
      refine wpAnyH_done (by kernel_rfl) ?_ _
      go_wp2_with fail
      go_meet
      case rel =>
        have hfar : ∀ ad, a5 = some ad → ad.block ≠ wP.heap.size := fun ad e => by have h : (wP.alloc tzO).heap.size ≤ ad.block := hf5 ad e; rw [World.size_alloc] at h; omega
        exact ⟨wP.heap.size, a5, n5, c5, rfl, rfl, blk_set4 bG.out, (((hi5.set2 _ 0 _ (.inr hfar)).set2 _ 1 _ (.inr hfar)).set2 _ 2 _ (.inr hfar)).set2 _ 3 _ (.inr hfar), fun ad e => by have h : (wP.alloc tzO).heap.size ≤ ad.block := hf5 ad e; rw [World.size_alloc] at h; exact Nat.le_trans (Nat.le_succ _) h, (((hk5.setCell (p := ⟨wP.heap.size, 0, none⟩) (Nat.le_refl _) _).setCell (p := ⟨wP.heap.size, 1, none⟩) (Nat.le_refl _) _).setCell (p := ⟨wP.heap.size, 2, none⟩) (Nat.le_refl _) _).setCell (p := ⟨wP.heap.size, 3, none⟩) (Nat.le_refl _) _⟩
      }
    case rest =>
      obtain ⟨G, a5, n5, c5, rfl, rfl, bG, hi5, hf5, hbc⟩ := hcut
      have hP3 := blk_lt tbP.out.b2
      replace tbP := hide (tbP.out.below hbc)
      have hwC := hwP.trans (hbc.mono hwP.size)
      unfold bkO trO tzO at tbP
      by_cases z5 : R = 0
      {
      have hT := hT5.out
      rw [z5] at hT
      have hT' : T5 = ⟨x, tr.ver⟩ := by rw [hT]; rfl
      have HEN := hide (HEn.out z5)
      subst hT'
      subst z5
      unfold trO at bG
      have q0 := blk_cell bG.out 0 _ rfl
      have q1 := blk_cell bG.out 1 _ rfl
      have q2 := blk_cell bG.out 2 _ rfl
      have q3 := blk_cell bG.out 3 _ rfl
      have y0 := blk_cell tbP.out.b1 0 _ rfl
      have fy0 := blk_free tbP.out.b1 0
      have y1 := blk_cell tbP.out.b1 1 _ rfl
      have fy1 := blk_free tbP.out.b1 1
      have y2 := blk_cell tbP.out.b1 2 _ rfl
      have fy2 := blk_free tbP.out.b1 2
      have y3 := blk_cell tbP.out.b1 3 _ rfl
      have fy3 := blk_free tbP.out.b1 3
      go_wp2_with fail
      go_roundw
      case rel =>
        have hfar : ∀ ad, a5 = some ad → ad.block ≠ w.heap.size + 1 := fun ad e => by have h := hf5 ad e; omega
        refine ⟨k + 1, by omega, by go_num, ⟨x, tr.ver⟩, a5, n5, c5, ?_, ⟨blk_far4 tbP.out.b0 (by omega), blk_set4 tbP.out.b1, blk_far4 tbP.out.b2 (by omega)⟩, (((hi5.set2 _ 0 _ (.inr hfar)).set2 _ 1 _ (.inr hfar)).set2 _ 2 _ (.inr hfar)).set2 _ 3 _ (.inr hfar), .inr (fun ad e => by have h := hf5 ad e; omega), .inr (fun ad e => by have h := hf5 ad e; omega), ?_⟩
        { exact ((((hwC).setCell (by show w.heap.size ≤ w.heap.size + 1; omega) _).setCell (by show w.heap.size ≤ w.heap.size + 1; omega) _).setCell (by show w.heap.size ≤ w.heap.size + 1; omega) _).setCell (by show w.heap.size ≤ w.heap.size + 1; omega) _ }
        { exact ⟨HEN.out.symm.trans hts.out.1, HLn.out.symm.trans hts.out.2.1, hts.out.2.2⟩ }
      case measure => simp [intOf]; omega
      }
      {
      have HEB := hide (HE.out.trans (hts.out.1.symm.trans (HEb.out z5)))
      have ZN := hide z5
      have hq : (R != 0) = true := by simpa using z5
      clear z5 HTk HTn HEn HEb
      have y0 := blk_cell tbP.out.b2 0 _ rfl
      have fy0 := blk_free tbP.out.b2 0
      have y1 := blk_cell tbP.out.b2 1 _ rfl
      have fy1 := blk_free tbP.out.b2 1
      have y2 := blk_cell tbP.out.b2 2 _ rfl
      have fy2 := blk_free tbP.out.b2 2
      have y3 := blk_cell tbP.out.b2 3 _ rfl
      have fy3 := blk_free tbP.out.b2 3
      go_wp2_with fail
      refine bodyPost_ret (v := .tuple #[.agg #[.int .i64 0, .slice none 0 0, .int .i64 0, .int .i64 0], .int .i64 R]) (by simp [results, Tryz.results138, go_sem, y0, y1, y2, y3]) rfl ?_
      exact ⟨tAns_e HEB.out ZN.out (.inr (frsh_none _)), ((((hwC).setCell (by simp; omega) _).setCell (by simp; omega) _).setCell (by simp; omega) _).setCell (by simp; omega) _⟩
      }
    }
    {
    have hkn : rs.length ≤ k := by rw [L3.out]; omega
    have HEB : Hid (allE ss l t rs sgs = 0) := by
      show _ = _
      rw [HE.out, ← hts.out.1, List.drop_eq_nil_of_le hkn]
      simp [turnsE]
    have hTT : Hid (turnT 0 t (lastR t.r rs) = tr) := by
      show _ = _
      rw [← hts.out.2.1, List.drop_eq_nil_of_le hkn]
      show (⟨tr.r, t.ver⟩ : Tr) = tr
      rw [← hts.out.2.2]
    unfold bkO trO tzO at tb
    have q0 := blk_cell tb.out.b1 0 _ rfl
    have q1 := blk_cell tb.out.b1 1 _ rfl
    have q2 := blk_cell tb.out.b1 2 _ rfl
    have q3 := blk_cell tb.out.b1 3 _ rfl
    have y0 := blk_cell tb.out.b2 0 _ rfl
    have fy0 := blk_free tb.out.b2 0
    have y1 := blk_cell tb.out.b2 1 _ rfl
    have fy1 := blk_free tb.out.b2 1
    have y2 := blk_cell tb.out.b2 2 _ rfl
    have fy2 := blk_free tb.out.b2 2
    have y3 := blk_cell tb.out.b2 3 _ rfl
    have fy3 := blk_free tb.out.b2 3
    go_wp2_with fail
    refine bodyPost_ret (v := .tuple #[.agg #[.int .i64 tr.r.v, .slice a n c, .int .i64 tr.r.t, .int .i64 tr.ver], .int .i64 0]) (by simp [results, Tryz.results138, go_sem, y0, y1, y2, y3]) rfl ?_
    rw [HEB.out, hTT.out]
    have hfar : tr.r.ks = [] ∨ ∀ ad, a = some ad → ad.block ≠ w.heap.size + 1 + 1 := hne.out.imp id (fun h ad e => (h ad e).2)
    exact ⟨⟨a, n, c, rfl, (((hi.set2 _ 0 _ hfar).set2 _ 1 _ hfar).set2 _ 2 _ hfar).set2 _ 3 _ hfar, hfa.imp (fun h => ⟨h.1, List.eq_nil_of_length_eq_zero (by rw [h.2] at hkn; omega)⟩) (fun h ad e => Nat.le_trans (by omega) (h ad e))⟩, ((((hw0).setCell (by simp; omega) _).setCell (by simp; omega) _).setCell (by simp; omega) _).setCell (by simp; omega) _⟩

    }
end Go.Proofs.YtgngpmgjoifepaaGreatDoor

namespace Go.Proofs.YtgngpmgjoifepaaGreatDoor
open Go.RowKit

theorem isInts_new (w : World) (b : Nat) (x : Int) (t : TypeId) (hb : b = w.heap.size) : IsInts (w.alloc (.cells #[.int .i64 x] t)) (some ⟨b, 0, none⟩) [x] :=
  isInts_at w b [x] _ t hb rfl

theorem rel_I64 {v u : Int} {ts : List T3} (h : relE v u ts = 0) : (∀ x ∈ [v], I64 x) ∧ (∀ x ∈ [u], I64 x) ∧ ∀ t ∈ ts, ∀ x ∈ [t.1, t.2.1, t.2.2], I64 x := by
  obtain ⟨h1, h2, h3⟩ := relE_IR h
  refine ⟨fun x hx => ?_, fun x hx => ?_, fun t ht x hx => ?_⟩
  { simp at hx; subst hx; exact h1 }
  { simp at hx; subst hx; exact h2 }
  {
  obtain ⟨a, b, c⟩ := h3 t ht
  simp at hx
  rcases hx with rfl | rfl | rfl
  { exact a }
  { exact b }
  {
  exact c

  }
  }
def prt (v u : Int) (ts : List T3) (k : Nat) : List ByteArray := bs (headT v u) :: (ts.take k).map (fun t => bs (tgtT t))

theorem row_one {w : World} {B b : Nat} {s : ByteArray} (h : OwnStrs w B [s]) (hb : b ≤ B) : w.ownsRow b 9 1 (.slice (some ⟨B, 0, none⟩) 1 1) 1 (svals [s]) :=
  ⟨rfl, .inr ⟨B, 1, (svals [s]).toArray, rfl, hb, h, Nat.le_refl _, by decide, by simp [svals], by simp [svals]⟩⟩

theorem prt_len {v u : Int} {ts : List T3} {n k : Nat} (hn : ts.length = n) (hk : k ≤ n) : (prt v u ts k).length = k + 1 := by simp [prt]; omega
theorem prt_all {v u : Int} {ts : List T3} {n : Nat} (hn : ts.length = n) : (prt v u ts n).map (·.data.toList) = headT v u :: ts.map tgtT := by
  unfold prt
  rw [List.take_of_length_le (by omega)]
  simp [bs]
theorem prt_next {v u : Int} {ts : List T3} {k : Nat} (hk : k < ts.length) : svals (prt v u ts (k + 1)) = svals (prt v u ts k) ++ [.string (bs (wr [ts[k].1, ts[k].2.1, ts[k].2.2]))] := by
  unfold prt svals
  rw [List.take_succ_eq_append_getElem hk, List.map_append, List.map_cons, List.map_append, List.map_cons, List.map_cons, List.map_nil, List.map_nil]
  rfl
theorem one_str (s : ByteArray) : ∀ u ∈ [Value.string s], u.oneCell' = true := by
  intro u hu; simp at hu; subst hu; rfl

theorem row_strs {w : World} {b n : Nat} {v : Value} {ss : List ByteArray} (h : w.ownsRow b 9 1 v n (svals ss)) (hn : ss.length = n) : ∃ A C, v = .slice A n C ∧ n ≤ C ∧ IsStrs w A ss := by
  obtain ⟨_, ⟨rfl, rfl⟩ | ⟨g, cap, cur, rfl, _, hg, hc, _, hs, ht⟩⟩ := h
  { exact ⟨none, 0, rfl, Nat.le_refl _, .inl (by simpa using hn)⟩ }
  {
  refine ⟨_, cap, rfl, hc, .inr ⟨g, 0, rfl, fun i hi => ?_⟩⟩
  have hi2 : (cur.toList.take (n * 1))[i]? = some (.string (ss.getD i ByteArray.empty)) := by rw [ht]; simp [svals, hi]
  rw [List.getElem?_take, if_pos (by omega)] at hi2
  rw [Nat.zero_add]
  exact blk_cell hg i _ (by simpa using hi2)

  }
theorem headT_app {s t : ByteArray} (v u : Int) (h : s = bs relW) (h2 : t = bs untW) : s ++ bs (wr [v]) ++ t ++ bs (wr [u]) = bs (headT v u) := app_four relW (wr [v]) untW (wr [u]) h h2

set_option maxHeartbeats 1600000 in
set_option maxRecDepth 100000 in
theorem releaseText_any (v u : Int) (a : Option Addr) (n c : Nat) (ts : List T3) (w : World) (h : IsTgts w a ts) (hn : ts.length = n) (hm : n ≤ maxLen) (hT : Tab w) :
    Calls Tryz.prog 184 #[relv v u a n c] w fun e w' => e = .returned (.tuple #[.string (bs (relTx v u ts)), .int .i64 (relE v u ts)]) ∧ Below w.heap.size w w' := by
  have hw0 : Below w.heap.size w (w.alloc (.cells #[.int .i64 v, .int .i64 u, .slice a n c] 73)) := (Below.refl _ _).alloc (Nat.le_refl _) _
  have b0 := hide (heap_alloc_last w (.cells #[.int .i64 v, .int .i64 u, .slice a n c] 73))
  have i0 := h.below hw0
  have t0 := hT.below hw0
  have HC := hide (fun W (hW : IsTgts W a ts) => checkRelease_any v u a n c ts W hW hn hm)
  unfold relv at HC ⊢
  by_cases h0 : relE v u ts = 0
  {
  have HX := hide (show relTx v u ts = relT v u ts by unfold relTx; rw [if_pos h0])
  obtain ⟨k1, k2, k3⟩ := rel_I64 h0
  have hl : n ≤ 4 := by have := (relE_ok h0).2.2.1; omega
  have HW := hide (fun W B x (kx : ∀ y ∈ [x], I64 y) (hW : IsInts W (some ⟨B, 0, none⟩) [x]) (hTW : Tab W) => written_any (some ⟨B, 0, none⟩) 1 1 [x] W hW rfl kx (by omega) hTW)
  have l1 := hide (wr_short k1 (by simp))
  have l2 := hide (wr_short k2 (by simp))
  have K1 := hide k1
  have K2 := hide k2
  have K3 := hide k3
  have H0 := hide h0
  rw [h0] at HC
  rw [h0]
  have hadd1 : ¬ 9223372036854775807 < 8 + (bs (wr [v])).size := by rw [bs_size]; have := l1.out; omega
  have hadd2 : ¬ 9223372036854775807 < 8 + (bs (wr [v])).size + 7 := by rw [bs_size]; have := l1.out; omega
  have hadd3 : ¬ 9223372036854775807 < 8 + (bs (wr [v])).size + 7 + (bs (wr [u])).size := by rw [bs_size, bs_size]; have := l1.out; have := l2.out; omega
  have HN := hide hn
  clear hn k1 k2 k3 h0
  go_enter Tryz.func184, Tryz.ntmps184
  go_wp2_with fail
  generalize w.alloc (.cells #[.int .i64 v, .int .i64 u, .slice a n c] 73) = W at *
  refine (unhide HC _ i0).mono ?_
  rintro e w1 ⟨rfl, hb1⟩
  replace b0 := hide (blk_below b0.out hb1)
  replace i0 := i0.below hb1
  replace t0 := t0.below hb1
  replace hw0 := hw0.trans (hb1.mono hw0.size)
  clear hb1
  replace HW := hide (fun W B x (hW : Below w1.heap.size w1 W) kx (hi : IsInts W (some ⟨B, 0, none⟩) [x]) => (HW.out W B x kx hi (t0.below hW)).mono fun _ _ h => (⟨h.1, h.2, hW.trans (h.2.mono hW.size)⟩ : _ ∧ Below W.heap.size W _ ∧ Below w1.heap.size w1 _))
  go_upto_region 4 with fail
  go_cut [5] (fun v5 wx => ∃ B, v5 = .slice (some ⟨B, 0, none⟩) 1 1 ∧ w1.heap.size ≤ B ∧ Hid (OwnStrs wx B [bs (headT v u)]) ∧ Below w1.heap.size w1 wx)
  case first =>
    have hb5 : True := trivial
    go_region_held3 (fun w' => w'.cell? ⟨w.heap.size, 0, none⟩ = some (.int .i64 v) ∧ w'.cell? ⟨w.heap.size, 1, none⟩ = some (.int .i64 u) ∧ w'.cell? ⟨w.heap.size, 2, none⟩ = some (.slice a n c) ∧ Below w1.heap.size w1 w')
      (first | (refine keep3 ?_ b0.out; (repeat (first | with_reducible assumption | with_reducible exact Below.refl _ _ | with_reducible refine Below.drew ?_ | with_reducible refine below_new ?_ _)); done))
      ((first
        | (go_at_call 210; refine (unhide HW _ _ v ?_ K1.out ?_).mono ?_; (focus ((repeat (first | with_reducible assumption | with_reducible exact Below.refl _ _ | with_reducible refine Below.drew ?_ | with_reducible refine below_new ?_ _)); done)); (focus ((repeat (first | with_reducible refine isInts_drew ?_ | (with_reducible refine isInts_new _ _ v _ ?_; (first | with_reducible rfl | (simp; done))) | with_reducible refine IsInts.alloc ?_ _ | with_reducible refine IsInts.below ?_ hb5)); done)); rintro e w5 ⟨rfl, hb5, hk5⟩)
        | (go_at_call 210; refine (unhide HW _ _ u ?_ K2.out ?_).mono ?_; (focus ((repeat (first | with_reducible assumption | with_reducible exact Below.refl _ _ | with_reducible refine Below.drew ?_ | with_reducible refine below_new ?_ _)); done)); (focus ((repeat (first | with_reducible refine isInts_drew ?_ | (with_reducible refine isInts_new _ _ u _ ?_; (first | with_reducible rfl | (simp; done))) | with_reducible refine IsInts.alloc ?_ _ | with_reducible refine IsInts.below ?_ hb5)); done)); rintro e w5 ⟨rfl, hb5, hk5⟩)))
    all_goals
      go_wp2_with fail
      go_meet
      case rel =>
        refine ⟨_, rfl, hk5.size, ?_, below_new hk5 _⟩
        show OwnStrs _ _ _
        rw [← headT_app v u rfl rfl]
        exact heap_alloc_last _ _
  case rest =>
  obtain ⟨B, rfl, hB, ho, hwc⟩ := hcut
  have hB0 : w.heap.size ≤ B := Nat.le_trans hw0.size hB
  replace b0 := hide (blk_below b0.out hwc)
  replace i0 := i0.below hwc
  replace t0 := t0.below hwc
  replace hw0 := hw0.trans (hwc.mono hw0.size)
  have x2 := blk_cell b0.out 2 _ rfl
  clear hwc hB HW hadd1 hadd2 hadd3 l1 l2 K1 K2
  have hr0 := row_one ho.out hB0
  clear ho
  have HJ := hide (fun W A C (hW : IsStrs W A (prt v u ts n)) (hC : n + 1 ≤ C) => join_any A (n + 1) C (prt v u ts n) [59, 32] W hW (prt_len HN.out (Nat.le_refl _)) hC (by omega) (by rw [prt_all HN.out]; have := relT_len H0.out; unfold relT at this; exact Nat.le_trans this (by decide)))
  rw [prt_all HN.out] at HJ
  obtain ⟨ii, hii, iz0, iz1, iz2⟩ := info_parts info_str
  have hr1 : Hid (wc.ownsRow w.heap.size 9 1 (.slice (some ⟨B, 0, none⟩) 1 1) (0 + 1) (svals (prt v u ts 0))) := hr0
  clear hr0
  go_wp2_with fail
  go_loopw [5, 29] (fun p i wq => ∃ k : Nat, k ≤ n ∧ i = .int .i64 k ∧ Below w.heap.size w wq ∧ Hid (wq.ownsRow w.heap.size 9 1 p (k + 1) (svals (prt v u ts k)))) (fun _ i _ => n - (intOf i).toNat)
  case atStart => exact ⟨0, Nat.zero_le _, rfl, hw0, hr1⟩
  case round =>
    rename_i p5
    clear hr1 x2 b0 i0 t0 hw0
    obtain ⟨wq, rfl⟩ : ∃ wq : World, wq = wr := ⟨_, rfl⟩
    obtain ⟨k, hk, rfl, hw, hr⟩ := hrel
    by_cases hlt : k < n
    {
    have i1 := h.below hw
    rcases i1 with rfl | ⟨bb, oo, rfl, hc0⟩
    {
    have := HN.out
    simp at this
    omega
    }
    have hkx : k < ts.length := by rw [HN.out]; exact hlt
    obtain ⟨e0, e1, e2⟩ := hc0 k ts[k] (List.getElem?_eq_getElem hkx)
    have hk3 := K3.out ts[k] (List.getElem_mem hkx)
    have HP := hide (prt_next (v := v) (u := u) hkx)
    clear hc0
    generalize ts[k] = tk at *
    have HR := hide (fun W => rowOf_any tk W)
    unfold tv at HR
    have HW := hide (fun W B (hW : IsInts W (some ⟨B, 0, none⟩) [tk.1, tk.2.1, tk.2.2]) (hTW : Tab W) => written_any (some ⟨B, 0, none⟩) 3 3 [tk.1, tk.2.1, tk.2.2] W hW rfl hk3 (by omega) hTW)
    have hwA := hw.alloc hw.size (.cells #[.int .i64 tk.1, .int .i64 tk.2.1, .int .i64 tk.2.2] 104)
    have hrA := hr.out.alloc (.cells #[.int .i64 tk.1, .int .i64 tk.2.1, .int .i64 tk.2.2] 104)
    go_wp2_with fail
    generalize wq.alloc (.cells #[.int .i64 tk.1, .int .i64 tk.2.1, .int .i64 tk.2.2] 104) = wA at *
    refine (unhide HR _).mono ?_
    rintro e w2 ⟨rfl, hb2⟩
    replace hwA := hwA.trans (hb2.mono hwA.size)
    replace hrA := hide (ownsRow_below hrA hb2)
    clear hb2
    have hwB := hwA.alloc hwA.size (.cells #[.int .i64 tk.1, .int .i64 tk.2.1, .int .i64 tk.2.2] 261)
    have hrB := hrA.out.alloc (.cells #[.int .i64 tk.1, .int .i64 tk.2.1, .int .i64 tk.2.2] 261)
    have iB : IsInts (w2.alloc (.cells #[.int .i64 tk.1, .int .i64 tk.2.1, .int .i64 tk.2.2] 261)) (some ⟨w2.heap.size, 0, none⟩) [tk.1, tk.2.1, tk.2.2] := isInts_at _ _ _ _ _ rfl rfl
    go_wp2_with fail
    generalize w2.alloc (.cells #[.int .i64 tk.1, .int .i64 tk.2.1, .int .i64 tk.2.2] 261) = wB at *
    refine (unhide HW _ _ iB (hT.below hwB)).mono ?_
    rintro e w3 ⟨rfl, hb3⟩
    replace hwB := hwB.trans (hb3.mono hwB.size)
    replace hrB := ownsRow_below hrB hb3
    have hrC := hrB.alloc (.cells #[.string (bs (wr [tk.1, tk.2.1, tk.2.2]))] 9)
    clear hb3
    go_wp2_with (at_builtin; refine wpList_append_lies _ rfl _ _ 22 rfl w.heap.size 9 ii _ 1 16 Tryz.underlying22 hii iz0 iz1 iz2 rfl (by omega) _ (k + 1) _ rfl hrC ⟨w3.heap.size, 0, none⟩ 1 1 [.string (bs (wr [tk.1, tk.2.1, tk.2.2]))] rfl rfl (news_one _ _ _) (one_str _) (by omega) (by unfold maxLen; omega) (by omega) (by have := hwB.size; simp; omega) (w3.heap.size + 1) (by simp) ?_; intro g cap w4 hown4 hgr4 _ _)
    have hw4 : Below w.heap.size w w4 := (hwB.alloc hwB.size _).grown hgr4 (by have := hwB.size; simp; omega) (ownBlock_ge hrC)
    go_wp2_with fail
    go_roundw
    case rel =>
      refine ⟨k + 1, by omega, by go_num, hw4, ?_⟩
      show World.ownsRow _ _ _ _ _ _ _
      rw [HP.out]
      exact hown4
    case measure => simp [intOf]; omega
    }
    {
    have hkn : k = n := by omega
    subst hkn
    obtain ⟨A, C, rfl, hC, hiS⟩ := row_strs hr.out (prt_len HN.out (Nat.le_refl _))
    go_wp2_with fail
    refine (unhide HJ _ _ _ hiS hC).mono ?_
    rintro e w5 ⟨rfl, hb5⟩
    go_wp2_with fail
    go_ret2
    rw [HX.out]
    exact ⟨rfl, hw.trans (hb5.mono hw.size)⟩
    }
  }
  {
  have hb : (relE v u ts != 0) = true := by simpa using h0
  have HX := hide (show relTx v u ts = [] by unfold relTx; rw [if_neg h0])
  clear hn h0
  generalize relE v u ts = q at *
  go_enter Tryz.func184, Tryz.ntmps184
  go_wp2_with fail
  generalize w.alloc (.cells #[.int .i64 v, .int .i64 u, .slice a n c] 73) = W at *
  refine (unhide HC _ i0).mono ?_
  rintro e w1 ⟨rfl, hb1⟩
  replace hw0 := hw0.trans (hb1.mono hw0.size)
  go_wp2_with fail
  go_ret2
  rw [HX.out]
  exact ⟨rfl, hw0⟩

  }
end Go.Proofs.YtgngpmgjoifepaaGreatDoor
