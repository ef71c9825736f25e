/- The contract of the reference's OwnGate: a gateway in memory of its own. -/
import Derived.Test.YtgngpmgjoifepaaGreatDoorPt16
import Derived.Test.YtgngpmgjoifepaaGreatDoorPt3
import Derived.Test.YtgngpmgjoifepaaGreatDoorPt34
import Derived.Deep.DeepCutAuto
import Derived.Deep.AppendLies
import Derived.Deep.RegionHeld3
import Derived.Lib.AppendZeros
import Derived.Maps.AppendAt
namespace Go.Proofs.YtgngpmgjoifepaaGreatDoor
open Go.RowKit
attribute [local go_sem ↓] Go.wp_at_zero Go.wp_at_succ

structure ROwn (w : World) (F : Nat) (k : GA) (g : Gt) (bv bd : Nat) : Prop where
  gin : GIn w k g
  fr : GFr F k
  av : k.av = some ⟨bv, 0, none⟩
  ad : k.ad = some ⟨bd, 0, none⟩
  vo : OwnB w bv g.vo
  di : OwnB w bd g.di
  ne : bv ≠ bd
  wv : Off bv k.a
  wd : Off bd k.a
  kv : Off bv k.ak
  kd : Off bd k.ak
def ROAns (w : World) (g : Gt) (e : Ending) (w' : World) : Prop := (∃ k bv bd, e = .returned (gtv g k) ∧ ROwn w' w.heap.size k g bv bd) ∧ Below w.heap.size w w'

theorem own_of_empty {w : World} {G base : Nat} {t : TypeId} (h : w.heap[G]? = some (.cells #[] t (0, 0))) (hb : base ≤ G) : w.ownsRow base t 1 (.slice (some ⟨G, 0, none⟩) 0 0) 0 [] :=
  ⟨rfl, .inr ⟨G, 0, #[], rfl, hb, h, Nat.le_refl _, Nat.zero_le _, rfl, rfl⟩⟩
theorem run_own (w : World) (G base : Nat) (t ty e : TypeId) (i : TypeInfo) (z : Value) (bytes : Nat) (ht : Tryz.prog.underlying t = some (.slice e)) (hi : Tryz.prog.info? e = some i) (hz : i.zero = some z) (hs : i.size = 1) (hby : i.bytes = bytes) (hzs : z.cells.size = 1)
    (hG : w.heap[G]? = some (.cells #[] e (0, 0))) (hb : base ≤ G) (a : Option Addr) (n c : Nat) (vs : List Value) (hl : vs.length = n) (hn : n = 0 ∨ ∃ ad, a = some ad ∧ ∀ j u, vs[j]? = some u → w.cell? (ad.add j) = some u) (h1 : ∀ u ∈ vs, u.oneCell' = true) (hm : n ≤ maxLen) (hbytes : n * bytes ≤ 140737488355328) :
    ∃ g cap w', (Builtin.append_ #[t, t] ty #[.slice (some ⟨G, 0, none⟩) 0 0, .slice a n c]).run Tryz.prog w = .ok (.slice (some ⟨g, 0, none⟩) n cap) w' ∧ w'.ownsRow base e 1 (.slice (some ⟨g, 0, none⟩) n cap) n vs ∧ w.grownBy w' (some G) ∧ (g = G ∨ g = w.heap.size) := by
  have hlt := blk_lt hG
  by_cases h0 : n = 0
  {
  subst h0
  have hv : vs = [] := List.eq_nil_of_length_eq_zero hl
  subst hv
  refine ⟨G, 0, w, ?_, own_of_empty hG hb, World.grownBy.refl _ _, .inl rfl⟩
  have hl : ∀ (x : Addr), (loadCells x 0).run Tryz.prog w = .ok #[] w := fun x => by simpa using run_loadCells_list (P := Tryz.prog) w x [] (by simp)
  cases a <;> simp [Builtin.append_, run_underlying ht, Builtin.lenOf, Builtin.firstCells, sizeOf, typeInfo, hi, storeCells, hl]
  }
  {
  obtain ⟨ad, rfl, hnews⟩ := hn.resolve_left h0
  obtain ⟨v', w', hr, h2, h3, h4, h5⟩ := run_append_own_at (P := Tryz.prog) w base t ty e i z 1 bytes ht hi hz hs hby hzs (by omega) (.slice (some ⟨G, 0, none⟩) 0 0) 0 [] (own_of_empty hG hb) ad n c vs (by omega) hnews h1 (by omega) (by rw [Nat.zero_add]; exact hbytes) (by omega)
  rw [Nat.zero_add, List.nil_append] at h2
  obtain ⟨_, ⟨hv, hn0⟩ | ⟨g, cap, cur, rfl, _⟩⟩ := id h2
  { exact absurd hn0 h0 }
  {
  refine ⟨g, cap, w', hr, h2, h3, ?_⟩
  rcases h5 with h5 | h5
  { exact .inl (by cases h5; rfl) }
  {
  exact .inr (by cases h5; rfl)

  }
  }
  }
theorem wpList_append_run {P : Program} {w : World} {ops : Array Oper} {rest : List Oper} {o : Oper} {a : Act} {Q : Exit → Act → World → Prop} (hgd : o.guard = none) (s x : Operand) (t tn : TypeId)
    (ho : o.op = .call { callee := .builtin .append, args := #[s, x], argTypes := #[t, tn] }) (vs vx : Value) (hs : a.eval s = vs) (hx : a.eval x = vx)
    (v' : Value) (w' : World) (hr : (Builtin.append_ #[t, tn] o.type #[vs, vx]).run P w = .ok v' w') (h : wpList P ops Q rest (a.put o.dst v') w') : wpList P ops Q (o :: rest) a w :=
  wpList_plain hgd fun _ hK => Lib.wp_append_run w s x t tn ho vs vx hs hx v' w' hr (hK _ _ h)
theorem step_app_run {P : Program} {w : World} {ops : Array Oper} {o : Oper} {a : Act} {K : Act → World → Prop} {Q : Exit → Act → World → Prop} {E : Prop} (hgd : o.guard = none) (s x : Operand) (t tn : TypeId)
    (ho : o.op = .call { callee := .builtin .append, args := #[s, x], argTypes := #[t, tn] }) (vs vx : Value) (hs : a.eval s = vs) (hx : a.eval x = vx)
    (v' : Value) (w' : World) (hr : (Builtin.append_ #[t, tn] o.type #[vs, vx]).run P w = .ok v' w') (h : K (a.put o.dst v') w') :
    if Region.wanted o (yielded ops a.tmps) = true then Oper.wp P o a w K Q else E := by
  have hw : Region.wanted o (yielded ops a.tmps) = true := by simp [Region.wanted, hgd]
  rw [if_pos hw]
  exact Lib.wp_append_run w s x t tn ho vs vx hs hx v' w' hr h
theorem run_own_i (w : World) (G base : Nat) (ty : TypeId) (hG : w.heap[G]? = some (.cells #[] 3 (0, 0))) (hb : base ≤ G) (a : Option Addr) (n c : Nat) (xs : List Int) (h : BI w a n xs) (hs : n * 8 ≤ 140737488355328) :
    ∃ g cap w', (Builtin.append_ #[25, 25] ty #[.slice (some ⟨G, 0, none⟩) 0 0, .slice a n c]).run Tryz.prog w = .ok (.slice (some ⟨g, 0, none⟩) n cap) w' ∧ w'.ownsRow base 3 1 (.slice (some ⟨g, 0, none⟩) n cap) n (vals xs) ∧ w.grownBy w' (some G) ∧ (g = G ∨ g = w.heap.size) := by
  obtain ⟨i0, hi0, hz0, hz1, hz2⟩ := info_parts info_int
  refine run_own w G base 25 ty 3 i0 _ 8 Tryz.underlying25 hi0 hz0 hz1 hz2 rfl hG hb a n c (vals xs) (by rw [vals_length, h.len]) ?_ (vals_one xs) h.max hs
  by_cases h0 : n = 0
  { exact .inl h0 }
  {
  obtain ⟨b, off, rfl⟩ := h.spot h0
  exact .inr ⟨_, rfl, h.news⟩
  }
theorem run_own_b (w : World) (G base : Nat) (ty : TypeId) (hG : w.heap[G]? = some (.cells #[] 4 (0, 0))) (hb : base ≤ G) (a : Option Addr) (n c : Nat) (bs : List Bool) (h : BV w a n c bs) (hs : n ≤ 140737488355328) :
    ∃ g cap w', (Builtin.append_ #[66, 66] ty #[.slice (some ⟨G, 0, none⟩) 0 0, .slice a n c]).run Tryz.prog w = .ok (.slice (some ⟨g, 0, none⟩) n cap) w' ∧ w'.ownsRow base 4 1 (.slice (some ⟨g, 0, none⟩) n cap) n (bvals bs) ∧ w.grownBy w' (some G) ∧ (g = G ∨ g = w.heap.size) := by
  obtain ⟨i0, hi0, hz0, hz1, hz2⟩ := info_parts info_bool
  refine run_own w G base 66 ty 4 i0 _ 1 Tryz.underlying66 hi0 hz0 hz1 hz2 rfl hG hb a n c (bvals bs) (by rw [bvals_length, h.len]) ?_ (bvals_one bs) h.max (by omega)
  by_cases h0 : n = 0
  { exact .inl h0 }
  {
  obtain ⟨b, off, rfl⟩ := h.spot h0
  exact .inr ⟨_, rfl, h.news⟩

  }
theorem ownB_row {w : World} {base g n cap : Nat} {bs : List Bool} (h : w.ownsRow base 4 1 (.slice (some ⟨g, 0, none⟩) n cap) n (bvals bs)) (hn : bs.length = n) : OwnB w g bs ∧ n ≤ cap := by
  obtain ⟨_, ⟨hv, _⟩ | ⟨g', cap', cur, hv, _, hh, hc, _, hcs, ht⟩⟩ := h
  { cases hv }
  {
  cases hv
  exact ⟨⟨cur, hh, by rw [hn]; simpa using ht, by omega⟩, hc⟩
  }
theorem own_set2 {W : World} {B : Nat} {c0 c1 c2 c3 c4 c5 c6 c7 c8 v7 v8 : Value} {t : TypeId} (h : W.heap[B]? = some (.cells #[c0, c1, c2, c3, c4, c5, c6, c7, c8] t (0, 0))) :
    ((W.setCell ⟨B, 7, none⟩ v7).setCell ⟨B, 8, none⟩ v8).heap[B]? = some (.cells #[c0, c1, c2, c3, c4, c5, c6, v7, v8] t (0, 0)) := by
  simp only [World.setCell, Array.getElem?_modify]
  simp [h]
theorem rowLt {w : World} {base n size : Nat} {v : Value} {vs : List Value} {t : TypeId} {g : Nat} (h : w.ownsRow base t size v n vs) (hg : v.ownBlock = some g) : g < w.heap.size := by
  obtain ⟨_, ⟨hv, _⟩ | ⟨g', cap, cur, hv, _, hh, _⟩⟩ := h
  { subst hv; cases hg }
  { subst hv; cases hg; exact blk_lt hh }
theorem rowGe {w : World} {base n size : Nat} {v : Value} {vs : List Value} {t : TypeId} {g : Nat} (h : w.ownsRow base t size v n vs) (hg : v.ownBlock = some g) : base ≤ g := by
  obtain ⟨_, ⟨hv, _⟩ | ⟨g', cap, cur, hv, hb, hh, _⟩⟩ := h
  { subst hv; cases hg }
  { subst hv; cases hg; exact hb }
set_option maxRecDepth 100000 in
set_option maxHeartbeats 12800000 in
theorem ownGate_any (g : Gt) (k0 : GA) (w : World) (h : GIn w k0 g) (h1 : k0.n * 8 ≤ 140737488351232) (h2 : k0.nk * 8 ≤ 140737488351232) (h3 : k0.nv ≤ 140737488351232) (h4 : k0.nd ≤ 140737488351232) :
    Calls Tryz.prog 29 #[gtv g k0] w (ROAns w g) := by
  have hw : Below w.heap.size w ((w.alloc (.cells #[.slice k0.a k0.n k0.c, .int .i64 g.fu, .bool g.up, .int .i64 g.t.r.v, .slice k0.ak k0.nk k0.ck, .int .i64 g.t.r.t, .int .i64 g.t.ver, .slice k0.av k0.nv k0.cv, .slice k0.ad k0.nd k0.cd] 68)).alloc (.cells #[.slice none 0 0, .int .i64 0, .bool false, .int .i64 0, .slice none 0 0, .int .i64 0, .int .i64 0, .slice none 0 0, .slice none 0 0] 68)) := ((Below.refl _ _).alloc (Nat.le_refl _) _).alloc (by simp) _
  have b0 : Hid (((w.alloc (.cells #[.slice k0.a k0.n k0.c, .int .i64 g.fu, .bool g.up, .int .i64 g.t.r.v, .slice k0.ak k0.nk k0.ck, .int .i64 g.t.r.t, .int .i64 g.t.ver, .slice k0.av k0.nv k0.cv, .slice k0.ad k0.nd k0.cd] 68)).alloc (.cells #[.slice none 0 0, .int .i64 0, .bool false, .int .i64 0, .slice none 0 0, .int .i64 0, .int .i64 0, .slice none 0 0, .slice none 0 0] 68)).heap[w.heap.size]? = some (.cells #[.slice k0.a k0.n k0.c, .int .i64 g.fu, .bool g.up, .int .i64 g.t.r.v, .slice k0.ak k0.nk k0.ck, .int .i64 g.t.r.t, .int .i64 g.t.ver, .slice k0.av k0.nv k0.cv, .slice k0.ad k0.nd k0.cd] 68 (0, 0))) := blk_alloc (heap_alloc_last _ _) _
  have b1 : Hid (((w.alloc (.cells #[.slice k0.a k0.n k0.c, .int .i64 g.fu, .bool g.up, .int .i64 g.t.r.v, .slice k0.ak k0.nk k0.ck, .int .i64 g.t.r.t, .int .i64 g.t.ver, .slice k0.av k0.nv k0.cv, .slice k0.ad k0.nd k0.cd] 68)).alloc (.cells #[.slice none 0 0, .int .i64 0, .bool false, .int .i64 0, .slice none 0 0, .int .i64 0, .int .i64 0, .slice none 0 0, .slice none 0 0] 68)).heap[w.heap.size + 1]? = some (.cells #[.slice none 0 0, .int .i64 0, .bool false, .int .i64 0, .slice none 0 0, .int .i64 0, .int .i64 0, .slice none 0 0, .slice none 0 0] 68 (0, 0))) := uLast1 _ _ _
  have hs0 : w.heap.size + 1 < ((w.alloc (.cells #[.slice k0.a k0.n k0.c, .int .i64 g.fu, .bool g.up, .int .i64 g.t.r.v, .slice k0.ak k0.nk k0.ck, .int .i64 g.t.r.t, .int .i64 g.t.ver, .slice k0.av k0.nv k0.cv, .slice k0.ad k0.nd k0.cd] 68)).alloc (.cells #[.slice none 0 0, .int .i64 0, .bool false, .int .i64 0, .slice none 0 0, .int .i64 0, .int .i64 0, .slice none 0 0, .slice none 0 0] 68)).heap.size := by simp
  have HF := hide (fun W (hW : Below w.heap.size w W) => ownFlash_any k0.a k0.n k0.c g.ws g.fu W (h.ws.below hW).at_ h.ws.len h1)
  have HP := hide h
  clear h
  unfold gtv
  have x0 := blk_cell b0.out 0 _ rfl
  have x1 := blk_cell b0.out 1 _ rfl
  go_enter Tryz.func29, Tryz.ntmps29
  go_wp2_with fail
  generalize ((w.alloc (.cells #[.slice k0.a k0.n k0.c, .int .i64 g.fu, .bool g.up, .int .i64 g.t.r.v, .slice k0.ak k0.nk k0.ck, .int .i64 g.t.r.t, .int .i64 g.t.ver, .slice k0.av k0.nv k0.cv, .slice k0.ad k0.nd k0.cd] 68)).alloc (.cells #[.slice none 0 0, .int .i64 0, .bool false, .int .i64 0, .slice none 0 0, .int .i64 0, .int .i64 0, .slice none 0 0, .slice none 0 0] 68)) = W at *
  refine (unhide HF _ hw).mono ?_
  rintro e w1 ⟨g1, c1, hg1, hc1, rfl, hoc, hb⟩
  replace b0 := hide (blk_below b0.out hb)
  replace b1 := hide (blk_below b1.out hb)
  replace hw := hw.trans (hb.mono hw.size)
  have hs1 := hb.size
  clear hb HF x0 x1
  have x0 := blk_cell b0.out 0 _ rfl
  have x1 := blk_cell b0.out 1 _ rfl
  have f0 := blk_free b0.out 0
  have f1 := blk_free b0.out 1
  go_upto_region 2 with fail
  have hT : w1.grownBy ((w1.setCell ⟨w.heap.size, 0, none⟩ (.slice (some ⟨g1, 0, none⟩) k0.n c1)).setCell ⟨w.heap.size, 1, none⟩ (.int .i64 g.fu)) (some w.heap.size) := turns_set (turns_set (World.grownBy.refl _ _) _ _) _ _
  have bN : Hid (((w1.setCell ⟨w.heap.size, 0, none⟩ (.slice (some ⟨g1, 0, none⟩) k0.n c1)).setCell ⟨w.heap.size, 1, none⟩ (.int .i64 g.fu)).heap[w.heap.size]? = some (.cells #[.slice (some ⟨g1, 0, none⟩) k0.n c1, .int .i64 g.fu, .bool g.up, .int .i64 g.t.r.v, .slice k0.ak k0.nk k0.ck, .int .i64 g.t.r.t, .int .i64 g.t.ver, .slice k0.av k0.nv k0.cv, .slice k0.ad k0.nd k0.cd] 68 (0, 0))) := by have e := b0.out; show _ = _; simp only [World.setCell, Array.getElem?_modify]; simp [e]
  replace b1 := hide (blk_turns b1.out hT (by omega))
  have OC := hide ((hoc.other w.heap.size 0 (.slice (some ⟨g1, 0, none⟩) k0.n c1) (by omega)).other w.heap.size 1 (.int .i64 g.fu) (by omega))
  replace hw := turns_below hw hT (Nat.le_refl _) hw.size
  have hWs : W.heap.size ≤ ((w1.setCell ⟨w.heap.size, 0, none⟩ (.slice (some ⟨g1, 0, none⟩) k0.n c1)).setCell ⟨w.heap.size, 1, none⟩ (.int .i64 g.fu)).heap.size := by have := hT.size; omega
  clear x0 x1 f0 f1 b0 hT hoc
  generalize ((w1.setCell ⟨w.heap.size, 0, none⟩ (.slice (some ⟨g1, 0, none⟩) k0.n c1)).setCell ⟨w.heap.size, 1, none⟩ (.int .i64 g.fu)) = W1 at *
  have b0 := bN
  clear bN
  have x4 := blk_cell b0.out 4 _ rfl
  have hsW := hw.size
  have hbE : Below W1.heap.size W1 (W1.alloc (.cells #[] 3)) := below_new (Below.refl _ _) _
  obtain ⟨g2, c2, w2, hr2, ho2, hg2, ha2⟩ := run_own_i (W1.alloc (.cells #[] 3)) W1.heap.size W1.heap.size 25 (heap_alloc_last _ _) (Nat.le_refl _) k0.ak k0.nk k0.ck g.t.r.ks ((HP.out.ks.below hw).below hbE) (by omega)
  have hb2 : Below W1.heap.size W1 w2 := hbE.grown hg2 hbE.size (fun j e => by cases e; exact Nat.le_refl _)
  have x4' := (hbE.cell (cell_lt x4)).trans x4
  replace b0 := hide (blk_below b0.out hb2)
  have y4 := blk_cell b0.out 4 _ rfl
  have f4 := blk_free b0.out 4
  go_wp2_with (at_builtin; refine wpList_append_run rfl _ _ _ _ rfl (.slice (some ⟨W1.heap.size, 0, none⟩) 0 0) (.slice k0.ak k0.nk k0.ck) rfl rfl _ _ hr2 ?_)
  go_upto_region 3 with fail
  have hT : w2.grownBy (w2.setCell ⟨w.heap.size, 4, none⟩ (.slice (some ⟨g2, 0, none⟩) k0.nk c2)) (some w.heap.size) := turns_set1 _ _ _ _
  have bN : Hid ((w2.setCell ⟨w.heap.size, 4, none⟩ (.slice (some ⟨g2, 0, none⟩) k0.nk c2)).heap[w.heap.size]? = some (.cells #[.slice (some ⟨g1, 0, none⟩) k0.n c1, .int .i64 g.fu, .bool g.up, .int .i64 g.t.r.v, .slice (some ⟨g2, 0, none⟩) k0.nk c2, .int .i64 g.t.r.t, .int .i64 g.t.ver, .slice k0.av k0.nv k0.cv, .slice k0.ad k0.nd k0.cd] 68 (0, 0))) := heap_setCell_same _ _ _ _ _ _ b0.out
  replace b1 := hide (blk_turns (blk_below b1.out hb2) hT (by omega))
  obtain ⟨hi2, hf2, hc2⟩ := own_ints ho2 HP.out.ks.len
  have hg2w : W1.heap.size ≤ g2 := hf2 _ rfl
  have hWW := hWs
  replace OC := hide ((OC.out.below hb2 OC.out.lt).other w.heap.size 4 (.slice (some ⟨g2, 0, none⟩) k0.nk c2) (by omega))
  have HI2 := hide (ints_turns hi2 hT (fun ad e => by cases e; show g2 ≠ w.heap.size; omega))
  have hg2l : g2 < w2.heap.size := rowLt ho2 rfl
  have hg2L : g2 < (w2.setCell ⟨w.heap.size, 4, none⟩ (.slice (some ⟨g2, 0, none⟩) k0.nk c2)).heap.size := by have := hT.size; omega
  have hsW2 := hb2.size
  replace hw := turns_below (hw.trans (hb2.mono hw.size)) hT (Nat.le_refl _) (hw.trans (hb2.mono hw.size)).size
  have hsz2 := hb2.size
  clear x4 x4' y4 f4 b0 hT hr2 hg2 ha2 ho2 hi2 hf2 hbE hb2
  generalize (w2.setCell ⟨w.heap.size, 4, none⟩ (.slice (some ⟨g2, 0, none⟩) k0.nk c2)) = W2 at *
  have b0 := bN
  clear bN
  have HV := hide (fun X (hX : Below W2.heap.size W2 X) G hG hb => run_own_b X G W2.heap.size 66 hG hb k0.av k0.nv k0.cv g.vo ((HP.out.vo.below hw).below hX) (by omega))
  have HD := hide (fun X (hX : Below W2.heap.size W2 X) G hG hb => run_own_b X G W2.heap.size 66 hG hb k0.ad k0.nd k0.cd g.di ((HP.out.di.below hw).below hX) (by omega))
  have hlv := HP.out.vo.len
  have hld := HP.out.di.len
  have hw0s : w.heap.size < W2.heap.size := blk_lt b0.out
  go_cut [1] (fun v1 wc => v1 = .pointer (some ⟨w.heap.size, 0, none⟩) ∧ ∃ gv cv gd cd, wc.heap[w.heap.size]? = some (.cells #[.slice (some ⟨g1, 0, none⟩) k0.n c1, .int .i64 g.fu, .bool g.up, .int .i64 g.t.r.v, .slice (some ⟨g2, 0, none⟩) k0.nk c2, .int .i64 g.t.r.t, .int .i64 g.t.ver, .slice (some ⟨gv, 0, none⟩) k0.nv cv, .slice (some ⟨gd, 0, none⟩) k0.nd cd] 68 (0, 0)) ∧ OwnB wc gv g.vo ∧ OwnB wc gd g.di ∧ (W2.heap.size ≤ gv ∧ W2.heap.size ≤ gd ∧ gv ≠ gd ∧ k0.nv ≤ cv ∧ k0.nd ≤ cd) ∧ W2.grownBy wc (some w.heap.size))
  case first =>
    have hX0 : Below W2.heap.size W2 W2.drew := (Below.refl _ _).drew
    have hSS : W2.drew.cell? ⟨w.heap.size, 7, none⟩ = some (.slice k0.av k0.nv k0.cv) ∧ W2.drew.cell? ⟨w.heap.size, 8, none⟩ = some (.slice k0.ad k0.nd k0.cd) := ⟨blk_cell (blk_below b0.out hX0) 7 _ rfl, blk_cell (blk_below b0.out hX0) 8 _ rfl⟩
    refine U_begin 9 (fun W' => W'.cell? ⟨w.heap.size, 7, none⟩ = some (.slice k0.av k0.nv k0.cv) ∧ W'.cell? ⟨w.heap.size, 8, none⟩ = some (.slice k0.ad k0.nd k0.cd)) (by kernel_rfl) hSS ?_
    intro _
    have hX0s := hX0.size
    generalize W2.drew = X0 at *
    refine U_pure (i := 1) (v := ?_) (by rfl) (by kernel_rfl) (by exact fun _ _ _ h => h) (Or.inl ⟨by rfl, ?_⟩) (by first | exact fun _ => hSS | exact fun h => absurd h (by decide)) ?_
    rotate_left
    {
    intro w hSw
    try dsimp only at hSw
    go_simp
    try with_reducible rfl
    }
    try simp only [sq]
    refine U_load (i := 2) (v := ?_) (by rfl) (by rfl) (by kernel_rfl) (by exact fun _ _ _ h => h) (Or.inl ⟨by rfl, ?_⟩) (by first | exact fun _ => hSS | exact fun h => absurd h (by decide)) ?_
    rotate_left
    {
    intro w hSw
    try dsimp only at hSw
    go_simp
    try with_reducible rfl
    }
    try simp only [sq]
    refine U_pure (i := 5) (v := ?_) (by rfl) (by kernel_rfl) (by exact fun _ _ _ h => h) (Or.inl ⟨by rfl, ?_⟩) (by first | exact fun _ => hSS | exact fun h => absurd h (by decide)) ?_
    rotate_left
    {
    intro w hSw
    try dsimp only at hSw
    go_simp
    try with_reducible rfl
    }
    try simp only [sq]
    refine U_load (i := 6) (v := ?_) (by rfl) (by rfl) (by kernel_rfl) (by exact fun _ _ _ h => h) (Or.inl ⟨by rfl, ?_⟩) (by first | exact fun _ => hSS | exact fun h => absurd h (by decide)) ?_
    rotate_left
    {
    intro w hSw
    try dsimp only at hSw
    go_simp
    try with_reducible rfl
    }
    try simp only [sq]
    refine U_ready (rs := [0, 4]) (by kernel_rfl) (by simp) ?_
    refine (U_cons (by rfl) (fun K hK => ?_) (U_cons (by rfl) (fun K hK => ?_) U_nil))
    {
    go_simp
    have hX1 : Below W2.heap.size W2 (X0.alloc (.cells #[] 4)) := below_new hX0 _
    have hSS : (X0.alloc (.cells #[] 4)).cell? ⟨w.heap.size, 7, none⟩ = some (.slice k0.av k0.nv k0.cv) ∧ (X0.alloc (.cells #[] 4)).cell? ⟨w.heap.size, 8, none⟩ = some (.slice k0.ad k0.nd k0.cd) := ⟨blk_cell (blk_below b0.out hX1) 7 _ rfl, blk_cell (blk_below b0.out hX1) 8 _ rfl⟩
    refine hK.out _ _ (fun _ => hSS) (fun _ => ?_)
    clear hK K
    try simp only [sq]
    have hGV := heap_alloc_last X0 (.cells #[] 4)
    have hsz := hX0.size
    generalize X0.alloc (.cells #[] 4) = X1 at *
    obtain ⟨GV, hGVe⟩ : ∃ q, q = X0.heap.size := ⟨_, rfl⟩
    rw [← hGVe] at hGV hsz ⊢
    have hleV : W2.heap.size ≤ GV := hsz
    have hGV1 : X0.heap.size ≤ GV := by omega
    clear hGVe hsz
    refine U_ready (rs := [3, 4]) (by kernel_rfl) (by simp) ?_
    refine (U_cons (by rfl) (fun K hK => ?_) (U_cons (by rfl) (fun K hK => ?_) U_nil))
    {
    obtain ⟨gv, cv, wv, hrv, hov, hgv, hav⟩ := HV.out X1 hX1 GV hGV hleV
    have hX2 : Below W2.heap.size W2 wv := hX1.grown hgv hX1.size (fun j e => by cases e; exact hleV)
    refine step_app_run rfl _ _ _ _ rfl (.slice (some ⟨GV, 0, none⟩) 0 0) (.slice k0.av k0.nv k0.cv) rfl rfl _ _ hrv ?_
    have hSS : wv.cell? ⟨w.heap.size, 7, none⟩ = some (.slice k0.av k0.nv k0.cv) ∧ wv.cell? ⟨w.heap.size, 8, none⟩ = some (.slice k0.ad k0.nd k0.cd) := ⟨blk_cell (blk_below b0.out hX2) 7 _ rfl, blk_cell (blk_below b0.out hX2) 8 _ rfl⟩
    refine hK.out _ _ (fun _ => hSS) (fun _ => ?_)
    clear hK K
    try simp only [sq]
    have hltv : gv < wv.heap.size := rowLt hov rfl
    obtain ⟨X2, rfl⟩ : ∃ q : World, q = wv := ⟨_, rfl⟩
    refine U_pure (i := 8) (v := ?_) (by rfl) (by kernel_rfl) (by exact fun _ _ _ h => h) (Or.inl ⟨by rfl, ?_⟩) (by first | exact fun _ => hSS | exact fun h => absurd h (by decide)) ?_
    rotate_left
    {
    intro w hSw
    try dsimp only at hSw
    go_simp
    try with_reducible rfl
    }
    try simp only [sq]
    refine U_ready (rs := [4]) (by kernel_rfl) (by simp) ?_
    refine (U_cons (by rfl) (fun K hK => ?_) U_nil)
    {
    go_simp
    have hX3 : Below W2.heap.size W2 (X2.alloc (.cells #[] 4)) := below_new hX2 _
    have hSS : (X2.alloc (.cells #[] 4)).cell? ⟨w.heap.size, 7, none⟩ = some (.slice k0.av k0.nv k0.cv) ∧ (X2.alloc (.cells #[] 4)).cell? ⟨w.heap.size, 8, none⟩ = some (.slice k0.ad k0.nd k0.cd) := ⟨blk_cell (blk_below b0.out hX3) 7 _ rfl, blk_cell (blk_below b0.out hX3) 8 _ rfl⟩
    refine hK.out _ _ (fun _ => hSS) (fun _ => ?_)
    clear hK K
    try simp only [sq]
    have hGD := heap_alloc_last X2 (.cells #[] 4)
    have hsz := hX2.size
    replace hov := hov.alloc (.cells #[] 4)
    generalize X2.alloc (.cells #[] 4) = X3 at *
    obtain ⟨GD, hGDe⟩ : ∃ q, q = X2.heap.size := ⟨_, rfl⟩
    rw [← hGDe] at hGD hsz ⊢
    have hleD : W2.heap.size ≤ GD := hsz
    have hGD1 : X2.heap.size ≤ GD := by omega
    clear hGDe hsz
    have hvD : gv ≠ GD := by have := hltv; omega
    refine U_ready (rs := [7]) (by kernel_rfl) (by simp) ?_
    refine (U_cons (by rfl) (fun K hK => ?_) U_nil)
    {
    obtain ⟨gd, cd, wd, hrd, hod, hgd, had⟩ := HD.out X3 hX3 GD hGD hleD
    have hX4 : Below W2.heap.size W2 wd := hX3.grown hgd hX3.size (fun j e => by cases e; exact hleD)
    have hltv : gv < X3.heap.size := rowLt hov rfl
    replace hov := hov.kept hgd (.inr (fun e => hvD (by cases e; rfl)))
    have hne : gv ≠ gd := by rcases had with e | e <;> omega
    refine step_app_run rfl _ _ _ _ rfl (.slice (some ⟨GD, 0, none⟩) 0 0) (.slice k0.ad k0.nd k0.cd) rfl rfl _ _ hrd ?_
    have hSS : wd.cell? ⟨w.heap.size, 7, none⟩ = some (.slice k0.av k0.nv k0.cv) ∧ wd.cell? ⟨w.heap.size, 8, none⟩ = some (.slice k0.ad k0.nd k0.cd) := ⟨blk_cell (blk_below b0.out hX4) 7 _ rfl, blk_cell (blk_below b0.out hX4) 8 _ rfl⟩
    refine hK.out _ _ (fun _ => hSS) (fun _ => ?_)
    clear hK K
    try simp only [sq]
    obtain ⟨X4, rfl⟩ : ∃ q : World, q = wd := ⟨_, rfl⟩
    have bz := hide (blk_below b0.out hX4)
    obtain ⟨qv, qvc⟩ := ownB_row hov hlv
    obtain ⟨qd, qdc⟩ := ownB_row hod hld
    have y7 := blk_cell bz.out 7 _ rfl
    have y8 := blk_cell bz.out 8 _ rfl
    have f7 := blk_free bz.out 7
    have f8 := blk_free bz.out 8
    have hT : X4.grownBy ((X4.setCell ⟨w.heap.size, 7, none⟩ (.slice (some ⟨gv, 0, none⟩) k0.nv cv)).setCell ⟨w.heap.size, 8, none⟩ (.slice (some ⟨gd, 0, none⟩) k0.nd cd)) (some w.heap.size) := turns_set (turns_set (World.grownBy.refl _ _) _ _) _ _
    have lv : W2.heap.size ≤ gv := rowGe hov rfl
    have ld : W2.heap.size ≤ gd := rowGe hod rfl
    refine U_ready (rs := [9]) (by kernel_rfl) (by simp) ?_
    refine U_cons (by rfl) (fun K hK => ?_) U_nil
    go_simp
    refine hK.out _ _ (fun h => absurd h (by decide)) (fun _ => ?_)
    clear hK K
    try simp only [sq]
    refine U_pure (i := 10) (v := ?_) (by rfl) (by kernel_rfl) (by exact fun _ _ _ h => h) (Or.inl ⟨by rfl, ?_⟩) (by first | exact fun _ => hSS | exact fun h => absurd h (by decide)) ?_
    rotate_left
    {
    intro w hSw
    try dsimp only at hSw
    go_simp
    try with_reducible rfl
    }
    try simp only [sq]
    refine U_ready (rs := [11]) (by kernel_rfl) (by simp) ?_
    refine U_cons (by rfl) (fun K hK => ?_) U_nil
    go_simp
    refine hK.out _ _ (fun h => absurd h (by decide)) (fun _ => ?_)
    clear hK K
    try simp only [sq]
    refine U_done (by kernel_rfl) ?_ _
    go_wp2_with fail
    go_meet
    case rel => exact ⟨rfl, gv, cv, gd, cd, own_set2 bz.out, qv.turns hT (by omega), qd.turns hT (by omega), ⟨lv, ld, hne, qvc, qdc⟩, (turns_of hX4 _).trans hT⟩
    }
    }
    }
    {
    go_simp
    have hX2 : Below W2.heap.size W2 (X1.alloc (.cells #[] 4)) := below_new hX1 _
    have hSS : (X1.alloc (.cells #[] 4)).cell? ⟨w.heap.size, 7, none⟩ = some (.slice k0.av k0.nv k0.cv) ∧ (X1.alloc (.cells #[] 4)).cell? ⟨w.heap.size, 8, none⟩ = some (.slice k0.ad k0.nd k0.cd) := ⟨blk_cell (blk_below b0.out hX2) 7 _ rfl, blk_cell (blk_below b0.out hX2) 8 _ rfl⟩
    refine hK.out _ _ (fun _ => hSS) (fun _ => ?_)
    clear hK K
    try simp only [sq]
    have hGD := heap_alloc_last X1 (.cells #[] 4)
    have hsz := hX1.size
    have hlo := blk_lt hGV
    replace hGV := blk_alloc hGV (.cells #[] 4)
    generalize X1.alloc (.cells #[] 4) = X2 at *
    obtain ⟨GD, hGDe⟩ : ∃ q, q = X1.heap.size := ⟨_, rfl⟩
    rw [← hGDe] at hGD hsz ⊢
    have hleD : W2.heap.size ≤ GD := hsz
    have hGD1 : X1.heap.size ≤ GD := by omega
    clear hGDe hsz
    have hneVD : GV ≠ GD := by omega
    refine U_ready (rs := [3]) (by kernel_rfl) (by simp) ?_
    refine (U_cons (by rfl) (fun K hK => ?_) U_nil)
    {
    obtain ⟨gv, cv, wv, hrv, hov, hgv, hav⟩ := HV.out X2 hX2 GV hGV hleV
    have hX3 : Below W2.heap.size W2 wv := hX2.grown hgv hX2.size (fun j e => by cases e; exact hleV)
    have hDl := blk_lt hGD
    replace hGD : wv.heap[GD]? = some (.cells #[] 4 (0, 0)) := by rw [hgv.block _ hDl (by intro e; injection e with e; omega)]; exact hGD
    have hvD : gv ≠ GD := by rcases hav with e | e <;> omega
    refine step_app_run rfl _ _ _ _ rfl (.slice (some ⟨GV, 0, none⟩) 0 0) (.slice k0.av k0.nv k0.cv) rfl rfl _ _ hrv ?_
    have hSS : wv.cell? ⟨w.heap.size, 7, none⟩ = some (.slice k0.av k0.nv k0.cv) ∧ wv.cell? ⟨w.heap.size, 8, none⟩ = some (.slice k0.ad k0.nd k0.cd) := ⟨blk_cell (blk_below b0.out hX3) 7 _ rfl, blk_cell (blk_below b0.out hX3) 8 _ rfl⟩
    refine hK.out _ _ (fun _ => hSS) (fun _ => ?_)
    clear hK K
    try simp only [sq]
    obtain ⟨X3, rfl⟩ : ∃ q : World, q = wv := ⟨_, rfl⟩
    refine U_pure (i := 8) (v := ?_) (by rfl) (by kernel_rfl) (by exact fun _ _ _ h => h) (Or.inl ⟨by rfl, ?_⟩) (by first | exact fun _ => hSS | exact fun h => absurd h (by decide)) ?_
    rotate_left
    {
    intro w hSw
    try dsimp only at hSw
    go_simp
    try with_reducible rfl
    }
    try simp only [sq]
    refine U_ready (rs := [7]) (by kernel_rfl) (by simp) ?_
    refine (U_cons (by rfl) (fun K hK => ?_) U_nil)
    {
    obtain ⟨gd, cd, wd, hrd, hod, hgd, had⟩ := HD.out X3 hX3 GD hGD hleD
    have hX4 : Below W2.heap.size W2 wd := hX3.grown hgd hX3.size (fun j e => by cases e; exact hleD)
    have hltv : gv < X3.heap.size := rowLt hov rfl
    replace hov := hov.kept hgd (.inr (fun e => hvD (by cases e; rfl)))
    have hne : gv ≠ gd := by rcases had with e | e <;> omega
    refine step_app_run rfl _ _ _ _ rfl (.slice (some ⟨GD, 0, none⟩) 0 0) (.slice k0.ad k0.nd k0.cd) rfl rfl _ _ hrd ?_
    have hSS : wd.cell? ⟨w.heap.size, 7, none⟩ = some (.slice k0.av k0.nv k0.cv) ∧ wd.cell? ⟨w.heap.size, 8, none⟩ = some (.slice k0.ad k0.nd k0.cd) := ⟨blk_cell (blk_below b0.out hX4) 7 _ rfl, blk_cell (blk_below b0.out hX4) 8 _ rfl⟩
    refine hK.out _ _ (fun _ => hSS) (fun _ => ?_)
    clear hK K
    try simp only [sq]
    obtain ⟨X4, rfl⟩ : ∃ q : World, q = wd := ⟨_, rfl⟩
    have bz := hide (blk_below b0.out hX4)
    obtain ⟨qv, qvc⟩ := ownB_row hov hlv
    obtain ⟨qd, qdc⟩ := ownB_row hod hld
    have y7 := blk_cell bz.out 7 _ rfl
    have y8 := blk_cell bz.out 8 _ rfl
    have f7 := blk_free bz.out 7
    have f8 := blk_free bz.out 8
    have hT : X4.grownBy ((X4.setCell ⟨w.heap.size, 7, none⟩ (.slice (some ⟨gv, 0, none⟩) k0.nv cv)).setCell ⟨w.heap.size, 8, none⟩ (.slice (some ⟨gd, 0, none⟩) k0.nd cd)) (some w.heap.size) := turns_set (turns_set (World.grownBy.refl _ _) _ _) _ _
    have lv : W2.heap.size ≤ gv := rowGe hov rfl
    have ld : W2.heap.size ≤ gd := rowGe hod rfl
    refine U_ready (rs := [9]) (by kernel_rfl) (by simp) ?_
    refine U_cons (by rfl) (fun K hK => ?_) U_nil
    go_simp
    refine hK.out _ _ (fun h => absurd h (by decide)) (fun _ => ?_)
    clear hK K
    try simp only [sq]
    refine U_pure (i := 10) (v := ?_) (by rfl) (by kernel_rfl) (by exact fun _ _ _ h => h) (Or.inl ⟨by rfl, ?_⟩) (by first | exact fun _ => hSS | exact fun h => absurd h (by decide)) ?_
    rotate_left
    {
    intro w hSw
    try dsimp only at hSw
    go_simp
    try with_reducible rfl
    }
    try simp only [sq]
    refine U_ready (rs := [11]) (by kernel_rfl) (by simp) ?_
    refine U_cons (by rfl) (fun K hK => ?_) U_nil
    go_simp
    refine hK.out _ _ (fun h => absurd h (by decide)) (fun _ => ?_)
    clear hK K
    try simp only [sq]
    refine U_done (by kernel_rfl) ?_ _
    go_wp2_with fail
    go_meet
    case rel => exact ⟨rfl, gv, cv, gd, cd, own_set2 bz.out, qv.turns hT (by omega), qd.turns hT (by omega), ⟨lv, ld, hne, qvc, qdc⟩, (turns_of hX4 _).trans hT⟩
    }
    }
    }
    }
    {
    go_simp
    have hX1 : Below W2.heap.size W2 (X0.alloc (.cells #[] 4)) := below_new hX0 _
    have hSS : (X0.alloc (.cells #[] 4)).cell? ⟨w.heap.size, 7, none⟩ = some (.slice k0.av k0.nv k0.cv) ∧ (X0.alloc (.cells #[] 4)).cell? ⟨w.heap.size, 8, none⟩ = some (.slice k0.ad k0.nd k0.cd) := ⟨blk_cell (blk_below b0.out hX1) 7 _ rfl, blk_cell (blk_below b0.out hX1) 8 _ rfl⟩
    refine hK.out _ _ (fun _ => hSS) (fun _ => ?_)
    clear hK K
    try simp only [sq]
    have hGD := heap_alloc_last X0 (.cells #[] 4)
    have hsz := hX0.size
    generalize X0.alloc (.cells #[] 4) = X1 at *
    obtain ⟨GD, hGDe⟩ : ∃ q, q = X0.heap.size := ⟨_, rfl⟩
    rw [← hGDe] at hGD hsz ⊢
    have hleD : W2.heap.size ≤ GD := hsz
    have hGD1 : X0.heap.size ≤ GD := by omega
    clear hGDe hsz
    refine U_ready (rs := [0]) (by kernel_rfl) (by simp) ?_
    refine (U_cons (by rfl) (fun K hK => ?_) U_nil)
    {
    go_simp
    have hX2 : Below W2.heap.size W2 (X1.alloc (.cells #[] 4)) := below_new hX1 _
    have hSS : (X1.alloc (.cells #[] 4)).cell? ⟨w.heap.size, 7, none⟩ = some (.slice k0.av k0.nv k0.cv) ∧ (X1.alloc (.cells #[] 4)).cell? ⟨w.heap.size, 8, none⟩ = some (.slice k0.ad k0.nd k0.cd) := ⟨blk_cell (blk_below b0.out hX2) 7 _ rfl, blk_cell (blk_below b0.out hX2) 8 _ rfl⟩
    refine hK.out _ _ (fun _ => hSS) (fun _ => ?_)
    clear hK K
    try simp only [sq]
    have hGV := heap_alloc_last X1 (.cells #[] 4)
    have hsz := hX1.size
    have hlo := blk_lt hGD
    replace hGD := blk_alloc hGD (.cells #[] 4)
    generalize X1.alloc (.cells #[] 4) = X2 at *
    obtain ⟨GV, hGVe⟩ : ∃ q, q = X1.heap.size := ⟨_, rfl⟩
    rw [← hGVe] at hGV hsz ⊢
    have hleV : W2.heap.size ≤ GV := hsz
    have hGV1 : X1.heap.size ≤ GV := by omega
    clear hGVe hsz
    have hneVD : GV ≠ GD := by omega
    refine U_ready (rs := [3]) (by kernel_rfl) (by simp) ?_
    refine (U_cons (by rfl) (fun K hK => ?_) U_nil)
    {
    obtain ⟨gv, cv, wv, hrv, hov, hgv, hav⟩ := HV.out X2 hX2 GV hGV hleV
    have hX3 : Below W2.heap.size W2 wv := hX2.grown hgv hX2.size (fun j e => by cases e; exact hleV)
    have hDl := blk_lt hGD
    replace hGD : wv.heap[GD]? = some (.cells #[] 4 (0, 0)) := by rw [hgv.block _ hDl (by intro e; injection e with e; omega)]; exact hGD
    have hvD : gv ≠ GD := by rcases hav with e | e <;> omega
    refine step_app_run rfl _ _ _ _ rfl (.slice (some ⟨GV, 0, none⟩) 0 0) (.slice k0.av k0.nv k0.cv) rfl rfl _ _ hrv ?_
    have hSS : wv.cell? ⟨w.heap.size, 7, none⟩ = some (.slice k0.av k0.nv k0.cv) ∧ wv.cell? ⟨w.heap.size, 8, none⟩ = some (.slice k0.ad k0.nd k0.cd) := ⟨blk_cell (blk_below b0.out hX3) 7 _ rfl, blk_cell (blk_below b0.out hX3) 8 _ rfl⟩
    refine hK.out _ _ (fun _ => hSS) (fun _ => ?_)
    clear hK K
    try simp only [sq]
    obtain ⟨X3, rfl⟩ : ∃ q : World, q = wv := ⟨_, rfl⟩
    refine U_pure (i := 8) (v := ?_) (by rfl) (by kernel_rfl) (by exact fun _ _ _ h => h) (Or.inl ⟨by rfl, ?_⟩) (by first | exact fun _ => hSS | exact fun h => absurd h (by decide)) ?_
    rotate_left
    {
    intro w hSw
    try dsimp only at hSw
    go_simp
    try with_reducible rfl
    }
    try simp only [sq]
    refine U_ready (rs := [7]) (by kernel_rfl) (by simp) ?_
    refine (U_cons (by rfl) (fun K hK => ?_) U_nil)
    {
    obtain ⟨gd, cd, wd, hrd, hod, hgd, had⟩ := HD.out X3 hX3 GD hGD hleD
    have hX4 : Below W2.heap.size W2 wd := hX3.grown hgd hX3.size (fun j e => by cases e; exact hleD)
    have hltv : gv < X3.heap.size := rowLt hov rfl
    replace hov := hov.kept hgd (.inr (fun e => hvD (by cases e; rfl)))
    have hne : gv ≠ gd := by rcases had with e | e <;> omega
    refine step_app_run rfl _ _ _ _ rfl (.slice (some ⟨GD, 0, none⟩) 0 0) (.slice k0.ad k0.nd k0.cd) rfl rfl _ _ hrd ?_
    have hSS : wd.cell? ⟨w.heap.size, 7, none⟩ = some (.slice k0.av k0.nv k0.cv) ∧ wd.cell? ⟨w.heap.size, 8, none⟩ = some (.slice k0.ad k0.nd k0.cd) := ⟨blk_cell (blk_below b0.out hX4) 7 _ rfl, blk_cell (blk_below b0.out hX4) 8 _ rfl⟩
    refine hK.out _ _ (fun _ => hSS) (fun _ => ?_)
    clear hK K
    try simp only [sq]
    obtain ⟨X4, rfl⟩ : ∃ q : World, q = wd := ⟨_, rfl⟩
    have bz := hide (blk_below b0.out hX4)
    obtain ⟨qv, qvc⟩ := ownB_row hov hlv
    obtain ⟨qd, qdc⟩ := ownB_row hod hld
    have y7 := blk_cell bz.out 7 _ rfl
    have y8 := blk_cell bz.out 8 _ rfl
    have f7 := blk_free bz.out 7
    have f8 := blk_free bz.out 8
    have hT : X4.grownBy ((X4.setCell ⟨w.heap.size, 7, none⟩ (.slice (some ⟨gv, 0, none⟩) k0.nv cv)).setCell ⟨w.heap.size, 8, none⟩ (.slice (some ⟨gd, 0, none⟩) k0.nd cd)) (some w.heap.size) := turns_set (turns_set (World.grownBy.refl _ _) _ _) _ _
    have lv : W2.heap.size ≤ gv := rowGe hov rfl
    have ld : W2.heap.size ≤ gd := rowGe hod rfl
    refine U_ready (rs := [9]) (by kernel_rfl) (by simp) ?_
    refine U_cons (by rfl) (fun K hK => ?_) U_nil
    go_simp
    refine hK.out _ _ (fun h => absurd h (by decide)) (fun _ => ?_)
    clear hK K
    try simp only [sq]
    refine U_pure (i := 10) (v := ?_) (by rfl) (by kernel_rfl) (by exact fun _ _ _ h => h) (Or.inl ⟨by rfl, ?_⟩) (by first | exact fun _ => hSS | exact fun h => absurd h (by decide)) ?_
    rotate_left
    {
    intro w hSw
    try dsimp only at hSw
    go_simp
    try with_reducible rfl
    }
    try simp only [sq]
    refine U_ready (rs := [11]) (by kernel_rfl) (by simp) ?_
    refine U_cons (by rfl) (fun K hK => ?_) U_nil
    go_simp
    refine hK.out _ _ (fun h => absurd h (by decide)) (fun _ => ?_)
    clear hK K
    try simp only [sq]
    refine U_done (by kernel_rfl) ?_ _
    go_wp2_with fail
    go_meet
    case rel => exact ⟨rfl, gv, cv, gd, cd, own_set2 bz.out, qv.turns hT (by omega), qd.turns hT (by omega), ⟨lv, ld, hne, qvc, qdc⟩, (turns_of hX4 _).trans hT⟩
    }
    }
    }
    }
  obtain ⟨rfl, gv, cv, gd, cd, hbx, hov, hod, ⟨lv, ld, hne, hcv, hcd⟩, hgr⟩ := hcut
  have b0 := hide hbx
  replace b1 := hide (blk_turns b1.out hgr (by omega))
  replace hw := turns_below hw hgr (Nat.le_refl _) hw.size
  have hf1 := OC.out.lt
  replace OC := hide (OC.out.isInts)
  replace OC := hide (ints_turns OC.out hgr (fun ad e => by cases e; show g1 ≠ w.heap.size; omega))
  replace HI2 := hide (ints_turns HI2.out hgr (fun ad e => by cases e; show g2 ≠ w.heap.size; omega))
  clear hbx
  obtain ⟨x0, x1, x2, x3, x4, x5, x6, x7, x8⟩ := cl9 b0.out
  obtain ⟨y0, y1, y2, y3, y4, y5, y6, y7, y8⟩ := cl9 b1.out
  obtain ⟨f0, f1, f2, f3, f4, f5, f6, f7, f8⟩ := fr9 b1.out
  go_wp2_with fail
  refine bodyPost_ret (v := gtv g ⟨some ⟨g1, 0, none⟩, k0.n, c1, some ⟨g2, 0, none⟩, k0.nk, c2, some ⟨gv, 0, none⟩, k0.nv, cv, some ⟨gd, 0, none⟩, k0.nd, cd⟩) (by simp [results, Tryz.results29, go_sem, gtv, y0, y1, y2, y3, y4, y5, y6, y7, y8]) rfl ?_
  have hT := turns_set (turns_set (turns_set (turns_set (turns_set (turns_set (turns_set (turns_set (turns_set (World.grownBy.refl wc (some (w.heap.size + 1))) 0 (.slice (some ⟨g1, 0, none⟩) k0.n c1)) 1 (.int .i64 g.fu)) 2 (.bool g.up)) 3 (.int .i64 g.t.r.v)) 4 (.slice (some ⟨g2, 0, none⟩) k0.nk c2)) 5 (.int .i64 g.t.r.t)) 6 (.int .i64 g.t.ver)) 7 (.slice (some ⟨gv, 0, none⟩) k0.nv cv)) 8 (.slice (some ⟨gd, 0, none⟩) k0.nd cd)
  have hmx := HP.out.ws.max
  have hmk := HP.out.ks.max
  have hmv := HP.out.vo.max
  have hmd := HP.out.di.max
  refine ⟨⟨_, gv, gd, rfl, ⟨⟨⟨ints_turns OC.out hT (fun ad e => by cases e; show g1 ≠ w.heap.size + 1; omega), HP.out.ws.len, hc1, hmx⟩, ⟨ints_turns HI2.out hT (fun ad e => by cases e; show g2 ≠ w.heap.size + 1; omega), HP.out.ks.len, hmk⟩, ⟨(hov.turns hT (by omega)).bools, hlv, hcv, hmv⟩, ⟨(hod.turns hT (by omega)).bools, hld, hcd, hmd⟩⟩, ⟨fun ad e => by cases e; show w.heap.size ≤ g1; omega, fun ad e => by cases e; show w.heap.size ≤ g2; omega, fun ad e => by cases e; show w.heap.size ≤ gv; omega, fun ad e => by cases e; show w.heap.size ≤ gd; omega⟩, rfl, rfl, hov.turns hT (by omega), hod.turns hT (by omega), hne, fun ad e => by cases e; show g1 ≠ gv; omega, fun ad e => by cases e; show g1 ≠ gd; omega, fun ad e => by cases e; show g2 ≠ gv; omega, fun ad e => by cases e; show g2 ≠ gd; omega⟩⟩, turns_below hw hT (by omega) hw.size⟩

end Go.Proofs.YtgngpmgjoifepaaGreatDoor
