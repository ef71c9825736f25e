/- The closed fact: a new unit takes an image, is ready, and runs it (wainwrightlaw.united). -/
import Derived.Test.YtgngpmgjoifepaaGreatDoorPv39
import Derived.Deep.AppendLies
import Derived.Lib.AppendZeros
import Derived.Laws.StructEq
namespace Go.Proofs.YtgngpmgjoifepaaGreatDoor
open Go.RowKit
attribute [local go_sem ↓] Go.wp_at_zero Go.wp_at_succ

def fuk : Nat → Un
  | 0 => fu0
  | 1 => fu1
  | 2 => fu2
  | _ => fu3
def fmk : Nat → Ms
  | 0 => fm1
  | 1 => fm2
  | _ => fm3
def flk : Nat → List Value
  | 0 => []
  | 1 => []
  | 2 => [.int .i64 3, .int .i64 0, .int .i64 1, .int .i64 0, .int .i64 0, .slice none 0 0, .bool true]
  | _ => [.int .i64 3, .int .i64 0, .int .i64 1, .int .i64 0, .int .i64 0, .slice none 0 0, .bool true, .int .i64 6, .int .i64 0, .int .i64 1, .int .i64 0, .int .i64 0, .slice none 0 0, .bool false]

def nlk : Nat → Nat
  | 0 => 0
  | 1 => 0
  | 2 => 1
  | _ => 2
set_option maxRecDepth 100000 in
theorem info_msg : (Tryz.prog.info? 31).map (fun i => (i.zero, i.size, i.bytes)) = some (some (.agg #[.int .i64 0, .int .i64 0, .int .i64 0, .int .i64 0, .int .i64 0, .slice none 0 0, .bool false]), 7, 72) := by kernel_rfl
theorem news7 {W : World} {b : Nat} {v0 v1 v2 v3 v4 v5 v6 : Value} (h : W.cell? ⟨b, 0, none⟩ = some v0 ∧ W.cell? ⟨b, 1, none⟩ = some v1 ∧ W.cell? ⟨b, 2, none⟩ = some v2 ∧ W.cell? ⟨b, 3, none⟩ = some v3 ∧ W.cell? ⟨b, 4, none⟩ = some v4 ∧ W.cell? ⟨b, 5, none⟩ = some v5 ∧ W.cell? ⟨b, 6, none⟩ = some v6) :
    ∀ j u, [v0, v1, v2, v3, v4, v5, v6][j]? = some u → W.cell? ((⟨b, 0, none⟩ : Addr).add j) = some u := by
  obtain ⟨h0, h1, h2, h3, h4, h5, h6⟩ := h
  intro j u hu
  rw [ad_add, Nat.zero_add]
  match j with
  | 0 => cases hu; exact h0
  | 1 => cases hu; exact h1
  | 2 => cases hu; exact h2
  | 3 => cases hu; exact h3
  | 4 => cases hu; exact h4
  | 5 => cases hu; exact h5
  | 6 => cases hu; exact h6
  | j + 7 => simp at hu
set_option maxRecDepth 100000 in
theorem append_none0 (ty : TypeId) (am : Option Addr) (cm : Nat) (w : World) :
    (Builtin.append_ #[33, 33] ty #[.slice none 0 0, .slice am 0 cm]).run Tryz.prog w = .ok (.slice none 0 0) w := by
  obtain ⟨i0, hi0, hz0, hz1, hz2⟩ := info_parts info_msg
  have hl : ∀ (x : Addr), (loadCells x 0).run Tryz.prog w = .ok #[] w := fun x => by simpa using run_loadCells_list (P := Tryz.prog) w x [] (by simp)
  cases am with
  | none => simp [Builtin.append_, run_underlying Tryz.underlying33, Builtin.lenOf, Builtin.firstCells, sizeOf, typeInfo, hi0]
  | some ad => simp [Builtin.append_, run_underlying Tryz.underlying33, Builtin.lenOf, Builtin.firstCells, sizeOf, typeInfo, hi0, hl]

theorem step_append_run {P : Program} {w : World} {ops : Array Oper} {o : Oper} {a : Act} {K : Act → World → Prop} {Q : Exit → Act → World → Prop} {E : Prop} (hgd : o.guard = none) (s x : Operand) (t tn : TypeId)
    (ho : o.op = .call { callee := .builtin .append, args := #[s, x], argTypes := #[t, tn] }) (vs vx : Value) (hs : a.eval s = vs) (hx : a.eval x = vx)
    (v' : Value) (w' : World) (hr : (Builtin.append_ #[t, tn] o.type #[vs, vx]).run P w = .ok v' w') (h : K (a.put o.dst v') w') :
    if Region.wanted o (yielded ops a.tmps) = true then Oper.wp P o a w K Q else E := by
  have hw : Region.wanted o (yielded ops a.tmps) = true := by simp [Region.wanted, hgd]
  rw [if_pos hw]
  exact Lib.wp_append_run w s x t tn ho vs vx hs hx v' w' hr h

def Spaced (cur : Array Value) : Prop := ∀ i, i % 7 = 5 → ∀ x, cur[i]? ≠ some (.int .i64 x)
theorem spaced_one (v0 v1 v2 v3 v4 v6 : Value) (n : Nat) : Spaced (#[v0, v1, v2, v3, v4, .slice none 0 0, v6] ++ Builtin.zeroCells #[.int .i64 0, .int .i64 0, .int .i64 0, .int .i64 0, .int .i64 0, .slice none 0 0, .bool false] n) := by
  intro i hi x h
  by_cases h7 : i < 7
  {
  obtain rfl : i = 5 := by omega
  rw [Array.getElem?_append_left (by simp)] at h
  simp at h
  }
  {
  rw [Array.getElem?_append_right (by simp; omega)] at h
  unfold Builtin.zeroCells at h
  simp only [List.size_toArray, List.length_cons, List.length_nil, Array.getElem?_map, Array.getElem?_range] at h
  split at h
  {
  simp only [Option.map_some, Option.some.injEq] at h
  rw [show (i - (0 + 1 + 1 + 1 + 1 + 1 + 1 + 1)) % (0 + 1 + 1 + 1 + 1 + 1 + 1 + 1) = 5 by omega] at h
  simp at h
  }
  {
  simp at h

  }
  }
theorem ints_spaced {w : World} {a : Option Addr} {xs : List Int} {g : Nat} {cur : Array Value} {t : TypeId} (h : IsInts w a xs) (hx : 7 ≤ xs.length) (hb : w.heap[g]? = some (.cells cur t (0, 0))) (hs : Spaced cur) : Off g a := by
  rcases h with h | ⟨b, off, rfl, hi⟩
  { subst h; simp at hx }
  {
  intro ad e
  cases e
  intro hgb
  have hgb : b = g := hgb
  subst hgb
  obtain ⟨j, hj, h5⟩ : ∃ j, j < 7 ∧ (off + j) % 7 = 5 := ⟨(12 - off % 7) % 7, by omega, by omega⟩
  have hc := hi j (by omega)
  rw [cell_of_row w b (off + j) cur t (0, 0) hb] at hc
  exact hs (off + j) h5 _ hc

  }
theorem fx_len (k : Nat) : (fuk k).ws.length = 192 := by
  match k with
  | 0 => exact (unE_ok fx_u0.1).2.1
  | 1 => exact (unE_ok fx_u1.1).2.1
  | 2 => exact (unE_ok fx_u2.1).2.1
  | k + 3 => exact (unE_ok fx_u3.1).2.1
theorem grown_none {w w' : World} (h : Below w.heap.size w w') : w.grownBy w' none := ⟨h.os, h.tape, h.output, h.size, fun k hk _ => h.block k hk⟩
theorem box_at {wq w7 : World} {B : Nat} {o : Obj} {r : Option Nat} (h : wq.heap[B]? = some o) (hg : wq.grownBy w7 r) (hr : r = none ∨ ∃ g, r = some g ∧ B + 1 + 1 + 1 ≤ g) : w7.heap[B]? = some o := by
  rw [hg.block B (blk_lt h) (fun e => by rcases hr with h | ⟨g, h, hg⟩ <;> rw [h] at e <;> cases e; omega)]
  exact h
structure UInv (B : Nat) (w2 : World) (k : Nat) (v : Value) (wr : World) : Prop where
  bel : Below w2.heap.size w2 wr
  own : ∃ a n c, wr.heap[B]? = some (unO (fuk k) a n c) ∧ BW wr a n c (fuk k).ws
  wds : wr.heap[B + 1]? = some (.cells #[.int .i64 8, .int .i64 8] 3 (0, 0))
  mss : wr.heap[B + 1 + 1]? = some (.cells #[.int .i64 1, .int .i64 0, .int .i64 1, .int .i64 0, .int .i64 0, .slice (some ⟨B + 1, 0, none⟩) 2 2, .bool false, .int .i64 2, .int .i64 0, .int .i64 1, .int .i64 2, .int .i64 2, .slice none 0 0, .bool false, .int .i64 4, .int .i64 0, .int .i64 1, .int .i64 0, .int .i64 0, .slice none 0 0, .bool false] 31 (0, 0))
  nil : k ≤ 1 → v = .slice none 0 0
  row : wr.ownsRow (B + 1 + 1 + 1) 31 7 v (nlk k) (flk k)
  spc : k = 2 → ∃ g cur, v.ownBlock = some g ∧ wr.heap[g]? = some (.cells cur 31 (0, 0)) ∧ Spaced cur
theorem UInv.next {B : Nat} {w2 wq w7 : World} {k : Nat} {q v7 : Value} {a5 : Option Addr} {n5 c5 : Nat} {t : Un} (hI : UInv B w2 k q wq) (hB : w2.heap.size = B) {r : Option Nat} (hg : wq.grownBy w7 r) (hr : r = none ∨ ∃ g, r = some g ∧ B + 1 + 1 + 1 ≤ g) (hq : v7.ownBlock = none ∨ ∃ g, v7.ownBlock = some g ∧ B + 1 + 1 + 1 ≤ g)
    (ht : fuk (k + 1) = t) (hbw : BW w7 a5 n5 c5 (fuk (k + 1)).ws) (hnil : k + 1 ≤ 1 → v7 = .slice none 0 0)
    (hrow : w7.ownsRow (B + 1 + 1 + 1) 31 7 v7 (nlk (k + 1)) (flk (k + 1)))
    (hspc : k + 1 = 2 → ∃ g cur, v7.ownBlock = some g ∧ w7.heap[g]? = some (.cells cur 31 (0, 0)) ∧ Spaced cur) :
    UInv B w2 (k + 1) v7 (((((w7.setCell ⟨B, 0, none⟩ (.slice a5 n5 c5)).setCell ⟨B, 1, none⟩ (.int .i64 t.fu)).setCell ⟨B, 2, none⟩ (.bool t.up)).setCell ⟨B, 3, none⟩ (.int .i64 t.n)).setCell ⟨B, 4, none⟩ (.int .i64 t.hv)) := by
  subst ht
  obtain ⟨a, n, c, hub, _⟩ := hI.own
  have hlt := blk_lt hub
  have hlt1 := blk_lt hI.wds
  have hlt2 := blk_lt hI.mss
  have hne : ∀ j, j ≤ B + 1 + 1 → some j ≠ r := by
    intro j hj e
    rcases hr with h | ⟨g, h, hg⟩
    { rw [h] at e; cases e }
    { rw [h] at e; cases e; omega }
  have hub7 : w7.heap[B]? = some (unO (fuk k) a n c) := by rw [hg.block B hlt (hne B (by omega))]; exact hub
  have hw7 : w7.heap[B + 1]? = some (.cells #[.int .i64 8, .int .i64 8] 3 (0, 0)) := by rw [hg.block _ hlt1 (hne _ (by omega))]; exact hI.wds
  have hm7 := hI.mss
  rw [← hg.block _ hlt2 (hne _ (by omega))] at hm7
  have hT := turns_set (turns_set (turns_set (turns_set (turns_set (World.grownBy.refl w7 (some B)) 0 (.slice a5 n5 c5)) 1 (.int .i64 (fuk (k + 1)).fu)) 2 (.bool (fuk (k + 1)).up)) 3 (.int .i64 (fuk (k + 1)).n)) 4 (.int .i64 (fuk (k + 1)).hv)
  have hoff : Off B a5 := by
    unfold unO at hub7
    rcases ints_unit hbw.at_ (.inr (by rw [fx_len]; decide)) hub7 rfl with h | h
    { have := fx_len (k + 1); rw [h] at this; cases this }
    { exact h }
  have hb7 : Below w2.heap.size w2 w7 := by
    refine hI.bel.grown hg hI.bel.size (fun j e => ?_)
    rcases hr with h | ⟨g, h, hg⟩
    { rw [h] at e; cases e }
    { rw [h] at e; cases e; omega }
  refine ⟨turns_below hb7 hT (by omega) (by have := hb7.size; omega), ⟨a5, n5, c5, un_set5 hub7, hbw.turns hT hoff⟩, blk_turns hw7 hT (by omega), blk_turns hm7 hT (by omega), hnil, hrow.kept hT ?_, fun h => ?_⟩
  {
  rcases hq with h | ⟨g, h, hg⟩
  { exact .inl h }
  { right; rw [h]; intro e; cases e; omega }
  }
  {
  obtain ⟨g, cur, h1, h2, h3⟩ := hspc h
  refine ⟨g, cur, h1, blk_turns h2 hT ?_, h3⟩
  rcases hq with h | ⟨g', h, hg⟩
  { rw [h] at h1; cases h1 }
  {
  rw [h] at h1; cases h1; omega

  }
  }
set_option maxRecDepth 100000 in
set_option maxHeartbeats 12800000 in
theorem lawUnited_any (w : World) (hT : Tab w) : Calls Tryz.prog 16 #[] w fun e w' => e = .returned (.bool true) ∧ Below w.heap.size w w' := by
  obtain ⟨irr, hir, rz0, rz1, rz2⟩ := info_parts info_msg
  have HT := hide hT
  clear hT
  go_enter Tryz.func16, Tryz.ntmps16
  go_wp2_with fail
  refine (lawSimple_any w).mono ?_
  rintro e w1 ⟨⟨ab, s1, s2, s3, s4, s5, rfl, hbb⟩, hb⟩
  have BBk := hide hbb
  have hw := hb
  clear hb hbb
  go_upto_region 2 with fail
  have K0 : Hid ((((w1.alloc (.cells #[.slice ab 4 4] 24)).alloc (.cells #[.int .i64 1, .slice s2 1 1, .int .i64 1, .int .i64 0] 65)).alloc (.cells #[.slice none 0 0, .slice none 0 0, .int .i64 1, .int .i64 5, .slice s3 1 1, .slice s4 1 1, .slice s5 1 1] 75)).heap[w1.heap.size]? = some (.cells #[.slice ab 4 4] 24 (0, 0))) := bk3.1
  have hb1 : Below w1.heap.size w1 (((w1.alloc (.cells #[.slice ab 4 4] 24)).alloc (.cells #[.int .i64 1, .slice s2 1 1, .int .i64 1, .int .i64 0] 65)).alloc (.cells #[.slice none 0 0, .slice none 0 0, .int .i64 1, .int .i64 5, .slice s3 1 1, .slice s4 1 1, .slice s5 1 1] 75)) := (((Below.refl _ _).alloc (Nat.le_refl _) _).alloc (by simp) _).alloc (by simp; omega) _
  replace BBk := hide (BBk.out.below hb1)
  have hK := hw.size
  replace hw := hw.trans (hb1.mono hw.size)
  clear hb1
  generalize ((w1.alloc (.cells #[.slice ab 4 4] 24)).alloc (.cells #[.int .i64 1, .slice s2 1 1, .int .i64 1, .int .i64 0] 65)).alloc (.cells #[.slice none 0 0, .slice none 0 0, .int .i64 1, .int .i64 5, .slice s3 1 1, .slice s4 1 1, .slice s5 1 1] 75) = W1 at *
  generalize w1.heap.size = K at *
  have hb7 : Below W1.heap.size W1 (W1.alloc (.cells #[.int .i64 7] 3)) := (Below.refl _ _).alloc (Nat.le_refl _) _
  have HNw := hide (unitNew_any (some ⟨W1.heap.size, 0, none⟩) 1 1 [7] 1 (W1.alloc (.cells #[.int .i64 7] 3)) ⟨.inr ⟨W1.heap.size, 0, rfl, fun i hi => by simp at hi; subst hi; exact blk_cell (heap_alloc_last _ _) 0 _ rfl⟩, rfl, by decide⟩)
  rw [fx_new] at HNw
  replace K0 := hide (blk_below K0.out hb7)
  replace BBk := hide (BBk.out.below hb7)
  replace hw := hw.trans (hb7.mono hw.size)
  clear hb7
  go_wp2_with fail
  generalize W1.alloc (.cells #[.int .i64 7] 3) = W2 at *
  refine (unhide HNw).mono ?_
  rintro e w2 ⟨⟨a1, n1, c1, rfl, hbw⟩, hb⟩
  have BU := hide hbw
  replace K0 := hide (blk_below K0.out hb)
  replace BBk := hide (BBk.out.below hb)
  replace hw := hw.trans (hb.mono hw.size)
  clear hb hbw HNw
  unfold unv
  go_upto_region 5 with fail
  have hb3 : Below w2.heap.size w2 (((w2.alloc (.cells #[.slice a1 n1 c1, .int .i64 fu0.fu, .bool fu0.up, .int .i64 fu0.n, .int .i64 fu0.hv] 29)).alloc (.cells #[.int .i64 8, .int .i64 8] 3)).alloc (.cells #[.int .i64 1, .int .i64 0, .int .i64 1, .int .i64 0, .int .i64 0, .slice (some ⟨w2.heap.size + 1, 0, none⟩) 2 2, .bool false, .int .i64 2, .int .i64 0, .int .i64 1, .int .i64 2, .int .i64 2, .slice none 0 0, .bool false, .int .i64 4, .int .i64 0, .int .i64 1, .int .i64 0, .int .i64 0, .slice none 0 0, .bool false] 31)) := (((Below.refl _ _).alloc (Nat.le_refl _) _).alloc (by simp) _).alloc (by simp; omega) _
  have hKB : K < w2.heap.size := blk_lt K0.out
  have INV : Hid (UInv w2.heap.size w2 0 (.slice none 0 0) (((w2.alloc (.cells #[.slice a1 n1 c1, .int .i64 fu0.fu, .bool fu0.up, .int .i64 fu0.n, .int .i64 fu0.hv] 29)).alloc (.cells #[.int .i64 8, .int .i64 8] 3)).alloc (.cells #[.int .i64 1, .int .i64 0, .int .i64 1, .int .i64 0, .int .i64 0, .slice (some ⟨w2.heap.size + 1, 0, none⟩) 2 2, .bool false, .int .i64 2, .int .i64 0, .int .i64 1, .int .i64 2, .int .i64 2, .slice none 0 0, .bool false, .int .i64 4, .int .i64 0, .int .i64 1, .int .i64 0, .int .i64 0, .slice none 0 0, .bool false] 31))) := ⟨hb3, ⟨a1, n1, c1, bk3.1, BU.out.below hb3⟩, bk3.2.1, bk3.2.2, fun _ => rfl, World.ownsRow_nil _ _ _ _, fun h => by cases h⟩
  clear hb3 BU
  generalize ((w2.alloc (.cells #[.slice a1 n1 c1, .int .i64 fu0.fu, .bool fu0.up, .int .i64 fu0.n, .int .i64 fu0.hv] 29)).alloc (.cells #[.int .i64 8, .int .i64 8] 3)).alloc (.cells #[.int .i64 1, .int .i64 0, .int .i64 1, .int .i64 0, .int .i64 0, .slice (some ⟨w2.heap.size + 1, 0, none⟩) 2 2, .bool false, .int .i64 2, .int .i64 0, .int .i64 1, .int .i64 2, .int .i64 2, .slice none 0 0, .bool false, .int .i64 4, .int .i64 0, .int .i64 1, .int .i64 0, .int .i64 0, .slice none 0 0, .bool false] 31) = W3 at *
  generalize hBe : w2.heap.size = B at *
  have HBe := hide hBe
  clear hBe
  go_loopw [7, 35] (fun v i wr => ∃ (q : Value) (k : Nat), q = v ∧ k ≤ 3 ∧ i = .int .i64 k ∧ Hid (UInv B w2 k q wr)) (fun _ i _ => 3 - (intOf i).toNat)
  case atStart => exact ⟨_, 0, rfl, by decide, rfl, INV⟩
  case round =>
    clear INV
    obtain ⟨wq, rfl⟩ : ∃ wq : World, wq = wr := ⟨_, rfl⟩
    obtain ⟨q, k, rfl, hk, rfl, hI⟩ := hrel
    have hk4 : k = 0 ∨ k = 1 ∨ k = 2 ∨ k = 3 := by omega
    rcases hk4 with rfl | rfl | rfl | rfl
    {
    obtain ⟨a, n, c, hub, hbw⟩ := hI.out.own
    have hbm : Below wq.heap.size wq (wq.alloc (.cells #[.int .i64 1, .int .i64 0, .int .i64 1, .int .i64 0, .int .i64 0, .slice (some ⟨B + 1, 0, none⟩) 2 2, .bool false] 31)) := (Below.refl _ _).alloc (Nat.le_refl _) _
    have HH := hide (unitHear_any ab 4 4 tbk (fuk 0) a n c (fmk 0) (some ⟨B + 1, 0, none⟩) 2 2 (wq.alloc (.cells #[.int .i64 1, .int .i64 0, .int .i64 1, .int .i64 0, .int .i64 0, .slice (some ⟨B + 1, 0, none⟩) 2 2, .bool false] 31)) ((BBk.out.below hI.out.bel).below hbm) (((HT.out.below hw).below hI.out.bel).below hbm) (hbw.below hbm) ⟨isInts2 (blk_cell (blk_alloc hI.out.wds _) 0 _ rfl) (blk_cell (blk_alloc hI.out.wds _) 1 _ rfl), rfl, by decide⟩)
    rw [show hearA tbk (fuk 0) (fmk 0) = _ from fx_1] at HH
    unfold bookv unv msv at HH
    have UB := hide hub
    unfold unO at UB
    have u0' := blk_cell (blk_alloc UB.out (.cells #[.int .i64 1, .int .i64 0, .int .i64 1, .int .i64 0, .int .i64 0, .slice (some ⟨B + 1, 0, none⟩) 2 2, .bool false] 31)) 0 _ rfl
    have u1' := blk_cell (blk_alloc UB.out (.cells #[.int .i64 1, .int .i64 0, .int .i64 1, .int .i64 0, .int .i64 0, .slice (some ⟨B + 1, 0, none⟩) 2 2, .bool false] 31)) 1 _ rfl
    have u2' := blk_cell (blk_alloc UB.out (.cells #[.int .i64 1, .int .i64 0, .int .i64 1, .int .i64 0, .int .i64 0, .slice (some ⟨B + 1, 0, none⟩) 2 2, .bool false] 31)) 2 _ rfl
    have u3' := blk_cell (blk_alloc UB.out (.cells #[.int .i64 1, .int .i64 0, .int .i64 1, .int .i64 0, .int .i64 0, .slice (some ⟨B + 1, 0, none⟩) 2 2, .bool false] 31)) 3 _ rfl
    have u4' := blk_cell (blk_alloc UB.out (.cells #[.int .i64 1, .int .i64 0, .int .i64 1, .int .i64 0, .int .i64 0, .slice (some ⟨B + 1, 0, none⟩) 2 2, .bool false] 31)) 4 _ rfl
    have k0 := blk_cell (blk_alloc (blk_below K0.out hI.out.bel) (.cells #[.int .i64 1, .int .i64 0, .int .i64 1, .int .i64 0, .int .i64 0, .slice (some ⟨B + 1, 0, none⟩) 2 2, .bool false] 31)) 0 _ rfl
    have y0 := blk_cell hI.out.mss 0 _ rfl
    have y1 := blk_cell hI.out.mss 1 _ rfl
    have y2 := blk_cell hI.out.mss 2 _ rfl
    have y3 := blk_cell hI.out.mss 3 _ rfl
    have y4 := blk_cell hI.out.mss 4 _ rfl
    have y5 := blk_cell hI.out.mss 5 _ rfl
    have y6 := blk_cell hI.out.mss 6 _ rfl
    clear hub
    go_wp2_with fail
    refine (unhide HH).mono ?_
    rintro e w5 ⟨⟨a5, n5, c5, am5, nm5, cm5, rfl, hbw5, hms5, hl5, hc5, hx5⟩, hb5⟩
    have hbA := hbm.trans (hb5.mono hbm.size)
    have BW5 := hide hbw5
    obtain rfl : nm5 = 0 := hl5.symm
    clear hms5
    clear HH hbw5 k0 u0' u1' u2' u3' u4' y0 y1 y2 y3 y4 y5 y6
    have hqn := hI.out.nil (by decide)
    subst hqn
    have hb6 : Below w5.heap.size w5 (w5.alloc (.cells #[.slice a5 n5 c5, .int .i64 fu1.fu, .bool fu1.up, .int .i64 fu1.n, .int .i64 fu1.hv] 29)) := (Below.refl _ _).alloc (Nat.le_refl _) _
    have V0 := hide (heap_alloc_last w5 (.cells #[.slice a5 n5 c5, .int .i64 fu1.fu, .bool fu1.up, .int .i64 fu1.n, .int .i64 fu1.hv] 29))
    have hbB := hbA.trans (hb6.mono hbA.size)
    have hBs : B + 1 + 1 < wq.heap.size := blk_lt hI.out.mss
    have hqs := hbA.size
    unfold unv
    go_upto_region 10 with fail
    refine wp_region_held_drew (S := fun W' => W'.cell? ⟨w5.heap.size, 0, none⟩ = some (.slice a5 n5 c5) ∧ W'.cell? ⟨w5.heap.size, 1, none⟩ = some (.int .i64 fu1.fu) ∧ W'.cell? ⟨w5.heap.size, 2, none⟩ = some (.bool fu1.up) ∧ W'.cell? ⟨w5.heap.size, 3, none⟩ = some (.int .i64 fu1.n) ∧ W'.cell? ⟨w5.heap.size, 4, none⟩ = some (.int .i64 fu1.hv)) (by kernel_rfl) ⟨blk_cell V0.out 0 _ rfl, blk_cell V0.out 1 _ rfl, blk_cell V0.out 2 _ rfl, blk_cell V0.out 3 _ rfl, blk_cell V0.out 4 _ rfl⟩ ?_
    intro hHeld
    refine Htake (i := 0) (v := ?_) (by rfl) (by kernel_rfl) (by exact fun _ _ _ h => h) (Or.inl ⟨by rfl, ?_⟩) (by assumption) ?_
    rotate_left
    {
    intro w hSw
    try dsimp only at hSw
    go_simp
    try with_reducible rfl
    }
    try simp only [sq]
    refine Htake (i := 1) (v := ?_) (by rfl) (by kernel_rfl) (by exact fun _ _ _ h => h) (Or.inl ⟨by rfl, ?_⟩) (by assumption) ?_
    rotate_left
    {
    intro w hSw
    try dsimp only at hSw
    go_simp
    try with_reducible rfl
    }
    try simp only [sq]
    refine Htake (i := 2) (v := ?_) (by rfl) (by kernel_rfl) (by exact fun _ _ _ h => h) (Or.inl ⟨by rfl, ?_⟩) (by assumption) ?_
    rotate_left
    {
    intro w hSw
    try dsimp only at hSw
    go_simp
    try with_reducible rfl
    }
    try simp only [sq]
    have hgW : wq.grownBy ((w5.alloc (.cells #[.slice a5 n5 c5, .int .i64 fu1.fu, .bool fu1.up, .int .i64 fu1.n, .int .i64 fu1.hv] 29)).drew) none := grown_none (hbB.drew)
    refine wpAnyH_ready (rs := [3]) (by kernel_rfl) (by simp) ?_
    refine AllReadyH.cons (by rfl) (fun K hK => ?_) AllReadyH.nil
    refine step_append_run rfl _ _ _ _ rfl (.slice none 0 0) (.slice am5 0 cm5) rfl rfl _ _ (append_none0 _ _ _ _) ?_
    have hW7 : wq.grownBy ((w5.alloc (.cells #[.slice a5 n5 c5, .int .i64 fu1.fu, .bool fu1.up, .int .i64 fu1.n, .int .i64 fu1.hv] 29)).drew) none := hgW
    have hR7 : (none : Option Nat) = none ∨ ∃ g, (none : Option Nat) = some g ∧ B + 1 + 1 + 1 ≤ g := .inl rfl
    have hS7 : ((w5.alloc (.cells #[.slice a5 n5 c5, .int .i64 fu1.fu, .bool fu1.up, .int .i64 fu1.n, .int .i64 fu1.hv] 29)).drew).heap[w5.heap.size]? = some (.cells #[.slice a5 n5 c5, .int .i64 fu1.fu, .bool fu1.up, .int .i64 fu1.n, .int .i64 fu1.hv] 29 (0, 0)) := V0.out
    have HB7 : Hid (BW ((w5.alloc (.cells #[.slice a5 n5 c5, .int .i64 fu1.fu, .bool fu1.up, .int .i64 fu1.n, .int .i64 fu1.hv] 29)).drew) a5 n5 c5 fu1.ws) := (BW5.out.below hb6).below (Below.refl _ _).drew
    generalize (w5.alloc (.cells #[.slice a5 n5 c5, .int .i64 fu1.fu, .bool fu1.up, .int .i64 fu1.n, .int .i64 fu1.hv] 29)).drew = w7 at *
    have HRow : Hid (w7.ownsRow (B + 1 + 1 + 1) 31 7 (.slice none 0 0) (nlk 1) (flk 1)) := World.ownsRow_nil _ _ _ _
    have NX := hide (hI.out.next (t := fu1) HBe.out hW7 hR7 (.inl rfl) rfl HB7.out (fun _ => rfl) HRow.out (fun h => by cases h))
    have U7 := hide (box_at UB.out hW7 hR7)
    have u0' := blk_cell U7.out 0 _ rfl
    have v0' := blk_free U7.out 0
    have u1' := blk_cell U7.out 1 _ rfl
    have v1' := blk_free U7.out 1
    have u2' := blk_cell U7.out 2 _ rfl
    have v2' := blk_free U7.out 2
    have u3' := blk_cell U7.out 3 _ rfl
    have v3' := blk_free U7.out 3
    have u4' := blk_cell U7.out 4 _ rfl
    have v4' := blk_free U7.out 4
    refine hK.out _ _ ⟨blk_cell hS7 0 _ rfl, blk_cell hS7 1 _ rfl, blk_cell hS7 2 _ rfl, blk_cell hS7 3 _ rfl, blk_cell hS7 4 _ rfl⟩ (fun hHeld => ?_)
    clear hK K
    try simp only [sq]
    have hS8 := blk_turns hS7 (turns_set (turns_set (turns_set (turns_set (turns_set (World.grownBy.refl w7 (some B)) 0 (.slice a5 n5 c5)) 1 (.int .i64 fu1.fu)) 2 (.bool fu1.up)) 3 (.int .i64 fu1.n)) 4 (.int .i64 fu1.hv)) (by omega)
    refine wpAnyH_ready (rs := [4]) (by kernel_rfl) (by simp) ?_
    refine AllReadyH.cons (by rfl) (fun K hK => ?_) AllReadyH.nil
    go_simp
    refine hK.out _ _ (⟨blk_cell hS8 0 _ rfl, blk_cell hS8 1 _ rfl, blk_cell hS8 2 _ rfl, blk_cell hS8 3 _ rfl, blk_cell hS8 4 _ rfl⟩) (fun hHeld => ?_)
    clear hK K
    try simp only [sq]
    refine Htake (i := 5) (v := ?_) (by rfl) (by kernel_rfl) (by exact fun _ _ _ h => h) (Or.inl ⟨by rfl, ?_⟩) (by assumption) ?_
    rotate_left
    {
    intro w hSw
    try dsimp only at hSw
    go_simp
    try with_reducible rfl
    }
    try simp only [sq]
    refine wpAnyH_done (by kernel_rfl) ?_ _
    clear hHeld hS8 hS7 u0' v0' u1' v1' u2' v2' u3' v3' u4' v4'
    go_wp2_with fail
    go_roundw
    case rel => exact ⟨_, 1, rfl, by decide, rfl, NX⟩
    case measure => simp [intOf]
    }
    {
    obtain ⟨a, n, c, hub, hbw⟩ := hI.out.own
    have hbm : Below wq.heap.size wq (wq.alloc (.cells #[.int .i64 2, .int .i64 0, .int .i64 1, .int .i64 2, .int .i64 2, .slice none 0 0, .bool false] 31)) := (Below.refl _ _).alloc (Nat.le_refl _) _
    have HH := hide (unitHear_any ab 4 4 tbk (fuk 1) a n c (fmk 1) (none) 0 0 (wq.alloc (.cells #[.int .i64 2, .int .i64 0, .int .i64 1, .int .i64 2, .int .i64 2, .slice none 0 0, .bool false] 31)) ((BBk.out.below hI.out.bel).below hbm) (((HT.out.below hw).below hI.out.bel).below hbm) (hbw.below hbm) ⟨.inl rfl, rfl, by decide⟩)
    rw [show hearA tbk (fuk 1) (fmk 1) = _ from fx_2] at HH
    unfold bookv unv msv at HH
    have UB := hide hub
    unfold unO at UB
    have u0' := blk_cell (blk_alloc UB.out (.cells #[.int .i64 2, .int .i64 0, .int .i64 1, .int .i64 2, .int .i64 2, .slice none 0 0, .bool false] 31)) 0 _ rfl
    have u1' := blk_cell (blk_alloc UB.out (.cells #[.int .i64 2, .int .i64 0, .int .i64 1, .int .i64 2, .int .i64 2, .slice none 0 0, .bool false] 31)) 1 _ rfl
    have u2' := blk_cell (blk_alloc UB.out (.cells #[.int .i64 2, .int .i64 0, .int .i64 1, .int .i64 2, .int .i64 2, .slice none 0 0, .bool false] 31)) 2 _ rfl
    have u3' := blk_cell (blk_alloc UB.out (.cells #[.int .i64 2, .int .i64 0, .int .i64 1, .int .i64 2, .int .i64 2, .slice none 0 0, .bool false] 31)) 3 _ rfl
    have u4' := blk_cell (blk_alloc UB.out (.cells #[.int .i64 2, .int .i64 0, .int .i64 1, .int .i64 2, .int .i64 2, .slice none 0 0, .bool false] 31)) 4 _ rfl
    have k0 := blk_cell (blk_alloc (blk_below K0.out hI.out.bel) (.cells #[.int .i64 2, .int .i64 0, .int .i64 1, .int .i64 2, .int .i64 2, .slice none 0 0, .bool false] 31)) 0 _ rfl
    have y0 := blk_cell hI.out.mss 7 _ rfl
    have y1 := blk_cell hI.out.mss 8 _ rfl
    have y2 := blk_cell hI.out.mss 9 _ rfl
    have y3 := blk_cell hI.out.mss 10 _ rfl
    have y4 := blk_cell hI.out.mss 11 _ rfl
    have y5 := blk_cell hI.out.mss 12 _ rfl
    have y6 := blk_cell hI.out.mss 13 _ rfl
    clear hub
    go_wp2_with fail
    refine (unhide HH).mono ?_
    rintro e w5 ⟨⟨a5, n5, c5, am5, nm5, cm5, rfl, hbw5, hms5, hl5, hc5, hx5⟩, hb5⟩
    have hbA := hbm.trans (hb5.mono hbm.size)
    have BW5 := hide hbw5
    obtain ⟨b5, rfl, hcs⟩ : ∃ b5, am5 = some ⟨b5, 0, none⟩ ∧ _ := hms5.resolve_left (by simp)
    have CS := hide (hcs 0 _ rfl).2
    obtain rfl : nm5 = 1 := hl5.symm
    clear hcs
    clear HH hbw5 k0 u0' u1' u2' u3' u4' y0 y1 y2 y3 y4 y5 y6
    have hqn := hI.out.nil (by decide)
    subst hqn
    have hb6 : Below w5.heap.size w5 (w5.alloc (.cells #[.slice a5 n5 c5, .int .i64 fu2.fu, .bool fu2.up, .int .i64 fu2.n, .int .i64 fu2.hv] 29)) := (Below.refl _ _).alloc (Nat.le_refl _) _
    have V0 := hide (heap_alloc_last w5 (.cells #[.slice a5 n5 c5, .int .i64 fu2.fu, .bool fu2.up, .int .i64 fu2.n, .int .i64 fu2.hv] 29))
    have hbB := hbA.trans (hb6.mono hbA.size)
    have hBs : B + 1 + 1 < wq.heap.size := blk_lt hI.out.mss
    have hqs := hbA.size
    unfold unv
    go_upto_region 10 with fail
    refine wp_region_held_drew (S := fun W' => W'.cell? ⟨w5.heap.size, 0, none⟩ = some (.slice a5 n5 c5) ∧ W'.cell? ⟨w5.heap.size, 1, none⟩ = some (.int .i64 fu2.fu) ∧ W'.cell? ⟨w5.heap.size, 2, none⟩ = some (.bool fu2.up) ∧ W'.cell? ⟨w5.heap.size, 3, none⟩ = some (.int .i64 fu2.n) ∧ W'.cell? ⟨w5.heap.size, 4, none⟩ = some (.int .i64 fu2.hv)) (by kernel_rfl) ⟨blk_cell V0.out 0 _ rfl, blk_cell V0.out 1 _ rfl, blk_cell V0.out 2 _ rfl, blk_cell V0.out 3 _ rfl, blk_cell V0.out 4 _ rfl⟩ ?_
    intro hHeld
    refine Htake (i := 0) (v := ?_) (by rfl) (by kernel_rfl) (by exact fun _ _ _ h => h) (Or.inl ⟨by rfl, ?_⟩) (by assumption) ?_
    rotate_left
    {
    intro w hSw
    try dsimp only at hSw
    go_simp
    try with_reducible rfl
    }
    try simp only [sq]
    refine Htake (i := 1) (v := ?_) (by rfl) (by kernel_rfl) (by exact fun _ _ _ h => h) (Or.inl ⟨by rfl, ?_⟩) (by assumption) ?_
    rotate_left
    {
    intro w hSw
    try dsimp only at hSw
    go_simp
    try with_reducible rfl
    }
    try simp only [sq]
    refine Htake (i := 2) (v := ?_) (by rfl) (by kernel_rfl) (by exact fun _ _ _ h => h) (Or.inl ⟨by rfl, ?_⟩) (by assumption) ?_
    rotate_left
    {
    intro w hSw
    try dsimp only at hSw
    go_simp
    try with_reducible rfl
    }
    try simp only [sq]
    have hnews : ∀ j u, [Value.int .i64 3, .int .i64 0, .int .i64 1, .int .i64 0, .int .i64 0, .slice none 0 0, .bool true][j]? = some u → (w5.alloc (.cells #[.slice a5 n5 c5, .int .i64 fu2.fu, .bool fu2.up, .int .i64 fu2.n, .int .i64 fu2.hv] 29)).drew.cell? ((⟨b5, 0, none⟩ : Addr).add j) = some u := news7 ⟨(hb6.cell (cell_lt CS.out.1)).trans CS.out.1, (hb6.cell (cell_lt CS.out.2.1)).trans CS.out.2.1, (hb6.cell (cell_lt CS.out.2.2.1)).trans CS.out.2.2.1, (hb6.cell (cell_lt CS.out.2.2.2.1)).trans CS.out.2.2.2.1, (hb6.cell (cell_lt CS.out.2.2.2.2.1)).trans CS.out.2.2.2.2.1, (hb6.cell (cell_lt CS.out.2.2.2.2.2.1)).trans CS.out.2.2.2.2.2.1, (hb6.cell (cell_lt CS.out.2.2.2.2.2.2)).trans CS.out.2.2.2.2.2.2⟩
    have hgW : wq.grownBy ((w5.alloc (.cells #[.slice a5 n5 c5, .int .i64 fu2.fu, .bool fu2.up, .int .i64 fu2.n, .int .i64 fu2.hv] 29)).drew) none := grown_none (hbB.drew)
    have hrun := run_append_nil (P := Tryz.prog) ((w5.alloc (.cells #[.slice a5 n5 c5, .int .i64 fu2.fu, .bool fu2.up, .int .i64 fu2.n, .int .i64 fu2.hv] 29)).drew) 33 33 31 irr _ Tryz.underlying33 hir rz0 ⟨b5, 0, none⟩ 1 cm5 [Value.int .i64 3, .int .i64 0, .int .i64 1, .int .i64 0, .int .i64 0, .slice none 0 0, .bool true] (by rw [rz1]; rfl) hnews (by decide) (by decide) (by rw [rz2]; decide)
    have hsz : ((w5.alloc (.cells #[.slice a5 n5 c5, .int .i64 fu2.fu, .bool fu2.up, .int .i64 fu2.n, .int .i64 fu2.hv] 29)).drew).heap.size = w5.heap.size + 1 := World.size_alloc w5 _
    have hge := grownCap_ge ((w5.alloc (.cells #[.slice a5 n5 c5, .int .i64 fu2.fu, .bool fu2.up, .int .i64 fu2.n, .int .i64 fu2.hv] 29)).drew) 1 0 31
    have hmx := grownCap_le_maxLen ((w5.alloc (.cells #[.slice a5 n5 c5, .int .i64 fu2.fu, .bool fu2.up, .int .i64 fu2.n, .int .i64 fu2.hv] 29)).drew) 1 0 31 (by decide)
    generalize grownCap ((w5.alloc (.cells #[.slice a5 n5 c5, .int .i64 fu2.fu, .bool fu2.up, .int .i64 fu2.n, .int .i64 fu2.hv] 29)).drew) 1 0 31 = cap at hrun hge hmx
    obtain ⟨w7, hw7, hrun'⟩ : ∃ w7, w7 = ((w5.alloc (.cells #[.slice a5 n5 c5, .int .i64 fu2.fu, .bool fu2.up, .int .i64 fu2.n, .int .i64 fu2.hv] 29)).drew).drew.alloc (.cells (#[.int .i64 3, .int .i64 0, .int .i64 1, .int .i64 0, .int .i64 0, .slice none 0 0, .bool true] ++ Builtin.zeroCells #[.int .i64 0, .int .i64 0, .int .i64 0, .int .i64 0, .int .i64 0, .slice none 0 0, .bool false] (cap - 1)) 31) ∧ (Builtin.append_ #[33, 33] 33 #[.slice none 0 0, .slice (some ⟨b5, 0, none⟩) 1 cm5]).run Tryz.prog ((w5.alloc (.cells #[.slice a5 n5 c5, .int .i64 fu2.fu, .bool fu2.up, .int .i64 fu2.n, .int .i64 fu2.hv] 29)).drew) = .ok (.slice (some ⟨w5.heap.size + 1, 0, none⟩) 1 cap) w7 := ⟨_, rfl, by rw [hrun, hsz]; rfl⟩
    clear hrun
    refine wpAnyH_ready (rs := [3]) (by kernel_rfl) (by simp) ?_
    refine AllReadyH.cons (by rfl) (fun K hK => ?_) AllReadyH.nil
    refine step_append_run rfl _ _ _ _ rfl (.slice none 0 0) (.slice (some ⟨b5, 0, none⟩) 1 cm5) rfl rfl _ _ hrun' ?_
    have hb67 : Below w5.heap.size w5 w7 := by rw [hw7]; exact hb6.drew.drew.alloc (by have := hb6.size; exact this) _
    have hcur : w7.heap[w5.heap.size + 1]? = some (.cells (#[.int .i64 3, .int .i64 0, .int .i64 1, .int .i64 0, .int .i64 0, .slice none 0 0, .bool true] ++ Builtin.zeroCells #[.int .i64 0, .int .i64 0, .int .i64 0, .int .i64 0, .int .i64 0, .slice none 0 0, .bool false] (cap - 1)) 31 (0, 0)) := by
      have := heap_alloc_last ((w5.alloc (.cells #[.slice a5 n5 c5, .int .i64 fu2.fu, .bool fu2.up, .int .i64 fu2.n, .int .i64 fu2.hv] 29)).drew).drew (.cells (#[.int .i64 3, .int .i64 0, .int .i64 1, .int .i64 0, .int .i64 0, .slice none 0 0, .bool true] ++ Builtin.zeroCells #[.int .i64 0, .int .i64 0, .int .i64 0, .int .i64 0, .int .i64 0, .slice none 0 0, .bool false] (cap - 1)) 31)
      rw [← hw7, show ((w5.alloc (.cells #[.slice a5 n5 c5, .int .i64 fu2.fu, .bool fu2.up, .int .i64 fu2.n, .int .i64 fu2.hv] 29)).drew).drew.heap.size = w5.heap.size + 1 from hsz] at this
      exact this
    have hb7q := hbA.trans (hb67.mono hbA.size)
    have hW7 := turns_of hb7q (w5.heap.size + 1)
    have hR7 : some (w5.heap.size + 1) = none ∨ ∃ g, some (w5.heap.size + 1) = some g ∧ B + 1 + 1 + 1 ≤ g := .inr ⟨_, rfl, by omega⟩
    have hS7 : w7.heap[w5.heap.size]? = some (.cells #[.slice a5 n5 c5, .int .i64 fu2.fu, .bool fu2.up, .int .i64 fu2.n, .int .i64 fu2.hv] 29 (0, 0)) := by
      rw [hw7]; exact blk_alloc V0.out _
    have HB7 : Hid (BW w7 a5 n5 c5 fu2.ws) := BW5.out.below hb67
    have HRow : Hid (w7.ownsRow (B + 1 + 1 + 1) 31 7 (.slice (some ⟨w5.heap.size + 1, 0, none⟩) 1 cap) (nlk 2) (flk 2)) := by
      refine ⟨rfl, .inr ⟨w5.heap.size + 1, cap, _, rfl, by omega, hcur, hge, hmx, ?_, ?_⟩⟩
      { rw [Array.size_append, size_zeroCells]; simp; omega }
      { simp [nlk, flk] }
    have NX := hide (hI.out.next (t := fu2) (v7 := .slice (some ⟨w5.heap.size + 1, 0, none⟩) 1 cap) HBe.out hW7 hR7 (.inr ⟨w5.heap.size + 1, rfl, by omega⟩) rfl HB7.out (fun h => by omega) HRow.out (fun _ => ⟨_, _, rfl, hcur, spaced_one _ _ _ _ _ _ _⟩))
    clear hw7 hcur hb67 hrun' hb7q
    have U7 := hide (box_at UB.out hW7 hR7)
    have u0' := blk_cell U7.out 0 _ rfl
    have v0' := blk_free U7.out 0
    have u1' := blk_cell U7.out 1 _ rfl
    have v1' := blk_free U7.out 1
    have u2' := blk_cell U7.out 2 _ rfl
    have v2' := blk_free U7.out 2
    have u3' := blk_cell U7.out 3 _ rfl
    have v3' := blk_free U7.out 3
    have u4' := blk_cell U7.out 4 _ rfl
    have v4' := blk_free U7.out 4
    refine hK.out _ _ ⟨blk_cell hS7 0 _ rfl, blk_cell hS7 1 _ rfl, blk_cell hS7 2 _ rfl, blk_cell hS7 3 _ rfl, blk_cell hS7 4 _ rfl⟩ (fun hHeld => ?_)
    clear hK K
    try simp only [sq]
    have hS8 := blk_turns hS7 (turns_set (turns_set (turns_set (turns_set (turns_set (World.grownBy.refl w7 (some B)) 0 (.slice a5 n5 c5)) 1 (.int .i64 fu2.fu)) 2 (.bool fu2.up)) 3 (.int .i64 fu2.n)) 4 (.int .i64 fu2.hv)) (by omega)
    refine wpAnyH_ready (rs := [4]) (by kernel_rfl) (by simp) ?_
    refine AllReadyH.cons (by rfl) (fun K hK => ?_) AllReadyH.nil
    go_simp
    refine hK.out _ _ (⟨blk_cell hS8 0 _ rfl, blk_cell hS8 1 _ rfl, blk_cell hS8 2 _ rfl, blk_cell hS8 3 _ rfl, blk_cell hS8 4 _ rfl⟩) (fun hHeld => ?_)
    clear hK K
    try simp only [sq]
    refine Htake (i := 5) (v := ?_) (by rfl) (by kernel_rfl) (by exact fun _ _ _ h => h) (Or.inl ⟨by rfl, ?_⟩) (by assumption) ?_
    rotate_left
    {
    intro w hSw
    try dsimp only at hSw
    go_simp
    try with_reducible rfl
    }
    try simp only [sq]
    refine wpAnyH_done (by kernel_rfl) ?_ _
    clear hHeld hS8 hS7 u0' v0' u1' v1' u2' v2' u3' v3' u4' v4'
    go_wp2_with fail
    go_roundw
    case rel => exact ⟨_, 2, rfl, by decide, rfl, NX⟩
    case measure => simp [intOf]
    }
    {
    obtain ⟨a, n, c, hub, hbw⟩ := hI.out.own
    have hbm : Below wq.heap.size wq (wq.alloc (.cells #[.int .i64 4, .int .i64 0, .int .i64 1, .int .i64 0, .int .i64 0, .slice none 0 0, .bool false] 31)) := (Below.refl _ _).alloc (Nat.le_refl _) _
    have HH := hide (unitHear_any ab 4 4 tbk (fuk 2) a n c (fmk 2) (none) 0 0 (wq.alloc (.cells #[.int .i64 4, .int .i64 0, .int .i64 1, .int .i64 0, .int .i64 0, .slice none 0 0, .bool false] 31)) ((BBk.out.below hI.out.bel).below hbm) (((HT.out.below hw).below hI.out.bel).below hbm) (hbw.below hbm) ⟨.inl rfl, rfl, by decide⟩)
    rw [show hearA tbk (fuk 2) (fmk 2) = _ from fx_3] at HH
    unfold bookv unv msv at HH
    have UB := hide hub
    unfold unO at UB
    have u0' := blk_cell (blk_alloc UB.out (.cells #[.int .i64 4, .int .i64 0, .int .i64 1, .int .i64 0, .int .i64 0, .slice none 0 0, .bool false] 31)) 0 _ rfl
    have u1' := blk_cell (blk_alloc UB.out (.cells #[.int .i64 4, .int .i64 0, .int .i64 1, .int .i64 0, .int .i64 0, .slice none 0 0, .bool false] 31)) 1 _ rfl
    have u2' := blk_cell (blk_alloc UB.out (.cells #[.int .i64 4, .int .i64 0, .int .i64 1, .int .i64 0, .int .i64 0, .slice none 0 0, .bool false] 31)) 2 _ rfl
    have u3' := blk_cell (blk_alloc UB.out (.cells #[.int .i64 4, .int .i64 0, .int .i64 1, .int .i64 0, .int .i64 0, .slice none 0 0, .bool false] 31)) 3 _ rfl
    have u4' := blk_cell (blk_alloc UB.out (.cells #[.int .i64 4, .int .i64 0, .int .i64 1, .int .i64 0, .int .i64 0, .slice none 0 0, .bool false] 31)) 4 _ rfl
    have k0 := blk_cell (blk_alloc (blk_below K0.out hI.out.bel) (.cells #[.int .i64 4, .int .i64 0, .int .i64 1, .int .i64 0, .int .i64 0, .slice none 0 0, .bool false] 31)) 0 _ rfl
    have y0 := blk_cell hI.out.mss 14 _ rfl
    have y1 := blk_cell hI.out.mss 15 _ rfl
    have y2 := blk_cell hI.out.mss 16 _ rfl
    have y3 := blk_cell hI.out.mss 17 _ rfl
    have y4 := blk_cell hI.out.mss 18 _ rfl
    have y5 := blk_cell hI.out.mss 19 _ rfl
    have y6 := blk_cell hI.out.mss 20 _ rfl
    clear hub
    go_wp2_with fail
    refine (unhide HH).mono ?_
    rintro e w5 ⟨⟨a5, n5, c5, am5, nm5, cm5, rfl, hbw5, hms5, hl5, hc5, hx5⟩, hb5⟩
    have hbA := hbm.trans (hb5.mono hbm.size)
    have BW5 := hide hbw5
    obtain ⟨b5, rfl, hcs⟩ : ∃ b5, am5 = some ⟨b5, 0, none⟩ ∧ _ := hms5.resolve_left (by simp)
    have CS := hide (hcs 0 _ rfl).2
    obtain rfl : nm5 = 1 := hl5.symm
    clear hcs
    clear HH hbw5 k0 u0' u1' u2' u3' u4' y0 y1 y2 y3 y4 y5 y6
    obtain ⟨g2, cap2, rfl, hBg, hgl⟩ := hI.out.row.form (by decide)
    have hb6 : Below w5.heap.size w5 (w5.alloc (.cells #[.slice a5 n5 c5, .int .i64 fu3.fu, .bool fu3.up, .int .i64 fu3.n, .int .i64 fu3.hv] 29)) := (Below.refl _ _).alloc (Nat.le_refl _) _
    have V0 := hide (heap_alloc_last w5 (.cells #[.slice a5 n5 c5, .int .i64 fu3.fu, .bool fu3.up, .int .i64 fu3.n, .int .i64 fu3.hv] 29))
    have hbB := hbA.trans (hb6.mono hbA.size)
    have hBs : B + 1 + 1 < wq.heap.size := blk_lt hI.out.mss
    have hqs := hbA.size
    unfold unv
    go_upto_region 10 with fail
    refine wp_region_held_drew (S := fun W' => W'.cell? ⟨w5.heap.size, 0, none⟩ = some (.slice a5 n5 c5) ∧ W'.cell? ⟨w5.heap.size, 1, none⟩ = some (.int .i64 fu3.fu) ∧ W'.cell? ⟨w5.heap.size, 2, none⟩ = some (.bool fu3.up) ∧ W'.cell? ⟨w5.heap.size, 3, none⟩ = some (.int .i64 fu3.n) ∧ W'.cell? ⟨w5.heap.size, 4, none⟩ = some (.int .i64 fu3.hv)) (by kernel_rfl) ⟨blk_cell V0.out 0 _ rfl, blk_cell V0.out 1 _ rfl, blk_cell V0.out 2 _ rfl, blk_cell V0.out 3 _ rfl, blk_cell V0.out 4 _ rfl⟩ ?_
    intro hHeld
    refine Htake (i := 0) (v := ?_) (by rfl) (by kernel_rfl) (by exact fun _ _ _ h => h) (Or.inl ⟨by rfl, ?_⟩) (by assumption) ?_
    rotate_left
    {
    intro w hSw
    try dsimp only at hSw
    go_simp
    try with_reducible rfl
    }
    try simp only [sq]
    refine Htake (i := 1) (v := ?_) (by rfl) (by kernel_rfl) (by exact fun _ _ _ h => h) (Or.inl ⟨by rfl, ?_⟩) (by assumption) ?_
    rotate_left
    {
    intro w hSw
    try dsimp only at hSw
    go_simp
    try with_reducible rfl
    }
    try simp only [sq]
    refine Htake (i := 2) (v := ?_) (by rfl) (by kernel_rfl) (by exact fun _ _ _ h => h) (Or.inl ⟨by rfl, ?_⟩) (by assumption) ?_
    rotate_left
    {
    intro w hSw
    try dsimp only at hSw
    go_simp
    try with_reducible rfl
    }
    try simp only [sq]
    have hnews : ∀ j u, [Value.int .i64 6, .int .i64 0, .int .i64 1, .int .i64 0, .int .i64 0, .slice none 0 0, .bool false][j]? = some u → (w5.alloc (.cells #[.slice a5 n5 c5, .int .i64 fu3.fu, .bool fu3.up, .int .i64 fu3.n, .int .i64 fu3.hv] 29)).drew.cell? ((⟨b5, 0, none⟩ : Addr).add j) = some u := news7 ⟨(hb6.cell (cell_lt CS.out.1)).trans CS.out.1, (hb6.cell (cell_lt CS.out.2.1)).trans CS.out.2.1, (hb6.cell (cell_lt CS.out.2.2.1)).trans CS.out.2.2.1, (hb6.cell (cell_lt CS.out.2.2.2.1)).trans CS.out.2.2.2.1, (hb6.cell (cell_lt CS.out.2.2.2.2.1)).trans CS.out.2.2.2.2.1, (hb6.cell (cell_lt CS.out.2.2.2.2.2.1)).trans CS.out.2.2.2.2.2.1, (hb6.cell (cell_lt CS.out.2.2.2.2.2.2)).trans CS.out.2.2.2.2.2.2⟩
    have hgW : wq.grownBy ((w5.alloc (.cells #[.slice a5 n5 c5, .int .i64 fu3.fu, .bool fu3.up, .int .i64 fu3.n, .int .i64 fu3.hv] 29)).drew) none := grown_none (hbB.drew)
    have hrow6 : ((w5.alloc (.cells #[.slice a5 n5 c5, .int .i64 fu3.fu, .bool fu3.up, .int .i64 fu3.n, .int .i64 fu3.hv] 29)).drew).ownsRow (B + 1 + 1 + 1) 31 7 (.slice (some ⟨g2, 0, none⟩) 1 cap2) 1 (flk 2) := hI.out.row.kept hgW (.inr (fun h => by cases h))
    obtain ⟨g3, cur3, hg3, hcur3, hsp3⟩ := hI.out.spc rfl
    obtain rfl : g2 = g3 := by cases hg3; rfl
    have hcur6 : ((w5.alloc (.cells #[.slice a5 n5 c5, .int .i64 fu3.fu, .bool fu3.up, .int .i64 fu3.n, .int .i64 fu3.hv] 29)).drew).heap[g2]? = _ := (hbB.block g2 hgl).trans hcur3
    have HB6 : Hid (BW ((w5.alloc (.cells #[.slice a5 n5 c5, .int .i64 fu3.fu, .bool fu3.up, .int .i64 fu3.n, .int .i64 fu3.hv] 29)).drew) a5 n5 c5 fu3.ws) := (BW5.out.below hb6).below (Below.refl _ _).drew
    have hoff := ints_spaced HB6.out.at_ (by rw [HB6.out.len, ← HB6.out.len]; exact (by have := fx_len 3; change fu3.ws.length = 192 at this; omega)) hcur6 hsp3
    refine wpAnyH_ready (rs := [3]) (by kernel_rfl) (by simp) ?_
    refine AllReadyH.cons (by rfl) (fun K hK => ?_) AllReadyH.nil
    refine step_append_lies _ rfl _ _ 33 rfl (B + 1 + 1 + 1) 31 irr _ 7 72 Tryz.underlying33 hir rz0 rz1 rz2 rfl (by omega) _ 1 _ rfl hrow6 ⟨b5, 0, none⟩ 1 cm5 [Value.int .i64 6, .int .i64 0, .int .i64 1, .int .i64 0, .int .i64 0, .slice none 0 0, .bool false] rfl rfl hnews (by simp [Value.oneCell']) (by omega) (by decide) (by omega) (by simp; omega) (w5.heap.size + 1) (by simp) ?_
    intro g cap w7 hown7 hgr hat7 hlt7
    have hgr' : ((w5.alloc (.cells #[.slice a5 n5 c5, .int .i64 fu3.fu, .bool fu3.up, .int .i64 fu3.n, .int .i64 fu3.hv] 29)).drew).grownBy w7 (some g2) := hgr
    have hW7 : wq.grownBy w7 (some g2) := (turns_of (hbB.drew) g2).trans hgr'
    have hR7 : some g2 = none ∨ ∃ g, some g2 = some g ∧ B + 1 + 1 + 1 ≤ g := .inr ⟨_, rfl, hBg⟩
    have hS7 : w7.heap[w5.heap.size]? = some (.cells #[.slice a5 n5 c5, .int .i64 fu3.fu, .bool fu3.up, .int .i64 fu3.n, .int .i64 fu3.hv] 29 (0, 0)) := by rw [hgr'.block w5.heap.size (by simp) (fun e => by cases e; omega)]; exact V0.out
    have HB7 : Hid (BW w7 a5 n5 c5 fu3.ws) := HB6.out.turns hgr' hoff
    have hg7 : B + 1 + 1 + 1 ≤ g := by
      rcases hat7 with h | h
      { cases h; exact hBg }
      { omega }
    have HRow : Hid (w7.ownsRow (B + 1 + 1 + 1) 31 7 (.slice (some ⟨g, 0, none⟩) (1 + 1) cap) (nlk 3) (flk 3)) := hown7
    have NX := hide (hI.out.next (t := fu3) (v7 := .slice (some ⟨g, 0, none⟩) (1 + 1) cap) HBe.out hW7 hR7 (.inr ⟨_, rfl, hg7⟩) rfl HB7.out (fun h => by omega) HRow.out (fun h => by omega))
    clear hown7 hgr hgr' hat7 hlt7 hcur6 hoff hsp3 hrow6 HB6
    have U7 := hide (box_at UB.out hW7 hR7)
    have u0' := blk_cell U7.out 0 _ rfl
    have v0' := blk_free U7.out 0
    have u1' := blk_cell U7.out 1 _ rfl
    have v1' := blk_free U7.out 1
    have u2' := blk_cell U7.out 2 _ rfl
    have v2' := blk_free U7.out 2
    have u3' := blk_cell U7.out 3 _ rfl
    have v3' := blk_free U7.out 3
    have u4' := blk_cell U7.out 4 _ rfl
    have v4' := blk_free U7.out 4
    refine hK.out _ _ ⟨blk_cell hS7 0 _ rfl, blk_cell hS7 1 _ rfl, blk_cell hS7 2 _ rfl, blk_cell hS7 3 _ rfl, blk_cell hS7 4 _ rfl⟩ (fun hHeld => ?_)
    clear hK K
    try simp only [sq]
    have hS8 := blk_turns hS7 (turns_set (turns_set (turns_set (turns_set (turns_set (World.grownBy.refl w7 (some B)) 0 (.slice a5 n5 c5)) 1 (.int .i64 fu3.fu)) 2 (.bool fu3.up)) 3 (.int .i64 fu3.n)) 4 (.int .i64 fu3.hv)) (by omega)
    refine wpAnyH_ready (rs := [4]) (by kernel_rfl) (by simp) ?_
    refine AllReadyH.cons (by rfl) (fun K hK => ?_) AllReadyH.nil
    go_simp
    refine hK.out _ _ (⟨blk_cell hS8 0 _ rfl, blk_cell hS8 1 _ rfl, blk_cell hS8 2 _ rfl, blk_cell hS8 3 _ rfl, blk_cell hS8 4 _ rfl⟩) (fun hHeld => ?_)
    clear hK K
    try simp only [sq]
    refine Htake (i := 5) (v := ?_) (by rfl) (by kernel_rfl) (by exact fun _ _ _ h => h) (Or.inl ⟨by rfl, ?_⟩) (by assumption) ?_
    rotate_left
    {
    intro w hSw
    try dsimp only at hSw
    go_simp
    try with_reducible rfl
    }
    try simp only [sq]
    refine wpAnyH_done (by kernel_rfl) ?_ _
    clear hHeld hS8 hS7 u0' v0' u1' v1' u2' v2' u3' v3' u4' v4'
    go_wp2_with fail
    go_roundw
    case rel => exact ⟨_, 3, rfl, by decide, rfl, NX⟩
    case measure => simp [intOf]
    }
    {
    obtain ⟨a, n, c, hub, hbw⟩ := hI.out.own
    have HRn := hide (fun W (hW : Below wq.heap.size wq W) => unitRuns_any (fuk 3) a n c W (hbw.below hW))
    rw [show runsS (fuk 3) = _ from fx_runs] at HRn
    have HRd := hide (fun W (hW : Below wq.heap.size wq W) => unitRead_any (fuk 3) a n c W (hbw.below hW))
    rw [show uReadS (fuk 3) = _ from fx_read] at HRd
    obtain ⟨g2, cap2, rfl, hBg, hgl⟩ := hI.out.row.form (by decide)
    have r6 := hI.out.row.cells (g := g2) rfl 6 _ rfl
    have r7 := hI.out.row.cells (g := g2) rfl 7 _ rfl
    rw [ad_add, Nat.zero_add] at r6 r7
    unfold unv usv at *
    have UB := hide hub
    unfold unO at UB
    have u0' := blk_cell UB.out 0 _ rfl
    have u1' := blk_cell UB.out 1 _ rfl
    have u2' := blk_cell UB.out 2 _ rfl
    have u3' := blk_cell UB.out 3 _ rfl
    have u4' := blk_cell UB.out 4 _ rfl
    clear hub hbw
    go_wp2_with fail
    refine (unhide HRn _ (Below.refl _ _)).mono ?_
    rintro e w5 ⟨⟨aw, nw, cw, rfl, hiw, hlw, hcw, -⟩, hb⟩
    have hq5 := hb
    have IW := hide hiw
    obtain rfl : nw = 2 := hlw.symm
    replace UB := hide (blk_below UB.out hb)
    clear hb hiw hlw HRn u0' u1' u2' u3' u4'
    have u0' := blk_cell UB.out 0 _ rfl
    have u1' := blk_cell UB.out 1 _ rfl
    have u2' := blk_cell UB.out 2 _ rfl
    have u3' := blk_cell UB.out 3 _ rfl
    have u4' := blk_cell UB.out 4 _ rfl
    go_wp2_with fail
    refine (unhide HRd _ hq5).mono ?_
    rintro e w6 ⟨rfl, hb⟩
    replace IW := hide (IW.out.below hb)
    have hq6 := hq5.trans (hb.mono hq5.size)
    clear hb HRd u0' u1' u2' u3' u4' UB hq5
    have hbS := below_new (Below.refl w6.heap.size w6) (.cells #[.int .i64 1, .int .i64 1, .int .i64 0] 40)
    have hbI := below_new hbS (.cells #[.int .i64 8, .int .i64 8] 3)
    have bS := hide (blk_alloc (heap_alloc_last w6 (.cells #[.int .i64 1, .int .i64 1, .int .i64 0] 40)) (.cells #[.int .i64 8, .int .i64 8] 3))
    have bI := hide (uLast1 w6 (.cells #[.int .i64 1, .int .i64 1, .int .i64 0] 40) (.cells #[.int .i64 8, .int .i64 8] 3))
    have hQ := hide (equal_at aw (some ⟨w6.heap.size + 1, 0, none⟩) 2 2 cw 2 [8, 8] [8, 8] true _ (IW.out.below hbI) (isInts2 (blk_cell bI.out 0 _ rfl) (blk_cell bI.out 1 _ rfl)) rfl rfl (by decide) (by decide) (by decide))
    go_wp2_with fail
    refine (unhide hQ).mono ?_
    rintro e w7 ⟨rfl, nd, rfl⟩
    have hqE := below_drewN (hq6.trans (hbI.mono hq6.size)) nd
    have hwE := (hw.trans (hI.out.bel.mono hw.size))
    replace r6 := (hqE.cell (cell_lt r6)).trans r6
    replace r7 := (hqE.cell (cell_lt r7)).trans r7
    have s0 := blk_cell bS.out 0 _ rfl
    have s1' := blk_cell bS.out 1 _ rfl
    have s2' := blk_cell bS.out 2 _ rfl
    clear hQ IW bI
    go_wp2_with fail
    go_ret
    exact ⟨rfl, hwE.trans (hqE.mono hwE.size)⟩

    }
end Go.Proofs.YtgngpmgjoifepaaGreatDoor
