/- The contract of the reference's SameMessages: do two lists of messages hold the same? The contract of gate.delivery: an image in pieces, then a Prepare. -/
import Derived.Test.YtgngpmgjoifepaaGreatDoorPt10
import Derived.Test.YtgngpmgjoifepaaGreatDoorPt12
import Derived.Test.YtgngpmgjoifepaaGreatDoorPt0
import Derived.Test.YtgngpmgjoifepaaGreatDoorPt14
import Derived.Deep.DeepCutAuto
namespace Go.Proofs.YtgngpmgjoifepaaGreatDoor
open Go.RowKit
attribute [local go_sem ↓] Go.wp_at_zero Go.wp_at_succ

def IsMsw (w : World) (a : Option Addr) (l : List Ms) : Prop :=
  l = [] ∨ ∃ b off, a = some ⟨b, off, none⟩ ∧ ∀ i m, l[i]? = some m → ∃ am nm cm, BI w am nm m.ws ∧
    w.cell? ⟨b, off + i * 7, none⟩ = some (.int .i64 m.k) ∧ w.cell? ⟨b, off + i * 7 + 1, none⟩ = some (.int .i64 m.u) ∧ w.cell? ⟨b, off + i * 7 + 2, none⟩ = some (.int .i64 m.n) ∧ w.cell? ⟨b, off + i * 7 + 3, none⟩ = some (.int .i64 m.at') ∧
    w.cell? ⟨b, off + i * 7 + 4, none⟩ = some (.int .i64 m.im) ∧ w.cell? ⟨b, off + i * 7 + 5, none⟩ = some (.slice am nm cm) ∧ w.cell? ⟨b, off + i * 7 + 6, none⟩ = some (.bool m.y)
theorem IsMsgs.msw {w : World} {a : Option Addr} {l : List Ms} (h : IsMsgs w a l) : IsMsw w a l := by
  rcases h with h | ⟨b, rfl, hc⟩
  { exact .inl h }
  {
  refine .inr ⟨b, 0, rfl, fun i m hi => ?_⟩
  obtain ⟨h0, h1⟩ := hc i m hi
  refine ⟨none, 0, 0, ⟨.inl h0, by rw [h0]; rfl, by decide⟩, ?_⟩
  simpa only [Nat.zero_add] using h1
  }
theorem IsMsw.below {w w' : World} {a : Option Addr} {l : List Ms} (h : IsMsw w a l) (hb : Below w.heap.size w w') : IsMsw w' a l := by
  rcases h with h | ⟨b, off, rfl, hc⟩
  { exact .inl h }
  {
  refine .inr ⟨b, off, rfl, fun i m hi => ?_⟩
  obtain ⟨am, nm, cm, h0, h1, h2, h3, h4, h5, h6, h7⟩ := hc i m hi
  exact ⟨am, nm, cm, h0.below hb, by rw [hb.cell (cell_lt h1)]; exact h1, by rw [hb.cell (cell_lt h2)]; exact h2, by rw [hb.cell (cell_lt h3)]; exact h3, by rw [hb.cell (cell_lt h4)]; exact h4, by rw [hb.cell (cell_lt h5)]; exact h5, by rw [hb.cell (cell_lt h6)]; exact h6, by rw [hb.cell (cell_lt h7)]; exact h7⟩

  }
end Go.Proofs.YtgngpmgjoifepaaGreatDoor

namespace Go.Proofs.YtgngpmgjoifepaaGreatDoor
open Go.RowKit
attribute [local go_sem ↓] Go.wp_at_zero Go.wp_at_succ

structure CA where
  at_ : Option Addr
  nt : Nat
  ct : Nat
  ai : Option Addr
  ni : Nat
  ci : Nat
def cpv (n v u : Int) (m : CA) : Value := .agg #[.int .i64 n, .int .i64 v, .int .i64 u, .slice m.at_ m.nt m.ct, .slice m.ai m.ni m.ci]

def MVs (w : World) (o : Option Nat) : List Ms → List Value → Prop
  | [], vs => vs = []
  | m :: l, vs => ∃ am cm rest, vs = [.int .i64 m.k, .int .i64 m.u, .int .i64 m.n, .int .i64 m.at', .int .i64 m.im, .slice am m.ws.length cm, .bool m.y] ++ rest ∧ IsInts w am m.ws ∧ m.ws.length ≤ maxLen ∧ (m.ws = [] ∨ ∀ g, o = some g → Off g am) ∧ MVs w o l rest
theorem MVs.snoc {w : World} {o : Option Nat} {m : Ms} {am : Option Addr} {cm : Nat} (hi : IsInts w am m.ws) (hm : m.ws.length ≤ maxLen) (ho : m.ws = [] ∨ ∀ g, o = some g → Off g am) : ∀ (l : List Ms) (vs : List Value), MVs w o l vs → MVs w o (l ++ [m]) (vs ++ [.int .i64 m.k, .int .i64 m.u, .int .i64 m.n, .int .i64 m.at', .int .i64 m.im, .slice am m.ws.length cm, .bool m.y])
  | [], vs, h => by
    have h : vs = [] := h
    subst h
    exact ⟨am, cm, [], rfl, hi, hm, ho, rfl⟩
  | x :: l, vs, h => by
    obtain ⟨ax, cx, rest, rfl, h1, h2, h3, h4⟩ := h
    exact ⟨ax, cx, rest ++ [.int .i64 m.k, .int .i64 m.u, .int .i64 m.n, .int .i64 m.at', .int .i64 m.im, .slice am m.ws.length cm, .bool m.y], by simp, h1, h2, h3, MVs.snoc hi hm ho l rest h4⟩
theorem MVs.grow {w w' : World} {o o' : Option Nat} (hg : w.grownBy w' o) (ho : o' = o ∨ ∃ H, o' = some H ∧ w.heap.size ≤ H) : ∀ (l : List Ms) (vs : List Value), MVs w o l vs → MVs w' o' l vs
  | [], vs, h => h
  | m :: l, vs, h => by
    obtain ⟨am, cm, rest, h0, h1, h2, h3, h4⟩ := h
    refine ⟨am, cm, rest, h0, ?_, h2, ?_, MVs.grow hg ho l rest h4⟩
    {
    rcases h3 with h3 | h3
    { exact .inl h3 }
    rcases h1 with h1 | ⟨b, off, rfl, hc⟩
    { exact .inl h1 }
    { exact .inr ⟨b, off, rfl, fun i hi => hg.cell (hc i hi) (fun e => h3 b e.symm _ rfl rfl)⟩ }
    }
    {
    rcases ho with rfl | ⟨H, rfl, hH⟩
    { exact h3 }
    {
    rcases ints_off h1 H hH with h | h
    { exact .inl h }
    { exact .inr (fun g e => by cases e; exact h) }
    }
    }
theorem MVs.len {w : World} {o : Option Nat} : ∀ (l : List Ms) (vs : List Value), MVs w o l vs → vs.length = l.length * 7
  | [], vs, h => by
    have h : vs = [] := h
    subst h
    rfl
  | m :: l, vs, h => by
    obtain ⟨am, cm, rest, h0, h1, h2, h3, h4⟩ := h
    have := MVs.len l rest h4
    rw [h0]
    simp
    omega
theorem MVs.at_ {w : World} {o : Option Nat} : ∀ (l : List Ms) (vs : List Value), MVs w o l vs → ∀ i m, l[i]? = some m → ∃ am nm cm, BI w am nm m.ws ∧ vs[i * 7]? = some (.int .i64 m.k) ∧ vs[i * 7 + 1]? = some (.int .i64 m.u) ∧ vs[i * 7 + 2]? = some (.int .i64 m.n) ∧ vs[i * 7 + 3]? = some (.int .i64 m.at') ∧ vs[i * 7 + 4]? = some (.int .i64 m.im) ∧ vs[i * 7 + 5]? = some (.slice am nm cm) ∧ vs[i * 7 + 6]? = some (.bool m.y)
  | [], vs, _, i, m, hi => by simp at hi
  | x :: l, vs, h, 0, m, hi => by
    obtain ⟨am, cm, rest, h0, h1, h2, h3, h4⟩ := h
    simp at hi
    subst hi
    subst h0
    exact ⟨am, x.ws.length, cm, ⟨h1, rfl, h2⟩, rfl, rfl, rfl, rfl, rfl, rfl, rfl⟩
  | x :: l, vs, h, i + 1, m, hi => by
    obtain ⟨am, cm, rest, h0, h1, h2, h3, h4⟩ := h
    have hi : l[i]? = some m := by simpa using hi
    obtain ⟨a1, n1, c1, q0, q1, q2, q3, q4, q5, q6, q7⟩ := MVs.at_ l rest h4 i m hi
    subst h0
    have e : ∀ j, ([.int .i64 x.k, .int .i64 x.u, .int .i64 x.n, .int .i64 x.at', .int .i64 x.im, .slice am x.ws.length cm, .bool x.y] ++ rest)[(i + 1) * 7 + j]? = rest[i * 7 + j]? := fun j => by
      rw [List.getElem?_append_right (by simp; omega)]
      congr 1
      simp
      omega
    refine ⟨a1, n1, c1, q0, ?_, ?_, ?_, ?_, ?_, ?_, ?_⟩
    { exact (e 0).trans q1 }
    { exact (e 1).trans q2 }
    { exact (e 2).trans q3 }
    { exact (e 3).trans q4 }
    { exact (e 4).trans q5 }
    { exact (e 5).trans q6 }
    { exact (e 6).trans q7 }
theorem row_msgs {w : World} {base g n c : Nat} {l : List Ms} {vs : List Value} {t : TypeId} (h : w.ownsRow base t 7 (.slice (some ⟨g, 0, none⟩) n c) n vs) (hm : MVs w (some g) l vs) : IsMsw w (some ⟨g, 0, none⟩) l := by
  have hc : ∀ j u, vs[j]? = some u → w.cell? ⟨g, 0 + j, none⟩ = some u := fun j u hu => by
    have := h.cells (g := g) rfl j u hu
    rwa [ad_add] at this
  refine .inr ⟨g, 0, rfl, fun i m hi => ?_⟩
  obtain ⟨a1, n1, c1, q0, q1, q2, q3, q4, q5, q6, q7⟩ := MVs.at_ l vs hm i m hi
  simp only [Nat.zero_add] at hc ⊢
  exact ⟨a1, n1, c1, q0, hc _ _ q1, hc _ _ q2, hc _ _ q3, hc _ _ q4, hc _ _ q5, hc _ _ q6, hc _ _ q7⟩

def pcs (u n : Int) (image : List Int) (k : Nat) : List Ms := (List.range k).map fun j => ⟨1, u, n, (8 * j : Nat), 0, (image.drop (8 * j)).take 8, false⟩
theorem pcs_next (u n : Int) (image : List Int) (k : Nat) : pcs u n image (k + 1) = pcs u n image k ++ [⟨1, u, n, (8 * k : Nat), 0, (image.drop (8 * k)).take 8, false⟩] := by
  unfold pcs; rw [List.range_succ, List.map_append]; rfl
theorem pcs_len (u n : Int) (image : List Int) (k : Nat) : (pcs u n image k).length = k := by unfold pcs; simp
theorem pieces_from (u n : Int) (image : List Int) : ∀ (f j k : Nat), (j ≤ k → True) → image.length ≤ 8 * (j + f) → (8 * k < image.length + 8 ∧ image.length ≤ 8 * k) → j ≤ k → pcs u n image j ++ pieces u n image f (8 * j) = pcs u n image k
  | 0, j, k, _, h1, h2, h3 => by
    have : j = k := by omega
    subst this
    simp [pieces]
  | f + 1, j, k, _, h1, h2, h3 => by
    unfold pieces
    by_cases h : 8 * j < image.length
    {
    rw [if_pos h]
    have := pieces_from u n image f (j + 1) k (fun _ => trivial) (by omega) h2 (by omega)
    rw [pcs_next, List.append_assoc] at this
    exact this
    }
    {
    rw [if_neg h]
    have : j = k := by omega
    subst this
    simp
    }
theorem pieces_all (u n : Int) (image : List Int) (k : Nat) (h : image.length ≤ 40) (h2 : 8 * k < image.length + 8 ∧ image.length ≤ 8 * k) : pieces u n image 6 0 = pcs u n image k := by
  have := pieces_from u n image 6 0 k (fun _ => trivial) (by omega) h2 (Nat.zero_le _)
  simpa [pcs] using this

theorem sub_ints {w : World} {b off n : Nat} {xs : List Int} (h : IsInts w (some ⟨b, off, none⟩) xs) (p q : Nat) (hl : xs.length = n) (hm : n ≤ maxLen) (hq : p + q ≤ n) : BI w (some ⟨b, off + p, none⟩) q ((xs.drop p).take q) := by
  refine ⟨?_, by simp; omega, by omega⟩
  {
  rcases h with h | ⟨b', off', e, hc⟩
  { subst h; exact .inl (by simp) }
  {
  cases e
  refine .inr ⟨b, off + p, rfl, fun i hi => ?_⟩
  simp at hi
  have := hc (p + i) (by omega)
  rw [Nat.add_assoc, this]
  congr 2
  simp [List.getD_eq_getElem?_getD, show i < q by omega]

  }
  }
structure DInv (W : World) (u n : Int) (image : List Int) (k : Nat) (v : Value) (wr : World) : Prop where
  bel : Below W.heap.size W wr
  row : ∃ vs, wr.ownsRow W.heap.size 31 7 v k vs ∧ MVs wr v.ownBlock (pcs u n image k) vs


theorem lists_at {w : World} {a : Option Addr} {ls : List (List Int)} (h : IsLists w a ls) (u : Nat) (hu : u < ls.length) : ∃ b off ai ci, a = some ⟨b, off, none⟩ ∧ w.cell? ⟨b, off + u, none⟩ = some (Value.slice ai ls[u].length ci) ∧ IsInts w ai ls[u] ∧ ls[u].length ≤ ci ∧ ci ≤ maxLen := by
  rcases h with h | ⟨b, off, ha, hc⟩
  { subst h; simp at hu }
  {
  obtain ⟨ai, ci, h1, h2, h3, h4⟩ := hc u _ (List.getElem?_eq_getElem hu)
  exact ⟨b, off, ai, ci, ha, h1, h2, h3, h4⟩
  }
theorem tgts_at {w : World} {a : Option Addr} {ts : List T3} (h : IsTgts w a ts) (u : Nat) (hu : u < ts.length) : ∃ b off, a = some ⟨b, off, none⟩ ∧ w.cell? ⟨b, off + u * 3 + 1, none⟩ = some (.int .i64 ts[u].2.1) := by
  rcases h with h | ⟨b, off, ha, hc⟩
  { subst h; simp at hu }
  {
  obtain ⟨h1, h2, h3⟩ := hc u _ (List.getElem?_eq_getElem hu)
  exact ⟨b, off, ha, h2⟩

  }
set_option maxRecDepth 100000 in
theorem infoM : (Tryz.prog.info? 31).map (fun i => (i.zero, i.size, i.bytes)) = some (some (.agg #[.int .i64 0, .int .i64 0, .int .i64 0, .int .i64 0, .int .i64 0, .slice none 0 0, .bool false]), 7, 72) := by kernel_rfl
theorem bel_grown {w w' : World} (h : Below w.heap.size w w') (o : Option Nat) : w.grownBy w' o := ⟨h.os, h.tape, h.output, h.size, fun k hk _ => h.block k hk⟩
theorem row_lt {w : World} {base n size : Nat} {v : Value} {vs : List Value} {t : TypeId} {g : Nat} (h : w.ownsRow base t size v n vs) (hg : v.ownBlock = some g) : g < w.heap.size := by
  obtain ⟨_, ⟨hv, _⟩ | ⟨g', cap, cur, hv, _, hh, _⟩⟩ := h
  { subst hv; cases hg }
  { subst hv; cases hg; exact blk_lt hh }
theorem drow_ge {w : World} {base n size : Nat} {v : Value} {vs : List Value} {t : TypeId} {g : Nat} (h : w.ownsRow base t size v n vs) (hg : v.ownBlock = some g) : base ≤ g := by
  obtain ⟨_, ⟨hv, _⟩ | ⟨g', cap, cur, hv, hb, hh, _⟩⟩ := h
  { subst hv; cases hg }
  { subst hv; cases hg; exact hb }
theorem dlvS {W W' : World} {B bt ot : Nat} {n v u : Int} {m1 m2 : Value} {x : Int} (h0 : W.heap[B]? = some (.cells #[.int .i64 n, .int .i64 v, .int .i64 u, m1, m2] 93 (0, 0))) (h1 : W.cell? ⟨bt, ot, none⟩ = some (.int .i64 x)) (h : Below W.heap.size W W') :
    W'.cell? ⟨B, 0, none⟩ = some (.int .i64 n) ∧ W'.cell? ⟨B, 3, none⟩ = some m1 ∧ W'.cell? ⟨bt, ot, none⟩ = some (.int .i64 x) ∧ Below W.heap.size W W' :=
  ⟨blk_cell (blk_below h0 h) 0 _ rfl, blk_cell (blk_below h0 h) 3 _ rfl, (h.cell (cell_lt h1)).trans h1, h⟩

def DAns (w : World) (l : List Ms) (e : Ending) (w' : World) : Prop := (∃ a n c, e = .returned (.slice a n c) ∧ IsMsw w' a l ∧ l.length = n ∧ n ≤ c ∧ FreshA w.heap.size a) ∧ Below w.heap.size w w'

set_option maxRecDepth 100000 in
set_option maxHeartbeats 3200000 in
theorem delivery_any (cn cv cu : Int) (m : CA) (ts : List T3) (ims : List (List Int)) (u : Nat) (w : World) (ht : BT w m.at_ m.nt ts) (hi : BL w m.ai m.ni ims) (hu : u < ims.length) (hut : u < ts.length) (h40 : (ims.getD u []).length ≤ 40) :
    Calls Tryz.prog 98 #[cpv cn cv cu m, .int .i64 u] w (DAns w (delG cn u (ts.getD u (0, 0, 0)).2.1 (ims.getD u []))) := by
  obtain ⟨ta, nt, ct, ia, ni, ci⟩ := m
  dsimp only at ht hi
  unfold cpv
  dsimp only
  have hni := hi.len
  have hnt := ht.len
  obtain ⟨bi, oi, a5, c5, rfl, hcell, hints, hc5, hm5⟩ := lists_at hi.at_ u hu
  obtain ⟨bt, ot, rfl, t1⟩ := tgts_at ht.at_ u hut
  rw [show ims.getD u [] = ims[u] by simp [hu]] at h40 ⊢
  rw [show ts.getD u (0, 0, 0) = ts[u] by simp [hut]]
  have hw : Below w.heap.size w (w.alloc (.cells #[.int .i64 cn, .int .i64 cv, .int .i64 cu, .slice (some ⟨bt, ot, none⟩) nt ct, .slice (some ⟨bi, oi, none⟩) ni ci] 93)) := (Below.refl _ _).alloc (Nat.le_refl _) _
  have b0 := hide (heap_alloc_last w (.cells #[.int .i64 cn, .int .i64 cv, .int .i64 cu, .slice (some ⟨bt, ot, none⟩) nt ct, .slice (some ⟨bi, oi, none⟩) ni ci] 93))
  have huI : (u : Int) < (ni : Int) := by omega
  have huT : (u : Int) < (nt : Int) := by omega
  clear ht hi
  generalize ims[u] = image at *
  generalize ts[u] = tt at *
  replace hcell := hide hcell
  have T1 := hide t1
  have HI := hide (hints.below hw)
  have hcell2 : (w.alloc (.cells #[.int .i64 cn, .int .i64 cv, .int .i64 cu, .slice (some ⟨bt, ot, none⟩) nt ct, .slice (some ⟨bi, oi, none⟩) ni ci] 93)).cell? ⟨bi, oi + u, none⟩ = some (Value.slice a5 image.length c5) := by rw [hw.cell (cell_lt hcell.out)]; exact hcell.out
  have T2 : Hid ((w.alloc (.cells #[.int .i64 cn, .int .i64 cv, .int .i64 cu, .slice (some ⟨bt, ot, none⟩) nt ct, .slice (some ⟨bi, oi, none⟩) ni ci] 93)).cell? ⟨bt, ot + u * 3 + 1, none⟩ = some (.int .i64 tt.2.1)) := by show _ = _; rw [hw.cell (cell_lt T1.out)]; exact T1.out
  clear t1 T1 hcell hints hni hnt hu hut
  have x4 := blk_cell b0.out 4 _ rfl
  go_enter Tryz.func98, Tryz.ntmps98
  go_wp2_with fail
  generalize w.alloc (.cells #[.int .i64 cn, .int .i64 cv, .int .i64 cu, .slice (some ⟨bt, ot, none⟩) nt ct, .slice (some ⟨bi, oi, none⟩) ni ci] 93) = W at *
  have I0 : Hid (DInv W u cn image 0 (.slice none 0 0) W) := ⟨Below.refl _ _, [], World.ownsRow_nil _ _ _ _, rfl⟩
  clear x4 hcell2
  obtain ⟨irr, hir, rz0, rz1, rz2⟩ := info_parts infoM
  go_loopw [6, 7] (fun p i wq => ∃ k : Nat, 8 * k < image.length + 8 ∧ i = .int .i64 (8 * k : Nat) ∧ Hid (DInv W u cn image k p wq)) (fun _ i _ => 48 - (intOf i).toNat)
  case atStart => exact ⟨0, by omega, rfl, I0⟩
  case round =>
    clear I0
    obtain ⟨wq, rfl⟩ : ∃ wq : World, wq = wr := ⟨_, rfl⟩
    obtain ⟨k, hk, rfl, hI⟩ := hrel
    obtain ⟨vs, hrow, hmv⟩ := hI.out.row
    have hbel := hI.out.bel
    have bq := hide (blk_below b0.out hbel)
    have IQ := hide (HI.out.below hbel)
    by_cases hlt : 8 * k < image.length
    {
    obtain ⟨b5, o5, rfl⟩ : ∃ b o, a5 = some ⟨b, o, none⟩ := by
      rcases IQ.out with h | ⟨b, o, h, _⟩
      { rw [h] at hlt; simp at hlt }
      { exact ⟨b, o, h⟩ }
    have HC := hide (fun q (hq : 8 * k + q ≤ image.length) c => cloneI_any (some ⟨b5, o5 + 8 * k, none⟩) q c ((image.drop (8 * k)).take q) wq (sub_ints IQ.out (8 * k) q rfl (by unfold maxLen; omega) hq) (by omega))
    have hT8 : Hid (∀ q, (q = 8 ∨ 8 * k + q = image.length ∧ q ≤ 8) → (image.drop (8 * k)).take q = (image.drop (8 * k)).take 8) := fun q hq => by
      rcases hq with rfl | ⟨h1, h2⟩
      { rfl }
      { rw [List.take_of_length_le (by simp; omega), List.take_of_length_le (by simp; omega)] }
    have HKK : Hid (8 * k < 48) := by show _ < _; omega
    generalize hP : 8 * k = P at *
    have HP := hide hP
    have hPI : (P : Int) < (image.length : Int) := by omega
    clear hP hk
    go_upto_region 6 with fail
    go_cut [8] (fun v8 wx => ∃ a8 c8, v8 = .slice a8 ((image.drop P).take 8).length c8 ∧ Hid (wx.ownsRow wq.heap.size 3 1 (.slice a8 ((image.drop P).take 8).length c8) ((image.drop P).take 8).length (vals ((image.drop P).take 8))) ∧ Below wq.heap.size wq wx)
    case first =>
      have hqq : P + ((min ((P : Int) + 8) (image.length : Int)).toNat - P) ≤ image.length := by omega
      have hq2 : (image.drop P).take ((min ((P : Int) + 8) (image.length : Int)).toNat - P) = (image.drop P).take 8 := hT8.out _ (by omega)
      have hq3 : (min ((P : Int) + 8) (image.length : Int)).toNat - P = ((image.drop P).take 8).length := by rw [List.length_take, List.length_drop]; omega
      have hcc : (min ((P : Int) + 8) (image.length : Int)) ≤ (c5 : Int) := by omega
      have hPm : (P : Int) ≤ min ((P : Int) + 8) (image.length : Int) := by omega
      have HC1 := hide (fun c => unhide HC _ hqq c)
      rw [hq2] at HC1
      have HQ3 := hide hq3
      clear hqq hq2 hq3 HC
      go_wp2_with fail
      refine (unhide HC1 _).mono ?_
      rintro e w8 ⟨⟨a8, c8, rfl, ho8⟩, hb8⟩
      have HO8 := hide ho8
      clear ho8 HC1 hcc hPm
      go_wp2_with fail
      go_meet
      case rel => exact ⟨a8, c8, by simp, HO8, hb8⟩
    case rest =>
      obtain ⟨a8, c8, rfl, ho8, hb8⟩ := hcut
      have HPC := hide (pcs_next u cn image k)
      have hk8 := hide (show ((image.drop P).take 8).length ≤ maxLen by unfold maxLen; simp; omega)
      rw [HP.out] at HPC
      obtain ⟨y8, y9, -⟩ := own_ints ho8.out rfl
      generalize (image.drop P).take 8 = ws8 at *
      have hP5 : Hid (∀ g, u6.ownBlock = some g → Off g a8) := fun g hg => off_fresh y9 (row_lt hrow hg)
      have hrowc := hide (ownsRow_below hrow hb8)
      have hmvc := hide (MVs.grow (bel_grown hb8 _) (.inl rfl) _ _ hmv)
      have bc := hide (blk_below bq.out hb8)
      have hwc := hbel.trans (hb8.mono hbel.size)
      have Y8 := hide y8
      clear ho8 hb8 y8 y9 hrow hmv bq IQ HI hbel HC hT8 b0
      generalize wq.heap.size = Q0 at *
      have z0 := blk_cell bc.out 0 _ rfl
      have hrowd := hrowc.out.alloc (.cells #[.int .i64 1, .int .i64 u, .int .i64 cn, .int .i64 P, .int .i64 0, .slice a8 ws8.length c8, .bool false] 31)
      have bm := heap_alloc_last wc (.cells #[.int .i64 1, .int .i64 u, .int .i64 cn, .int .i64 P, .int .i64 0, .slice a8 ws8.length c8, .bool false] 31)
      have hbd : Below wc.heap.size wc (wc.alloc (.cells #[.int .i64 1, .int .i64 u, .int .i64 cn, .int .i64 P, .int .i64 0, .slice a8 ws8.length c8, .bool false] 31)) := below_new (Below.refl _ _) _
      have hwd := below_new hwc (.cells #[.int .i64 1, .int .i64 u, .int .i64 cn, .int .i64 P, .int .i64 0, .slice a8 ws8.length c8, .bool false] 31)
      have hmd := hide (MVs.snoc (m := ⟨1, u, cn, P, 0, ws8, false⟩) (cm := c8) (Y8.out.below hbd) hk8.out (.inr hP5.out) _ _ (MVs.grow (bel_grown hbd _) (.inl rfl) _ _ hmvc.out))
      have hsd : W.heap.size ≤ (wc.alloc (.cells #[.int .i64 1, .int .i64 u, .int .i64 cn, .int .i64 P, .int .i64 0, .slice a8 ws8.length c8, .bool false] 31)).heap.size := hwd.size
      have hkm : k + 1 ≤ maxLen := by have := HKK.out; have := HP.out; unfold maxLen; omega
      have hkb : (k + 1) * 72 ≤ 140737488355328 := by have := HKK.out; have := HP.out; omega
      have hHs : (wc.alloc (.cells #[.int .i64 1, .int .i64 u, .int .i64 cn, .int .i64 P, .int .i64 0, .slice a8 ws8.length c8, .bool false] 31)).heap.size = wc.heap.size + 1 := by simp
      go_wp2_with (at_builtin; refine wpList_append_lies _ rfl _ _ 33 rfl W.heap.size 31 irr _ 7 72 Tryz.underlying33 hir rz0 rz1 rz2 rfl (by omega) _ k _ rfl hrowd ⟨wc.heap.size, 0, none⟩ 1 1 [.int .i64 1, .int .i64 u, .int .i64 cn, .int .i64 P, .int .i64 0, .slice a8 ws8.length c8, .bool false] rfl rfl (World.news_of_block bm) (by simp [Value.oneCell']) (by omega) hkm hkb hsd (wc.heap.size + 1) hHs ?_; intro g cap w4 hown4 hgr4 hat4 _)
      have hw4 : Below W.heap.size W w4 := hwd.grown hgr4 hwd.size (fun j e => drow_ge hrowd e)
      have hmv4 := MVs.grow (o' := some g) hgr4 (by rcases hat4 with h | h; exact .inl h.symm; exact .inr ⟨_, by rw [h], by rw [hHs]; omega⟩) _ _ hmd.out
      have HI4 : Hid (DInv W u cn image (k + 1) (.slice (some ⟨g, 0, none⟩) (k + 1) cap) w4) := ⟨hw4, _, hown4, by rw [HPC.out]; exact hmv4⟩
      clear hown4 hgr4 hat4 hmv4 hw4 hmd hrowd hsd hbd bm hkm hkb hHs z0
      go_wp2_with fail
      go_roundw
      case rel => exact ⟨k + 1, by have := HP.out; omega, by have := HP.out; go_num, HI4⟩
      case measure => have := HKK.out; simp [intOf]; omega
    }
    {
    have HPA := hide (pieces_all u cn image k h40 (by omega))
    have hI8 : ¬ ((8 * k : Nat) : Int) < (image.length : Int) := by omega
    have hkm : k + 1 ≤ maxLen := by unfold maxLen; omega
    have hkb : (k + 1) * 72 ≤ 140737488355328 := by omega
    have HLK := hide (pcs_len u cn image k)
    clear hk
    go_upto_region 8 with fail
    refine wp_region_held_drew (S := fun W' => W'.cell? ⟨w.heap.size, 0, none⟩ = some (.int .i64 cn) ∧ W'.cell? ⟨w.heap.size, 3, none⟩ = some (.slice (some ⟨bt, ot, none⟩) nt ct) ∧ W'.cell? ⟨bt, ot + u * 3 + 1, none⟩ = some (.int .i64 tt.2.1) ∧ Below W.heap.size W W') (by kernel_rfl) (dlvS b0.out T2.out hbel.drew) ?_
    intro hHeld
    refine Htake (i := 0) (v := ?_) (by rfl) (by kernel_rfl) (by exact fun _ _ _ h => h) (Or.inl ⟨by rfl, ?_⟩) (by assumption) ?_
    rotate_left
    {
    intro w hSw
    try dsimp only at hSw
    go_simp
    try with_reducible rfl
    }
    try simp only [sq]
    refine Htake (i := 1) (v := ?_) (by rfl) (by kernel_rfl) (by exact fun _ _ _ h => h) (Or.inl ⟨by rfl, ?_⟩) (by assumption) ?_
    rotate_left
    {
    intro w hSw
    try dsimp only at hSw
    go_simp
    try with_reducible rfl
    }
    try simp only [sq]
    refine Htake (i := 2) (v := ?_) (by rfl) (by kernel_rfl) (by exact fun _ _ _ h => h) (Or.inl ⟨by rfl, ?_⟩) (by assumption) ?_
    rotate_left
    {
    intro w hSw
    try dsimp only at hSw
    go_simp
    try with_reducible rfl
    }
    try simp only [sq]
    refine Htake (i := 3) (v := ?_) (by rfl) (by kernel_rfl) (by exact fun _ _ _ h => h) (Or.inl ⟨by rfl, ?_⟩) (by assumption) ?_
    rotate_left
    {
    intro w hSw
    try dsimp only at hSw
    go_simp
    try with_reducible rfl
    }
    try simp only [sq]
    refine Htake (i := 4) (v := ?_) (by rfl) (by kernel_rfl) (by exact fun _ _ _ h => h) (Or.inl ⟨by rfl, ?_⟩) (by assumption) ?_
    rotate_left
    {
    intro w hSw
    try dsimp only at hSw
    go_simp
    try with_reducible rfl
    }
    try simp only [sq]
    refine Htake (i := 5) (v := ?_) (by rfl) (by kernel_rfl) (by exact fun _ _ _ h => h) (Or.inl ⟨by rfl, ?_⟩) (by assumption) ?_
    rotate_left
    {
    intro w hSw
    try dsimp only at hSw
    go_simp
    try with_reducible rfl
    }
    try simp only [sq]
    refine Htake (i := 6) (v := ?_) (by rfl) (by kernel_rfl) (by exact fun _ _ _ h => h) (Or.inl ⟨by rfl, ?_⟩) (by assumption) ?_
    rotate_left
    {
    intro w hSw
    try dsimp only at hSw
    go_simp
    try with_reducible rfl
    }
    try simp only [sq]
    refine Htake (i := 7) (v := ?_) (by rfl) (by kernel_rfl) (by exact fun _ _ _ h => h) (Or.inl ⟨by rfl, ?_⟩) (by assumption) ?_
    rotate_left
    {
    intro w hSw
    try dsimp only at hSw
    go_simp
    try with_reducible rfl
    }
    try simp only [sq]
    refine Htake (i := 8) (v := ?_) (by rfl) (by kernel_rfl) (by exact fun _ _ _ h => h) (Or.inl ⟨by rfl, ?_⟩) (by assumption) ?_
    rotate_left
    {
    intro w hSw
    try dsimp only at hSw
    go_simp
    try with_reducible rfl
    }
    try simp only [sq]
    refine Htake (i := 9) (v := ?_) (by rfl) (by kernel_rfl) (by exact fun _ _ _ h => h) (Or.inl ⟨by rfl, ?_⟩) (by assumption) ?_
    rotate_left
    {
    intro w hSw
    try dsimp only at hSw
    go_simp
    try with_reducible rfl
    }
    try simp only [sq]
    refine Htake (i := 10) (v := ?_) (by rfl) (by kernel_rfl) (by exact fun _ _ _ h => h) (Or.inl ⟨by rfl, ?_⟩) (by assumption) ?_
    rotate_left
    {
    intro w hSw
    try dsimp only at hSw
    go_simp
    try with_reducible rfl
    }
    try simp only [sq]
    refine Htake (i := 11) (v := ?_) (by rfl) (by kernel_rfl) (by exact fun _ _ _ h => h) (Or.inl ⟨by rfl, ?_⟩) (by assumption) ?_
    rotate_left
    {
    intro w hSw
    try dsimp only at hSw
    go_simp
    try with_reducible rfl
    }
    try simp only [sq]
    refine Htake (i := 12) (v := ?_) (by rfl) (by kernel_rfl) (by exact fun _ _ _ h => h) (Or.inl ⟨by rfl, ?_⟩) (by assumption) ?_
    rotate_left
    {
    intro w hSw
    try dsimp only at hSw
    go_simp
    try with_reducible rfl
    }
    try simp only [sq]
    refine Htake (i := 13) (v := ?_) (by rfl) (by kernel_rfl) (by exact fun _ _ _ h => h) (Or.inl ⟨by rfl, ?_⟩) (by assumption) ?_
    rotate_left
    {
    intro w hSw
    try dsimp only at hSw
    go_simp
    try with_reducible rfl
    }
    try simp only [sq]
    refine wpAnyH_ready (rs := [14]) (by kernel_rfl) (by simp) ?_
    refine AllReadyH.cons (by rfl) (fun K hK => ?_) AllReadyH.nil
    go_simp
    refine hK.out _ _ (dlvS b0.out T2.out (below_new hbel.drew _)) (fun hHeld => ?_)
    clear hK K
    try simp only [sq]
    have hbd : Below wq.heap.size wq (wq.drew.alloc (.cells #[.int .i64 2, .int .i64 u, .int .i64 cn, .int .i64 image.length, .int .i64 tt.2.1, .slice none 0 0, .bool false] 31)) := below_new (Below.refl _ _).drew _
    have hrowd := ownsRow_below hrow hbd
    have bm := heap_alloc_last wq.drew (.cells #[.int .i64 2, .int .i64 u, .int .i64 cn, .int .i64 image.length, .int .i64 tt.2.1, .slice none 0 0, .bool false] 31)
    have hwd := below_new hbel.drew (.cells #[.int .i64 2, .int .i64 u, .int .i64 cn, .int .i64 image.length, .int .i64 tt.2.1, .slice none 0 0, .bool false] 31)
    have hmd := hide (MVs.snoc (m := ⟨2, u, cn, image.length, tt.2.1, [], false⟩) (am := none) (cm := 0) (.inl rfl) (Nat.zero_le _) (.inl rfl) _ _ (MVs.grow (bel_grown hbd _) (.inl rfl) _ _ hmv))
    have hHs : (wq.drew.alloc (.cells #[.int .i64 2, .int .i64 u, .int .i64 cn, .int .i64 image.length, .int .i64 tt.2.1, .slice none 0 0, .bool false] 31)).heap.size = wq.heap.size + 1 := by simp
    refine wpAnyH_ready (rs := [15]) (by kernel_rfl) (by simp) ?_
    refine AllReadyH.cons (by rfl) (fun K hK => ?_) AllReadyH.nil
    refine step_append_lies _ rfl _ _ 33 rfl W.heap.size 31 irr _ 7 72 Tryz.underlying33 hir rz0 rz1 rz2 rfl (by omega) _ k _ rfl hrowd ⟨wq.heap.size, 0, none⟩ 1 1 [.int .i64 2, .int .i64 u, .int .i64 cn, .int .i64 image.length, .int .i64 tt.2.1, .slice none 0 0, .bool false] rfl rfl (World.news_of_block bm) (by simp [Value.oneCell']) (by omega) hkm hkb hwd.size (wq.heap.size + 1) hHs ?_
    intro g cap w4 hown4 hgr4 hat4 _
    have hw4 : Below W.heap.size W w4 := hwd.grown hgr4 hwd.size (fun j e => drow_ge hrowd e)
    have hmv4 := MVs.grow (o' := some g) hgr4 (by rcases hat4 with h | h; exact .inl h.symm; exact .inr ⟨_, by rw [h], by simp⟩) _ _ hmd.out
    have hge : W.heap.size ≤ g := by
      rcases hat4 with h | h
      { exact drow_ge hrowd h }
      { have := hbel.size; omega }
    have HM := hide (row_msgs hown4 hmv4)
    have hcap : k + 1 ≤ cap := by
      obtain ⟨_, ⟨hv, _⟩ | ⟨g', cap', cur, hv, _, _, hc, _⟩⟩ := hown4
      { cases hv }
      { cases hv; exact hc }
    clear hown4 hgr4 hat4 hmv4 hmd hrowd hHs hbd bm hrow hmv hI
    refine hK.out _ _ (dlvS b0.out T2.out hw4) (fun hHeld => ?_)
    clear hK K
    try simp only [sq]
    refine Htake (i := 16) (v := ?_) (by rfl) (by kernel_rfl) (by exact fun _ _ _ h => h) (Or.inl ⟨by rfl, ?_⟩) (by assumption) ?_
    rotate_left
    {
    intro w hSw
    try dsimp only at hSw
    go_simp
    try with_reducible rfl
    }
    try simp only [sq]
    refine wpAnyH_done (by kernel_rfl) ?_ _
    go_wp2_with fail
    go_ret
    refine ⟨⟨_, _, _, rfl, ?_, ?_, hcap, fun ad e => by cases e; exact Nat.le_trans hw.size hge⟩, hw.trans (hw4.mono hw.size)⟩
    { unfold delG; rw [HPA.out]; exact HM.out }
    {
    unfold delG; rw [HPA.out, List.length_append, HLK.out]; rfl

    }
    }
end Go.Proofs.YtgngpmgjoifepaaGreatDoor
