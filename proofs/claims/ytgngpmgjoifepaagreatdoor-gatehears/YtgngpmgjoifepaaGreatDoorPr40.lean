/- The ref's pieces, word by word: plain facts. No program in this text. A row of messages whose last one's words grow: how it lies in memory. -/
import Derived.Test.YtgngpmgjoifepaaGreatDoorPr28
import Derived.Test.YtgngpmgjoifepaaGreatDoorPr17
import Derived.Test.YtgngpmgjoifepaaGreatDoorPr14
namespace Go.Proofs.YtgngpmgjoifepaaGreatDoor
open Go.RowKit

/-- A piece that holds these words. -/
def pcM (u n : Int) (k : Nat) (ws : List Int) : Ms := ⟨1, u, n, (8 * k : Nat), 0, ws, false⟩
/-- What the last piece holds when i words are laid. -/
def lsW (im : List Int) (i j : Nat) : List Int := (im.take j).drop (8 * (i / 8))
def midM (u n : Int) (im : List Int) (i j : Nat) : List Ms := pcs u n im (i / 8) ++ [pcM u n (i / 8) (lsW im i j)]
def begM (u n : Int) (im : List Int) (i : Nat) : List Ms := if i % 8 = 0 then pcs u n im (i / 8) else midM u n im i i
theorem lsW_nil {im : List Int} {i : Nat} (h : i % 8 = 0) : lsW im i i = [] := by
  unfold lsW
  rw [List.drop_eq_nil_iff]
  simp
  omega
theorem lsW_next {im : List Int} {i : Nat} {x : Int} (h : im[i]? = some x) : lsW im i (i + 1) = lsW im i i ++ [x] := by
  unfold lsW
  have hi : i < im.length := by
    rcases Nat.lt_or_ge i im.length with h1 | h1
    · exact h1
    · rw [List.getElem?_eq_none h1] at h; cases h
  rw [List.take_add_one, h]
  rw [List.drop_append_of_le_length (by simp; omega)]
  rfl
theorem mid_full {u n : Int} {im : List Int} {i : Nat} (h : (i + 1) % 8 = 0) : midM u n im i (i + 1) = pcs u n im ((i + 1) / 8) := by
  unfold midM
  rw [show (i + 1) / 8 = i / 8 + 1 by omega, pcs_next]
  congr 2
  unfold pcM lsW
  congr 1
  rw [show i + 1 = 8 * (i / 8) + 8 by omega, List.drop_take]
  congr 1
  omega
theorem beg_all {u n : Int} {im : List Int} (h : im.length ≤ 40) : begM u n im im.length = pieces u n im 6 0 := by
  unfold begM
  by_cases z : im.length % 8 = 0
  · rw [if_pos z, pieces_all u n im (im.length / 8) h (by omega)]
  · rw [if_neg z, pieces_all u n im (im.length / 8 + 1) h (by omega), pcs_next]
    unfold midM pcM lsW
    congr 3
    rw [List.take_of_length_le (Nat.le_refl _), List.take_of_length_le (by simp; omega)]
theorem mid_len {u n : Int} {im : List Int} {i j : Nat} : (midM u n im i j).length = i / 8 + 1 := by unfold midM; simp [pcs_len]

end Go.Proofs.YtgngpmgjoifepaaGreatDoor

namespace Go.Proofs.YtgngpmgjoifepaaGreatDoor
open Go.RowKit

/-- The cells of one message. -/
def mC (m : Ms) (v : Value) : List Value := [.int .i64 m.k, .int .i64 m.u, .int .i64 m.n, .int .i64 m.at', .int .i64 m.im, v, .bool m.y]
theorem MVs.snocC {w : World} {o : Option Nat} {m : Ms} {am : Option Addr} {cm : Nat} (hi : IsInts w am m.ws) (hm : m.ws.length ≤ maxLen) (ho : m.ws = [] ∨ ∀ g, o = some g → Off g am) {l : List Ms} {vs : List Value} (h : MVs w o l vs) : MVs w o (l ++ [m]) (vs ++ mC m (.slice am m.ws.length cm)) := MVs.snoc hi hm ho l vs h
/-- Another block turns. -/
theorem MVs.turn {w w' : World} {o o' : Option Nat} (hg : w.grownBy w' o') : ∀ (l : List Ms) (vs : List Value), MVs w o l vs → MVs w o' l vs → MVs w' o l vs
  | [], _, h, _ => h
  | m :: l, vs, h, h' => by
    obtain ⟨am, cm, rest, h0, h1, h2, h3, h4⟩ := h
    obtain ⟨am', cm', rest', h0', h1', h2', h3', h4'⟩ := h'
    rw [h0] at h0'
    simp at h0'
    obtain ⟨⟨rfl, rfl⟩, rfl⟩ := h0'
    refine ⟨am, cm, rest, h0, ?_, h2, h3, MVs.turn hg l rest h4 h4'⟩
    rcases h3' with h3' | h3'
    · exact .inl h3'
    rcases h1 with h1 | ⟨b, off, rfl, hc⟩
    · exact .inl h1
    · exact .inr ⟨b, off, rfl, fun i hi => hg.cell (hc i hi) (fun e => h3' b e.symm _ rfl rfl)⟩
theorem MVs.none {w : World} {o : Option Nat} : ∀ (l : List Ms) (vs : List Value), MVs w o l vs → MVs w none l vs
  | [], _, h => h
  | m :: l, vs, h => by
    obtain ⟨am, cm, rest, h0, h1, h2, h3, h4⟩ := h
    exact ⟨am, cm, rest, h0, h1, h2, .inr (fun g e => by cases e), MVs.none l rest h4⟩
theorem MVs.fresh {w : World} {o : Option Nat} {H : Nat} (hH : w.heap.size ≤ H) : ∀ (l : List Ms) (vs : List Value), MVs w o l vs → MVs w (some H) l vs
  | [], _, h => h
  | m :: l, vs, h => by
    obtain ⟨am, cm, rest, h0, h1, h2, h3, h4⟩ := h
    refine ⟨am, cm, rest, h0, h1, h2, ?_, MVs.fresh hH l rest h4⟩
    rcases ints_off h1 H hH with h | h
    · exact .inl h
    · exact .inr (fun g e => by cases e; exact h)
theorem MVs.below {w w' : World} {o : Option Nat} (hb : Below w.heap.size w w') : ∀ (l : List Ms) (vs : List Value), MVs w o l vs → MVs w' o l vs
  | [], _, h => h
  | m :: l, vs, h => by
    obtain ⟨am, cm, rest, h0, h1, h2, h3, h4⟩ := h
    exact ⟨am, cm, rest, h0, h1.below hb, h2, h3, MVs.below hb l rest h4⟩

theorem row_set {w : World} {base g n c j size : Nat} {t : TypeId} {x : Value} {vs : List Value} (h : w.ownsRow base t size (.slice (some ⟨g, 0, none⟩) n c) n vs) :
    (w.setCell ⟨g, j, none⟩ x).ownsRow base t size (.slice (some ⟨g, 0, none⟩) n c) n (vs.set j x) := by
  obtain ⟨h0, ⟨hv, _⟩ | ⟨g', cap, cur, hv, hg, hh, h1, h2, h3, h4⟩⟩ := h
  · cases hv
  · cases hv
    refine ⟨by simp [h0], .inr ⟨g, c, cur.setIfInBounds j x, rfl, hg, heap_setCell_same _ _ _ _ _ _ hh, h1, h2, by simp [h3], ?_⟩⟩
    rw [Array.toList_setIfInBounds, ← h4, List.take_set]
theorem set_last {vs : List Value} {m : Ms} {v x : Value} {k : Nat} (h : vs.length = k * 7) : (vs ++ mC m v).set (k * 7 + 5) x = vs ++ mC m x := by
  rw [List.set_append_right _ _ (by omega), h, Nat.add_sub_cancel_left]
  rfl
/-- The last message's words, in memory of their own. -/
structure DMid (w0 wr : World) (u n : Int) (im : List Int) (i j : Nat) (v : Value) : Prop where
  bel : Below w0.heap.size w0 wr
  row : ∃ (g c : Nat) (vs : List Value) (vl : Value), v = .slice (some ⟨g, 0, none⟩) (i / 8 + 1) c ∧ wr.ownsRow w0.heap.size 31 7 v (i / 8 + 1) (vs ++ mC (pcM u n (i / 8) (lsW im i j)) vl) ∧
    MVs wr (some g) (pcs u n im (i / 8)) vs ∧ MVs wr vl.ownBlock (pcs u n im (i / 8)) vs ∧ wr.ownsRow w0.heap.size 3 1 vl (lsW im i j).length ((lsW im i j).map (Value.int .i64))
/-- What stands at a round's start. -/
def DBeg (w0 wr : World) (u n : Int) (im : List Int) (i : Nat) (v : Value) : Prop :=
  (i % 8 = 0 ∧ Below w0.heap.size w0 wr ∧ ∃ vs, wr.ownsRow w0.heap.size 31 7 v (i / 8) vs ∧ MVs wr v.ownBlock (pcs u n im (i / 8)) vs) ∨
  (i % 8 ≠ 0 ∧ DMid w0 wr u n im i i v)
theorem DBeg.full {w0 wr : World} {u n : Int} {im : List Int} {i : Nat} {v : Value} (hz : i % 8 = 0) (bel : Below w0.heap.size w0 wr) (vs : List Value) (row : wr.ownsRow w0.heap.size 31 7 v (i / 8) vs) (ms : MVs wr v.ownBlock (pcs u n im (i / 8)) vs) : DBeg w0 wr u n im i v := .inl ⟨hz, bel, vs, row, ms⟩
theorem DBeg.mid {w0 wr : World} {u n : Int} {im : List Int} {i : Nat} {v : Value} (hz : i % 8 ≠ 0) (h : DMid w0 wr u n im i i v) : DBeg w0 wr u n im i v := .inr ⟨hz, h⟩

theorem ints_row_ne {w : World} {b1 b2 n1 n2 s : Nat} {v1 v2 : Value} {xs ys : List Value} {t t' : TypeId} {g : Nat} (h1 : w.ownsRow b1 t 1 v1 n1 xs) (h2 : w.ownsRow b2 t' s v2 n2 ys) (hne : t ≠ t') (hg : v2.ownBlock = some g) : v1.ownBlock ≠ some g := by
  obtain ⟨_, ⟨hv, _⟩ | ⟨g1, cap, cur, hv, hb, hh, _⟩⟩ := h1
  · rw [hv]; intro e; cases e
  · rw [hv]
    intro e
    have e : g1 = g := by simpa [Value.ownBlock] using e
    subst e
    obtain ⟨_, ⟨hv', _⟩ | ⟨g2, cap2, cur2, hv', hb2, hh2, _⟩⟩ := h2
    · rw [hv'] at hg; cases hg
    · rw [hv'] at hg
      have e : g2 = g1 := by simpa [Value.ownBlock] using hg
      subst e
      rw [hh] at hh2
      simp at hh2
      exact hne hh2.2
theorem row_ints {w : World} {base : Nat} {v : Value} {xs : List Int} (h : w.ownsRow base 3 1 v xs.length (xs.map (Value.int .i64))) : ∃ a c, v = .slice a xs.length c ∧ IsInts w a xs ∧ (a.map (·.block)) = v.ownBlock := by
  obtain ⟨_, ⟨hv, hn⟩ | ⟨g, cap, cur, hv, hg, hh, hc, hm, hs, ht⟩⟩ := h
  · exact ⟨none, 0, by rw [hv, hn], .inl (List.eq_nil_of_length_eq_zero hn), by rw [hv]; rfl⟩
  · refine ⟨some ⟨g, 0, none⟩, cap, hv, .inr ⟨g, 0, rfl, fun i hi => ?_⟩, by rw [hv]; rfl⟩
    have e : cur.toList[i]? = some (Value.int .i64 (xs.getD i 0)) := by
      have : (cur.toList.take (xs.length * 1))[i]? = some (Value.int .i64 (xs.getD i 0)) := by rw [ht]; simp [hi]
      rw [List.getElem?_take] at this
      split at this
      · exact this
      · cases this
    have := blk_cell hh i _ (by simpa using e)
    simpa using this

/-- A new piece. -/
theorem dmid_first {w0 wr wA w4 : World} {u n : Int} {im : List Int} {i : Nat} {v : Value} {vs : List Value} {g cap H : Nat} (hz : i % 8 = 0) (bel : Below w0.heap.size w0 wr) (row : wr.ownsRow w0.heap.size 31 7 v (i / 8) vs) (ms : MVs wr v.ownBlock (pcs u n im (i / 8)) vs)
    (hbA : Below wr.heap.size wr wA) (happ : w4.ownsRow w0.heap.size 31 7 (.slice (some ⟨g, 0, none⟩) (i / 8 + 1) cap) (i / 8 + 1) (vs ++ [.int .i64 1, .int .i64 u, .int .i64 n, .int .i64 i, .int .i64 0, .slice none 0 0, .bool false]))
    (hgr : wA.grownBy w4 v.ownBlock) (hat : v.ownBlock = some g ∨ g = H) (hH : wA.heap.size = H) : DMid w0 w4 u n im i i (.slice (some ⟨g, 0, none⟩) (i / 8 + 1) cap) := by
  have hb := bel.trans (hbA.mono bel.size)
  have hrow := ownsRow_below row hbA
  have hms := MVs.below hbA _ _ ms
  have hms4 : MVs w4 (some g) (pcs u n im (i / 8)) vs := MVs.grow hgr (by rcases hat with h | h; exact .inl h.symm; exact .inr ⟨_, by rw [h], by omega⟩) _ _ hms
  have e8 : ((8 * (i / 8) : Nat) : Int) = (i : Int) := by omega
  refine ⟨hb.grown hgr hb.size (fun j e => drow_ge hrow e), g, cap, vs, .slice none 0 0, rfl, ?_, hms4, MVs.none _ _ hms4, ?_⟩
  · unfold mC pcM
    dsimp only
    rw [e8]
    exact happ
  · rw [lsW_nil hz]
    exact World.ownsRow_nil _ _ _ _
/-- The last piece's words grow. -/
theorem dmid_step {w0 wr wA w5 : World} {u n x : Int} {im : List Int} {i g c g5 cap H : Nat} {vs : List Value} {vl : Value} (hx : im[i]? = some x) (bel : Below w0.heap.size w0 wr)
    (row : wr.ownsRow w0.heap.size 31 7 (.slice (some ⟨g, 0, none⟩) (i / 8 + 1) c) (i / 8 + 1) (vs ++ mC (pcM u n (i / 8) (lsW im i i)) vl)) (m1 : MVs wr (some g) (pcs u n im (i / 8)) vs) (m2 : MVs wr vl.ownBlock (pcs u n im (i / 8)) vs)
    (hv : wr.ownsRow w0.heap.size 3 1 vl (lsW im i i).length ((lsW im i i).map (Value.int .i64))) (hbA : Below wr.heap.size wr wA)
    (happ : w5.ownsRow w0.heap.size 3 1 (.slice (some ⟨g5, 0, none⟩) ((lsW im i i).length + 1) cap) ((lsW im i i).length + 1) ((lsW im i i).map (Value.int .i64) ++ [.int .i64 x])) (hgr : wA.grownBy w5 vl.ownBlock) (hat : vl.ownBlock = some g5 ∨ g5 = H) (hH : wA.heap.size = H) :
    DMid w0 (w5.setCell ⟨g, i / 8 * 7 + 5, none⟩ (.slice (some ⟨g5, 0, none⟩) ((lsW im i i).length + 1) cap)) u n im i (i + 1) (.slice (some ⟨g, 0, none⟩) (i / 8 + 1) c) := by
  have hb := bel.trans (hbA.mono bel.size)
  have hvA := ownsRow_below hv hbA
  have hrA := ownsRow_below row hbA
  have hb5 : Below w0.heap.size w0 w5 := hb.grown hgr hb.size (fun j e => drow_ge hvA e)
  have hne : vl.ownBlock ≠ some g := ints_row_ne hvA hrA (by decide) rfl
  have hr5 := hrA.kept hgr (.inr (by intro e; exact hne e.symm))
  have a1 := MVs.below hbA _ _ m1
  have a2 := MVs.below hbA _ _ m2
  have c1 : MVs w5 (some g) (pcs u n im (i / 8)) vs := MVs.turn hgr _ _ a1 a2
  have c2 : MVs w5 (some g5) (pcs u n im (i / 8)) vs := by
    rcases hat with h | h
    · rw [← h]; exact MVs.turn hgr _ _ a2 a2
    · exact MVs.turn hgr _ _ (MVs.fresh (by omega) _ _ a2) a2
  have hT : w5.grownBy (w5.setCell ⟨g, i / 8 * 7 + 5, none⟩ (.slice (some ⟨g5, 0, none⟩) ((lsW im i i).length + 1) cap)) (some g) := turns_set1 _ _ _ _
  have hg0 : w0.heap.size ≤ g := drow_ge hr5 rfl
  have hne5 : (Value.slice (some ⟨g5, 0, none⟩) ((lsW im i i).length + 1) cap).ownBlock ≠ some g := ints_row_ne happ hr5 (by decide) rfl
  have hl : vs.length = i / 8 * 7 := by have := MVs.len _ _ m1; rw [pcs_len] at this; exact this
  refine ⟨turns_below hb5 hT hg0 hb5.size, g, c, vs, .slice (some ⟨g5, 0, none⟩) ((lsW im i i).length + 1) cap, rfl, ?_, MVs.turn hT _ _ c1 c1, MVs.turn hT _ _ (show MVs w5 (Value.ownBlock (.slice (some ⟨g5, 0, none⟩) ((lsW im i i).length + 1) cap)) _ _ from c2) c1, ?_⟩
  · have := row_set (j := i / 8 * 7 + 5) (x := .slice (some ⟨g5, 0, none⟩) ((lsW im i i).length + 1) cap) hr5
    rw [set_last hl] at this
    exact this
  · have := happ.kept hT (.inr hne5)
    rw [lsW_next hx, List.length_append, List.map_append]
    exact this
theorem dmid_row {w0 wr : World} {u n : Int} {im : List Int} {i j : Nat} {v : Value} (hj : j ≤ 40) (h : DMid w0 wr u n im i j v) : ∃ vs, wr.ownsRow w0.heap.size 31 7 v (i / 8 + 1) vs ∧ MVs wr v.ownBlock (midM u n im i j) vs := by
  obtain ⟨g, c, vs, vl, rfl, h1, h2, h3, h4⟩ := h.row
  refine ⟨_, h1, ?_⟩
  obtain ⟨a, c', rfl, hi, hob⟩ := row_ints h4
  refine MVs.snocC (m := pcM u n (i / 8) (lsW im i j)) hi ?_ (.inr (fun q e => ?_)) h2
  · have : (lsW im i j).length ≤ 40 := by unfold lsW; simp; omega
    unfold pcM maxLen; dsimp only; omega
  · cases e
    intro ad e
    have := ints_row_ne h4 h1 (by decide) rfl
    intro e2
    apply this
    rw [← hob, e]
    simp [e2]
theorem dbeg_next {w0 wr : World} {u n : Int} {im : List Int} {i : Nat} {v : Value} (hi : i + 1 ≤ 40) (h : DMid w0 wr u n im i (i + 1) v) : DBeg w0 wr u n im (i + 1) v := by
  by_cases z : (i + 1) % 8 = 0
  · obtain ⟨vs, h1, h2⟩ := dmid_row hi h
    refine .full z h.bel vs (by rw [show (i + 1) / 8 = i / 8 + 1 by omega]; exact h1) ?_
    rw [← mid_full z]
    exact h2
  · have e : (i + 1) / 8 = i / 8 := by omega
    have e2 : lsW im (i + 1) (i + 1) = lsW im i (i + 1) := by unfold lsW; rw [e]
    refine .mid z ⟨h.bel, ?_⟩
    rw [e, e2]
    exact h.row
theorem dbeg_row {w0 wr : World} {u n : Int} {im : List Int} {i : Nat} {v : Value} (hi : i ≤ 40) (h : DBeg w0 wr u n im i v) : ∃ vs k, wr.ownsRow w0.heap.size 31 7 v k vs ∧ MVs wr v.ownBlock (begM u n im i) vs ∧ (begM u n im i).length = k ∧ k ≤ 6 := by
  rcases h with ⟨z, bel, vs, row, ms⟩ | ⟨z, h⟩
  · refine ⟨vs, i / 8, row, ?_, ?_, by omega⟩
    · unfold begM; rw [if_pos z]; exact ms
    · unfold begM; rw [if_pos z, pcs_len]
  · obtain ⟨vs, h1, h2⟩ := dmid_row hi h
    refine ⟨vs, i / 8 + 1, h1, ?_, ?_, by omega⟩
    · unfold begM; rw [if_neg z]; exact h2
    · unfold begM; rw [if_neg z, mid_len]
theorem DBeg.bel {w0 wr : World} {u n : Int} {im : List Int} {i : Nat} {v : Value} (h : DBeg w0 wr u n im i v) : Below w0.heap.size w0 wr := by
  rcases h with ⟨z, bel, vs, row, ms⟩ | ⟨z, h⟩
  · exact bel
  · exact h.bel

end Go.Proofs.YtgngpmgjoifepaaGreatDoor
