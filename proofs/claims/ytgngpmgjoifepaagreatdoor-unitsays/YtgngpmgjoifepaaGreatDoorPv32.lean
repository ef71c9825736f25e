/- The reference's UnitHears: what its walks share. The reference's UnitHears: it is not up. -/
import Derived.Test.YtgngpmgjoifepaaGreatDoorPv22
import Derived.Test.YtgngpmgjoifepaaGreatDoorPv23
import Derived.Test.YtgngpmgjoifepaaGreatDoorPv24
import Derived.Test.YtgngpmgjoifepaaGreatDoorPv31
import Derived.BigQuiet
import Derived.Deep.DeepCutAuto
import Derived.BigRegion
namespace Go.Proofs.YtgngpmgjoifepaaGreatDoor
open Go.RowKit

theorem al6 (w : World) (o0 o1 o2 o3 o4 o5 : Obj) : Below w.heap.size w ((((((w.alloc o0).alloc o1).alloc o2).alloc o3).alloc o4).alloc o5) ∧
    ((((((w.alloc o0).alloc o1).alloc o2).alloc o3).alloc o4).alloc o5).heap[w.heap.size]? = some o0 ∧ ((((((w.alloc o0).alloc o1).alloc o2).alloc o3).alloc o4).alloc o5).heap[w.heap.size + 1]? = some o1 ∧ ((((((w.alloc o0).alloc o1).alloc o2).alloc o3).alloc o4).alloc o5).heap[w.heap.size + 1 + 1]? = some o2 ∧
    ((((((w.alloc o0).alloc o1).alloc o2).alloc o3).alloc o4).alloc o5).heap[w.heap.size + 1 + 1 + 1]? = some o3 ∧ ((((((w.alloc o0).alloc o1).alloc o2).alloc o3).alloc o4).alloc o5).heap[w.heap.size + 1 + 1 + 1 + 1]? = some o4 ∧ ((((((w.alloc o0).alloc o1).alloc o2).alloc o3).alloc o4).alloc o5).heap[w.heap.size + 1 + 1 + 1 + 1 + 1]? = some o5 := by
  have h4 : (((((w.alloc o0).alloc o1).alloc o2).alloc o3).alloc o4).heap[w.heap.size + 1 + 1 + 1 + 1]? = some o4 := by
    have := heap_alloc_last ((((w.alloc o0).alloc o1).alloc o2).alloc o3) o4
    rwa [World.size_alloc, World.size_alloc, World.size_alloc, World.size_alloc] at this
  have h5 : ((((((w.alloc o0).alloc o1).alloc o2).alloc o3).alloc o4).alloc o5).heap[w.heap.size + 1 + 1 + 1 + 1 + 1]? = some o5 := by
    have := heap_alloc_last (((((w.alloc o0).alloc o1).alloc o2).alloc o3).alloc o4) o5
    rwa [World.size_alloc, World.size_alloc, World.size_alloc, World.size_alloc, World.size_alloc] at this
  exact ⟨below_new (below_new (below_new (below_new (below_new (below_new (Below.refl _ _) _) _) _) _) _) _, blk_alloc (blk_alloc (blk_alloc (blk_alloc (blk_alloc (heap_alloc_last _ _) _) _) _) _) _, blk_alloc (blk_alloc (blk_alloc (blk_alloc (uLast1 _ _ _) _) _) _) _, blk_alloc (blk_alloc (blk_alloc (uLast2 _ _ _ _) _) _) _, blk_alloc (blk_alloc (uLast3 _ _ _ _ _) _) _, blk_alloc h4 _, h5⟩
structure HB6 (W : World) (X S : Nat) (ab : Option Addr) (nb cb : Nat) (u : Un) (a : Option Addr) (c : Nat) (m : Ms) (am : Option Addr) (nm cm : Nat) (s : Us) : Prop where
  bB : W.heap[X]? = some (.cells #[.slice ab nb cb] 24 (0, 0))
  bU : W.heap[X + 1]? = some (unO u a 192 c)
  bM : W.heap[X + 1 + 1]? = some (msO m am nm cm)
  bZ : W.heap[X + 1 + 1 + 1]? = some (.cells #[.slice none 0 0, .int .i64 0, .bool false, .int .i64 0, .int .i64 0] 29 (0, 0))
  bP : W.heap[X + 1 + 1 + 1 + 1 + 1]? = some (.cells #[.pointer (some ⟨X + 1 + 1 + 1 + 1, 0, none⟩)] 135 (0, 0))
  bS : W.heap[S]? = some (usO s)
  hS : X + 1 + 1 + 1 + 1 + 1 < S
theorem HB6.turns {W W' : World} {X S : Nat} {ab : Option Addr} {nb cb : Nat} {u : Un} {a : Option Addr} {c : Nat} {m : Ms} {am : Option Addr} {nm cm : Nat} {s : Us} (h : HB6 W X S ab nb cb u a c m am nm cm s) (hg : W.grownBy W' (some (X + 1 + 1 + 1 + 1))) : HB6 W' X S ab nb cb u a c m am nm cm s :=
  ⟨blk_turns h.bB hg (by omega), blk_turns h.bU hg (by omega), blk_turns h.bM hg (by omega), blk_turns h.bZ hg (by omega), blk_turns h.bP hg (by omega), blk_turns h.bS hg (by have := h.hS; omega), h.hS⟩
theorem HB6.below {W W' : World} {X S : Nat} {ab : Option Addr} {nb cb : Nat} {u : Un} {a : Option Addr} {c : Nat} {m : Ms} {am : Option Addr} {nm cm : Nat} {s : Us} (h : HB6 W X S ab nb cb u a c m am nm cm s) (hb : Below W.heap.size W W') : HB6 W' X S ab nb cb u a c m am nm cm s := h.turns (turns_of hb _)
theorem ref_end {W W' : World} {Z : Nat} {u : Un} {a : Option Addr} {n c : Nat} {am : Option Addr} {l : List Ms} (hZ : W.heap[Z]? = some (.cells #[.slice none 0 0, .int .i64 0, .bool false, .int .i64 0, .int .i64 0] 29 (0, 0))) (h : BW W a n c u.ws) (hl : u.ws = [] ∨ 3 ≤ u.ws.length) (hM : IsMsgs W am l)
    (hT : W.grownBy W' (some Z)) : BW W' a n c u.ws ∧ IsMsgs W' am l := by
  refine ⟨?_, ?_⟩
  {
  rcases ints_unit h.at_ hl hZ rfl with e | e
  { exact ⟨.inl e, h.len, h.cap, h.max⟩ }
  { exact h.turns hT e }
  }
  {
  rcases msgs_unit hM hZ rfl with e | e
  { exact .inl e }
  {
  rcases hM with e' | ⟨b, rfl, hc⟩
  { exact .inl e' }
  {
  refine .inr ⟨b, rfl, fun i m hi => ?_⟩
  have hne : (some b : Option Nat) ≠ some Z := fun q => e _ rfl (by cases q; rfl)
  obtain ⟨h0, h1, h2, h3, h4, h5, h6, h7⟩ := hc i m hi
  exact ⟨h0, hT.cell h1 hne, hT.cell h2 hne, hT.cell h3 hne, hT.cell h4 hne, hT.cell h5 hne, hT.cell h6 hne, hT.cell h7 hne⟩
  }
  }
  }
theorem st3g {w w' : World} {B : Nat} {p q r : Addr} {x y z : Value} (h1 : w.cell? p = some x) (h2 : w.cell? q = some y) (h3 : w.cell? r = some z) (n1 : p.block ≠ B) (n2 : q.block ≠ B) (n3 : r.block ≠ B) (hg : w.grownBy w' (some B)) : w'.cell? p = some x ∧ w'.cell? q = some y ∧ w'.cell? r = some z ∧ w.grownBy w' (some B) :=
  ⟨hg.cell h1 (fun e => n1 (by cases e; rfl)), hg.cell h2 (fun e => n2 (by cases e; rfl)), hg.cell h3 (fun e => n3 (by cases e; rfl)), hg⟩
theorem grown_drew2 {w w' : World} {B : Nat} (h : w.grownBy w' (some B)) : w.grownBy w'.drew (some B) := h.trans (turns_of (Below.refl _ _).drew B)
theorem st1g {w w' : World} {B : Nat} {p : Addr} {x : Value} (h1 : w.cell? p = some x) (n1 : p.block ≠ B) (hg : w.grownBy w' (some B)) : w'.cell? p = some x ∧ w.grownBy w' (some B) := ⟨hg.cell h1 (fun e => n1 (by cases e; rfl)), hg⟩
theorem st2g {w w' : World} {B : Nat} {p q : Addr} {x y : Value} (h1 : w.cell? p = some x) (h2 : w.cell? q = some y) (n1 : p.block ≠ B) (n2 : q.block ≠ B) (hg : w.grownBy w' (some B)) : w'.cell? p = some x ∧ w'.cell? q = some y ∧ w.grownBy w' (some B) :=
  ⟨hg.cell h1 (fun e => n1 (by cases e; rfl)), hg.cell h2 (fun e => n2 (by cases e; rfl)), hg⟩
theorem hn_set34 {W : World} {H : Nat} {v0 v1 : Value} {x0 x1 x2 x3 x4 x5 : Value} {t : TypeId} (h : W.heap[H]? = some (.cells #[x0, x1, x2, x3, x4, x5] t (0, 0))) : ((W.setCell ⟨H, 3, none⟩ v0).setCell ⟨H, 4, none⟩ v1).heap[H]? = some (.cells #[x0, x1, x2, v0, v1, x5] t (0, 0)) := by
  simp only [World.setCell, Array.getElem?_modify]
  simp [h]
theorem own_mind {w : World} {H : Nat} {u : Un} {st : Bool} {a : Option Addr} {n c : Nat} {x y : Int} (h : OwnH w H u st a n c) (hT : w.grownBy ((w.setCell ⟨H, 3, none⟩ (.int .i64 x)).setCell ⟨H, 4, none⟩ (.int .i64 y)) (some H)) : OwnH ((w.setCell ⟨H, 3, none⟩ (.int .i64 x)).setCell ⟨H, 4, none⟩ (.int .i64 y)) H (mind u x y) st a n c :=
  ⟨hn_set34 h.box, h.ws.turns hT h.off, h.off⟩
theorem hn_set4 {W : World} {H : Nat} {v : Value} {x0 x1 x2 x3 x4 x5 : Value} {t : TypeId} (h : W.heap[H]? = some (.cells #[x0, x1, x2, x3, x4, x5] t (0, 0))) : (W.setCell ⟨H, 4, none⟩ v).heap[H]? = some (.cells #[x0, x1, x2, x3, v, x5] t (0, 0)) := by
  simp only [World.setCell, Array.getElem?_modify]
  simp [h]
theorem own_hv {w : World} {H : Nat} {u : Un} {st : Bool} {a : Option Addr} {n c : Nat} {y : Int} (h : OwnH w H u st a n c) (hT : w.grownBy (w.setCell ⟨H, 4, none⟩ (.int .i64 y)) (some H)) : OwnH (w.setCell ⟨H, 4, none⟩ (.int .i64 y)) H (mind u u.n y) st a n c :=
  ⟨hn_set4 h.box, h.ws.turns hT h.off, h.off⟩
theorem clrS_at {ws : List Int} {fu : Int} {sn : Nat} (hc : chk ws fu = 0) (hl : ws.length = 192) (hs : sn ≤ 1) : clrS ws fu sn = clrAt ws fu sn 2 := by
  unfold clrS
  rw [if_neg (by rw [slotE_ok hc hl hs]; decide)]
theorem room_of {ws xs : List Int} (h : xs.length ≤ ws.length) (hl : ws.length = 192) : ∀ {k : Nat}, xs.length = k → k ≤ maxLen := by
  intro k e
  unfold maxLen
  omega
def prpA (R : Un × Bool) (m : Ms) : Un × List Ms := (R.1, if (!R.2) = true then [] else [voteM m true])
theorem st6b {w w' : World} {p1 p2 p3 p4 p5 p6 : Addr} {x1 x2 x3 x4 x5 x6 : Value} (h1 : w.cell? p1 = some x1) (h2 : w.cell? p2 = some x2) (h3 : w.cell? p3 = some x3) (h4 : w.cell? p4 = some x4) (h5 : w.cell? p5 = some x5) (h6 : w.cell? p6 = some x6) (h : Below w.heap.size w w') :
    w'.cell? p1 = some x1 ∧ w'.cell? p2 = some x2 ∧ w'.cell? p3 = some x3 ∧ w'.cell? p4 = some x4 ∧ w'.cell? p5 = some x5 ∧ w'.cell? p6 = some x6 ∧ Below w.heap.size w w' :=
  ⟨(h.cell (cell_lt h1)).trans h1, (h.cell (cell_lt h2)).trans h2, (h.cell (cell_lt h3)).trans h3, (h.cell (cell_lt h4)).trans h4, (h.cell (cell_lt h5)).trans h5, (h.cell (cell_lt h6)).trans h6, h⟩
theorem imgE_words {xs : List Int} (h0 : 1 ≤ xs.length) (h1 : xs.length ≤ 40) (h : okL xs = true) : imgE xs = 0 := by
  unfold imgE
  rw [if_pos (by unfold inR; simp; omega), if_pos (by rw [← okL_word]; exact h)]
theorem hn_set2 {W : World} {H : Nat} {v0 v1 : Value} {x0 x1 x2 x3 x4 x5 : Value} {t : TypeId} (h : W.heap[H]? = some (.cells #[x0, x1, x2, x3, x4, x5] t (0, 0))) : ((W.setCell ⟨H, 0, none⟩ v0).setCell ⟨H, 1, none⟩ v1).heap[H]? = some (.cells #[v0, v1, x2, x3, x4, x5] t (0, 0)) := by
  simp only [World.setCell, Array.getElem?_modify]
  simp [h]
theorem own_made {w : World} {H gh ch n : Nat} {u : Un} {a : Option Addr} {k c : Nat} (ho : OwnCap w gh u.ws) (hl : u.ws.length = n) (hc : n ≤ ch) (hH : w.heap[H]? = some (.cells #[.slice a k c, .int .i64 u.fu, .bool u.up, .int .i64 u.n, .int .i64 u.hv, .bool false] 137 (0, 0)))
    (hT : w.grownBy ((w.setCell ⟨H, 0, none⟩ (.slice (some ⟨gh, 0, none⟩) n ch)).setCell ⟨H, 1, none⟩ (.int .i64 u.fu)) (some H)) (hm : n ≤ maxLen) (hlt : H < gh) : OwnH ((w.setCell ⟨H, 0, none⟩ (.slice (some ⟨gh, 0, none⟩) n ch)).setCell ⟨H, 1, none⟩ (.int .i64 u.fu)) H u false (some ⟨gh, 0, none⟩) n ch := by
  have hoff : Off H (some ⟨gh, 0, none⟩) := fun ad e => by cases e; show gh ≠ H; omega
  exact ⟨hn_set2 hH, ⟨ints_turns ho.isInts hT hoff, hl, hc, hm⟩, hoff⟩
theorem ints_new {W : World} {b : Nat} {xs : List Int} {cs : Array Value} {t : TypeId} (h : W.heap[b]? = some (.cells cs t (0, 0))) (e : cs = (xs.map (Value.int .i64)).toArray) : IsInts W (some ⟨b, 0, none⟩) xs := by
  subst e
  exact .inr ⟨b, 0, rfl, fun i hi => by
    have := blk_cell h i (.int .i64 (xs.getD i 0)) (by simp [hi])
    simpa using this⟩
theorem imgS_ref {ws : List Int} {fu : Int} {sn : Nat} (hE : slotE ws fu sn = 0) : imgS ws fu sn = if headB ws (64 + 64 * sn) = false then ([], 0, 4) else ((refImgT ws (64 + 64 * sn)).1, (refImgT ws (64 + 64 * sn)).2, 0) := by
  unfold imgS refImgT
  have e1 : (64 + 64 * (sn : Int)).toNat = 64 + 64 * sn := by omega
  have e2 : (68 + 64 * (sn : Int)).toNat = 64 + 64 * sn + 4 := by omega
  rw [if_neg (by rw [hE]; decide), e1, e2]
  split
  { rfl }
  { rfl }
theorem whole_ref {u : Un} {s : Us} {m : Ms} {sn : Nat} (hu : unE u = 0) (ho : oth s = sn) (hs : sn ≤ 1) (him : m.im ≠ 0) (words : List Int) : wholeU u s m words = (decide ((refImgT u.ws (64 + 64 * sn)).2 = m.im) && eqL (refImgT u.ws (64 + 64 * sn)).1 words) := by
  have q := unE_ok hu
  have hE : slotE u.ws u.fu sn = 0 := slotE_ok (lchk_parts q.1).1 q.2.1 hs
  unfold wholeU
  rw [ho, imgS_ref hE]
  cases hb : headB u.ws (64 + 64 * sn)
  {
  rw [if_pos rfl]
  have : (refImgT u.ws (64 + 64 * sn)).2 = 0 := by unfold refImgT; rw [if_pos hb]
  rw [this, decide_eq_false (p := (0 : Int) = m.im) (fun e => him e.symm)]
  rfl
  }
  {
  rw [if_neg (by decide)]
  rfl
  }
theorem meant_ref {ss : List ByteArray} {u : Un} {m : Ms} (hb : bookE ss = 0) (hu : unE u = 0) (hm : msE m = 0) :
    wordsU u (stOf u.ws) m = (u.ws.drop (68 + 64 * (oth (stOf u.ws)).toNat)).take m.at'.toNat ∧
    meantU ss u (stOf u.ws) m = (decide (m.at' ≠ 0) && (decide (m.im ≠ 0) && decide ((nameN ss (bs (imgT ((u.ws.drop (68 + 64 * (oth (stOf u.ws)).toNat)).take m.at'.toNat))) : Int) = m.im))) := by
  have q := unE_ok hu
  have o := oth_0 hu
  have hmm := msE_0 hm
  obtain ⟨sn, hsn⟩ : ∃ sn : Nat, oth (stOf u.ws) = sn := ⟨(oth (stOf u.ws)).toNat, by omega⟩
  have hs : sn ≤ 1 := by omega
  have lp := lchk_parts q.1
  have hE : slotE u.ws u.fu sn = 0 := slotE_ok lp.1 q.2.1 hs
  have hbody : bodyS u.ws u.fu (oth (stOf u.ws)) m.at' = ((u.ws.drop (68 + 64 * sn)).take m.at'.toNat, 0) := by
    rw [hsn]
    unfold bodyS
    rw [if_neg (by rw [hE]; decide), if_neg (by unfold inB; simp; omega), show (68 + 64 * (sn : Int)).toNat = 68 + 64 * sn by omega]
  have hw : wordsU u (stOf u.ws) m = (u.ws.drop (68 + 64 * sn)).take m.at'.toNat := by unfold wordsU; rw [hbody]
  rw [hsn, Int.toNat_natCast]
  refine ⟨hw, ?_⟩
  have hlen : ((u.ws.drop (68 + 64 * sn)).take m.at'.toNat).length = m.at'.toNat := by rw [List.length_take, List.length_drop, q.2.1]; omega
  unfold meantU
  rw [hw, hbody]
  have hokW : okL ((u.ws.drop (68 + 64 * sn)).take m.at'.toNat) = true := okL_take _ (okL_drop _ lp.2.2.2.1)
  generalize (u.ws.drop (68 + 64 * sn)).take m.at'.toNat = W at *
  by_cases h0 : m.at' = 0
  {
  have hi : imgE W ≠ 0 := by unfold imgE; rw [if_neg (by unfold inR; simp; omega)]; decide
  have hin : inE ss W ≠ 0 := by unfold inE; rw [if_neg hi]; exact hi
  rw [decide_eq_false hin, decide_eq_false (p := m.at' ≠ 0) (fun e => e h0)]
  rfl
  }
  {
  have hi : imgE W = 0 := imgE_words (by rw [hlen]; omega) (by rw [hlen]; omega) hokW
  have hin : inE ss W = 0 := by unfold inE; rw [if_pos hi]; exact hb
  have hnn : inN ss W = (nameN ss (bs (imgT W)) : Int) := by unfold inN nameE; rw [if_pos hi, if_pos hb]
  rw [hin, hnn, decide_eq_true h0]
  by_cases h1 : (nameN ss (bs (imgT W)) : Int) = m.im
  {
  rw [h1, decide_eq_true rfl]
  simp
  }
  {
  rw [decide_eq_false h1]
  simp
  }
  }
theorem lk_3 {ws xs : List Int} (h : Lk ws xs) (hl : ws.length = 192) : xs = [] ∨ 3 ≤ xs.length := by
  rcases h with h | h
  { exact .inr (by omega) }
  {
  exact .inl h

  }
end Go.Proofs.YtgngpmgjoifepaaGreatDoor

namespace Go.Proofs.YtgngpmgjoifepaaGreatDoor
open Go.RowKit
attribute [local go_sem ↓] Go.wp_at_zero Go.wp_at_succ

set_option maxRecDepth 100000 in
set_option maxHeartbeats 12800000 in
theorem refHears_down (ab : Option Addr) (nb cb : Nat) (ss : List ByteArray) (u : Un) (a : Option Addr) (c : Nat) (m : Ms) (am : Option Addr) (nm cm : Nat) (w : World) (hB : BB w ab nb cb ss) (hT : Tab w) (hU : BW w a 192 c u.ws) (hM : BI w am nm m.ws) (hb0 : bookE ss = 0) (hu0 : unE u = 0) (hm0 : msE m = 0) (hup : u.up = false) :
    Calls Tryz.prog 27 #[bookv ab nb cb, unv u a 192 c, msv m am nm cm] w (RefAns w (u, [])) := by
  have hzz := And.intro hB (And.intro hT (And.intro hU (And.intro hM (And.intro hb0 (And.intro hu0 hm0)))))
  clear hzz
  have HUP := hide hup
  clear hup
  obtain ⟨s, hs⟩ : ∃ s, s = stOf u.ws := ⟨_, rfl⟩
  have hlk := (unE_ok hu0).1
  have HSt := hide (fun W (hW : Below w.heap.size w W) => unitStateOf_any u a 192 c W (hU.below hW) hlk)
  have HOw := hide (fun W (hW : Below w.heap.size w W) => ownFlash_any a 192 c u.ws u.fu W (hU.below hW).at_ hU.len (by decide))
  have hsl := oth_0 hu0
  rw [← hs] at HSt hsl
  obtain ⟨sn, hsn0⟩ : ∃ sn : Nat, oth s = (sn : Int) := ⟨(oth s).toNat, by omega⟩
  have hsn : sn ≤ 1 := by omega
  have ko : IntKind.i64.wrap (1 - s.slot) = (sn : Int) := by have e : 1 - s.slot = (sn : Int) := hsn0; rw [e]; rw [IntKind.wrap_i64]; omega
  have HS := hide hs
  have HN := hide hsn0
  have hu3 : Hid (u.ws = [] ∨ 3 ≤ u.ws.length) := .inr (by rw [hU.len]; decide)
  clear hs hsn0 hsl hlk
  obtain ⟨hw, b0, b1, b2, b3, b4, b5⟩ := al6 w (.cells #[.slice ab nb cb] 24) (.cells #[.slice a 192 c, .int .i64 u.fu, .bool u.up, .int .i64 u.n, .int .i64 u.hv] 29) (.cells #[.int .i64 m.k, .int .i64 m.u, .int .i64 m.n, .int .i64 m.at', .int .i64 m.im, .slice am nm cm, .bool m.y] 31) (.cells #[.slice none 0 0, .int .i64 0, .bool false, .int .i64 0, .int .i64 0] 29) (.cells #[.slice a 192 c, .int .i64 u.fu, .bool u.up, .int .i64 u.n, .int .i64 u.hv, .bool false] 137) (.cells #[.pointer (some ⟨w.heap.size + 1 + 1 + 1 + 1, 0, none⟩)] 135)
  unfold usv unv at HSt
  unfold bookv unv msv
  have u0 := blk_cell b1 0 _ rfl
  have u1 := blk_cell b1 1 _ rfl
  have u2 := blk_cell b1 2 _ rfl
  have u3 := blk_cell b1 3 _ rfl
  have u4 := blk_cell b1 4 _ rfl
  go_enter Tryz.func27, Tryz.ntmps27
  go_upto_region 2 with fail
  generalize ((((((w.alloc (.cells #[.slice ab nb cb] 24)).alloc (.cells #[.slice a 192 c, .int .i64 u.fu, .bool u.up, .int .i64 u.n, .int .i64 u.hv] 29)).alloc (.cells #[.int .i64 m.k, .int .i64 m.u, .int .i64 m.n, .int .i64 m.at', .int .i64 m.im, .slice am nm cm, .bool m.y] 31)).alloc (.cells #[.slice none 0 0, .int .i64 0, .bool false, .int .i64 0, .int .i64 0] 29)).alloc (.cells #[.slice a 192 c, .int .i64 u.fu, .bool u.up, .int .i64 u.n, .int .i64 u.hv, .bool false] 137)).alloc (.cells #[.pointer (some ⟨w.heap.size + 1 + 1 + 1 + 1, 0, none⟩)] 135)) = W at *
  clear u2 u3 u4
  have p0 := blk_cell b5 0 _ rfl
  have hG0 : W.grownBy W.drew (some (w.heap.size + 1 + 1 + 1 + 1)) := turns_of (Below.refl _ _).drew _
  refine wp_region_held_drew (S := fun W' => W'.cell? ⟨w.heap.size + 1 + 1 + 1 + 1 + 1, 0, none⟩ = some (.pointer (some ⟨w.heap.size + 1 + 1 + 1 + 1, 0, none⟩)) ∧ W'.cell? ⟨w.heap.size + 1, 0, none⟩ = some (.slice a 192 c) ∧ W'.cell? ⟨w.heap.size + 1, 1, none⟩ = some (.int .i64 u.fu) ∧ W.grownBy W' (some (w.heap.size + 1 + 1 + 1 + 1))) (by kernel_rfl) (st3g p0 u0 u1 (by show w.heap.size + 1 + 1 + 1 + 1 + 1 ≠ w.heap.size + 1 + 1 + 1 + 1; omega) (by show w.heap.size + 1 ≠ w.heap.size + 1 + 1 + 1 + 1; omega) (by show w.heap.size + 1 ≠ w.heap.size + 1 + 1 + 1 + 1; omega) (hG0)) ?_
  intro hHeld
  refine Htake (i := 0) (v := ?_) (by rfl) (by kernel_rfl) (by exact fun _ _ _ h => h) (Or.inl ⟨by rfl, ?_⟩) (by assumption) ?_
  rotate_left
  {
  intro w hSw
  try dsimp only at hSw
  go_simp
  try with_reducible rfl
  }
  try simp only [sq]
  refine Htake (i := 1) (v := ?_) (by rfl) (by kernel_rfl) (by exact fun _ _ _ h => h) (Or.inl ⟨by rfl, ?_⟩) (by assumption) ?_
  rotate_left
  {
  intro w hSw
  try dsimp only at hSw
  go_simp
  try with_reducible rfl
  }
  try simp only [sq]
  refine Htake (i := 2) (v := ?_) (by rfl) (by kernel_rfl) (by exact fun _ _ _ h => h) (Or.inl ⟨by rfl, ?_⟩) (by assumption) ?_
  rotate_left
  {
  intro w hSw
  try dsimp only at hSw
  go_simp
  try with_reducible rfl
  }
  try simp only [sq]
  refine wpAnyH_ready (rs := [3]) (by kernel_rfl) (by simp) ?_
  refine AllReadyH.cons (by rfl) (fun K hK => ?_) AllReadyH.nil
  go_simp
  refine (unhide HOw _ hw.drew).mono ?_
  rintro e w2 ⟨gh, ch, hgh, hch, rfl, hoc, hb2⟩
  have hG2 := hG0.trans (turns_of hb2 (w.heap.size + 1 + 1 + 1 + 1))
  go_wp2_with fail
  refine hK.out _ _ (st3g p0 u0 u1 (by show w.heap.size + 1 + 1 + 1 + 1 + 1 ≠ w.heap.size + 1 + 1 + 1 + 1; omega) (by show w.heap.size + 1 ≠ w.heap.size + 1 + 1 + 1 + 1; omega) (by show w.heap.size + 1 ≠ w.heap.size + 1 + 1 + 1 + 1; omega) (hG2)) (fun hHeld2 => ?_)
  clear hK K hHeld
  try simp only [sq]
  have hHeld := hHeld2
  clear hHeld2
  have bH2 := blk_below (blk_below b4 (Below.refl _ _).drew) hb2
  have h0 := blk_cell bH2 0 _ rfl
  have h1 := blk_cell bH2 1 _ rfl
  have f0 := blk_free bH2 0
  have f1 := blk_free bH2 1
  have hT : w2.grownBy ((w2.setCell ⟨w.heap.size + 1 + 1 + 1 + 1, 0, none⟩ (.slice (some ⟨gh, 0, none⟩) 192 ch)).setCell ⟨w.heap.size + 1 + 1 + 1 + 1, 1, none⟩ (.int .i64 u.fu)) (some (w.heap.size + 1 + 1 + 1 + 1)) := turns_set (turns_set (World.grownBy.refl _ _) _ _) _ _
  refine Htake (i := 4) (v := ?_) (by rfl) (by kernel_rfl) (by exact fun _ _ _ h => h) (Or.inl ⟨by rfl, ?_⟩) (by assumption) ?_
  rotate_left
  {
  intro w hSw
  try dsimp only at hSw
  go_simp
  try with_reducible rfl
  }
  try simp only [sq]
  refine Htake (i := 5) (v := ?_) (by rfl) (by kernel_rfl) (by exact fun _ _ _ h => h) (Or.inl ⟨by rfl, ?_⟩) (by assumption) ?_
  rotate_left
  {
  intro w hSw
  try dsimp only at hSw
  go_simp
  try with_reducible rfl
  }
  try simp only [sq]
  refine Htake (i := 6) (v := ?_) (by rfl) (by kernel_rfl) (by exact fun _ _ _ h => h) (Or.inl ⟨by rfl, ?_⟩) (by assumption) ?_
  rotate_left
  {
  intro w hSw
  try dsimp only at hSw
  go_simp
  try with_reducible rfl
  }
  try simp only [sq]
  refine wpAnyH_ready (rs := [7]) (by kernel_rfl) (by simp) ?_
  refine AllReadyH.cons (by rfl) (fun K hK => ?_) AllReadyH.nil
  go_simp
  refine hK.out _ _ (st3g p0 u0 u1 (by show w.heap.size + 1 + 1 + 1 + 1 + 1 ≠ w.heap.size + 1 + 1 + 1 + 1; omega) (by show w.heap.size + 1 ≠ w.heap.size + 1 + 1 + 1 + 1; omega) (by show w.heap.size + 1 ≠ w.heap.size + 1 + 1 + 1 + 1; omega) (hG2.trans hT)) (fun hHeld => ?_)
  clear hK K
  try simp only [sq]
  refine wpAnyH_done (by kernel_rfl) ?_ _
  have hOw := own_made hoc hU.len hch bH2 hT (by decide) (by have := blk_lt b4; have e : W.heap.size = W.drew.heap.size := rfl; omega)
  have hG := hG2.trans hT
  clear hHeld bH2 h0 h1 f0 f1 hoc hb2 hG2 hT
  generalize ((w2.setCell ⟨w.heap.size + 1 + 1 + 1 + 1, 0, none⟩ (.slice (some ⟨gh, 0, none⟩) 192 ch)).setCell ⟨w.heap.size + 1 + 1 + 1 + 1, 1, none⟩ (.int .i64 u.fu)) = w2 at *
  have hw2 := turns_below hw hG (by omega) hw.size
  have q1 := blk_turns b1 hG (by omega)
  clear u0 u1 p0 hG0 HOw
  have u0 := blk_cell q1 0 _ rfl
  have u1 := blk_cell q1 1 _ rfl
  have u2 := blk_cell q1 2 _ rfl
  have u3 := blk_cell q1 3 _ rfl
  have u4 := blk_cell q1 4 _ rfl
  go_wp2_with fail
  refine (unhide HSt _ hw2).mono ?_
  rintro e w3 ⟨rfl, hb3⟩
  clear u0 u1 u2 u3 u4 HSt q1
  have hb4 : Below w2.heap.size w2 (w3.alloc (.cells #[.int .i64 s.slot, .int .i64 s.by', .int .i64 s.rdy] 40)) := below_new hb3 _
  have hG4 := hG.trans (turns_of hb4 (w.heap.size + 1 + 1 + 1 + 1))
  have bS := heap_alloc_last w3 (.cells #[.int .i64 s.slot, .int .i64 s.by', .int .i64 s.rdy] 40)
  have hwW := hw2.trans (hb4.mono hw2.size)
  have hS2 := hb3.size
  have hSz := Nat.le_trans (blk_lt b5) hG.size
  go_upto_region 6 with fail
  have HB : Hid (HB6 (w3.alloc (.cells #[.int .i64 s.slot, .int .i64 s.by', .int .i64 s.rdy] 40)) w.heap.size w3.heap.size ab nb cb u a c m am nm cm s) := ⟨blk_turns b0 hG4 (by omega), blk_turns b1 hG4 (by omega), blk_turns b2 hG4 (by omega), blk_turns b3 hG4 (by omega), blk_turns b5 hG4 (by omega), bS, by omega⟩
  have HO := hide (hOw.below hb4)
  generalize w3.alloc (.cells #[.int .i64 s.slot, .int .i64 s.by', .int .i64 s.rdy] 40) = W6 at *
  generalize w3.heap.size = S at *
  clear hw hw2 b0 b1 b2 b3 b4 b5 bS hb3 hb4 hG hG4 hOw hS2 hSz
  have hw := hwW
  clear hwW
  have x2 := blk_cell HB.out.bU 2 _ rfl
  rw [HUP.out] at x2
  clear hB hT hU hM hb0 hu0 hm0
  have pz := blk_cell HB.out.bP 0 _ rfl
  have h0 := blk_cell HO.out.box 0 _ rfl
  have h1 := blk_cell HO.out.box 1 _ rfl
  have h2 := blk_cell HO.out.box 2 _ rfl
  have h3 := blk_cell HO.out.box 3 _ rfl
  have h4 := blk_cell HO.out.box 4 _ rfl
  have z0 := blk_cell HB.out.bZ 0 _ rfl
  have z1 := blk_cell HB.out.bZ 1 _ rfl
  have z2 := blk_cell HB.out.bZ 2 _ rfl
  have z3 := blk_cell HB.out.bZ 3 _ rfl
  have z4 := blk_cell HB.out.bZ 4 _ rfl
  have f0 := blk_free HB.out.bZ 0
  have f1 := blk_free HB.out.bZ 1
  have f2 := blk_free HB.out.bZ 2
  have f3 := blk_free HB.out.bZ 3
  have f4 := blk_free HB.out.bZ 4
  go_wp2_with fail
  have hT : W6.grownBy (((((W6.setCell ⟨w.heap.size + 1 + 1 + 1, 0, none⟩ (.slice (some ⟨gh, 0, none⟩) 192 ch)).setCell ⟨w.heap.size + 1 + 1 + 1, 1, none⟩ (.int .i64 u.fu)).setCell ⟨w.heap.size + 1 + 1 + 1, 2, none⟩ (.bool u.up)).setCell ⟨w.heap.size + 1 + 1 + 1, 3, none⟩ (.int .i64 u.n)).setCell ⟨w.heap.size + 1 + 1 + 1, 4, none⟩ (.int .i64 u.hv)) (some (w.heap.size + 1 + 1 + 1)) := turns_set (turns_set (turns_set (turns_set (turns_set (World.grownBy.refl _ _) _ _) _ _) _ _) _ _) _ _
  have bN := unit_set5 (v0 := .slice (some ⟨gh, 0, none⟩) 192 ch) (v1 := .int .i64 u.fu) (v2 := .bool u.up) (v3 := .int .i64 u.n) (v4 := .int .i64 u.hv) HB.out.bZ
  have r0 := blk_cell bN 0 _ rfl
  have r1 := blk_cell bN 1 _ rfl
  have r2 := blk_cell bN 2 _ rfl
  have r3 := blk_cell bN 3 _ rfl
  have r4 := blk_cell bN 4 _ rfl
  refine bodyPost_ret (v := .tuple #[unv u (some ⟨gh, 0, none⟩) 192 ch, .slice none 0 0]) (by simp [results, Tryz.results27, go_sem, unv, r0, r1, r2, r3, r4]) rfl ?_
  obtain ⟨q1, q2⟩ := ref_end HB.out.bZ HO.out.ws (hu3.out) (.inl rfl : IsMsgs W6 none []) hT
  exact ⟨⟨_, _, _, none, 0, 0, rfl, q1, q2, rfl, Nat.le_refl _, by omega⟩, turns_below hw hT (by omega) hw.size⟩

end Go.Proofs.YtgngpmgjoifepaaGreatDoor
