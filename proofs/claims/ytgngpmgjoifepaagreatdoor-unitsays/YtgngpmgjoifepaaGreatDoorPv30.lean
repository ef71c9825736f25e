/- The contracts of unit.checkHeard, Hear. -/
import Derived.Test.YtgngpmgjoifepaaGreatDoorPv25
import Derived.Test.YtgngpmgjoifepaaGreatDoorPv29
namespace Go.Proofs.YtgngpmgjoifepaaGreatDoor
open Go.RowKit
attribute [local go_sem ↓] Go.wp_at_zero Go.wp_at_succ

theorem heE_1 {ss : List ByteArray} {u : Un} {m : Ms} (h : bookE ss ≠ 0) : heE ss u m = bookE ss := by unfold heE; rw [if_pos h]
theorem heE_2 {ss : List ByteArray} {u : Un} {m : Ms} (h : bookE ss = 0) (h2 : unE u ≠ 0) : heE ss u m = unE u := by unfold heE; rw [if_neg (by simpa using h), if_pos h2]
theorem heE_3 {ss : List ByteArray} {u : Un} {m : Ms} (h : bookE ss = 0) (h2 : unE u = 0) : heE ss u m = msE m := by unfold heE; rw [if_neg (by simpa using h), if_neg (by simpa using h2)]
theorem heE_ok {ss : List ByteArray} {u : Un} {m : Ms} (h : heE ss u m = 0) : bookE ss = 0 ∧ unE u = 0 ∧ msE m = 0 := by
  by_cases h1 : bookE ss = 0
  {
  by_cases h2 : unE u = 0
  { exact ⟨h1, h2, by rw [← heE_3 h1 h2]; exact h⟩ }
  { rw [heE_2 h1 h2] at h; exact absurd h h2 }
  }
  { rw [heE_1 h1] at h; exact absurd h h1 }
theorem msE_0 {m : Ms} (h : msE m = 0) : (1 ≤ m.k ∧ m.k ≤ 7) ∧ (0 ≤ m.u ∧ m.u ≤ 3) ∧ (1 ≤ m.n ∧ m.n ≤ 8) ∧ (0 ≤ m.at' ∧ m.at' ≤ 40) ∧ (0 ≤ m.im ∧ m.im ≤ 60) ∧ m.ws.length ≤ 8 ∧ okL m.ws = true := by
  have hb : msB m = true := by
    cases g : msB m
    { rw [msE_bad g] at h; cases h }
    { rfl }
  unfold msB inB at hb
  simpa [and_assoc] using hb

def cW (w : World) (ab : Option Addr) (nb cb : Nat) (u : Un) (a : Option Addr) (n c : Nat) (m : Ms) (am : Option Addr) (nm cm : Nat) : World :=
  ((w.alloc (.cells #[.slice ab nb cb] 24)).alloc (.cells #[.slice a n c, .int .i64 u.fu, .bool u.up, .int .i64 u.n, .int .i64 u.hv] 29)).alloc (.cells #[.int .i64 m.k, .int .i64 m.u, .int .i64 m.n, .int .i64 m.at', .int .i64 m.im, .slice am nm cm, .bool m.y] 31)

set_option maxRecDepth 100000 in
set_option maxHeartbeats 3200000 in
theorem checkHeard_any (ab : Option Addr) (nb cb : Nat) (ss : List ByteArray) (u : Un) (a : Option Addr) (n c : Nat) (m : Ms) (am : Option Addr) (nm cm : Nat) (w : World) (hB : BB w ab nb cb ss) (hU : BW w a n c u.ws) (hM : BI w am nm m.ws) :
    Calls Tryz.prog 50 #[bookv ab nb cb, unv u a n c, msv m am nm cm] w fun e w' => e = .returned (.int .i64 (heE ss u m)) ∧ Below w.heap.size w w' := by
  have hw0 : Below w.heap.size w (cW w ab nb cb u a n c m am nm cm) := (((Below.refl _ _).alloc (Nat.le_refl _) _).alloc (by simp) _).alloc (by simp; omega) _
  have b1 : Hid ((cW w ab nb cb u a n c m am nm cm).heap[w.heap.size + 1]? = some (.cells #[.slice a n c, .int .i64 u.fu, .bool u.up, .int .i64 u.n, .int .i64 u.hv] 29 (0, 0))) := bk3.2.1
  have b2 : Hid ((cW w ab nb cb u a n c m am nm cm).heap[w.heap.size + 1 + 1]? = some (.cells #[.int .i64 m.k, .int .i64 m.u, .int .i64 m.n, .int .i64 m.at', .int .i64 m.im, .slice am nm cm, .bool m.y] 31 (0, 0))) := bk3.2.2
  have HC := hide (fun W (hW : Below w.heap.size w W) => checkBook_any ab nb cb ss W (hB.below hW).at_ hB.len hB.cap hB.short)
  have HU := hide (fun W (hW : Below w.heap.size w W) => unitCheck_any u a n c W (hU.below hW))
  have HM := hide (fun W (hW : Below w.heap.size w W) => checkMessage_any m am nm cm W (hM.below hW))
  have E1 := hide (fun h => heE_1 (ss := ss) (u := u) (m := m) h)
  have E2 := hide (fun h h2 => heE_2 (ss := ss) (u := u) (m := m) h h2)
  have E3 := hide (fun h h2 => heE_3 (ss := ss) (u := u) (m := m) h h2)
  clear hB hU hM
  unfold bookv at *
  unfold unv at *
  unfold msv at *
  unfold cW at hw0 b1 b2
  go_enter Tryz.func50, Tryz.ntmps50
  go_wp2_with fail
  generalize ((w.alloc (.cells #[.slice ab nb cb] 24)).alloc (.cells #[.slice a n c, .int .i64 u.fu, .bool u.up, .int .i64 u.n, .int .i64 u.hv] 29)).alloc (.cells #[.int .i64 m.k, .int .i64 m.u, .int .i64 m.n, .int .i64 m.at', .int .i64 m.im, .slice am nm cm, .bool m.y] 31) = W at *
  refine (unhide HC _ hw0).mono ?_
  rintro e w1 ⟨rfl, hb⟩
  replace b1 := hide (blk_below b1.out hb)
  replace b2 := hide (blk_below b2.out hb)
  replace hw0 := hw0.trans (hb.mono hw0.size)
  clear hb HC
  by_cases z1 : bookE ss = 0
  rotate_left
  {
  have HE := hide (E1.out z1)
  have d1 : (bookE ss != 0) = true := by simpa using z1
  clear z1
  generalize bookE ss = q at *
  go_wp2_with fail
  go_ret
  exact ⟨ret_int HE.out.symm, hw0⟩
  }
  replace E2 := hide (E2.out z1)
  replace E3 := hide (E3.out z1)
  rw [z1]
  clear z1 E1
  obtain ⟨x0, x1, x2, x3, x4⟩ := cl5 b1.out
  go_wp2_with fail
  refine (unhide HU _ hw0).mono ?_
  rintro e w2 ⟨rfl, hb⟩
  replace b2 := hide (blk_below b2.out hb)
  replace hw0 := hw0.trans (hb.mono hw0.size)
  clear hb HU x0 x1 x2 x3 x4 b1
  by_cases z2 : unE u = 0
  rotate_left
  {
  have HE := hide (E2.out z2)
  have d1 : (unE u != 0) = true := by simpa using z2
  clear z2
  generalize unE u = q at *
  go_wp2_with fail
  go_ret
  exact ⟨ret_int HE.out.symm, hw0⟩
  }
  have HE := hide (E3.out z2)
  rw [z2]
  clear z2 E2 E3
  obtain ⟨y0, y1, y2, y3, y4, y5, y6⟩ := cl7 b2.out
  go_wp2_with fail
  refine (unhide HM _ hw0).mono ?_
  rintro e w3 ⟨rfl, hb⟩
  go_wp2_with fail
  go_ret
  exact ⟨ret_int HE.out.symm, hw0.trans (hb.mono hw0.size)⟩

def un0 : Un := ⟨[], 0, false, 0, 0⟩
def hearA (ss : List ByteArray) (u : Un) (m : Ms) : Un × List Ms × Int := if heE ss u m ≠ 0 then (un0, [], heE ss u m) else ((hearS ss u m).1, (hearS ss u m).2, 0)
theorem hearA_e {ss : List ByteArray} {u : Un} {m : Ms} (h : heE ss u m ≠ 0) : hearA ss u m = (un0, [], heE ss u m) := by unfold hearA; rw [if_pos h]
theorem hearA_down {ss : List ByteArray} {u : Un} {m : Ms} (h : heE ss u m = 0) (h2 : u.up = false) : hearA ss u m = (u, [], 0) := by unfold hearA hearS; rw [if_neg (by simpa using h), if_neg (by rw [h2]; decide)]
theorem hearA_up {ss : List ByteArray} {u : Un} {m : Ms} (h : heE ss u m = 0) (h2 : u.up = true) : hearA ss u m = ((hearK ss u m).1, (hearK ss u m).2, 0) := by unfold hearA hearS; rw [if_neg (by simpa using h), if_pos h2]

def HearAns (w : World) (r : Un × List Ms × Int) (e : Ending) (w' : World) : Prop :=
  (∃ a n c am nm cm, e = .returned (.tuple #[unv r.1 a n c, .slice am nm cm, .int .i64 r.2.2]) ∧ BW w' a n c r.1.ws ∧ IsMsgs w' am r.2.1 ∧ r.2.1.length = nm ∧ nm ≤ cm ∧ cm ≤ 1) ∧ Below w.heap.size w w'

theorem ints_unit {w : World} {a : Option Addr} {xs : List Int} {b : Nat} {cs : Array Value} {t : TypeId} {x : Option Addr} {p q : Nat} {i0 i1 i2 : Int} {o : Bool} (h : IsInts w a xs) (hx : xs = [] ∨ 3 ≤ xs.length) (hb : w.heap[b]? = some (.cells cs t (0, 0))) (hc : cs = #[.slice x p q, .int .i64 i0, .bool o, .int .i64 i1, .int .i64 i2]) : xs = [] ∨ Off b a := by
  rcases h with h | ⟨g, off, rfl, hi⟩
  { exact .inl h }
  {
  rcases hx with hx | hx
  { exact .inl hx }
  {
  refine .inr fun ad e => ?_
  cases e
  intro hgb
  have hgb : g = b := hgb
  subst hgb hc
  have c0 := hi 0 (by omega)
  have c1 := hi 1 (by omega)
  have c2 := hi 2 (by omega)
  have key : ∀ k v, w.cell? ⟨g, k, none⟩ = some (.int .i64 v) → k = 1 ∨ k = 3 ∨ k = 4 := by
    intro k v hk
    by_cases h5 : k < 5
    {
    have hv := blk_cell hb k ((#[Value.slice x p q, .int .i64 i0, .bool o, .int .i64 i1, .int .i64 i2] : Array Value)[k]'(by simpa using h5)) (by simp [h5])
    rw [hk] at hv
    match k, h5 with
    | 0, _ => simp at hv
    | 1, _ => simp
    | 2, _ => simp at hv
    | 3, _ => simp
    | 4, _ => simp
    }
    {
    exfalso
    have hn : (#[Value.slice x p q, .int .i64 i0, .bool o, .int .i64 i1, .int .i64 i2] : Array Value)[k]? = none := Array.getElem?_eq_none (by simp; omega)
    unfold World.cell? at hk
    simp only [hb] at hk
    simp [hn] at hk
    }
  have k0 := key _ _ c0
  have k1 := key _ _ c1
  have k2 := key _ _ c2
  omega

  }
  }
theorem msgs_unit {w : World} {a : Option Addr} {l : List Ms} {b : Nat} {cs : Array Value} {t : TypeId} {x : Option Addr} {p q : Nat} {i0 i1 i2 : Int} {o : Bool} (h : IsMsgs w a l) (hb : w.heap[b]? = some (.cells cs t (0, 0))) (hc : cs = #[.slice x p q, .int .i64 i0, .bool o, .int .i64 i1, .int .i64 i2]) : l = [] ∨ Off b a := by
  rcases h with h | ⟨g, rfl, hi⟩
  { exact .inl h }
  {
  cases l with
  | nil => exact .inl rfl
  | cons m l =>
    refine .inr fun ad e => ?_
    cases e
    intro hgb
    have hgb : g = b := hgb
    subst hgb hc
    have c0 := (hi 0 m rfl).2.1
    have hv := blk_cell hb 0 (.slice x p q) rfl
    simp at c0
    rw [hv] at c0
    simp at c0
  }
theorem IsMsgs.ne {w : World} {a : Option Addr} {l : List Ms} (h : IsMsgs w a l) {b : Nat} (ho : l = [] ∨ Off b a) (i : Nat) (v : Value) : IsMsgs (w.setCell ⟨b, i, none⟩ v) a l := by
  rcases ho with e | ho
  { exact .inl e }
  {
  rcases h with h | ⟨g, rfl, hc⟩
  { exact .inl h }
  {
  have hne : g ≠ b := ho _ rfl
  refine .inr ⟨g, rfl, fun j m hj => ?_⟩
  obtain ⟨h0, h1, h2, h3, h4, h5, h6, h7⟩ := hc j m hj
  have hg : w.grownBy (w.setCell ⟨b, i, none⟩ v) (some b) := turns_set1 w b i v
  have hx : ∀ k u, w.cell? ⟨g, k, none⟩ = some u → (w.setCell ⟨b, i, none⟩ v).cell? ⟨g, k, none⟩ = some u := fun k u h => hg.cell h (fun e => hne (by cases e; rfl))
  exact ⟨h0, hx _ _ h1, hx _ _ h2, hx _ _ h3, hx _ _ h4, hx _ _ h5, hx _ _ h6, hx _ _ h7⟩
  }
  }
theorem BW.ne {w : World} {a : Option Addr} {n c : Nat} {xs : List Int} (h : BW w a n c xs) {b : Nat} (ho : xs = [] ∨ Off b a) (i : Nat) (v : Value) : BW (w.setCell ⟨b, i, none⟩ v) a n c xs := by
  refine ⟨?_, h.len, h.cap, h.max⟩
  rcases ho with e | ho
  { exact .inl e }
  {
  exact ints_turns h.at_ (turns_set1 w b i v) ho

  }
def rW (w : World) (ab : Option Addr) (nb cb : Nat) (u : Un) (a : Option Addr) (n c : Nat) (m : Ms) (am : Option Addr) (nm cm : Nat) : World :=
  (cW w ab nb cb u a n c m am nm cm).alloc (.cells #[.slice none 0 0, .int .i64 0, .bool false, .int .i64 0, .int .i64 0] 29)
structure RB (W : World) (X : Nat) (ab : Option Addr) (nb cb : Nat) (u : Un) (a : Option Addr) (n c : Nat) (m : Ms) (am : Option Addr) (nm cm : Nat) : Prop where
  b0 : W.heap[X]? = some (.cells #[.slice ab nb cb] 24 (0, 0))
  b1 : W.heap[X + 1]? = some (.cells #[.slice a n c, .int .i64 u.fu, .bool u.up, .int .i64 u.n, .int .i64 u.hv] 29 (0, 0))
  b2 : W.heap[X + 1 + 1]? = some (.cells #[.int .i64 m.k, .int .i64 m.u, .int .i64 m.n, .int .i64 m.at', .int .i64 m.im, .slice am nm cm, .bool m.y] 31 (0, 0))
  b3 : W.heap[X + 1 + 1 + 1]? = some (.cells #[.slice none 0 0, .int .i64 0, .bool false, .int .i64 0, .int .i64 0] 29 (0, 0))
theorem rW_rb (w : World) (ab : Option Addr) (nb cb : Nat) (u : Un) (a : Option Addr) (n c : Nat) (m : Ms) (am : Option Addr) (nm cm : Nat) : RB (rW w ab nb cb u a n c m am nm cm) w.heap.size ab nb cb u a n c m am nm cm :=
  ⟨blk_alloc bk3.1 _, blk_alloc bk3.2.1 _, blk_alloc bk3.2.2 _, uLast3 _ _ _ _ _⟩
theorem RB.below {W W' : World} {X : Nat} {ab : Option Addr} {nb cb : Nat} {u : Un} {a : Option Addr} {n c : Nat} {m : Ms} {am : Option Addr} {nm cm : Nat} (h : RB W X ab nb cb u a n c m am nm cm) (hb : Below W.heap.size W W') : RB W' X ab nb cb u a n c m am nm cm :=
  ⟨blk_below h.b0 hb, blk_below h.b1 hb, blk_below h.b2 hb, blk_below h.b3 hb⟩

set_option maxRecDepth 100000 in
set_option maxHeartbeats 6400000 in
theorem unitHear_any (ab : Option Addr) (nb cb : Nat) (ss : List ByteArray) (u : Un) (a : Option Addr) (n c : Nat) (m : Ms) (am : Option Addr) (nm cm : Nat) (w : World) (hB : BB w ab nb cb ss) (hT : Tab w) (hU : BW w a n c u.ws) (hM : BI w am nm m.ws) :
    Calls Tryz.prog 10 #[bookv ab nb cb, unv u a n c, msv m am nm cm] w (HearAns w (hearA ss u m)) := by
  have hw0 : Below w.heap.size w (rW w ab nb cb u a n c m am nm cm) := ((((Below.refl _ _).alloc (Nat.le_refl _) _).alloc (by simp) _).alloc (by simp; omega) _).alloc (by simp; omega) _
  have R := hide (rW_rb w ab nb cb u a n c m am nm cm)
  have HC := hide (fun W (hW : Below w.heap.size w W) => checkHeard_any ab nb cb ss u a n c m am nm cm W (hB.below hW) (hU.below hW) (hM.below hW))
  have HBW := hide hU
  have HBB := hide hB
  have HTb := hide hT
  have HM := hide hM
  have EE := hide (fun h => hearA_e (ss := ss) (u := u) (m := m) h)
  have ED := hide (fun h h2 => hearA_down (ss := ss) (u := u) (m := m) h h2)
  have EU := hide (fun h h2 => hearA_up (ss := ss) (u := u) (m := m) h h2)
  clear hB hU hM hT
  unfold bookv at *
  unfold unv at *
  unfold msv at *
  unfold rW cW at hw0 R
  go_enter Tryz.func10, Tryz.ntmps10
  go_wp2_with fail
  generalize (((w.alloc (.cells #[.slice ab nb cb] 24)).alloc (.cells #[.slice a n c, .int .i64 u.fu, .bool u.up, .int .i64 u.n, .int .i64 u.hv] 29)).alloc (.cells #[.int .i64 m.k, .int .i64 m.u, .int .i64 m.n, .int .i64 m.at', .int .i64 m.im, .slice am nm cm, .bool m.y] 31)).alloc (.cells #[.slice none 0 0, .int .i64 0, .bool false, .int .i64 0, .int .i64 0] 29) = W at *
  refine (unhide HC _ hw0).mono ?_
  rintro e w1 ⟨rfl, hb⟩
  replace R := hide (R.out.below hb)
  replace hw0 := hw0.trans (hb.mono hw0.size)
  clear hb HC
  have z0 := blk_cell R.out.b3 0 _ rfl
  have z1 := blk_cell R.out.b3 1 _ rfl
  have z2 := blk_cell R.out.b3 2 _ rfl
  have z3 := blk_cell R.out.b3 3 _ rfl
  have z4 := blk_cell R.out.b3 4 _ rfl
  have g0 := blk_free R.out.b3 0
  have g1 := blk_free R.out.b3 1
  have g2 := blk_free R.out.b3 2
  have g3 := blk_free R.out.b3 3
  have g4 := blk_free R.out.b3 4
  have hx : w.heap.size ≤ w.heap.size + 1 + 1 + 1 := by omega
  by_cases c1 : heE ss u m = 0
  rotate_left
  {
  have HE := hide (EE.out c1)
  have d1 : (heE ss u m != 0) = true := by simpa using c1
  clear c1
  generalize heE ss u m = q at *
  go_wp2_with fail
  refine bodyPost_ret (v := .tuple #[unv un0 none 0 0, .slice none 0 0, .int .i64 q]) (by simp [results, Tryz.results10, go_sem, unv, un0, z0, z1, z2, z3, z4]) rfl ?_
  rw [HE.out]
  exact ⟨⟨none, 0, 0, none, 0, 0, rfl, ⟨.inl rfl, rfl, Nat.le_refl _, by decide⟩, .inl rfl, rfl, Nat.le_refl _, by decide⟩, ((((hw0.setCell hx _).setCell hx _).setCell hx _).setCell hx _).setCell hx _⟩
  }
  obtain ⟨_, u0, m0⟩ := heE_ok c1
  obtain ⟨hl, hlen, _⟩ := unE_ok u0
  obtain ⟨_, _, _, hat, _, hm8, _⟩ := msE_0 m0
  have HL := hide hl
  have LN := hide hlen
  have HAT := hide hat
  have M8 := hide hm8
  replace ED := hide (ED.out c1)
  replace EU := hide (EU.out c1)
  have HTw := hide (unitTwin_any u a n c w1 (HBW.out.below hw0) (by rw [← HBW.out.len, hlen]; decide))
  unfold unv at HTw
  rw [c1]
  clear c1 u0 m0 hl hlen hat hm8 EE z0 z1 z2 z3 z4 g0 g1 g2 g3 g4
  have x0 := blk_cell R.out.b1 0 _ rfl
  have x1 := blk_cell R.out.b1 1 _ rfl
  have x2 := blk_cell R.out.b1 2 _ rfl
  have x3 := blk_cell R.out.b1 3 _ rfl
  have x4 := blk_cell R.out.b1 4 _ rfl
  go_wp2_with fail
  refine (unhide HTw).mono ?_
  rintro e w2 ⟨⟨a2, c2, rfl, hi2, hf2, hc2⟩, hb2⟩
  rw [LN.out] at hc2
  unfold unv
  rw [LN.out]
  replace R := hide (R.out.below hb2)
  replace hw0 := hw0.trans (hb2.mono hw0.size)
  have HI2 := hide hi2
  clear hb2 hi2 hf2 HTw x0 x1 x2 x3 x4
  go_upto_region 5 with fail
  have S0 := hide (heap_alloc_last w2 (.cells #[.slice a2 192 c2, .int .i64 u.fu, .bool u.up, .int .i64 u.n, .int .i64 u.hv] 29))
  have hb3 : Below w2.heap.size w2 (w2.alloc (.cells #[.slice a2 192 c2, .int .i64 u.fu, .bool u.up, .int .i64 u.n, .int .i64 u.hv] 29)) := (Below.refl _ _).alloc (Nat.le_refl _) _
  have hX : w.heap.size + 1 + 1 + 1 < w2.heap.size := blk_lt R.out.b3
  have ho2 : Off w2.heap.size a2 := by
    rcases ints_off HI2.out w2.heap.size (Nat.le_refl _) with e | h
    { have := LN.out; rw [e] at this; simp at this }
    { exact h }
  have HOw : Hid (OwnU (w2.alloc (.cells #[.slice a2 192 c2, .int .i64 u.fu, .bool u.up, .int .i64 u.n, .int .i64 u.hv] 29)) w2.heap.size u) := ⟨a2, 192, c2, S0.out, HI2.out.below hb3, LN.out, hc2, by decide, ho2⟩
  have hk := hw0.trans (hb3.mono hw0.size)
  have HI3 := hide (HI2.out.below hb3)
  replace R := hide (R.out.below hb3)
  have HMo := hide (ints_off HM.out.at_ w2.heap.size hw0.size)
  have HO2 := hide ho2
  have hBw := hw0.size
  have hBW : w2.heap.size < (w2.alloc (.cells #[.slice a2 192 c2, .int .i64 u.fu, .bool u.up, .int .i64 u.n, .int .i64 u.hv] 29)).heap.size := by simp
  clear hw0 hb3 HI2 ho2
  generalize w2.heap.size = B at *
  generalize w2.alloc (.cells #[.slice a2 192 c2, .int .i64 u.fu, .bool u.up, .int .i64 u.n, .int .i64 u.hv] 29) = W3 at *
  have z0 := blk_cell R.out.b3 0 _ rfl
  have z1 := blk_cell R.out.b3 1 _ rfl
  have z2 := blk_cell R.out.b3 2 _ rfl
  have z3 := blk_cell R.out.b3 3 _ rfl
  have z4 := blk_cell R.out.b3 4 _ rfl
  have g0 := blk_free R.out.b3 0
  have g1 := blk_free R.out.b3 1
  have g2 := blk_free R.out.b3 2
  have g3 := blk_free R.out.b3 3
  have g4 := blk_free R.out.b3 4
  obtain ⟨s0, s1, s2, s3, s4⟩ := cl5 S0.out
  cases hup : u.up
  {
  have HE := hide (ED.out hup)
  rw [hup] at s2
  go_wp2_with fail
  refine bodyPost_ret (v := .tuple #[unv u a2 192 c2, .slice none 0 0, .int .i64 0]) (by simp [results, Tryz.results10, go_sem, unv, hup, z0, z1, z2, z3, z4]) rfl ?_
  rw [HE.out]
  have hbw : BW W3 a2 192 c2 u.ws := ⟨HI3.out, LN.out, hc2, by decide⟩
  have ho := ints_unit HI3.out (.inr (by rw [LN.out]; decide)) R.out.b3 rfl
  exact ⟨⟨a2, 192, c2, none, 0, 0, rfl, ((((hbw.ne ho _ _).ne ho _ _).ne ho _ _).ne ho _ _).ne ho _ _, .inl rfl, rfl, Nat.le_refl _, by decide⟩, ((((hk.setCell hx _).setCell hx _).setCell hx _).setCell hx _).setCell hx _⟩
  }
  have HE := hide (EU.out hup)
  have HLk := hide (hearK_lk ss u m)
  have HHr := hide (hear_any ab nb cb ss B u m am nm cm W3 (fun w' hg => ⟨HBB.out.below (turns_below hk hg hBw hk.size), HTb.out.below (turns_below hk hg hBw hk.size)⟩) HOw.out HL.out (HM.out.below hk) HMo.out HAT.out.1 HAT.out.2 (by rw [← HM.out.len]; exact M8.out))
  unfold bookv msv at HHr
  rw [hup] at s2
  have k0 := blk_cell R.out.b0 0 _ rfl
  have y0 := blk_cell R.out.b2 0 _ rfl
  have y1 := blk_cell R.out.b2 1 _ rfl
  have y2 := blk_cell R.out.b2 2 _ rfl
  have y3 := blk_cell R.out.b2 3 _ rfl
  have y4 := blk_cell R.out.b2 4 _ rfl
  have y5 := blk_cell R.out.b2 5 _ rfl
  have y6 := blk_cell R.out.b2 6 _ rfl
  go_wp2_with fail
  clear k0 y0 y1 y2 y3 y4 y5 y6 s0 s1 s2 s3 s4 z0 z1 z2 z3 z4 g0 g1 g2 g3 g4
  refine (unhide HHr).mono ?_
  rintro e w4 ⟨⟨a4, n4, c4, rfl, hm4, hn4, hc4, hx4⟩, ⟨ua, un, uc, ub, ui, ul, ucap, umax, uoff⟩, hg4⟩
  have B3 := hide (blk_turns R.out.b3 hg4 (by omega))
  have hk4 := turns_below hk hg4 hBw hk.size
  have UB := hide ub
  have UW := hide (show BW w4 ua un uc (hearK ss u m).1.ws from ⟨ui, ul, ucap, umax⟩)
  have MM := hide hm4
  have ML := hide hn4
  have ho := hide (ints_unit ui (by rcases HLk.out with h | h; (· right; rw [h, LN.out]; decide); (· exact .inl h)) B3.out rfl)
  have hp := hide (msgs_unit hm4 B3.out rfl)
  clear ub ui ul uoff hg4 hm4 hn4 HHr HLk
  generalize hearK ss u m = r at *
  unfold unO at UB
  obtain ⟨z0, z1, z2, z3, z4⟩ := cl5 B3.out
  have g0 := blk_free B3.out 0
  have g1 := blk_free B3.out 1
  have g2 := blk_free B3.out 2
  have g3 := blk_free B3.out 3
  have g4 := blk_free B3.out 4
  obtain ⟨s0, s1, s2, s3, s4⟩ := cl5 UB.out
  go_wp2_with fail
  refine bodyPost_ret (v := .tuple #[unv r.1 ua un uc, .slice a4 n4 c4, .int .i64 0]) (by simp [results, Tryz.results10, go_sem, unv, z0, z1, z2, z3, z4]) rfl ?_
  rw [HE.out]
  exact ⟨⟨ua, un, uc, a4, n4, c4, rfl, ((((UW.out.ne ho.out _ _).ne ho.out _ _).ne ho.out _ _).ne ho.out _ _).ne ho.out _ _, ((((MM.out.ne hp.out _ _).ne hp.out _ _).ne hp.out _ _).ne hp.out _ _).ne hp.out _ _, ML.out, hc4, hx4⟩, ((((hk4.setCell hx _).setCell hx _).setCell hx _).setCell hx _).setCell hx _⟩

end Go.Proofs.YtgngpmgjoifepaaGreatDoor
