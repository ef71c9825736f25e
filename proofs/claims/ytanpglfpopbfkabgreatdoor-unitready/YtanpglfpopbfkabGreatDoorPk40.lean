/- Plain facts for UnitTwice and UnitReady: a unit whose power doesn't go hears a message a second time; is ready, and commits, or aborts. No program in this text. Plain facts for UnitReady and UnitHolds: what a unit that got ready runs once it is told to commit. No program in this text. -/
import Derived.Test.YtanpglfpopbfkabGreatDoorPk39
namespace Go.Proofs.YtanpglfpopbfkabGreatDoor
open Go.RowKit

/-! ### Power that doesn't go -/
def Neg (r : List Int × Int × Int) : Prop := r.2.2 ≠ 7 ∧ (r.2.2 = 0 → r.2.1 = -1)
theorem neg_err {e : Int} (h0 : e ≠ 0) (h7 : e ≠ 7) : Neg ([], 0, e) := ⟨h7, fun h => absurd h h0⟩
theorem neg_prog (ws words : List Int) (p : Int) : Neg (progS ws (-1) p words) := by
  by_cases h : (progS ws (-1) p words).2.2 = 0 ∨ (progS ws (-1) p words).2.2 = 7
  · obtain ⟨-, -, -, -, e⟩ := prog_did h
    rw [e, perr_ok (cnt_neg _ (by decide)), burn_negf _ (by decide)]
    exact ⟨by show (0 : Int) ≠ 7; decide, fun _ => rfl⟩
  · exact ⟨fun h7 => h (.inr h7), fun h0 => absurd (.inl h0) h⟩
theorem neg_seal (ws : List Int) (s l n : Int) : Neg (sealS ws (-1) s l n) := by
  unfold sealS
  split
  · rename_i c; exact neg_err c (slotE_seven _ _ _)
  · split
    · exact neg_err (by decide) (by decide)
    · exact neg_prog _ _ _
theorem neg_app {ws : List Int} {r : List Int} {keep : List (List Int)} (h : lchk ws (-1) = 0) : Neg (appS ws (-1) r keep) := by
  by_cases e : appErr ws (-1) r keep = 0
  · rw [app_neg e]; exact ⟨by show (0 : Int) ≠ 7; decide, fun _ => rfl⟩
  · rw [app_err e]; exact neg_err e (appErr_seven _ _ _ _ h)

/-- What a step leaves of a unit whose power doesn't go. -/
structure Pow (u x : Un) (d : Bool) : Prop where
  fu : x.fu = -1
  up : x.up = u.up
  no : d = false → x = u
theorem pow_step {u : Un} {st : Stu} (hf : u.fu = -1) (h : Neg (doT st u.ws u.fu)) : Pow u (doV u st).1 (doV u st).2 := by
  unfold doV
  generalize doT st u.ws u.fu = R at *
  by_cases z0 : R.2.2 = 0
  · rw [doU_0 z0]; exact ⟨h.2 z0, rfl, fun h => by cases h⟩
  · rw [doU_e h.1 z0]; exact ⟨hf, rfl, fun _ => rfl⟩
theorem pow_sea {u : Un} {t l n : Int} (hf : u.fu = -1) : Pow u (doV u (.sea t l n)).1 (doV u (.sea t l n)).2 := pow_step hf (by rw [hf]; exact neg_seal _ _ _ _)
theorem pow_not {u : Un} {s : Us} {r : List Int} (hf : u.fu = -1) (hu : unE u = 0) : Pow u (doV u (.not s r)).1 (doV u (.not s r)).2 := pow_step hf (by rw [hf]; exact neg_app (by rw [← hf]; exact (unE_ok hu).1))

/-! ### A Prepare that is heard -/
/-- A unit that got ready: sealed as x, noted as y. -/
structure RdyP (ss : List ByteArray) (u : Un) (m : Ms) (x y : Un) : Prop where
  meant : meantU ss u (stOf u.ws) m = true
  ok : unE y = 0
  fu : y.fu = -1
  up : y.up = u.up
  st : stOf y.ws = ⟨(stOf u.ws).slot, (stOf u.ws).by', m.n⟩
  n : y.n = 0
  okx : unE x = 0
  whole : wholeU x (stOf u.ws) m (wordsU u (stOf u.ws) m) = true
  far : ∀ i, 64 ≤ i → y.ws.getD i 0 = x.ws.getD i 0
/-- What a Prepare does, where it is not answered by the records alone. -/
def Prp (ss : List ByteArray) (u : Un) (m : Ms) (r : Un × List Ms) : Prop :=
  r = (u, [voteM m false]) ∨ r.2 = [] ∨ (∃ x, r = (x, [voteM m false]) ∧ unE x = 0 ∧ x.fu = -1 ∧ x.up = u.up ∧ stOf x.ws = stOf u.ws ∧ x.n = 0) ∨
  ∃ x y, r = (y, [voteM m true]) ∧ RdyP ss u m x y
theorem prp_of {ss : List ByteArray} {u : Un} {m : Ms} (hu : unE u = 0) (hf : u.fu = -1) (h1 : ¬ m.n ≤ (stOf u.ws).by') (h2 : (stOf u.ws).rdy = 0) : Prp ss u m (prepS ss u (stOf u.ws) m) := by
  unfold prepS
  rw [if_neg h1, if_neg (by simpa using h2)]
  split
  · rename_i hc
    have c := slt_sea (t := oth (stOf u.ws)) (l := m.at') (n := m.im) hu (oth_0 hu).1
    have p := pow_sea (t := oth (stOf u.ws)) (l := m.at') (n := m.im) hf
    have k := (c.keeps hu).mind (n := 0) (v := 0) (by decide) (by decide)
    unfold prepB
    split
    · generalize (doV u (.sea (oth (stOf u.ws)) m.at' m.im)) = D at *
      have hst : stOf (mind D.1 0 0).ws = stOf u.ws := c.st
      split
      · rename_i hw
        have nn := ntd_step (r := [2, m.n]) k.ok
        have pp := pow_not (s := stOf (mind D.1 0 0).ws) (r := [2, m.n]) (u := mind D.1 0 0) p.fu k.ok
        rw [hst] at nn pp
        unfold prepC
        split
        · rename_i hd
          have y := nn.yes hd
          rw [hst, st_rdy] at y
          exact .inr (.inr (.inr ⟨mind D.1 0 0, _, rfl, ⟨hc.2.2, nn.ok, pp.fu, pp.up.trans p.up, y.1, y.2.2.1, k.ok, hw, nn.far⟩⟩))
        · exact .inr (.inl rfl)
      · exact .inr (.inr (.inl ⟨_, rfl, k.ok, p.fu, p.up, hst, rfl⟩))
    · exact .inr (.inl rfl)
  · exact .inl rfl

/-! ### Twice -/
theorem hearA_x {ss : List ByteArray} {u x : Un} {m : Ms} (h : heE ss u m = 0) (hx : unE x = 0) : heE ss x m = 0 := by
  obtain ⟨h1, _, h3⟩ := heE_ok h
  exact (heE_3 h1 hx).trans h3
/-- What is heard a second time. -/
def Twc (m : Ms) (x : Un) (l : List Ms) (r : Un × List Ms × Int) : Prop :=
  r = (x, l, 0) ∨ (m.k = 2 ∧ l = [voteM m false] ∧ r.2 = ([voteM m false], 0))
theorem twice_plain {ss : List ByteArray} {u : Un} {m : Ms} (hf : u.fu = -1) (h : heE ss u m = 0) (hl : (hearS ss u m).2 ≠ []) :
    (∃ a, (hearS ss u m).2 = [a] ∧ a.ws = []) ∧ Twc m (hearS ss u m).1 (hearS ss u m).2 (hearA ss (hearS ss u m).1 m) := by
  obtain ⟨_, hu, hm⟩ := heE_ok h
  have q := msE_0 hm
  have hup : u.up = true := by
    cases g : u.up
    · exact absurd (by unfold hearS; rw [if_neg (by rw [g]; decide)]) hl
    · rfl
  have hS : hearS ss u m = hearK ss u m := by unfold hearS; rw [if_pos hup]
  rw [hS] at hl ⊢
  -- the unit as it was: the same again
  have same : ∀ a : Ms, hearK ss u m = (u, [a]) → a.ws = [] → (∃ a, (hearK ss u m).2 = [a] ∧ a.ws = []) ∧ Twc m (hearK ss u m).1 (hearK ss u m).2 (hearA ss (hearK ss u m).1 m) := by
    intro a e ha
    refine ⟨⟨a, by rw [e], ha⟩, .inl ?_⟩
    rw [e]
    show hearA ss u m = _
    rw [hearA_up h hup, e]
  by_cases h1 : m.k = 1
  · rw [hearK_1 h1] at hl; exact absurd rfl hl
  by_cases h2 : m.k = 2
  · by_cases c1 : m.n ≤ (stOf u.ws).by'
    · exact same (doneM m) (by rw [hearK_2 h2]; unfold prepS; rw [if_pos c1]) rfl
    by_cases c2 : (stOf u.ws).rdy = 0
    · have p := prp_of (ss := ss) (m := m) hu hf c1 c2
      rw [← hearK_2 (ss := ss) h2] at p
      rcases p with p | p | ⟨x, p, x1, x2, x3, x4, x5⟩ | ⟨x, y, p, hy⟩
      · exact same _ p rfl
      · exact absurd p hl
      · rw [p]
        refine ⟨⟨_, rfl, rfl⟩, .inr ⟨h2, rfl, ?_⟩⟩
        show (hearA ss x m).2 = _
        rw [hearA_up (hearA_x h x1) (x3.trans hup), hearK_2 h2]
        unfold prepS
        rw [x4, if_neg c1, if_neg (by simpa using c2), if_neg (by rw [x5]; omega)]
      · rw [p]
        refine ⟨⟨_, rfl, rfl⟩, .inl ?_⟩
        show hearA ss y m = _
        rw [hearA_up (hearA_x h hy.ok) (hy.up.trans hup), hearK_2 h2]
        unfold prepS
        rw [hy.st, if_neg c1, if_pos (by show m.n ≠ 0; omega)]
        simp
    · exact same (voteM m (decide ((stOf u.ws).rdy = m.n))) (by rw [hearK_2 h2]; unfold prepS; rw [if_neg c1, if_pos c2]) rfl
  by_cases h4 : m.k = 4
  · by_cases c1 : (stOf u.ws).by' = m.n
    · exact same (doneM m) (by rw [hearK_4 h4, comS_1 c1]) rfl
    by_cases c2 : (stOf u.ws).rdy = m.n
    · have nn := ntd_step (r := [1, oth (stOf u.ws), m.n]) hu
      have pp := pow_not (s := stOf u.ws) (r := [1, oth (stOf u.ws), m.n]) hf hu
      cases g : (doV u (.not (stOf u.ws) [1, oth (stOf u.ws), m.n])).2
      · rw [hearK_4 h4, comS_4 c1 c2 g] at hl; exact absurd rfl hl
      · rw [hearK_4 h4, comS_3 c1 c2 g]
        have y := nn.yes g
        rw [st_runs _ _ _ (oth_0 hu).2] at y
        refine ⟨⟨_, rfl, rfl⟩, .inl ?_⟩
        generalize (doV u (.not (stOf u.ws) [1, oth (stOf u.ws), m.n])).1 = x at *
        show hearA ss x m = _
        rw [hearA_up (hearA_x h nn.ok) (pp.up.trans hup), hearK_4 h4, comS_1 (by rw [y.1])]
    · rw [hearK_4 h4, comS_2 c1 c2] at hl; exact absurd rfl hl
  by_cases h5 : m.k = 5
  · by_cases c1 : m.n ≤ (stOf u.ws).by'
    · rw [hearK_5 h5, aboS_1 c1] at hl; exact absurd rfl hl
    have again : ∀ x : Un, unE x = 0 → x.up = true → ¬ m.n ≤ (stOf x.ws).by' → ¬ (stOf x.ws).rdy = m.n → hearA ss (aboB x m).1 m = ((aboB x m).1, (aboB x m).2, 0) := by
      intro x x1 x2 x3 x4
      have k : Keeps x (aboB x m).1 := by
        unfold aboB
        show Keeps x (if x.n = m.n then mind x 0 0 else x)
        split
        · exact (Keeps.refl x1).mind (by decide) (by decide)
        · exact Keeps.refl x1
      by_cases z : x.n = m.n
      · rw [aboB_1 z] at k ⊢
        show hearA ss (mind x 0 0) m = (mind x 0 0, [doneM m], 0)
        rw [hearA_up (hearA_x h k.ok) x2, hearK_5 h5, aboS_2 (u := mind x 0 0) (s := stOf (mind x 0 0).ws) x3 x4, aboB_2 (by show ¬ (0 : Int) = m.n; omega)]
      · rw [aboB_2 z]
        rw [hearA_up (hearA_x h x1) x2, hearK_5 h5, aboS_2 x3 x4, aboB_2 z]
    by_cases c2 : (stOf u.ws).rdy = m.n
    · have nn := ntd_step (r := [3, m.n]) hu
      have pp := pow_not (s := stOf u.ws) (r := [3, m.n]) hf hu
      cases g : (doV u (.not (stOf u.ws) [3, m.n])).2
      · rw [hearK_5 h5, aboS_4 c1 c2 g] at hl; exact absurd rfl hl
      · rw [hearK_5 h5, aboS_3 c1 c2 g]
        have y := nn.yes g
        rw [st_not] at y
        generalize (doV u (.not (stOf u.ws) [3, m.n])).1 = x at *
        exact ⟨⟨_, rfl, rfl⟩, .inl (again x nn.ok (pp.up.trans hup) (by rw [y.1]; exact c1) (by rw [y.1]; show ¬ (0 : Int) = m.n; omega))⟩
    · rw [hearK_5 h5, aboS_2 c1 c2]
      exact ⟨⟨_, rfl, rfl⟩, .inl (again u hu hup c1 c2)⟩
  · rw [hearK_0 h1 h2 h4 h5] at hl; exact absurd rfl hl

end Go.Proofs.YtanpglfpopbfkabGreatDoor

namespace Go.Proofs.YtanpglfpopbfkabGreatDoor
open Go.RowKit

/-- Image of a slot that is the same in two units. -/
theorem img_keep {u x : Un} {t f f' : Int} (hu : unE u = 0) (hx : unE x = 0) (hf : f = u.fu ∨ f = -1) (hf' : f' = x.fu ∨ f' = -1) (h0 : 0 ≤ t) (h1 : t ≤ 1) (h : ∀ i : Nat, 64 + 64 * t ≤ (i : Int) → (i : Int) < 128 + 64 * t → x.ws.getD i 0 = u.ws.getD i 0) : imgS x.ws f' t = imgS u.ws f t := by
  obtain ⟨k, rfl⟩ := Int.eq_ofNat_of_zero_le h0
  have ku := unE_ok hu
  have kx := unE_ok hx
  have cu := fu_of hu
  have cx := fu_of hx
  have eu : chk u.ws f = 0 := chk_of (lchk_parts ku.1).1 rfl cu.2.2 (by omega) (by omega)
  have ex : chk x.ws f' = 0 := chk_of (lchk_parts kx.1).1 rfl cx.2.2 (by omega) (by omega)
  exact img_same (slotE_ok eu ku.2.1 (by omega)) (slotE_ok ex kx.2.1 (by omega)) (by omega) ku.2.1 kx.2.1 (fun i a b => h i (by omega) (by omega))

/-- What is booted. -/
def btd (x : Un) : Un := ⟨x.ws, -1, true, 0, 0⟩
theorem btd_ok {x : Un} (h : unE x = 0) : unE (btd x) = 0 := by
  obtain ⟨hk, hl, _⟩ := unE_ok h
  exact unE_0 (u := btd x) (lchk_fuel hk (by show (-1 : Int) ≤ -1; decide) (by show (-1 : Int) ≤ 100000; decide)) hl (by show (inB 0 0 8 && inB 0 0 40) = true; decide)

/-- UnitHolds, plainly: what is heard, and booted. -/
structure HoldP (u : Un) (m : Ms) (x : Un) : Prop where
  ok : unE x = 0
  okb : unE (btd x) = 0
  or' : ((stOf x.ws).slot = (stOf u.ws).slot ∧ (stOf x.ws).by' = (stOf u.ws).by' ∧ runsS (btd x) = runsS u) ∨
    (m.k = 4 ∧ (stOf u.ws).rdy = m.n ∧ stOf x.ws = ⟨1 - (stOf u.ws).slot, m.n, 0⟩ ∧ runsS (btd x) = imgS u.ws u.fu (1 - (stOf u.ws).slot))
theorem hold_plain {ss : List ByteArray} {u : Un} {m : Ms} (hu : unE u = 0) (hm : msE m = 0) : HoldP u m (hearS ss u m).1 := by
  have hs := stOf_slot (unE_ok hu).1
  rcases hear_holds (ss := ss) hu hm with k | g
  · refine ⟨k.ok, btd_ok k.ok, .inl ⟨k.slot, k.by', ?_⟩⟩
    rw [runsS_0 (btd_ok k.ok), runsS_0 hu]
    show imgS (hearS ss u m).1.ws (-1) (stOf (hearS ss u m).1.ws).slot = _
    rw [k.slot]
    exact img_keep hu k.ok (.inl rfl) (.inr rfl) hs.1 hs.2 k.same
  · refine ⟨g.ok, btd_ok g.ok, .inr ⟨g.kind, g.rdy, g.st, ?_⟩⟩
    rw [runsS_0 (btd_ok g.ok)]
    show imgS (hearS ss u m).1.ws (-1) (stOf (hearS ss u m).1.ws).slot = _
    rw [g.st]
    exact img_keep hu g.ok (.inl rfl) (.inr rfl) (by show 0 ≤ oth _; unfold oth; omega) (by show oth _ ≤ 1; unfold oth; omega) (fun i a _ => g.far i (by have : (0 : Int) ≤ oth (stOf u.ws) := (oth_0 hu).1; change 64 + 64 * oth (stOf u.ws) ≤ _ at a; omega))

/-! ### UnitReady -/
/-- The word that is told. -/
def wordM (k : Int) (m : Ms) : Ms := ⟨k, m.u, m.n, 0, 0, [], false⟩
theorem wordM_ok {k : Int} {m : Ms} (hk : k = 4 ∨ k = 5) (hm : msE m = 0) : msE (wordM k m) = 0 := by
  have q := msE_0 hm
  apply msE_ok
  unfold msB wordM
  simp only [inB]
  simp [okL]
  omega

/-- What becomes of a unit y that got ready for m: heard again; told to commit; to abort; to abort once it has committed. -/
structure RdyA (ss : List ByteArray) (u : Un) (m : Ms) (y : Un) : Prop where
  ok : unE y = 0
  rdy : (stOf y.ws).rdy = m.n
  slot : (stOf y.ws).slot = (stOf u.ws).slot
  again : hearA ss y m = (y, [voteM m true], 0)
  com : hearA ss y (wordM 4 m) = (y, [], 0) ∨ ∃ z ws, hearA ss y (wordM 4 m) = (z, [doneM m], 0) ∧ runsS z = (ws, m.im, 0) ∧ inE ss ws = 0 ∧ inN ss ws = m.im ∧ (ws.length : Int) = m.at' ∧ hearA ss z (wordM 5 m) = (z, [], 0)
  abo : ∃ v l, hearA ss y (wordM 5 m) = (v, l, 0) ∧ unE v = 0 ∧ (l = [] ∨ l.length = 1 ∧ (stOf v.ws).rdy = 0 ∧ (stOf v.ws).slot = (stOf u.ws).slot ∧ (stOf v.ws).by' = (stOf u.ws).by')
theorem body_len {u : Un} {s : Us} {m : Ms} (h0 : 0 ≤ oth s) (h1 : oth s ≤ 1) (hl : u.ws.length = 192) (h : (bodyS u.ws u.fu (oth s) m.at').2 = 0) : ((wordsU u s m).length : Int) = m.at' := by
  unfold wordsU
  unfold bodyS at h ⊢
  split at h
  · rename_i c; exact absurd h c
  · rename_i c
    rw [if_neg c]
    split at h
    · cases h
    · rename_i c2
      rw [if_neg c2]
      have c3 : inB m.at' 0 40 = true := by simpa using c2
      unfold inB at c3
      simp at c3
      simp [hl]
      omega
theorem ready_plain {ss : List ByteArray} {u : Un} {m : Ms} (hf : u.fu = -1) (hk : m.k = 2) (h : heE ss u m = 0) (h0 : (stOf u.ws).rdy = 0) {l : List Ms} {a : Ms} (hl : (hearS ss u m).2 = a :: l) (ha : a.y = true) :
    ∃ y, hearS ss u m = (y, [voteM m true]) ∧ RdyA ss u m y := by
  obtain ⟨hb, hu, hm⟩ := heE_ok h
  have q := msE_0 hm
  have ho := oth_0 hu
  have hup : u.up = true := by
    cases g : u.up
    · unfold hearS at hl
      rw [if_neg (by rw [g]; decide)] at hl
      cases hl
    · rfl
  have hS : hearS ss u m = prepS ss u (stOf u.ws) m := by unfold hearS; rw [if_pos hup, hearK_2 hk]
  rw [hS] at hl ⊢
  by_cases c1 : m.n ≤ (stOf u.ws).by'
  · unfold prepS at hl
    rw [if_pos c1] at hl
    obtain ⟨e, _⟩ := List.cons.inj hl
    rw [← e] at ha
    cases ha
  rcases prp_of (ss := ss) (m := m) hu hf c1 h0 with p | p | ⟨x, p, _⟩ | ⟨x, y, p, hy⟩
  · rw [p] at hl
    obtain ⟨e, _⟩ := List.cons.inj hl
    rw [← e] at ha
    cases ha
  · rw [p] at hl; cases hl
  · rw [p] at hl
    obtain ⟨e, _⟩ := List.cons.inj hl
    rw [← e] at ha
    cases ha
  refine ⟨y, p, ?_⟩
  have hyup := hy.up.trans hup
  have hb4 : heE ss y (wordM 4 m) = 0 := (heE_3 hb hy.ok).trans (wordM_ok (.inl rfl) hm)
  have hb5 : heE ss y (wordM 5 m) = 0 := (heE_3 hb hy.ok).trans (wordM_ok (.inr rfl) hm)
  have hot : oth (stOf y.ws) = oth (stOf u.ws) := by rw [hy.st]; rfl
  refine ⟨hy.ok, by rw [hy.st], by rw [hy.st], ?_, ?_, ?_⟩
  · rw [hearA_up (hearA_x h hy.ok) hyup, hearK_2 hk]
    unfold prepS
    rw [hy.st, if_neg c1, if_pos (by show m.n ≠ 0; omega)]
    simp
  · have nn := ntd_step (r := [1, oth (stOf y.ws), m.n]) hy.ok
    have pp := pow_not (s := stOf y.ws) (r := [1, oth (stOf y.ws), m.n]) hy.fu hy.ok
    have d1 : ¬ (stOf y.ws).by' = (wordM 4 m).n := by rw [hy.st]; show ¬ (stOf u.ws).by' = m.n; omega
    have d2 : (stOf y.ws).rdy = (wordM 4 m).n := by rw [hy.st]; rfl
    cases g : (doV y (.not (stOf y.ws) [1, oth (stOf y.ws), m.n])).2
    · left
      rw [hearA_up hb4 hyup, hearK_4 rfl, comS_4 d1 d2 g]
      rw [show (wordM 4 m).n = m.n from rfl, pp.no g]
    · right
      have yy := nn.yes g
      rw [st_runs _ _ _ (by rw [hot]; exact ho.2)] at yy
      have hz : hearA ss y (wordM 4 m) = ((doV y (.not (stOf y.ws) [1, oth (stOf y.ws), m.n])).1, [doneM m], 0) := by
        rw [hearA_up hb4 hyup, hearK_4 rfl, comS_3 d1 d2 g]; rfl
      generalize (doV y (.not (stOf y.ws) [1, oth (stOf y.ws), m.n])).1 = z at *
      have hmt := hy.meant
      unfold meantU at hmt
      simp only [Bool.and_eq_true, decide_eq_true_eq] at hmt
      have hwh := hy.whole
      unfold wholeU eqL at hwh
      simp only [Bool.and_eq_true, decide_eq_true_eq] at hwh
      refine ⟨z, wordsU u (stOf u.ws) m, hz, ?_, hmt.2.1, hmt.2.2.2, body_len ho.1 ho.2 (unE_ok hu).2.1 hmt.1, ?_⟩
      · rw [runsS_0 nn.ok, yy.1]
        show imgS z.ws z.fu (oth (stOf y.ws)) = _
        rw [hot, img_keep hy.okx nn.ok (.inl rfl) (.inl rfl) ho.1 ho.2 (fun i a _ => (nn.far i (by omega)).trans (hy.far i (by omega)))]
        generalize imgS x.ws x.fu (oth (stOf u.ws)) = I at *
        obtain ⟨i1, i2, i3⟩ := I
        simp at hwh
        rw [hwh.1, hwh.2.1, hwh.2.2]
      · rw [hearA_up ((heE_3 hb nn.ok).trans (wordM_ok (.inr rfl) hm)) (pp.up.trans hyup), hearK_5 rfl, aboS_1 (by rw [yy.1]; exact Int.le_refl _)]
  · have nn := ntd_step (r := [3, m.n]) hy.ok
    have pp := pow_not (s := stOf y.ws) (r := [3, m.n]) hy.fu hy.ok
    have d1 : ¬ (wordM 5 m).n ≤ (stOf y.ws).by' := by rw [hy.st]; exact c1
    have d2 : (stOf y.ws).rdy = (wordM 5 m).n := by rw [hy.st]; rfl
    cases g : (doV y (.not (stOf y.ws) [3, m.n])).2
    · refine ⟨y, [], ?_, hy.ok, .inl rfl⟩
      rw [hearA_up hb5 hyup, hearK_5 rfl, aboS_4 d1 d2 g]
      rw [show (wordM 5 m).n = m.n from rfl, pp.no g]
    · have yy := nn.yes g
      rw [st_not] at yy
      refine ⟨(doV y (.not (stOf y.ws) [3, m.n])).1, [doneM (wordM 5 m)], ?_, nn.ok, .inr ⟨rfl, by rw [yy.1], by rw [yy.1, hy.st], by rw [yy.1, hy.st]⟩⟩
      rw [hearA_up hb5 hyup, hearK_5 rfl, aboS_3 d1 d2 g]
      rw [show (wordM 5 m).n = m.n from rfl, aboB_2 (by rw [yy.2.2.1, hy.n]; show ¬ (0 : Int) = m.n; omega)]

end Go.Proofs.YtanpglfpopbfkabGreatDoor
